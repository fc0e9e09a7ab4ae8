import Derived.Test.YtmihpmmkkklpfaaGreatDoorBKa
import Derived.Deep.DeepCutAuto
namespace Go.Proofs.YtmihpmmkkklpfaaGreatDoor
open Go Go.RowKit Go.Shelf Go.Maps Go.Sort
set_option linter.unusedSimpArgs false
set_option linter.unusedVariables false
def aT : ByteArray := ⟨#[97]⟩
def bT : ByteArray := ⟨#[98]⟩
def fZ : ByteArray → Option Value := fun _ => none
def fA (q : Int) : ByteArray → Option Value := fun x => if x = aT then some (.int .i64 q) else none
def gZ : Int → Option Value := fun _ => none
theorem ab_ne : bT ≠ aT := by decide
section
variable {w0 W : World} {sb wb : Nat} {p : Pw} {c : Nat} {sv nv : Value} {n m : Nat} {f : ByteArray → Option Value} {g : Int → Option Value}
/-- The start. -/
theorem kn_new {w : World} (g : Gd w) : Calls Tryz.prog 7 #[.string ⟨#[107]⟩, .bool true, .agg #[.bool false, .int .i64 0, .int .i64 1, .int .i64 1, .int .i64 1, .int .i64 0, .int .i64 0, .int .i64 0, .int .i64 0, .slice none 0 0]] w fun e w' => ∃ sb wb, e = .returned (.pointer (some ⟨sb, 0, none⟩)) ∧ KN w w' sb wb n0 0 (.map none) 0 fZ (.map none) 0 gZ := by
  refine (snew_any g ⟨#[107]⟩ true false 0 1 1 1 0 0 0 0 none 0 0 (by decide)).mono ?_
  rintro e w' ⟨sb, wb, rfl, h1, h2, h3, h4⟩
  refine ⟨sb, wb, rfl, ⟨h2.less (fun j hj => ?_), h1, MG.nil _, MI.nil _, h3, h4, fun j hj => ?_, ?_⟩⟩
  · rcases hj with z | z | z
    · exact z
    · cases z
    · cases z
  · rcases hj with z | z <;> cases z
  · obtain ⟨o, ho, -⟩ := g.oth
    exact (Array.getElem?_eq_some_iff.1 ho).1
theorem kn_sub1 (h : KN w0 W sb wb p c (.map none) 0 fZ (.map none) 0 gZ) : Calls Tryz.prog 27 #[.pointer (some ⟨sb, 0, none⟩), .agg #[.string ⟨#[97]⟩, .int .i64 1]] W fun e w' => e = .returned (.int .i64 1) ∧ ∃ mb, KN w0 w' sb wb p c (.map (some mb)) 1 (fA 1) (.map none) 0 gZ := by
  refine (subscribe_yes h.ss h.ms aT 1 fa0 (by decide) (by omega) (by omega) rfl (by omega) (fun w hb => grant_nil (h.ss.below hb) aT (by decide) 1)).mono ?_
  rintro e w' ⟨rfl, G⟩
  obtain ⟨mb, g1, g2, g3⟩ := G.ex
  refine ⟨rfl, mb, h.ch G.ch (fun j hj => hj.elim .inl (fun z => .inr (.inl z))) g1 (g2.congr (fun x _ => ?_)) (MI.nil _) (fun j hj => ?_)⟩
  · unfold fA setG fZ
    rfl
  · rcases hj with z | z
    · cases z
      exact .inr (g3.resolve_left (fun y => by cases y))
    · cases z
theorem kn_sub2 {mb : Nat} (h : KN w0 W sb wb p c (.map (some mb)) 1 (fA 1) (.map none) 0 gZ) : Calls Tryz.prog 27 #[.pointer (some ⟨sb, 0, none⟩), .agg #[.string ⟨#[98]⟩, .int .i64 0]] W fun e w' => e = .returned (.int .i64 128) ∧ KN w0 w' sb wb p c (.map (some mb)) 1 (fA 1) (.map none) 0 gZ := by
  refine (subscribe_no h.ss h.ms bT 0 fb0 (by decide) (by omega) (by omega) (by unfold fA; rw [if_neg ab_ne]) (by omega)).mono ?_
  rintro e w' ⟨rfl, hb⟩
  exact ⟨rfl, h.below hb⟩
theorem kn_sub3 {mb : Nat} (h : KN w0 W sb wb p c (.map (some mb)) 1 (fA 1) (.map none) 0 gZ) : Calls Tryz.prog 27 #[.pointer (some ⟨sb, 0, none⟩), .agg #[.string ⟨#[97]⟩, .int .i64 2]] W fun e w' => e = .returned (.int .i64 2) ∧ ∃ mb, KN w0 w' sb wb p c (.map (some mb)) 1 (fA 2) (.map none) 0 gZ := by
  refine (subscribe_has (old := 1) h.ss h.ms aT 2 fa0 (by decide) (by omega) (by omega) (by unfold fA; rw [if_pos rfl]) (fun w hb => grant_some (h.ss.below hb) (h.ms.keep (fun b e => hb.block b (h.ms.lt e))) aT (by decide) 2 (by omega))).mono ?_
  rintro e w' ⟨rfl, G⟩
  obtain ⟨mb', g1, g2, g3⟩ := G.ex
  have hsz : szG (fA 1) aT 1 = 1 := by unfold szG fA; simp
  rw [hsz] at g2
  refine ⟨rfl, mb', h.ch G.ch (fun j hj => hj.elim .inl (fun z => .inr (.inl z))) g1 (g2.congr (fun x _ => ?_)) (MI.nil _) (fun j hj => ?_)⟩
  · unfold fA setG
    by_cases e : x = aT
    · rw [if_pos e, if_pos e]
    · rw [if_neg e, if_neg e]
      exact (if_neg e).symm
  · rcases hj with z | z
    · cases z
      exact g3.imp .inl id
    · cases z
theorem kn_del {p' : Pw} {ok : Bool} {en : Int} (h : KN w0 W sb wb p c sv n f nv m g) (hc : c + 1 ≤ 200000) {v : Value} {q : Int} (hq : (q != 0) = true) (hp : PBi W v [7]) (e : pSend p (mq q) = (p', [], ok, en)) : Calls Tryz.prog 16 #[.pointer (some ⟨sb, 0, none⟩), .agg #[.string ⟨#[116]⟩, v, .int .i64 q, .bool false]] W fun e w' => ∃ a k, e = .returned (.tuple #[.slice a 0 k, .bool ok]) ∧ KN w0 w' sb wb p' (c + 1) sv n f nv m g ∧ KO W w' := by
  refine (deliver_any h.ks h.ss hc ⟨#[116]⟩ v q false [7] hp (by decide) hq).mono ?_
  rw [show (⟨⟨#[116]⟩, q, false, [7]⟩ : Mp) = mq q from rfl, e]
  rintro e w' ⟨v', rfl, k, r, o, l⟩
  obtain ⟨a, c, rfl⟩ := l.nil
  exact ⟨a, c, rfl, h.win k r o, o⟩
theorem kn_up {p' : Pw} {x : Pp} (h : KN w0 W sb wb p c sv n f nv m g) (hc : c ≤ 200000) (e : pUp p = (p', [x])) : Calls Tryz.prog 15 #[.pointer (some ⟨wb, 0, none⟩)] W fun e w' => ∃ g1 k cur, e = .returned (.slice (some ⟨g1, 0, none⟩) 1 k) ∧ KN w0 w' sb wb p' c sv n f nv m g ∧ KO W w' ∧ w'.heap[g1]? = some (.cells cur 66 (0, 0)) ∧ cur[21]? = some (.int .i64 x.id) := by
  refine (kx_up h.ks hc).mono ?_
  rw [e]
  rintro e w' ⟨v', rfl, k, r, o, l⟩
  obtain ⟨g1, c, cur, rfl, hb, -, -, -, x4⟩ := l.one
  exact ⟨g1, c, cur, rfl, h.win k r o, o, hb, x4⟩
theorem kn_ack {p' : Pw} {x : Pp} (h : KN w0 W sb wb p c sv n f nv m g) (hc : c ≤ 200000) (kind : Int) (e : pAck p kind 1 = (p', [x])) : Calls Tryz.prog 17 #[.pointer (some ⟨wb, 0, none⟩), .int .i64 kind, .int .i64 1] W fun e w' => ∃ g1 k cur, e = .returned (.slice (some ⟨g1, 0, none⟩) 1 k) ∧ KN w0 w' sb wb p' c sv n f nv m g ∧ KO W w' ∧ w'.heap[g1]? = some (.cells cur 66 (0, 0)) ∧ cur[21]? = some (.int .i64 x.id) := by
  refine (kx_ack h.ks hc kind 1 (okI_nat 1 (by omega))).mono ?_
  rw [e]
  rintro e w' ⟨v', rfl, k, r, o, l⟩
  obtain ⟨g1, c, cur, rfl, hb, -, -, -, x4⟩ := l.one
  exact ⟨g1, c, cur, rfl, h.win k r o, o, hb, x4⟩
theorem kn_off (h : KN w0 W sb wb p c sv n f nv m g) (hon : p.on = false) (pa : Option Addr) (pn pc : Nat) : Calls Tryz.prog 16 #[.pointer (some ⟨sb, 0, none⟩), .agg #[.string ⟨#[116]⟩, .slice pa pn pc, .int .i64 0, .bool false]] W fun e w' => e = .returned (.tuple #[.slice none 0 0, .bool false]) ∧ KN w0 w' sb wb p c sv n f nv m g := by
  refine (deliver_off h.ks h.ss hon ⟨#[116]⟩ pa pn pc false).mono ?_
  rintro e w' ⟨rfl, hb⟩
  exact ⟨rfl, h.below hb⟩
theorem kn_on (h : KN w0 W sb wb p c sv n f nv m g) (hon : p.on = true) {b : Nat} (hp : PBi W (.slice (some ⟨b, 0, none⟩) 1 1) [7]) : Calls Tryz.prog 16 #[.pointer (some ⟨sb, 0, none⟩), .agg #[.string ⟨#[116]⟩, .slice (some ⟨b, 0, none⟩) 1 1, .int .i64 0, .bool false]] W fun e w' => ∃ g1, e = .returned (.tuple #[.slice (some ⟨g1, 0, none⟩) 1 1, .bool true]) ∧ KN w0 w' sb wb p c sv n f nv m g ∧ Below W.heap.size W w' := by
  refine (deliver_on h.ks h.ss hon ⟨#[116]⟩ (some ⟨b, 0, none⟩) 1 1 false hp).mono ?_
  rintro e w' ⟨g1, rfl, _, hb⟩
  exact ⟨g1, rfl, h.below hb, hb⟩
theorem kn_subs1 {mb : Nat} (h : KN w0 W sb wb p c (.map (some mb)) 1 (fA 2) nv m g) : Calls Tryz.prog 29 #[.pointer (some ⟨sb, 0, none⟩)] W fun e w' => ∃ g1 c1, e = .returned (.slice (some ⟨g1, 0, none⟩) 1 c1) ∧ w'.cell? ⟨g1, 0, none⟩ = some (.string ⟨#[97]⟩) ∧ w'.cell? ⟨g1, 1, none⟩ = some (.int .i64 2) ∧ KN w0 w' sb wb p c (.map (some mb)) 1 (fA 2) nv m g := by
  refine (subs_one (fl := aT) (q := 2) h.ss h.ms (by decide) (by unfold fA; rw [if_pos rfl]) (fun x hx => by unfold fA; rw [if_neg hx])).mono ?_
  rintro e w' ⟨g1, c1, rfl, h1, h2, hb⟩
  exact ⟨g1, c1, rfl, h1, h2, h.below hb⟩
theorem kn_unsub1 {mb : Nat} (h : KN w0 W sb wb p c (.map (some mb)) 1 (fA 2) (.map none) 0 gZ) : Calls Tryz.prog 30 #[.pointer (some ⟨sb, 0, none⟩), .string ⟨#[97]⟩] W fun e w' => e = .returned (.bool true) ∧ KN w0 w' sb wb p c (.map none) 0 fZ (.map none) 0 gZ := by
  refine (unsub_has (x := 2) h.ss h.ms aT (by decide) (by unfold fA; rw [if_pos rfl])).mono ?_
  rintro e w' ⟨rfl, h1, h2⟩
  refine ⟨rfl, h.ch h2 (fun j hj => hj.elim .inl (fun z => .inr (.inl (by rw [z])))) h1 (MG.nil _) (MI.nil _) (fun j hj => ?_)⟩
  rcases hj with z | z <;> cases z
theorem kn_unsub2 (h : KN w0 W sb wb p c (.map none) 0 fZ (.map none) 0 gZ) : Calls Tryz.prog 30 #[.pointer (some ⟨sb, 0, none⟩), .string ⟨#[97]⟩] W fun e w' => e = .returned (.bool false) ∧ KN w0 w' sb wb p c (.map none) 0 fZ (.map none) 0 gZ := by
  refine (unsub_nil h.ss aT (by decide)).mono ?_
  rintro e w' ⟨rfl, h1, h2⟩
  refine ⟨rfl, h.ch h2 (fun j hj => .inl hj) h1 (MG.nil _) (MI.nil _) (fun j hj => ?_)⟩
  rcases hj with z | z <;> cases z
theorem kn_subs0 (h : KN w0 W sb wb p c (.map none) 0 fZ nv m g) : Calls Tryz.prog 29 #[.pointer (some ⟨sb, 0, none⟩)] W fun e w' => ∃ a k, e = .returned (.slice a 0 k) ∧ KN w0 w' sb wb p c (.map none) 0 fZ nv m g := by
  refine (subs_none h.ss).mono ?_
  rintro e w' ⟨a, k, rfl, hb⟩
  exact ⟨a, k, rfl, h.below hb⟩
theorem kn_note1 (h : KN w0 W sb wb p c (.map none) 0 fZ (.map none) 0 gZ) : Calls Tryz.prog 31 #[.pointer (some ⟨sb, 0, none⟩), .int .i64 5] W fun e w' => e = .returned (.bool true) ∧ ∃ mb, KN w0 w' sb wb p c (.map none) 0 fZ (.map (some mb)) 1 (setF (fun _ => none) 5 (some (.agg #[]))) := by
  refine (note_new h.ss).mono ?_
  rintro e w' ⟨rfl, mb, h1, h2, h3, h4⟩
  refine ⟨rfl, mb, h.ch h4 (fun j hj => .inl hj) h1 (MG.nil _) h2 (fun j hj => ?_)⟩
  rcases hj with z | z
  · cases z
  · cases z
    exact .inr h3
theorem kn_note2 (h : KN w0 W sb wb p c sv n f nv m (setF (fun _ => none) 5 (some (.agg #[])))) : Calls Tryz.prog 31 #[.pointer (some ⟨sb, 0, none⟩), .int .i64 5] W fun e w' => e = .returned (.bool false) ∧ KN w0 w' sb wb p c sv n f nv m (setF (fun _ => none) 5 (some (.agg #[]))) := by
  refine (note_has h.ss h.mn 5 okI5 (by unfold setF; rw [if_pos rfl])).mono ?_
  rintro e w' ⟨rfl, hb⟩
  exact ⟨rfl, h.below hb⟩
theorem kn_rel1 {mb : Nat} (h : KN w0 W sb wb p c (.map none) 0 fZ (.map (some mb)) 1 (setF (fun _ => none) 5 (some (.agg #[])))) : Calls Tryz.prog 32 #[.pointer (some ⟨sb, 0, none⟩), .int .i64 5] W fun e w' => e = .returned (.bool true) ∧ KN w0 w' sb wb p c (.map none) 0 fZ (.map none) 0 gZ := by
  refine (release_has h.ss h.mn 5 okI5 (by unfold setF; rw [if_pos rfl])).mono ?_
  rintro e w' ⟨rfl, h1, h2⟩
  refine ⟨rfl, h.ch h2 (fun j hj => hj.elim .inl (fun z => .inr (.inr (by rw [z])))) h1 (MG.nil _) (MI.nil _) (fun j hj => ?_)⟩
  rcases hj with z | z <;> cases z
theorem kn_rel2 (h : KN w0 W sb wb p c (.map none) 0 fZ (.map none) 0 gZ) : Calls Tryz.prog 32 #[.pointer (some ⟨sb, 0, none⟩), .int .i64 5] W fun e w' => e = .returned (.bool false) ∧ KN w0 w' sb wb p c (.map none) 0 fZ (.map none) 0 gZ := by
  refine (release_nil h.ss 5 okI5).mono ?_
  rintro e w' ⟨rfl, h1, h2⟩
  refine ⟨rfl, h.ch h2 (fun j hj => .inl hj) h1 (MG.nil _) (MI.nil _) (fun j hj => ?_)⟩
  rcases hj with z | z <;> cases z
theorem kn_note0 (h : KN w0 W sb wb p c sv n f (.map none) m g) : Calls Tryz.prog 31 #[.pointer (some ⟨sb, 0, none⟩), .int .i64 0] W fun e w' => e = .returned (.bool false) ∧ KN w0 w' sb wb p c sv n f (.map none) m g := by
  refine (note_zero h.ss).mono ?_
  rintro e w' ⟨rfl, hb⟩
  exact ⟨rfl, h.below hb⟩
end
end Go.Proofs.YtmihpmmkkklpfaaGreatDoor
namespace Go.Proofs.YtmihpmmkkklpfaaGreatDoor
open Go Go.RowKit Go.Shelf Go.Maps Go.Sort
set_option linter.unusedSimpArgs false
set_option linter.unusedVariables false
/-! ### known -/
set_option maxRecDepth 100000 in
set_option maxHeartbeats 4000000 in
theorem sknown_any (w : World) (g : Gd w) : Calls Tryz.prog 6 #[] w fun e w' => e = .returned (.bool true) ∧ Below w.heap.size w w' := by
  have NW := hidi (kn_new g)
  clear g
  go_enter Tryz.func6, Tryz.ntmps6
  go_wp2_with fail
  go_must (go_at_call 7)
  refine NW.out.mono ?_
  clear NW
  rintro e w1 ⟨sb, wb, rfl, k1⟩
  have KE := hidi (key_any k1.ss)
  have LA := hidi (lasting_any k1.ss)
  have K1 := hidi k1
  clear k1
  go_upto_region 4 with (first | (go_at_call 25; refine KE.out.mono ?_; rintro e w' ⟨rfl, he⟩; obtain rfl := he.symm) | (go_at_call 26; refine LA.out.mono ?_; rintro e w' ⟨rfl, he⟩; obtain rfl := he.symm))
  clear KE LA
  go_wp2_with fail
  go_must (go_at_call 27)
  refine (kn_sub1 K1.out).mono ?_
  rintro e w2 ⟨rfl, mb, k2⟩
  have K2 := hidi k2
  clear k2 K1
  go_wp2_with fail
  go_must (go_at_call 27)
  refine (kn_sub2 K2.out).mono ?_
  rintro e w3 ⟨rfl, k3⟩
  have K3 := hidi k3
  clear k3 K2
  go_wp2_with fail
  go_must (go_at_call 27)
  refine (kn_sub3 K3.out).mono ?_
  rintro e w4 ⟨rfl, mc, k4⟩
  have K4 := hidi k4
  clear k4 K3
  go_wp2_with fail
  go_must (go_at_call 28)
  refine (msg_any 0 _).mono ?_
  rintro e w5 ⟨b5, rfl, p5, hb5⟩
  have K5 := hidi (K4.out.below hb5)
  clear K4 p5 hb5
  go_wp2_with fail
  go_must (go_at_call 16)
  refine (kn_off K5.out rfl _ _ _).mono ?_
  rintro e w6 ⟨rfl, k6⟩
  have K6 := hidi k6
  clear K5 k6
  go_wp2_with fail
  go_must (go_at_call 28)
  refine (msg_any 1 _).mono ?_
  rintro e w7 ⟨b7, rfl, p7, hb7⟩
  have K7 := hidi (And.intro (K6.out.below hb7) p7)
  clear K6 p7 hb7
  go_wp2_with fail
  go_must (go_at_call 16)
  refine (kn_del K7.out.1 (by omega) rfl K7.out.2 j_send1).mono ?_
  rintro e w8 ⟨a8, c8, rfl, k8, -⟩
  have K8 := hidi k8
  have s8 : w8.cell? ⟨sb, 0, none⟩ = some (.pointer (some ⟨wb, 0, none⟩)) := box_cells k8.ss 0 _ rfl
  clear K7 k8
  go_wp2_with fail
  go_must (go_at_call 15)
  refine (kn_up K8.out (by omega) j_up1).mono ?_
  rintro e w9 ⟨g9, c9, cur9, rfl, k9, -, h9, x9⟩
  have K9 := hidi (And.intro k9 h9)
  have X9 := hidi x9
  clear K8 k9 h9 x9 s8
  go_wp2_with fail
  go_must (go_at_call 28)
  refine (msg_any 0 _).mono ?_
  rintro e w10 ⟨b10, rfl, p10, hb10⟩
  have K10 := hidi (And.intro (K9.out.1.below hb10) (And.intro p10 (later_at K9.out.2 hb10)))
  clear K9 p10 hb10
  go_wp2_with fail
  go_must (go_at_call 16)
  refine (kn_on K10.out.1 rfl K10.out.2.1).mono ?_
  rintro e w11 ⟨g11, rfl, k11, hb11⟩
  have K11 := hidi (And.intro k11 (later_at K10.out.2.2 hb11))
  clear K10 k11 hb11
  go_wp2_with fail
  go_must (go_at_call 28)
  refine (msg_any 2 _).mono ?_
  rintro e w12 ⟨b12, rfl, p12, hb12⟩
  have K12 := hidi (And.intro (K11.out.1.below hb12) (And.intro p12 (later_at K11.out.2 hb12)))
  clear K11 p12 hb12
  go_wp2_with fail
  go_must (go_at_call 16)
  refine (kn_del K12.out.1 (by omega) rfl K12.out.2.1 j_send2).mono ?_
  rintro e w13 ⟨a13, c13, rfl, k13, o13⟩
  have K13 := hidi (And.intro k13 (o13 _ _ K12.out.2.2 (other66 _ _)))
  clear K12 k13 o13
  go_wp2_with fail
  go_must (go_at_call 28)
  refine (msg_any 1 _).mono ?_
  rintro e w14 ⟨b14, rfl, p14, hb14⟩
  have K14 := hidi (And.intro (K13.out.1.below hb14) (And.intro p14 (later_at K13.out.2 hb14)))
  clear K13 p14 hb14
  go_wp2_with fail
  go_must (go_at_call 16)
  refine (kn_del K14.out.1 (by omega) rfl K14.out.2.1 j_send3).mono ?_
  rintro e w15 ⟨a15, c15, rfl, k15, o15⟩
  have K15 := hidi (And.intro k15 (o15 _ _ K14.out.2.2 (other66 _ _)))
  have s15 : w15.cell? ⟨sb, 0, none⟩ = some (.pointer (some ⟨wb, 0, none⟩)) := box_cells k15.ss 0 _ rfl
  clear K14 k15 o15
  go_wp2_with fail
  go_must (go_at_call 17)
  refine (kn_ack K15.out.1 (by omega) 4 j_ack).mono ?_
  rintro e w16 ⟨g16, c16, cur16, rfl, k16, o16, h16, x16⟩
  have y9 := o16 _ _ K15.out.2 (other66 _ _)
  have K16 := hidi k16
  have i9 : w16.cell? ⟨g9, 21, none⟩ = some (.int .i64 1) := box_cells y9 21 _ X9.out
  have i16 : w16.cell? ⟨g16, 21, none⟩ = some (.int .i64 2) := box_cells h16 21 _ x16
  clear K15 k16 o16 h16 x16 y9 s15 X9
  go_upto_region 14 with fail
  clear i9 i16
  as_aux_lemma =>
  go_wp2_with fail
  go_must (go_at_call 29)
  refine (kn_subs1 K16.out).mono ?_
  rintro e w17 ⟨g17, c17, rfl, i0, i1, k17⟩
  have K17 := hidi k17
  clear K16 k17
  go_wp2_with fail
  go_must (go_at_call 30)
  refine (kn_unsub1 K17.out).mono ?_
  rintro e w18 ⟨rfl, k18⟩
  have K18 := hidi k18
  clear K17 k18 i0 i1
  go_wp2_with fail
  go_must (go_at_call 30)
  refine (kn_unsub2 K18.out).mono ?_
  rintro e w19 ⟨rfl, k19⟩
  have K19 := hidi k19
  clear K18 k19
  go_wp2_with fail
  go_must (go_at_call 29)
  refine (kn_subs0 K19.out).mono ?_
  rintro e w20 ⟨a20, c20, rfl, k20⟩
  have K20 := hidi k20
  clear K19 k20
  go_wp2_with fail
  go_must (go_at_call 31)
  refine (kn_note1 K20.out).mono ?_
  rintro e w21 ⟨rfl, md, k21⟩
  have K21 := hidi k21
  clear K20 k21
  go_wp2_with fail
  go_must (go_at_call 31)
  refine (kn_note2 K21.out).mono ?_
  rintro e w22 ⟨rfl, k22⟩
  have K22 := hidi k22
  clear K21 k22
  go_wp2_with fail
  go_must (go_at_call 32)
  refine (kn_rel1 K22.out).mono ?_
  rintro e w23 ⟨rfl, k23⟩
  have K23 := hidi k23
  clear K22 k23
  go_wp2_with fail
  go_must (go_at_call 32)
  refine (kn_rel2 K23.out).mono ?_
  rintro e w24 ⟨rfl, k24⟩
  have K24 := hidi k24
  clear K23 k24
  go_wp2_with fail
  go_must (go_at_call 31)
  refine (kn_note0 K24.out).mono ?_
  rintro e w25 ⟨rfl, k25⟩
  have K25 := hidi k25.bel
  clear K24 k25
  go_wp2_with fail
  go_ret
  exact ⟨rfl, K25.out⟩
end Go.Proofs.YtmihpmmkkklpfaaGreatDoor
