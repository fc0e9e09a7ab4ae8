import Derived.Test.YtmihpmmkkklpfaaGreatDoorBSh
import Derived.Test.YtmihpmmkkklpfaaGreatDoorBSb
namespace Go.Proofs.YtmihpmmkkklpfaaGreatDoor
open Go Go.RowKit Go.Shelf Go.Maps Go.Sort
set_option linter.unusedSimpArgs false
set_option linter.unusedVariables false
/-! ### New -/
set_option maxRecDepth 100000 in
set_option maxHeartbeats 4000000 in
theorem snew_any {w : World} (g : Gd w) (k : ByteArray) (la l0 : Bool) (c1 n q s c5 c6 c7 c8 : Int) (ua : Option Addr) (un uc : Nat) (hk : k.size ≤ 1000000) :
    Calls Tryz.prog 7 #[.string k, .bool la, .agg #[.bool l0, .int .i64 c1, .int .i64 n, .int .i64 q, .int .i64 s, .int .i64 c5, .int .i64 c6, .int .i64 c7, .int .i64 c8, .slice ua un uc]] w fun e w' => ∃ sb wb, e = .returned (.pointer (some ⟨sb, 0, none⟩)) ∧ SsAt w' sb wb k la (min (max s 0) 65536) (.map none) (.map none) ∧ KS (fun j => j < w.heap.size) w' wb ⟨mostOf n, queueOf q, false, 0, [], [], []⟩ 0 ∧ Below w.heap.size w w' ∧ w.heap.size ≤ sb := by
  obtain ⟨w1, hw1⟩ : ∃ w1, w1 = w.alloc (.cells #[.bool l0, .int .i64 c1, .int .i64 n, .int .i64 q, .int .i64 s, .int .i64 c5, .int .i64 c6, .int .i64 c7, .int .i64 c8, .slice ua un uc] 24) := ⟨_, rfl⟩
  have x1 := heap_alloc_new w (.cells #[.bool l0, .int .i64 c1, .int .i64 n, .int .i64 q, .int .i64 s, .int .i64 c5, .int .i64 c6, .int .i64 c7, .int .i64 c8, .slice ua un uc] 24)
  have b1 : Below w.heap.size w (w.alloc (.cells #[.bool l0, .int .i64 c1, .int .i64 n, .int .i64 q, .int .i64 s, .int .i64 c5, .int .i64 c6, .int .i64 c7, .int .i64 c8, .slice ua un uc] 24)) := (Below.refl _ _).alloc (Nat.le_refl _) _
  rw [← hw1] at x1 b1
  have e2 := box_cells x1 2 _ rfl
  have e3 := box_cells x1 3 _ rfl
  have e4 := box_cells x1 4 _ rfl
  have NW := hidi (ks_new n q w1.drew (g.below b1.drew))
  have CL := hidi (fun w => sclone_any k w hk)
  obtain ⟨m1, hm1⟩ : ∃ m1, max s 0 = m1 := ⟨_, rfl⟩
  obtain ⟨m2, hm2⟩ : ∃ m2, min m1 65536 = m2 := ⟨_, rfl⟩
  have HM := hidi (show min (max s 0) 65536 = m2 by rw [hm1, hm2])
  have H := hidi (And.intro x1 b1)
  clear x1 b1 g hk
  go_enter Tryz.func7, Tryz.ntmps7
  go_upto_region 1 with fail
  rw [← hw1]
  clear hw1
  go_region_held_law (fun w' => w'.cell? ⟨w.heap.size, 2, none⟩ = some (.int .i64 n) ∧ w'.cell? ⟨w.heap.size, 3, none⟩ = some (.int .i64 q) ∧ w'.cell? ⟨w.heap.size, 4, none⟩ = some (.int .i64 s)) (first | exact ⟨e2, e3, e4⟩ | go_keep) (first
    | (go_at_call 33; refine NW.out.mono ?_; clear NW; rintro e w2 ⟨rfl, k2, hb2⟩; have HK := hidi k2; have HB2 := hidi ((Below.refl w1.heap.size w1).drew.trans hb2); clear e2 e3 e4 k2 hb2; have x2 := later_at H.out.1 HB2.out; have e2 := box_cells x2 2 _ rfl; have e3 := box_cells x2 3 _ rfl; have e4 := box_cells x2 4 _ rfl; clear x2)
    | (go_at_call 34; refine (CL.out _).mono ?_; clear CL; rintro e w3 ⟨rfl, hb3⟩; have HB3 := hidi (HB2.out.trans (hb3.mono HB2.out.size)); have HK3 := hidi (HK.out.below hb3); clear e2 e3 e4 hb3; have x3 := later_at H.out.1 HB3.out; have e2 := box_cells x3 2 _ rfl; have e3 := box_cells x3 3 _ rfl; have e4 := box_cells x3 4 _ rfl; clear x3))
  all_goals go_wp2_with fail
  all_goals go_ret
  all_goals rw [HM.out]
  all_goals have hB3 := H.out.2.trans (HB3.out.mono H.out.2.size)
  all_goals have hA : Below w3.heap.size w3 (w3.alloc (.cells #[.pointer (some ⟨w1.heap.size, 0, none⟩), .string k, .bool la, .int .i64 m2, .map none, .map none] 56)) := (Below.refl _ _).alloc (Nat.le_refl _) _
  all_goals exact ⟨w3.heap.size, w1.heap.size, rfl, heap_alloc_new w3 _, (HK3.out.below hA).less (fun j hj => Nat.lt_of_lt_of_le hj H.out.2.size), hB3.trans (hA.mono hB3.size), hB3.size⟩
end Go.Proofs.YtmihpmmkkklpfaaGreatDoor
namespace Go.Proofs.YtmihpmmkkklpfaaGreatDoor
open Go Go.RowKit Go.Shelf Go.Maps Go.Sort
set_option linter.unusedSimpArgs false
set_option linter.unusedVariables false
/-! ### Deliver -/
section
variable {F : Nat → Prop} {W : World} {sb wb : Nat} {p : Pw} {c : Nat} {k : ByteArray} {la : Bool} {mo : Int} {sv nv : Value}
set_option maxRecDepth 100000 in
set_option maxHeartbeats 4000000 in
theorem deliver_any (h : KS F W wb p c) (hs : SsAt W sb wb k la mo sv nv) (hc : c + 1 ≤ 200000) (t : ByteArray) (v : Value) (q : Int) (r : Bool) (xs : List Int) (hp : PBi W v xs) (ht : t.size ≤ 1000000) (hq : (q != 0) = true) :
    Calls Tryz.prog 16 #[.pointer (some ⟨sb, 0, none⟩), .agg #[.string t, v, .int .i64 q, .bool r]] W fun e w' => ∃ v', e = .returned (.tuple #[v', .bool (pSend p ⟨t, q, r, xs⟩).2.2.1]) ∧ KS F w' wb (pSend p ⟨t, q, r, xs⟩).1 (c + 1) ∧ Fr F W w' ∧ KO W w' ∧ Lst w' v' (pSend p ⟨t, q, r, xs⟩).2.1 := by
  obtain ⟨pa, pn, pc, rfl⟩ := hp.sl
  obtain ⟨w1, hw1⟩ : ∃ w1, w1 = W.alloc (.cells #[.string t, .slice pa pn pc, .int .i64 q, .bool r] 45) := ⟨_, rfl⟩
  have x1 := heap_alloc_new W (.cells #[.string t, .slice pa pn pc, .int .i64 q, .bool r] 45)
  have b1 : Below W.heap.size W (W.alloc (.cells #[.string t, .slice pa pn pc, .int .i64 q, .bool r] 45)) := (Below.refl _ _).alloc (Nat.le_refl _) _
  rw [← hw1] at x1 b1
  have hl1 : W.heap.size < w1.heap.size := (Array.getElem?_eq_some_iff.1 x1).1
  have SD := hidi (kx_send (W := w1.drew) (h.add b1.drew (Nat.le_refl _) hl1) hc t (.slice pa pn pc) q r xs (hp.below b1.drew) ht)
  obtain ⟨P, hP⟩ : ∃ P, P = pSend p ⟨t, q, r, xs⟩ := ⟨_, rfl⟩
  rw [← hP] at SD ⊢
  obtain ⟨p', X, ok, en⟩ := P
  simp only at SD ⊢
  clear hP
  have e0 := box_cells x1 0 _ rfl
  have e1 := box_cells x1 1 _ rfl
  have e2 := box_cells x1 2 _ rfl
  have e3 := box_cells x1 3 _ rfl
  have s1 := hs.below b1
  have a0 : w1.cell? ⟨sb, 0, none⟩ = some (.pointer (some ⟨wb, 0, none⟩)) := box_cells s1 0 _ rfl
  have H := hidi (And.intro x1 (And.intro b1 s1))
  clear h hs hc hp ht x1 b1 s1
  go_enter Tryz.func16, Tryz.ntmps16
  go_upto_region 1 with fail
  rw [← hw1]
  clear hw1
  go_upto_region 2 with fail
  go_region_held_law (fun w' => w'.cell? ⟨sb, 0, none⟩ = some (.pointer (some ⟨wb, 0, none⟩)) ∧ w'.cell? ⟨W.heap.size, 0, none⟩ = some (.string t) ∧ w'.cell? ⟨W.heap.size, 1, none⟩ = some (.slice pa pn pc) ∧ w'.cell? ⟨W.heap.size, 2, none⟩ = some (.int .i64 q) ∧ w'.cell? ⟨W.heap.size, 3, none⟩ = some (.bool r)) (first | exact ⟨a0, e0, e1, e2, e3⟩ | go_keep) (first
    | (go_at_call 49; refine SD.out.mono ?_; clear SD; rintro e w2 ⟨v', rfl, k2, r2, o2, l2⟩; have HO := hidi (And.intro k2 (And.intro r2 (And.intro o2 l2))); have s2 : SsAt w2 sb wb k la mo sv nv := o2 _ _ H.out.2.2 ⟨_, 56, _, rfl, by decide, by decide, by decide⟩; have x2 : w2.heap[W.heap.size]? = some (.cells #[.string t, .slice pa pn pc, .int .i64 q, .bool r] 45 (0, 0)) := (r2.at (.inr rfl) hl1).trans H.out.1; clear a0 e0 e1 e2 e3 k2 r2 o2 l2; have e0 := box_cells x2 0 _ rfl; have e1 := box_cells x2 1 _ rfl; have e2 := box_cells x2 2 _ rfl; have e3 := box_cells x2 3 _ rfl; have a0 : w2.cell? ⟨sb, 0, none⟩ = some (.pointer (some ⟨wb, 0, none⟩)) := box_cells s2 0 _ rfl; clear s2 x2))
  all_goals go_wp2_with fail
  all_goals go_ret2
  all_goals exact ⟨v', rfl, HO.out.1.less (fun j hj => .inl hj), (Fr.below H.out.2.1.drew).trans (HO.out.2.1.mono (fun j hj => .inl hj)), (KO.below H.out.2.1.drew).trans HO.out.2.2.1, HO.out.2.2.2⟩
end
end Go.Proofs.YtmihpmmkkklpfaaGreatDoor
namespace Go.Proofs.YtmihpmmkkklpfaaGreatDoor
open Go Go.RowKit Go.Maps
set_option linter.unusedSimpArgs false
set_option linter.unusedVariables false
section
variable {W : World} {sb wb : Nat} {k : ByteArray} {la : Bool} {mo : Int} {sv nv : Value} {n : Nat} {f : ByteArray → Option Value}
set_option maxRecDepth 100000 in
set_option maxHeartbeats 4000000 in
/-- Subscribe: there is no room. -/
theorem subscribe_no (h : SsAt W sb wb k la mo sv nv) (hm : MG W sv n f) (fl : ByteArray) (q : Int) (hf : Tp.fcode fl = 0) (hfs : fl.size ≤ 1000000) (h0 : 0 ≤ q) (h2 : q ≤ 2) (hn : f fl = none) (hmo : mo ≤ (n : Int)) :
    Calls Tryz.prog 27 #[.pointer (some ⟨sb, 0, none⟩), .agg #[.string fl, .int .i64 q]] W fun e w' => e = .returned (.int .i64 128) ∧ Below W.heap.size W w' := by
  obtain ⟨w1, hw1⟩ : ∃ w1, w1 = W.alloc (.cells #[.string fl, .int .i64 q] 42) := ⟨_, rfl⟩
  have x1 := heap_alloc_new W (.cells #[.string fl, .int .i64 q] 42)
  have b1 : Below W.heap.size W (W.alloc (.cells #[.string fl, .int .i64 q] 42)) := (Below.refl _ _).alloc (Nat.le_refl _) _
  rw [← hw1] at x1 b1
  have e0 := box_cells x1 0 _ rfl
  have e1 := box_cells x1 1 _ rfl
  have s1 := h.below b1
  have a4 : w1.cell? ⟨sb, 4, none⟩ = some sv := box_cells s1 4 _ rfl
  have hm1 : MG w1 sv n f := hm.keep (fun b e => b1.block b (hm.lt e))
  have hlk : ∀ d, (Instr.lookup 53 sv (.string fl) true).run Tryz.prog (w1.drewN d) = .ok (.tuple #[.int .i64 0, .bool false]) (w1.drewN d) := fun d => by
    have := (hm1.keep (w' := w1.drewN d) (fun b e => by simp [World.drewN])).look2 (t := 53) Tryz.underlying53 zero3 (k := fl) (by unfold okT maxLen; omega)
    rw [hn] at this
    exact this
  have HS := hidi (And.intro s1 (And.intro hm1 (And.intro x1 b1)))
  have IA := hidi (fun w => isAsk_any fl q w hf h0 h2)
  have hge : (n : Int) ≥ mo := hmo
  clear h hm hn hf x1 b1 s1 hm1
  go_enter Tryz.func27, Tryz.ntmps27
  go_upto_region 1 with fail
  rw [← hw1]
  clear hw1
  go_wp2_with fail
  go_quiet (fail)
  clear hlk a4 e0 e1
  have bd : Below w1.heap.size w1 (w1.drewN nq) := below_drewN (Below.refl _ _)
  obtain ⟨w3, hw3⟩ : ∃ w3, w3 = w1.drewN nq := ⟨_, rfl⟩
  rw [← hw3] at bd ⊢
  have x3 := later_at HS.out.2.2.1 bd
  have e0 := box_cells x3 0 _ rfl
  have e1 := box_cells x3 1 _ rfl
  have s3 := HS.out.1.below bd
  have a3 : w3.cell? ⟨sb, 3, none⟩ = some (.int .i64 mo) := box_cells s3 3 _ rfl
  have a4 : w3.cell? ⟨sb, 4, none⟩ = some sv := box_cells s3 4 _ rfl
  have HB3 := hidi bd
  clear x3 s3 bd hw3
  go_upto_region 2 with fail
  go_region_held_law (fun w' => w'.cell? ⟨W.heap.size, 0, none⟩ = some (.string fl) ∧ w'.cell? ⟨W.heap.size, 1, none⟩ = some (.int .i64 q) ∧ w'.cell? ⟨sb, 3, none⟩ = some (.int .i64 mo) ∧ w'.cell? ⟨sb, 4, none⟩ = some sv) (first | exact ⟨e0, e1, a3, a4⟩ | go_keep) (first
    | (go_at_call 54; refine (IA.out _).mono ?_; rintro e w4 ⟨rfl, hb⟩; have HB4 := hidi (HB3.out.trans ((((Below.refl w3.heap.size w3).drew).trans hb).mono HB3.out.size)); clear e0 e1 a3 a4 hb; have x4 := later_at HS.out.2.2.1 HB4.out; have e0 := box_cells x4 0 _ rfl; have e1 := box_cells x4 1 _ rfl; have s4 := HS.out.1.below HB4.out; have a3 : w4.cell? ⟨sb, 3, none⟩ = some (.int .i64 mo) := box_cells s4 3 _ rfl; have a4 : w4.cell? ⟨sb, 4, none⟩ = some sv := box_cells s4 4 _ rfl; have hlen := fun ty => (HS.out.2.1.keep (fun b e => HB4.out.block b (HS.out.2.1.lt e))).len (t := 53) Tryz.underlying53 ty; clear x4 s4))
  all_goals go_wp2_with fail
  all_goals go_ret
  all_goals exact ⟨rfl, HS.out.2.2.2.trans (HB4.out.mono HS.out.2.2.2.size)⟩
theorem Gr.pre {W1 w' : World} {fl : ByteArray} {q : Int} (hb : Below W.heap.size W W1) (g : Gr W1 w' sb wb k la mo sv nv n f fl q) : Gr W w' sb wb k la mo sv nv n f fl q := by
  obtain ⟨mb, h1, h2, h3⟩ := g.ex
  exact ⟨⟨mb, h1, h2, h3.imp id (fun z => Nat.le_trans hb.size z)⟩, (Below.ch hb).then g.ch⟩
set_option maxRecDepth 100000 in
set_option maxHeartbeats 4000000 in
/-- Subscribe: it is laid down. -/
theorem subscribe_yes (h : SsAt W sb wb k la mo sv nv) (hm : MG W sv n f) (fl : ByteArray) (q : Int) (hf : Tp.fcode fl = 0) (hfs : fl.size ≤ 1000000) (h0 : 0 ≤ q) (h2 : q ≤ 2) (hn : f fl = none) (hmo : (n : Int) < mo)
    (GR : ∀ w, Below W.heap.size W w → Calls Tryz.prog 41 #[.pointer (some ⟨sb, 0, none⟩), .agg #[.string fl, .int .i64 q]] w fun e w' => e = .returned (.tuple #[]) ∧ Gr w w' sb wb k la mo sv nv n f fl q) :
    Calls Tryz.prog 27 #[.pointer (some ⟨sb, 0, none⟩), .agg #[.string fl, .int .i64 q]] W fun e w' => e = .returned (.int .i64 q) ∧ Gr W w' sb wb k la mo sv nv n f fl q := by
  obtain ⟨w1, hw1⟩ : ∃ w1, w1 = W.alloc (.cells #[.string fl, .int .i64 q] 42) := ⟨_, rfl⟩
  have x1 := heap_alloc_new W (.cells #[.string fl, .int .i64 q] 42)
  have b1 : Below W.heap.size W (W.alloc (.cells #[.string fl, .int .i64 q] 42)) := (Below.refl _ _).alloc (Nat.le_refl _) _
  rw [← hw1] at x1 b1
  have e0 := box_cells x1 0 _ rfl
  have e1 := box_cells x1 1 _ rfl
  have s1 := h.below b1
  have hsw : sb < W.heap.size := (Array.getElem?_eq_some_iff.1 h).1
  have hsv : ∀ j, sv = .map (some j) → j < W.heap.size := fun j e => hm.lt e
  have a4 : w1.cell? ⟨sb, 4, none⟩ = some sv := box_cells s1 4 _ rfl
  have hm1 : MG w1 sv n f := hm.keep (fun b e => b1.block b (hm.lt e))
  have hlk : ∀ d, (Instr.lookup 53 sv (.string fl) true).run Tryz.prog (w1.drewN d) = .ok (.tuple #[.int .i64 0, .bool false]) (w1.drewN d) := fun d => by
    have := (hm1.keep (w' := w1.drewN d) (fun b e => by simp [World.drewN])).look2 (t := 53) Tryz.underlying53 zero3 (k := fl) (by unfold okT maxLen; omega)
    rw [hn] at this
    exact this
  have HS := hidi (And.intro s1 (And.intro hm1 (And.intro x1 b1)))
  have IA := hidi (fun w => isAsk_any fl q w hf h0 h2)
  have GRH := hidi GR
  have HV := hidi (And.intro hsw hsv)
  clear h hm hn hf x1 b1 s1 hm1 GR hsw hsv
  · have hge : ¬ (n : Int) ≥ mo := by omega
    clear hmo
    go_enter Tryz.func27, Tryz.ntmps27
    go_upto_region 1 with fail
    rw [← hw1]
    clear hw1
    go_wp2_with fail
    go_quiet (fail)
    clear hlk a4 e0 e1
    have bd : Below w1.heap.size w1 (w1.drewN nq) := below_drewN (Below.refl _ _)
    obtain ⟨w3, hw3⟩ : ∃ w3, w3 = w1.drewN nq := ⟨_, rfl⟩
    rw [← hw3] at bd ⊢
    have x3 := later_at HS.out.2.2.1 bd
    have e0 := box_cells x3 0 _ rfl
    have e1 := box_cells x3 1 _ rfl
    have s3 := HS.out.1.below bd
    have a3 : w3.cell? ⟨sb, 3, none⟩ = some (.int .i64 mo) := box_cells s3 3 _ rfl
    have a4 : w3.cell? ⟨sb, 4, none⟩ = some sv := box_cells s3 4 _ rfl
    have HB3 := hidi bd
    clear x3 s3 bd hw3
    go_upto_region 2 with fail
    go_region_held_law (fun w' => w'.cell? ⟨W.heap.size, 0, none⟩ = some (.string fl) ∧ w'.cell? ⟨W.heap.size, 1, none⟩ = some (.int .i64 q) ∧ w'.cell? ⟨sb, 3, none⟩ = some (.int .i64 mo) ∧ w'.cell? ⟨sb, 4, none⟩ = some sv) (first | exact ⟨e0, e1, a3, a4⟩ | go_keep) (first
      | (go_at_call 54; refine (IA.out _).mono ?_; rintro e w4 ⟨rfl, hb⟩; have HB4 := hidi (HB3.out.trans ((((Below.refl w3.heap.size w3).drew).trans hb).mono HB3.out.size)); clear e0 e1 a3 a4 hb; have x4 := later_at HS.out.2.2.1 HB4.out; have e0 := box_cells x4 0 _ rfl; have e1 := box_cells x4 1 _ rfl; have s4 := HS.out.1.below HB4.out; have a3 : w4.cell? ⟨sb, 3, none⟩ = some (.int .i64 mo) := box_cells s4 3 _ rfl; have a4 : w4.cell? ⟨sb, 4, none⟩ = some sv := box_cells s4 4 _ rfl; have hlen := fun ty => (HS.out.2.1.keep (fun b e => HB4.out.block b (HS.out.2.1.lt e))).len (t := 53) Tryz.underlying53 ty; clear x4 s4))
    all_goals go_wp2_with fail
    all_goals go_must (go_at_call 41)
    all_goals have HBW := hidi (HS.out.2.2.2.trans (HB4.out.mono HS.out.2.2.2.size))
    all_goals refine (GRH.out _ HBW.out).mono ?_
    all_goals rintro e w5 ⟨rfl, hg⟩
    all_goals have x5 := (hg.ch.block W.heap.size (Nat.lt_of_lt_of_le (Array.getElem?_eq_some_iff.1 HS.out.2.2.1).1 HB4.out.size) (fun z => z.elim (fun z => by have := HV.out.1; omega) (fun z => by have := HV.out.2 _ z; omega))).trans (later_at HS.out.2.2.1 HB4.out)
    all_goals clear e0 e1
    all_goals have e1 := box_cells x5 1 _ rfl
    all_goals have HG := hidi hg
    all_goals clear hg x5 a3 a4 hlen
    all_goals go_wp2_with fail
    all_goals go_ret
    all_goals exact ⟨rfl, HG.out.pre HBW.out⟩
end
end Go.Proofs.YtmihpmmkkklpfaaGreatDoor
namespace Go.Proofs.YtmihpmmkkklpfaaGreatDoor
open Go Go.RowKit Go.Maps
set_option linter.unusedSimpArgs false
set_option linter.unusedVariables false
section
variable {W : World} {sb wb : Nat} {k : ByteArray} {la : Bool} {mo : Int} {sv nv : Value} {n : Nat} {f : ByteArray → Option Value}
set_option maxRecDepth 100000 in
set_option maxHeartbeats 4000000 in
/-- Subscribe: it is laid down. -/
theorem subscribe_has {old : Int} (h : SsAt W sb wb k la mo sv nv) (hm : MG W sv n f) (fl : ByteArray) (q : Int) (hf : Tp.fcode fl = 0) (hfs : fl.size ≤ 1000000) (h0 : 0 ≤ q) (h2 : q ≤ 2) (hn : f fl = some (.int .i64 old))
    (GR : ∀ w, Below W.heap.size W w → Calls Tryz.prog 41 #[.pointer (some ⟨sb, 0, none⟩), .agg #[.string fl, .int .i64 q]] w fun e w' => e = .returned (.tuple #[]) ∧ Gr w w' sb wb k la mo sv nv n f fl q) :
    Calls Tryz.prog 27 #[.pointer (some ⟨sb, 0, none⟩), .agg #[.string fl, .int .i64 q]] W fun e w' => e = .returned (.int .i64 q) ∧ Gr W w' sb wb k la mo sv nv n f fl q := by
  obtain ⟨w1, hw1⟩ : ∃ w1, w1 = W.alloc (.cells #[.string fl, .int .i64 q] 42) := ⟨_, rfl⟩
  have x1 := heap_alloc_new W (.cells #[.string fl, .int .i64 q] 42)
  have b1 : Below W.heap.size W (W.alloc (.cells #[.string fl, .int .i64 q] 42)) := (Below.refl _ _).alloc (Nat.le_refl _) _
  rw [← hw1] at x1 b1
  have e0 := box_cells x1 0 _ rfl
  have e1 := box_cells x1 1 _ rfl
  have s1 := h.below b1
  have hsw : sb < W.heap.size := (Array.getElem?_eq_some_iff.1 h).1
  have hsv : ∀ j, sv = .map (some j) → j < W.heap.size := fun j e => hm.lt e
  have a4 : w1.cell? ⟨sb, 4, none⟩ = some sv := box_cells s1 4 _ rfl
  have hm1 : MG w1 sv n f := hm.keep (fun b e => b1.block b (hm.lt e))
  have hlk : ∀ d, (Instr.lookup 53 sv (.string fl) true).run Tryz.prog (w1.drewN d) = .ok (.tuple #[.int .i64 old, .bool true]) (w1.drewN d) := fun d => by
    have := (hm1.keep (w' := w1.drewN d) (fun b e => by simp [World.drewN])).look2 (t := 53) Tryz.underlying53 zero3 (k := fl) (by unfold okT maxLen; omega)
    rw [hn] at this
    exact this
  have HS := hidi (And.intro s1 (And.intro hm1 (And.intro x1 b1)))
  have IA := hidi (fun w => isAsk_any fl q w hf h0 h2)
  have GRH := hidi GR
  have HV := hidi (And.intro hsw hsv)
  clear h hm hn hf x1 b1 s1 hm1 GR hsw hsv
  · go_enter Tryz.func27, Tryz.ntmps27
    go_upto_region 1 with fail
    rw [← hw1]
    clear hw1
    go_wp2_with fail
    go_quiet (fail)
    clear hlk a4 e0 e1
    have bd : Below w1.heap.size w1 (w1.drewN nq) := below_drewN (Below.refl _ _)
    obtain ⟨w3, hw3⟩ : ∃ w3, w3 = w1.drewN nq := ⟨_, rfl⟩
    rw [← hw3] at bd ⊢
    have x3 := later_at HS.out.2.2.1 bd
    have e0 := box_cells x3 0 _ rfl
    have e1 := box_cells x3 1 _ rfl
    have s3 := HS.out.1.below bd
    have a3 : w3.cell? ⟨sb, 3, none⟩ = some (.int .i64 mo) := box_cells s3 3 _ rfl
    have a4 : w3.cell? ⟨sb, 4, none⟩ = some sv := box_cells s3 4 _ rfl
    have HB3 := hidi bd
    clear x3 s3 bd hw3
    go_upto_region 2 with fail
    refine wp_region_held_drew (S := fun w' => w'.cell? ⟨W.heap.size, 0, none⟩ = some (.string fl) ∧ w'.cell? ⟨W.heap.size, 1, none⟩ = some (.int .i64 q)) (by kernel_rfl) ⟨e0, e1⟩ (fun hHeld => ?_)
    change wpAnyH _ _ _ _ _ 19 #[false, false, false, false, false, false, false, false, false, false, false, false, false, false, false, false, false, false, false] _ (World.drew _)
    refine wpAnyH_take (i := 0) (oi := { dst := some 17, op := Go.Op.load 42 (Go.Operand.tmp 3), type := 42, pos := "session.go:63", after := #[], guard := none }) (v := .agg #[.string fl, .int .i64 q]) rfl (by kernel_rfl) (by kernel_rfl) (by kernel_rfl) (fun _ _ _ h => h) (Or.inl ⟨by kernel_rfl, by intro wq hSw; (try dsimp only at hSw); clear hHeld; go_simp⟩) hHeld ?_
    simp only [Act.put, List.setIfInBounds_toArray, List.set_cons_zero, List.set_cons_succ]
    refine wpAnyH_ready (rs := [1]) (by kernel_rfl) (by simp) ?_
    refine AllReadyH.cons (o := { dst := some 18, op := Go.Op.call { callee := Go.Callee.value (Go.Operand.func 54), args := #[Go.Operand.tmp 17], argTypes := #[42] }, type := 4, pos := "session.go:63", after := #[{ on := 0, ground := Go.Ground.data }], guard := none }) (by rfl) (fun K hK => ?_) AllReadyH.nil
    go_simp
    go_wp2_with (go_at_call 54; refine (IA.out _).mono ?_; rintro e w4 ⟨rfl, hb⟩)
    have HB4 := hidi (HB3.out.trans ((((Below.refl w3.heap.size w3).drew).trans hb).mono HB3.out.size))
    clear e0 e1 hb hHeld
    have x4 := later_at HS.out.2.2.1 HB4.out
    have e0 := box_cells x4 0 _ rfl
    have e1 := box_cells x4 1 _ rfl
    clear x4
    refine hK.out _ _ ⟨e0, e1⟩ (fun hHeld => ?_)
    clear hK K
    (try simp only [Act.put, List.setIfInBounds_toArray, List.set_cons_zero, List.set_cons_succ])
    refine wpAnyH_take (i := 2) (oi := { dst := some 19, op := Go.Op.unOp Go.UnOp.not 4 (Go.Operand.tmp 18), type := 4, pos := "session.go:63", after := #[{ on := 1, ground := Go.Ground.data }], guard := none }) (v := .bool false) rfl (by kernel_rfl) (by kernel_rfl) (by kernel_rfl) (fun _ _ _ h => h) (Or.inl ⟨by kernel_rfl, by intro wq hSw; (try dsimp only at hSw); clear hHeld; go_simp⟩) hHeld ?_
    simp only [Act.put, List.setIfInBounds_toArray, List.set_cons_zero, List.set_cons_succ]
    refine wpAnyH_take (i := 3) (oi := { dst := some 20, op := Go.Op.move (Go.Operand.tmp 19), type := 4, pos := "session.go:63", after := #[{ on := 2, ground := Go.Ground.data }, { on := 1, ground := Go.Ground.chain }], guard := none }) (v := .bool false) rfl (by kernel_rfl) (by kernel_rfl) (by kernel_rfl) (fun _ _ _ h => h) (Or.inl ⟨by kernel_rfl, by intro wq hSw; (try dsimp only at hSw); clear hHeld; go_simp⟩) hHeld ?_
    simp only [Act.put, List.setIfInBounds_toArray, List.set_cons_zero, List.set_cons_succ]
    refine wpAnyH_take (i := 4) (oi := { dst := some 21, op := Go.Op.move (Go.Operand.tmp 6), type := 4, pos := "session.go:63", after := #[{ on := 3, ground := Go.Ground.guard }], guard := some (3, false) }) (v := .bool true) rfl (by kernel_rfl) (by kernel_rfl) (by kernel_rfl) (fun _ _ _ h => h) (Or.inl ⟨by kernel_rfl, by intro wq hSw; (try dsimp only at hSw); clear hHeld; go_simp⟩) hHeld ?_
    simp only [Act.put, List.setIfInBounds_toArray, List.set_cons_zero, List.set_cons_succ]
    refine wpAnyH_take (i := 5) (oi := { dst := some 22, op := Go.Op.unOp Go.UnOp.not 4 (Go.Operand.tmp 21), type := 4, pos := "session.go:63", after := #[{ on := 4, ground := Go.Ground.data }, { on := 3, ground := Go.Ground.guard }], guard := some (3, false) }) (v := .bool false) rfl (by kernel_rfl) (by kernel_rfl) (by kernel_rfl) (fun _ _ _ h => h) (Or.inl ⟨by kernel_rfl, by intro wq hSw; (try dsimp only at hSw); clear hHeld; go_simp⟩) hHeld ?_
    simp only [Act.put, List.setIfInBounds_toArray, List.set_cons_zero, List.set_cons_succ]
    refine wpAnyH_take (i := 6) (oi := { dst := some 23, op := Go.Op.move (Go.Operand.tmp 22), type := 4, pos := "session.go:63", after := #[{ on := 5, ground := Go.Ground.data }, { on := 3, ground := Go.Ground.chain }, { on := 3, ground := Go.Ground.guard }], guard := some (3, false) }) (v := .bool false) rfl (by kernel_rfl) (by kernel_rfl) (by kernel_rfl) (fun _ _ _ h => h) (Or.inl ⟨by kernel_rfl, by intro wq hSw; (try dsimp only at hSw); clear hHeld; go_simp⟩) hHeld ?_
    simp only [Act.put, List.setIfInBounds_toArray, List.set_cons_zero, List.set_cons_succ]
    refine wpAnyH_take (i := 7) (oi := { dst := some 24, op := Go.Op.move (Go.Operand.tmp 0), type := 36, pos := "session.go:63", after := #[{ on := 6, ground := Go.Ground.guard }], guard := some (6, true) }) (v := undef) rfl (by kernel_rfl) (by kernel_rfl) (by kernel_rfl) (fun _ _ _ h => h) (Or.inr ⟨by kernel_rfl, rfl⟩) hHeld ?_
    simp only [Act.put, List.setIfInBounds_toArray, List.set_cons_zero, List.set_cons_succ]
    refine wpAnyH_take (i := 8) (oi := { dst := some 25, op := Go.Op.nilCheck (Go.Operand.tmp 24), type := 0, pos := "session.go:63", after := #[{ on := 7, ground := Go.Ground.data }, { on := 6, ground := Go.Ground.guard }], guard := some (6, true) }) (v := undef) rfl (by kernel_rfl) (by kernel_rfl) (by kernel_rfl) (fun _ _ _ h => h) (Or.inr ⟨by kernel_rfl, rfl⟩) hHeld ?_
    simp only [Act.put, List.setIfInBounds_toArray, List.set_cons_zero, List.set_cons_succ]
    refine wpAnyH_take (i := 9) (oi := { dst := some 26, op := Go.Op.fieldAddr 56 (Go.Operand.tmp 25) 4, type := 0, pos := "session.go:63", after := #[{ on := 8, ground := Go.Ground.data }, { on := 6, ground := Go.Ground.guard }], guard := some (6, true) }) (v := undef) rfl (by kernel_rfl) (by kernel_rfl) (by kernel_rfl) (fun _ _ _ h => h) (Or.inr ⟨by kernel_rfl, rfl⟩) hHeld ?_
    simp only [Act.put, List.setIfInBounds_toArray, List.set_cons_zero, List.set_cons_succ]
    refine wpAnyH_take (i := 10) (oi := { dst := some 27, op := Go.Op.load 53 (Go.Operand.tmp 26), type := 53, pos := "session.go:63", after := #[{ on := 9, ground := Go.Ground.data }, { on := 6, ground := Go.Ground.guard }], guard := some (6, true) }) (v := undef) rfl (by kernel_rfl) (by kernel_rfl) (by kernel_rfl) (fun _ _ _ h => h) (Or.inr ⟨by kernel_rfl, rfl⟩) hHeld ?_
    simp only [Act.put, List.setIfInBounds_toArray, List.set_cons_zero, List.set_cons_succ]
    refine wpAnyH_take (i := 11) (oi := { dst := some 28, op := Go.Op.call { callee := Go.Callee.builtin Go.Builtin.len, args := #[Go.Operand.tmp 27], argTypes := #[53] }, type := 3, pos := "session.go:63", after := #[{ on := 10, ground := Go.Ground.data }, { on := 6, ground := Go.Ground.chain }, { on := 6, ground := Go.Ground.guard }], guard := some (6, true) }) (v := undef) rfl (by kernel_rfl) (by kernel_rfl) (by kernel_rfl) (fun _ _ _ h => h) (Or.inr ⟨by kernel_rfl, rfl⟩) hHeld ?_
    simp only [Act.put, List.setIfInBounds_toArray, List.set_cons_zero, List.set_cons_succ]
    refine wpAnyH_take (i := 12) (oi := { dst := some 29, op := Go.Op.move (Go.Operand.tmp 0), type := 36, pos := "session.go:63", after := #[{ on := 6, ground := Go.Ground.guard }], guard := some (6, true) }) (v := undef) rfl (by kernel_rfl) (by kernel_rfl) (by kernel_rfl) (fun _ _ _ h => h) (Or.inr ⟨by kernel_rfl, rfl⟩) hHeld ?_
    simp only [Act.put, List.setIfInBounds_toArray, List.set_cons_zero, List.set_cons_succ]
    refine wpAnyH_take (i := 13) (oi := { dst := some 30, op := Go.Op.nilCheck (Go.Operand.tmp 29), type := 0, pos := "session.go:63", after := #[{ on := 12, ground := Go.Ground.data }, { on := 6, ground := Go.Ground.guard }], guard := some (6, true) }) (v := undef) rfl (by kernel_rfl) (by kernel_rfl) (by kernel_rfl) (fun _ _ _ h => h) (Or.inr ⟨by kernel_rfl, rfl⟩) hHeld ?_
    simp only [Act.put, List.setIfInBounds_toArray, List.set_cons_zero, List.set_cons_succ]
    refine wpAnyH_take (i := 14) (oi := { dst := some 31, op := Go.Op.fieldAddr 56 (Go.Operand.tmp 30) 3, type := 0, pos := "session.go:63", after := #[{ on := 13, ground := Go.Ground.data }, { on := 6, ground := Go.Ground.guard }], guard := some (6, true) }) (v := undef) rfl (by kernel_rfl) (by kernel_rfl) (by kernel_rfl) (fun _ _ _ h => h) (Or.inr ⟨by kernel_rfl, rfl⟩) hHeld ?_
    simp only [Act.put, List.setIfInBounds_toArray, List.set_cons_zero, List.set_cons_succ]
    refine wpAnyH_take (i := 15) (oi := { dst := some 32, op := Go.Op.load 3 (Go.Operand.tmp 31), type := 3, pos := "session.go:63", after := #[{ on := 14, ground := Go.Ground.data }, { on := 6, ground := Go.Ground.guard }], guard := some (6, true) }) (v := undef) rfl (by kernel_rfl) (by kernel_rfl) (by kernel_rfl) (fun _ _ _ h => h) (Or.inr ⟨by kernel_rfl, rfl⟩) hHeld ?_
    simp only [Act.put, List.setIfInBounds_toArray, List.set_cons_zero, List.set_cons_succ]
    refine wpAnyH_take (i := 16) (oi := { dst := some 33, op := Go.Op.binOp Go.BinOp.geq 3 (Go.Operand.tmp 28) (Go.Operand.tmp 32) 3, type := 4, pos := "session.go:63", after := #[{ on := 11, ground := Go.Ground.data }, { on := 15, ground := Go.Ground.data }, { on := 6, ground := Go.Ground.guard }], guard := some (6, true) }) (v := undef) rfl (by kernel_rfl) (by kernel_rfl) (by kernel_rfl) (fun _ _ _ h => h) (Or.inr ⟨by kernel_rfl, rfl⟩) hHeld ?_
    simp only [Act.put, List.setIfInBounds_toArray, List.set_cons_zero, List.set_cons_succ]
    refine wpAnyH_take (i := 17) (oi := { dst := some 34, op := Go.Op.pick (Go.Operand.tmp 23) (Go.Operand.tmp 33) (Go.Operand.const (Go.Value.bool false)), type := 4, pos := "session.go:63", after := #[{ on := 6, ground := Go.Ground.data }, { on := 16, ground := Go.Ground.data }, { on := 3, ground := Go.Ground.guard }], guard := some (3, false) }) (v := .bool false) rfl (by kernel_rfl) (by kernel_rfl) (by kernel_rfl) (fun _ _ _ h => h) (Or.inl ⟨by kernel_rfl, by intro wq hSw; (try dsimp only at hSw); clear hHeld; go_simp⟩) hHeld ?_
    simp only [Act.put, List.setIfInBounds_toArray, List.set_cons_zero, List.set_cons_succ]
    refine wpAnyH_take (i := 18) (oi := { dst := some 35, op := Go.Op.pick (Go.Operand.tmp 20) (Go.Operand.const (Go.Value.bool true)) (Go.Operand.tmp 34), type := 4, pos := "session.go:63", after := #[{ on := 3, ground := Go.Ground.data }, { on := 17, ground := Go.Ground.data }], guard := none }) (v := .bool false) rfl (by kernel_rfl) (by kernel_rfl) (by kernel_rfl) (fun _ _ _ h => h) (Or.inl ⟨by kernel_rfl, by intro wq hSw; (try dsimp only at hSw); clear hHeld; go_simp⟩) hHeld ?_
    simp only [Act.put, List.setIfInBounds_toArray, List.set_cons_zero, List.set_cons_succ]
    refine wpAnyH_done (by kernel_rfl) ?_ _
    go_wp2_with fail
    go_must (go_at_call 41)
    have HBW := hidi (HS.out.2.2.2.trans (HB4.out.mono HS.out.2.2.2.size))
    refine (GRH.out _ HBW.out).mono ?_
    rintro e w5 ⟨rfl, hg⟩
    have x5 := (hg.ch.block W.heap.size (Nat.lt_of_lt_of_le (Array.getElem?_eq_some_iff.1 HS.out.2.2.1).1 HB4.out.size) (fun z => z.elim (fun z => by have := HV.out.1; omega) (fun z => by have := HV.out.2 _ z; omega))).trans (later_at HS.out.2.2.1 HB4.out)
    clear e0 e1
    have e1 := box_cells x5 1 _ rfl
    have HG := hidi hg
    clear hg x5 a3 a4
    go_wp2_with fail
    go_ret
    exact ⟨rfl, HG.out.pre HBW.out⟩
end
end Go.Proofs.YtmihpmmkkklpfaaGreatDoor
