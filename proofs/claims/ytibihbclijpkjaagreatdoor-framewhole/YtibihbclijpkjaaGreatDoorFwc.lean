import Derived.Test.YtibihbclijpkjaaGreatDoorGm
import Derived.Test.YtibihbclijpkjaaGreatDoorHk
import Derived.Test.YtibihbclijpkjaaGreatDoorGr
namespace Go.Proofs.YtibihbclijpkjaaGreatDoor
open Go Go.RowKit
open Pkt (Pk Cn Sl In By Is Ss As pkCells Gd KindsAt Small Right TT sz fg ck parts Fit Off sumN sumN_scale allN_iff)
set_option linter.unusedSimpArgs false
set_option linter.unusedVariables false

/-! ### Packets written one behind the other, purely -/
def encs : List (Pk × Cn) → List Value
  | [] => []
  | x :: L => encL x.1 x.2 ++ encs L
theorem encs_app : ∀ (A B : List (Pk × Cn)), encs (A ++ B) = encs A ++ encs B
  | [], B => rfl
  | x :: A, B => by simp [encs, encs_app A B]
def BkL : List (Pk × Cn) → List (Pk × Cn) → Prop
  | [], [] => True
  | x :: A, y :: B => Back x.1 x.2 y.1 y.2 ∧ BkL A B
  | _, _ => False
theorem BkL.app : ∀ {A A' B B' : List (Pk × Cn)}, BkL A A' → BkL B B' → BkL (A ++ B) (A' ++ B')
  | [], [], _, _, _, h => h
  | x :: A, y :: A', _, _, h, h' => ⟨h.1, BkL.app h.2 h'⟩
  | [], _ :: _, _, _, h, _ => h.elim
  | _ :: _, [], _, _, h, _ => h.elim
theorem BkL.len : ∀ {A A' : List (Pk × Cn)}, BkL A A' → A.length = A'.length
  | [], [], _ => rfl
  | x :: A, y :: A', h => by simp [BkL.len h.2]
  | [], _ :: _, h => h.elim
  | _ :: _, [], h => h.elim
theorem dec_none (z : Nat → Int) (most : Int) : decP z 0 most = .more := by simp [decP, headP, decH]
theorem hr_whole (most : Int) : ∀ (A : List (Pk × Cn)) (z : Nat → Int) (m : Int), m < 0 → (∀ x ∈ A, Right TT x.1 x.2 ∧ (sz x.1 x.2 : Int) ≤ clampM most) → AtL z 0 (encs A) → ∃ L2, Hr most m z (encs A).length L2 (encs A).length (some .more) ∧ BkL A L2
  | [], z, m, hm, _, _ => ⟨[], .stop m z 0 _ (by omega) (dec_none z most) rfl, trivial⟩
  | x :: A, z, m, hm, hA, hz => by
    obtain ⟨hr, hle⟩ := hA x (List.mem_cons_self ..)
    have hl := enc_len hr
    have hn : (encs (x :: A)).length = (1 + kn (sz x.1 x.2) + sz x.1 x.2) + (encs A).length := by simp [encs, hl]
    obtain ⟨p', c', hd, hb⟩ := (dec_back (n := (encs (x :: A)).length) hr most (AtL.left (B := encs A) hz) (by omega)).2 hle
    have hz2 : AtL (sh z (1 + kn (sz x.1 x.2) + sz x.1 x.2)) 0 (encs A) := by
      intro i v e
      have := (AtL.right (A := encL x.1 x.2) hz) i v e
      rw [this]
      simp [sh, hl]
    obtain ⟨L2, h2, b2⟩ := hr_whole most A _ (m - 1) (by omega) (fun y hy => hA y (List.mem_cons_of_mem _ hy)) hz2
    refine ⟨(p', c') :: L2, ?_, hb, b2⟩
    rw [hn] at hd ⊢
    refine .step m z _ p' c' _ L2 _ _ (by omega) hd ?_
    rw [Nat.add_sub_cancel_left]
    exact h2
theorem at_app {z zb : Nat → Int} {A E : List Value} {H : Nat} (h : AtL z 0 A) (hl : A.length = H) (he : AtL zb 0 E) : AtL (cat z H zb) 0 (A ++ E) := by
  intro i v e
  rw [Nat.zero_add]
  by_cases hi : i < H
  · rw [List.getElem?_append_left (by omega)] at e
    have := h i v e
    rw [Nat.zero_add] at this
    rw [this]; simp [cat, hi]
  · rw [List.getElem?_append_right (by omega), hl] at e
    have := he (i - H) v e
    rw [Nat.zero_add] at this
    rw [this]; simp [cat, hi]
/-- How long a right packet is when it is written. -/
theorem enc_lin {p : Pk} {c : Cn} (r : Right TT p c) : sz p c ≤ 2 * parts p c + 20 := by
  have hft := r.ft
  simp only [Pkt.flts, Bool.and_eq_true, allN_iff] at hft
  have h1 := sumN_scale (fun i => 3 + (c.af i).size) (fun i => 1 + (c.af i).size) 2 p.asks.n (fun i hi => by have := flt_pos (hft.1 i hi); omega)
  have h2 := sumN_scale (fun i => 2 + (c.fs i).size) (fun i => 1 + (c.fs i).size) 2 p.filters.n (fun i hi => by have := flt_pos (hft.2 i hi); omega)
  unfold parts
  unfold sz Pkt.nid Pkt.szc
  split
  · split <;> split <;> split <;> omega
  split
  · omega
  split
  · split <;> omega
  · split <;> omega
theorem ps_back {w w0 : World} {no : Nat → Prop} : ∀ {qs : List Pk} {L A : List (Pk × Cn)}, Ps w no qs L → BkL A L → (∀ x ∈ A, In w0 x.1 x.2) → Ps w no qs A
  | [], [], [], _, _, _ => trivial
  | q :: qs, y :: L, x :: A, h, hb, hi => ⟨⟨h.1.1.trans hb.1.al, back_in hb.1 h.1.1 h.1.2.1 (hi x (List.mem_cons_self ..)), h.1.2.2⟩, ps_back h.2 hb.2 (fun z hz => hi z (List.mem_cons_of_mem _ hz))⟩
  | _ :: _, [], _, h, _, _ => h.elim
  | [], _ :: _, _, h, _, _ => h.elim
  | _ :: _, _ :: _, [], _, hb, _ => hb.elim
  | [], [], _ :: _, _, hb, _ => hb.elim
theorem ps_own {w : World} : ∀ {A : List (Pk × Cn)}, (∀ x ∈ A, In w x.1 x.2) → Ps w (fun _ => False) (A.map (·.1)) A
  | [], _ => trivial
  | x :: A, h => ⟨⟨Alike.refl _, h x (List.mem_cons_self ..), fun _ _ q => q⟩, ps_own (fun z hz => h z (List.mem_cons_of_mem _ hz))⟩
/-- Packets in memory, one behind the other. -/
def Pl (w : World) (s : Sl) (ps : Nat → Pk) (cs : Nat → Cn) : Prop := s.n = 0 ∨ ∃ g off, s.a = some ⟨g, off, none⟩ ∧ ∀ i, i < s.n → w.rangeAt g (off + i * 25) (pkCells (ps i)).toList ∧ In w (ps i) (cs i) ∧ Fit (ps i) (cs i)
theorem Pl.at {w w' : World} {s : Sl} {ps : Nat → Pk} {cs : Nat → Cn} (h : Pl w s ps cs) (hb : Below w.heap.size w w') (i : Nat) (hi : i < s.n) : ∃ g off, s.a = some ⟨g, off, none⟩ ∧ w'.rangeAt g (off + i * 25) (pkCells (ps i)).toList ∧ In w' (ps i) (cs i) ∧ Fit (ps i) (cs i) := by
  obtain ⟨g, off, e, hx⟩ := h.resolve_left (by omega)
  obtain ⟨h1, h2, h3⟩ := hx i hi
  exact ⟨g, off, e, fun j v hv => cell_later hb (h1 j v hv), h2.below hb, h3⟩
theorem off_of {w : World} {p : Pk} {c : Cn} (h : In w p c) {g : Nat} (hg : w.heap.size ≤ g) : Off g p :=
  ⟨fun hn b off e => by obtain ⟨b', off', e', hc⟩ := h.asks.2.resolve_left (by omega); rw [e'] at e; injection e with e; injection e with e; subst e; have := lt_of_cell (hc 0 hn).1; omega,
   fun hn b off e => by obtain ⟨b', off', e', hc⟩ := h.filters.2.resolve_left (by omega); rw [e'] at e; injection e with e; injection e with e; subst e; have := lt_of_cell (hc 0 hn); omega⟩
theorem below_cg {w W W' : World} {g : Nat} {y : Int} (hb : Below w.heap.size w W) (h : Pkt.Cg g y W W') (hg : w.heap.size ≤ g) : Below w.heap.size w W' :=
  ⟨h.os.trans hb.os, h.tape.trans hb.tape, h.output.trans hb.output, Nat.le_trans hb.size h.size, fun k hk => (h.keep k (by have := hb.size; omega) (by omega)).trans (hb.block k hk)⟩
set_option maxRecDepth 100000 in
set_option maxHeartbeats 2000000 in
/-- The packets of a list are counted: if it is still well, all of them were. -/
theorem plist_any {w W : World} {s : Sl} {ps : Nat → Pk} {cs : Nat → Cn} (hP : Pl w s ps cs) (hb : Below w.heap.size w W) (g : Nat) (hg : w.heap.size ≤ g) (x : Int) (hx0 : 0 ≤ x) (hx : x ≤ 1000000000) (hC : Pkt.Cb W g x) (hs : s.n ≤ 9223372036854775807) :
    Calls Tryz.prog 27 #[.pointer (some ⟨g, 0, none⟩), .slice s.a s.n s.c] W fun e w' => ∃ y, e = .returned (.tuple #[]) ∧ Pkt.Cg g y W w' ∧ (0 ≤ y → y + (sumN (fun i => parts (ps i) (cs i)) s.n : Nat) = x) := by
  have HP : Hid (Pl w s ps cs) := hP
  have HB : Hid (Below w.heap.size w W) := hb
  have HC : Hid (Pkt.Cb W g x) := hC
  have HX : Hid (0 ≤ x ∧ x ≤ 1000000000 ∧ w.heap.size ≤ g ∧ s.n ≤ 9223372036854775807) := ⟨hx0, hx, hg, hs⟩
  clear hP hb hC hx0 hx hg hs
  go_enter Tryz.func27, Tryz.ntmps27
  go_wp2_with fail
  go_loopg [4] s.n (fun gg s4 wx => ∃ (k : Nat) (y : Int), s4 = .int .i64 k ∧ k + gg = s.n ∧ Hid (Pkt.Cg g y W wx) ∧ Hid ((0 ≤ y → y + (sumN (fun i => parts (ps i) (cs i)) k : Nat) = x) ∧ y ≤ 1000000000 ∧ -9223372036854775807 ≤ y))
  case atStart => exact ⟨0, x, rfl, by omega, Pkt.Cg.refl HC.out, fun _ => by simp [sumN], HX.out.2.1, by have := HX.out; omega⟩
  case round =>
    obtain ⟨k, y, hs4, hk, C1, S1⟩ := hrel
    subst hs4
    have B1 : Hid (Below w.heap.size w wr) := below_cg HB.out C1.out HX.out.2.2.1
    by_cases hlt : k < s.n
    · have p0 : (k : Int) < (s.n : Int) := by omega
      by_cases hy : 0 ≤ y
      · obtain ⟨b, off, ea, hr, hin, hfit⟩ := HP.out.at B1.out k hlt
        have HP30 : Hid (Calls Tryz.prog 30 #[.pointer (some ⟨g, 0, none⟩), .agg (pkCells (ps k))] wr fun e w' => ∃ y', e = .returned (.tuple #[]) ∧ Pkt.Cg g y' wr w' ∧ Pkt.St y (parts (ps k) (cs k)) y') := by
          obtain ⟨_, _, _, _, hin0, _⟩ := HP.out.at (Below.refl _ _) k hlt
          exact Pkt.cpacket_any (ps k) (cs k) wr g y C1.out.blk hin (off_of hin0 HX.out.2.2.1) hfit S1.out.2.1 S1.out.2.2
        have HR : Hid (wr.rangeAt b (off + k * 25) (pkCells (ps k)).toList) := hr
        have HA : Hid (s.a = some ⟨b, off, none⟩) := ea
        have hwk : IntKind.i64.wrap ((k : Int) + 1) = ((k + 1 : Nat) : Int) := by rw [IntKind.wrap_i64]; have := HX.out; omega
        have r3 : (0 : Int) ≤ (k : Int) := by omega
        clear hr hin hfit
        go_wp2_with fail
        go_must (go_at_call 28)
        refine (Pkt.ok_any _ g y C1.out.blk).mono ?_
        rintro e w1 ⟨rfl, hw1⟩
        obtain rfl := hw1.symm
        clear hw1
        rw [decide_eq_true hy]
        rw [ea]
        go_wp2_with (first | (refine wpList_load_mid rfl 29 _ rfl b (off + k * 25) rfl (pkCells (ps k)).toList _ HR.out Tryz.underlying29 rfl (by rw [Array.length_toList, pk_size]; kernel_rfl) ?_) | fail)
        go_must (go_at_call 30)
        refine HP30.out.mono ?_
        rintro e w2 ⟨y2, rfl, hc2, st2⟩
        have C2 : Hid (Pkt.Cg g y2 W w2) := C1.out.trans hc2
        have S2 : Hid ((0 ≤ y2 → y2 + (sumN (fun i => parts (ps i) (cs i)) (k + 1) : Nat) = x) ∧ y2 ≤ 1000000000 ∧ -9223372036854775807 ≤ y2) := by
          refine ⟨fun q => ?_, st2.2.1, st2.2.2⟩
          have h1 := st2.1 q
          have h2 := S1.out.1 (by omega)
          show y2 + ((sumN (fun i => parts (ps i) (cs i)) k + parts (ps k) (cs k) : Nat) : Int) = x
          omega
        clear hc2 st2
        go_wp2_with fail
        rw [← HA.out]
        go_roundg (s.n - (k + 1))
        all_goals first | omega | exact ⟨k + 1, y2, rfl, by omega, C2, S2⟩ | exact ⟨k + 1, y2, by simp, by omega, C2, S2⟩
      · go_wp2_with fail
        go_must (go_at_call 28)
        refine (Pkt.ok_any _ g y C1.out.blk).mono ?_
        rintro e w1 ⟨rfl, hw1⟩
        obtain rfl := hw1.symm
        clear hw1
        have hyd : decide (0 ≤ y) = false := decide_eq_false (by omega)
        rw [hyd]
        go_wp2_with fail
        go_end0
        first | exact ⟨y, rfl, C1.out, fun q => absurd q (by omega)⟩ | exact ⟨rfl, y, C1.out, fun q => absurd q (by omega)⟩
    · have p0 : ¬ (k : Int) < (s.n : Int) := by omega
      have hkn : k = s.n := by omega
      have S2 : Hid (0 ≤ y → y + (sumN (fun i => parts (ps i) (cs i)) s.n : Nat) = x) := by have := S1.out.1; rw [hkn] at this; exact this
      go_wp2_with fail
      go_end0
      first | exact ⟨y, rfl, C1.out, S2.out⟩ | exact ⟨rfl, y, C1.out, S2.out⟩
end Go.Proofs.YtibihbclijpkjaaGreatDoor
namespace Go.Proofs.YtibihbclijpkjaaGreatDoor
open Go Go.RowKit
open Pkt (Pk Cn Sl In By Is Ss As pkCells Gd KindsAt Small Right TT sz fg ck parts Fit Off sumN)
set_option linter.unusedSimpArgs false
set_option linter.unusedVariables false

def topF : Int := 268435455
/-- A frame, what was heard, what is wanted: some was heard, some is held, the last may be still to be put. -/
def WS (w wx : World) (fb hb B NB : Nat) (Wd ex : List (Pk × Cn)) (vw : Value) (fin : Bool) : Prop :=
  ∃ A Bp L P z H rf rh la le, Wd = A ++ Bp ++ ex ∧ BkL A L ∧ FS wx fb topF B rf P z H ∧ AtL z 0 (encs Bp) ∧ H = (encs Bp).length ∧ (∀ i, 0 ≤ z i ∧ z i ≤ 255) ∧ P + H ≤ NB ∧ HS wx hb B rh (No (fun b => vw.ownBlock = some b) fb hb rf rh) L la le ∧ wx.ownsRow B 29 25 vw Wd.length (pkRow (Wd.map (·.1))) ∧ (∀ k, vw.ownBlock = some k → rh ≠ some k) ∧ (∀ x ∈ Wd, Right TT x.1 x.2 ∧ In w x.1 x.2 ∧ Small x.1 x.2 ∧ sz x.1 x.2 ≤ 200100) ∧ (fin = true → Bp = [] ∧ la = 0 ∧ le = 0)
section
variable {w wx w' : World} {fb hb B NB : Nat} {Wd ex : List (Pk × Cn)} {vw : Value} {fin : Bool}
theorem WS.below (h : WS w wx fb hb B NB Wd ex vw fin) (hb' : Below wx.heap.size wx w') : WS w w' fb hb B NB Wd ex vw fin := by
  obtain ⟨A, Bp, L, P, z, H, rf, rh, la, le, h1, h2, h3, h4, h5, h6, h7, h8, h9, h10, h11, h12⟩ := h
  exact ⟨A, Bp, L, P, z, H, rf, rh, la, le, h1, h2, h3.below hb', h4, h5, h6, h7, h8.below (fun _ => False) (Below.ch hb') (fun q => q) (fun _ _ q => q) (fun _ _ q => q.elim) (fun _ _ q => q), own_keep h9 (fun k e => hb'.block k (h9.lt k e).2), h10, h11, h12⟩
theorem WS.any (h : WS w wx fb hb B NB Wd ex vw fin) : WS w wx fb hb B NB Wd ex vw false := by
  obtain ⟨A, Bp, L, P, z, H, rf, rh, la, le, h1, h2, h3, h4, h5, h6, h7, h8, h9, h10, h11, h12⟩ := h
  exact ⟨A, Bp, L, P, z, H, rf, rh, la, le, h1, h2, h3, h4, h5, h6, h7, h8, h9, h10, h11, fun q => by cases q⟩
theorem WS.more (h : WS w wx fb hb B NB Wd ex vw fin) {NB' : Nat} (hn : NB ≤ NB') : WS w wx fb hb B NB' Wd ex vw fin := by
  obtain ⟨A, Bp, L, P, z, H, rf, rh, la, le, h1, h2, h3, h4, h5, h6, h7, h8, h9, h10, h11, h12⟩ := h
  exact ⟨A, Bp, L, P, z, H, rf, rh, la, le, h1, h2, h3, h4, h5, h6, by omega, h8, h9, h10, h11, h12⟩
theorem WS.row (h : WS w wx fb hb B NB Wd ex vw fin) : wx.ownsRow B 29 25 vw Wd.length (pkRow (Wd.map (·.1))) := by
  obtain ⟨A, Bp, L, P, z, H, rf, rh, la, le, h1, h2, h3, h4, h5, h6, h7, h8, h9, h10, h11, h12⟩ := h
  exact h9
theorem ws_push (h : WS w wx fb hb B NB Wd [] vw fin) (p : Pk) (c : Cn) (hx : Right TT p c ∧ In w p c ∧ Small p c ∧ sz p c ≤ 200100) (v' : Value) (WA : World) (hA : Below wx.heap.size wx WA) (ho : w'.ownsRow B 29 25 v' (Wd.length + 1) (pkRow (Wd.map (·.1)) ++ (pkCells p).toList)) (hg : WA.grownBy w' vw.ownBlock) (hv : v'.ownBlock = vw.ownBlock ∨ v'.ownBlock = some WA.heap.size) : WS w w' fb hb B NB (Wd ++ [(p, c)]) [(p, c)] v' false := by
  obtain ⟨A, Bp, L, P, z, H, rf, rh, la, le, h1, h2, h3, h4, h5, h6, h7, h8, h9, h10, h11, h12⟩ := h.below hA
  have hc := ch_grown hg
  have hfb := h3.blk
  have hhb := h8.blk
  have wlt : ∀ k, vw.ownBlock = some k → k < WA.heap.size := fun k e => (h9.lt k e).2
  refine ⟨A, Bp, L, P, z, H, rf, rh, la, le, ?_, h2, ?_, h4, h5, h6, h7, ?_, ?_, ?_, ?_, fun q => by cases q⟩
  · rw [h1]; simp
  · refine h3.keep (hc.block _ h3.lt.1 (fun q => ?_)) (fun k e => hc.block _ (h3.lt.2 k e) (fun q => ?_))
    · obtain ⟨c1, hc1⟩ := hfb.1; obtain ⟨c2, hc2⟩ := own_blk h9 q; exact blk_ne hc1 hc2 (by decide) rfl
    · obtain ⟨c1, hc1⟩ := (hfb.2 k e).2; obtain ⟨c2, hc2⟩ := own_blk h9 q; exact blk_ne hc1 hc2 (by decide) rfl
  · refine h8.below _ hc (fun q => ?_) (fun k e q => h10 k q e) (fun b _ q => .inl q) (fun b hb' q => ?_)
    · obtain ⟨c1, hc1⟩ := hhb.1; obtain ⟨c2, hc2⟩ := own_blk h9 q; exact blk_ne hc1 hc2 (by decide) rfl
    · rcases q with q | q
      · rcases hv with e | e
        · exact .inl (e ▸ q)
        · rw [e] at q; cases q; omega
      · exact .inr q
  · rw [List.length_append, List.map_append]
    show w'.ownsRow B 29 25 v' (Wd.length + 1) (pkRow (Wd.map (·.1) ++ [p]))
    rw [pkRow_snoc]
    exact ho
  · intro k e q
    rcases hv with e' | e'
    · exact h10 k (e' ▸ e) q
    · rw [e'] at e; cases e
      obtain ⟨c1, hc1⟩ := (hhb.2 _ q).2
      have := lt_of_block hc1
      omega
  · intro x hx'
    rcases List.mem_append.1 hx' with hx' | hx'
    · exact h11 x hx'
    · simp at hx'; subst hx'; exact hx
theorem ws_put (h : WS w wx fb hb B NB Wd ex vw fin) (p : Pk) (c : Cn) (hex : ex = [(p, c)]) (l : Sl) (hl : By wx l (byteAt (encL p c))) (hln : l.n = (encL p c).length) (hbt : Byts (encL p c)) (hNB : NB ≤ 300000) (hlen : l.n ≤ 300000) (hB : B ≤ wx.heap.size) :
    Calls Tryz.prog 22 #[.pointer (some ⟨fb, 0, none⟩), .slice l.a l.n l.c] wx fun e w' => e = .returned (.tuple #[]) ∧ Hid (WS w w' fb hb B (NB + l.n) Wd [] vw false) ∧ Hid (Ch (fun k => k = fb ∨ B ≤ k) wx w') := by
  obtain ⟨A, Bp, L, P, z, H, rf, rh, la, le, h1, h2, h3, h4, h5, h6, h7, h8, h9, h10, h11, h12⟩ := h
  subst hex
  have hfb := h3.blk
  have hhb := h8.blk
  have hat := byteAt_at hbt
  refine (fs_put h3 l (byteAt (encL p c)) (cat z H (byteAt (encL p c))) hl (by omega) (by omega) hB (fun i hi => by simp [cat, hi]) (fun i hi => by unfold cat; rw [if_neg (by omega), Nat.add_sub_cancel_left])).mono ?_
  rintro e w' ⟨rfl, rf', hF, hc, hw⟩
  refine ⟨rfl, ⟨A, Bp ++ [(p, c)], L, P, _, H + l.n, rf', rh, la, le, ?_, h2, hF.out, ?_, ?_, cat_bd h6 (byteAt_bd hbt), by omega, ?_, ?_, h10, h11, fun q => by cases q⟩, hc.out.mono (fun j _ q => q.elim .inl (fun q => .inr (hfb.2 j q).1))⟩
  · rw [h1]; simp
  · rw [encs_app]
    refine at_app h4 h5.symm ?_
    simpa [encs] using hat
  · rw [encs_app, List.length_append, ← h5, hln]; simp [encs]
  · refine h8.below _ hc.out (fun q => ?_) (fun k e q => ?_) (fun b _ q => .inr (q.elim .inl (fun q => .inr (.inr (.inl q))))) (fun b hb' q => no_old hw.out (.inl rfl) hb' q)
    · obtain ⟨c1, hc1⟩ := hhb.1
      rcases q with q | q
      · obtain ⟨c2, hc2⟩ := hfb.1; exact blk_ne hc1 hc2 (by decide) q
      · obtain ⟨c2, hc2⟩ := (hfb.2 _ q).2; exact blk_ne hc1 hc2 (by decide) rfl
    · obtain ⟨c1, hc1⟩ := (hhb.2 k e).2
      rcases q with q | q
      · obtain ⟨c2, hc2⟩ := hfb.1; exact blk_ne hc1 hc2 (by decide) q
      · obtain ⟨c2, hc2⟩ := (hfb.2 _ q).2; exact blk_ne hc1 hc2 (by decide) rfl
  · refine own_keep h9 (fun k e => hc.out.block k (h9.lt k e).2 (fun q => ?_))
    obtain ⟨c1, hc1⟩ := own_blk h9 e
    rcases q with q | q
    · obtain ⟨c2, hc2⟩ := hfb.1; exact blk_ne hc1 hc2 (by decide) q
    · obtain ⟨c2, hc2⟩ := (hfb.2 _ q).2; exact blk_ne hc1 hc2 (by decide) rfl
theorem ws_hears (h : WS w wx fb hb B NB Wd [] vw fin) (hNB : NB ≤ 300000) (hB : B ≤ wx.heap.size) (hg : Gw wx) (h3' : 3 ≤ fb ∧ 3 ≤ hb ∧ 3 ≤ B) (hlen : Wd.length ≤ 200) :
    Calls Tryz.prog 23 #[.pointer (some ⟨hb, 0, none⟩), .pointer (some ⟨fb, 0, none⟩), .int .i64 (-1)] wx fun e w' => e = .returned (.tuple #[]) ∧ Hid (WS w w' fb hb B NB Wd [] vw true) ∧ Hid (Ch (fun k => k = fb ∨ k = hb ∨ B ≤ k) wx w') := by
  obtain ⟨A, Bp, L, P, z, H, rf, rh, la, le, h1, h2, h3, h4, h5, h6, h7, h8, h9, h10, h11, h12⟩ := h
  have hfb := h3.blk
  have hhb := h8.blk
  have hct : clampM topF = 268435455 := by decide
  obtain ⟨L2, hr, hbk⟩ := hr_whole topF Bp z (-1) (by decide) (fun x hx => by
    have := h11 x (by rw [h1]; simp [hx])
    exact ⟨this.1, by rw [hct]; have := this.2.2.2; omega⟩) h4
  rw [← h5] at hr
  have hl1 := congrArg List.length h1
  simp only [List.length_append, List.length_nil] at hl1
  have hb1 := h2.len
  have hb2 := hbk.len
  refine (hears_any (-1) L2 H (some .more) hr h3 h8 h6 hg (by omega) hB h3' (by decide) (by omega) (fun b q => (h9.lt b q).2)).mono ?_
  rintro e w' ⟨rfl, rf', rh', la', le', hE, hH', hc, w1, w2⟩
  obtain ⟨e1, e2, e3⟩ := hE
  refine ⟨rfl, ⟨A ++ Bp, [], L ++ L2, P + H, sh z H, H - H, rf', rh', la', le', by rw [h1]; simp, h2.app hbk, e1, fun i v e => by simp [encs] at e, by simp [encs], sh_bd h6 H, by omega, hH', ?_, ?_, h11, fun _ => ⟨rfl, e2, e3⟩⟩, hc.mono (fun j _ q => ?_)⟩
  · refine own_keep h9 (fun k e => hc.block k (h9.lt k e).2 (fun q => ?_))
    obtain ⟨c1, hc1⟩ := own_blk h9 e
    rcases q with q | q | q | q
    · obtain ⟨c2, hc2⟩ := hfb.1; exact blk_ne hc1 hc2 (by decide) q
    · obtain ⟨c2, hc2⟩ := hhb.1; exact blk_ne hc1 hc2 (by decide) q
    · obtain ⟨c2, hc2⟩ := (hfb.2 _ q).2; exact blk_ne hc1 hc2 (by decide) rfl
    · exact h10 k e q
  · intro k e q
    exact h10 k e (w2.old (h9.lt k e).2 q)
  · rcases q with q | q | q | q
    · exact .inl q
    · exact .inr (.inl q)
    · exact .inr (.inr (hfb.2 j q).1)
    · exact .inr (.inr (hhb.2 j q).1)
theorem ws_start (h1 : wx.heap[fb]? = some (.cells (frCells topF (.slice none 0 0) 0 0 0 0) 88 (0, 0))) (h2 : wx.heap[hb]? = some (.cells #[.slice none 0 0, .int .i64 0, .int .i64 0, .bool false] 57 (0, 0))) : WS w wx fb hb B 0 [] [] (.slice none 0 0) false :=
  ⟨[], [], [], 0, fun _ => 0, 0, none, none, 0, 0, rfl, trivial, ⟨.slice none 0 0, 0, fun _ => 0, 0, 0, 0, ⟨h1, World.ownsRow_nil _ _ _ _, Nat.le_refl _⟩, rfl, rfl, rfl, fun i hi => by omega, fun i => by simp, Int.le_refl _⟩, fun i v e => by simp [encs] at e, rfl, fun i => by simp, Nat.le_refl _, ⟨.slice none 0 0, [], h2, World.ownsRow_nil _ _ _ _, rfl, trivial⟩, World.ownsRow_nil _ _ _ _, (fun k e => by cases e), (fun x hx => by cases hx), (fun q => by cases q)⟩
end
end Go.Proofs.YtibihbclijpkjaaGreatDoor
namespace Go.Proofs.YtibihbclijpkjaaGreatDoor
open Go Go.RowKit
open Pkt (Pk Cn Sl In By Is Ss As pkCells Gd KindsAt Small Right TT sz fg ck ck_right small_of parts Fit Off sumN)
set_option linter.unusedSimpArgs false
set_option linter.unusedVariables false

theorem came_byw {w : World} {a0 : Option Addr} {l0 k0 : Nat} {Z : Nat → Int} (h : Came w a0 l0 k0 Z) (hp : Plain a0) : By w ⟨a0, l0, k0⟩ Z := by
  refine ⟨h.1, h.2.1, ?_⟩
  rcases h.2.2 with ⟨_, h0, _⟩ | ⟨ad, e, hc⟩
  · exact .inl h0
  · obtain ⟨g, off, rfl⟩ := hp ad e
    exact .inr ⟨g, off, e, fun i hi => by have := hc i hi; rw [plain_add] at this; exact this⟩
theorem sumN_mono (f : Nat → Nat) : ∀ {m n : Nat}, m ≤ n → sumN f m ≤ sumN f n
  | m, 0, h => by have : m = 0 := by omega
                  subst this; exact Nat.le_refl _
  | m, n + 1, h => by
    rcases Nat.lt_or_ge m (n + 1) with q | q
    · exact Nat.le_trans (sumN_mono f (show m ≤ n by omega)) (Nat.le_add_right _ _)
    · have : m = n + 1 := by omega
      subst this; exact Nat.le_refl _
theorem wpList_build29 {ops : Array Oper} {rest : List Oper} {Q : Exit → Act → World → Prop} {o : Oper} {a : Act} {w : World} (hgd : o.guard = none) (x : Operand) (ho : o.op = .buildSlice 55 1 #[(0, x)]) (q : Pk) (hx : a.eval x = .agg (pkCells q)) (h : wpList Tryz.prog ops Q rest (a.put o.dst (.slice (some ⟨w.heap.size, 0, none⟩) 1 1)) (w.alloc (.cells (pkCells q) 29))) : wpList Tryz.prog ops Q (o :: rest) a w := by
  obtain ⟨i0, hi, hz0, hz1, hz2⟩ := info_parts (P := Tryz.prog) (e := 29) (z := .agg (pkCells (blank 0))) (size := 25) (bytes := 328) (by kernel_rfl)
  refine wpList_buildSlice hgd 55 29 1 #[(0, x)] ho (pkCells q) i0 (.agg (pkCells (blank 0))) Tryz.underlying55 hi hz0 (by rw [hz1]; decide) (by rw [hz1]; decide) ?_ h
  rw [hz1]
  simp only [List.map_toArray, List.map_cons, List.map_nil, hx]
  kernel_rfl
theorem hs_conv {w w0 : World} {hb B : Nat} {rh : Option Nat} {no : Nat → Prop} {L A : List (Pk × Cn)} {la le : Int} (h : HS w hb B rh no L la le) (hb' : BkL A L) (hi : ∀ x ∈ A, In w0 x.1 x.2) : HS w hb B rh no A la le := by
  obtain ⟨v, qs, h1, h2, h3, h4⟩ := h
  exact ⟨v, qs, h1, h2, h3, ps_back h4 hb' hi⟩
set_option maxRecDepth 100000 in
set_option maxHeartbeats 8000000 in
theorem whole_any (s : Sl) (ps : Nat → Pk) (cs : Nat → Cn) (step : Int) (w : World) (hP : Pl w s ps cs) (hs : s.n ≤ 9223372036854775807) (hg : Gw w) :
    Calls Tryz.prog 7 #[.slice s.a s.n s.c, .int .i64 step] w fun e w' => e = .returned (.bool true) ∧ Below w.heap.size w w' := by
  have HP : Hid (Pl w s ps cs) := hP
  have HG : Hid (Gw w) := hg
  have HS0 : Hid (s.n ≤ 9223372036854775807) := hs
  clear hP hg hs
  obtain ⟨ii, hi29, hi25, hibt, z29, hiz, hizs⟩ := f29_bytes
  go_enter Tryz.func7, Tryz.ntmps7
  go_wp2_with fail
  go_must (go_at_call 20)
  refine (fknown_any w HG.out).mono ?_
  rintro e w1 ⟨rfl, hb1⟩
  have B1 : Hid (Below w.heap.size w w1) := hb1
  clear hb1
  go_wp2_with fail
  go_must (go_at_call 26)
  refine (Pkt.many_any 100000 w1).mono ?_
  rintro e w2 ⟨rfl, hw2⟩
  have CB2 : Hid (Pkt.Cb w2 w1.heap.size 100000) := by show Pkt.Cb _ _ _; rw [hw2]; exact heap_alloc_new w1 _
  have B2 : Hid (Below w.heap.size w w2) := by show Below _ _ _; rw [hw2]; exact below_on B1.out ((Below.refl _ _).alloc (Nat.le_refl _) _)
  clear hw2
  go_wp2_with fail
  go_must (go_at_call 27)
  refine (plist_any HP.out B2.out w1.heap.size B1.out.size 100000 (by decide) (by decide) CB2.out HS0.out).mono ?_
  rintro e w3 ⟨y, rfl, hc3, hy3⟩
  have B3 : Hid (Below w.heap.size w w3) := below_cg B2.out hc3 B1.out.size
  have CB3 : Hid (Pkt.Cb w3 w1.heap.size y) := hc3.blk
  have SUM : Hid (0 ≤ y → y + (sumN (fun i => parts (ps i) (cs i)) s.n : Nat) = 100000) := hy3
  clear hc3 hy3
  go_wp2_with fail
  go_must (go_at_call 28)
  refine (Pkt.ok_any _ w1.heap.size y CB3.out).mono ?_
  rintro e w3' ⟨rfl, hw3⟩
  obtain rfl := hw3.symm
  clear hw3
  by_cases hy : 0 ≤ y
  case neg =>
    have hyd : decide (0 ≤ y) = false := decide_eq_false hy
    rw [hyd]
    go_wp2_with fail
    go_ret
    exact ⟨rfl, B3.out⟩
  rw [decide_eq_true hy]
  by_cases hn : 200 < s.n
  · have q0 : (200 : Int) < (s.n : Int) := by omega
    go_wp2_with fail
    go_ret
    exact ⟨rfl, B3.out⟩
  have q0 : ¬ (200 : Int) < (s.n : Int) := by omega
  have HN : Hid (s.n ≤ 200 ∧ sumN (fun i => parts (ps i) (cs i)) s.n ≤ 100000) := ⟨by omega, by have := SUM.out hy; omega⟩
  clear hn hy
  go_wp2_with fail
  go_must (go_at_call 21)
  refine (new_any 268435455 w3).mono ?_
  rintro e w4 ⟨rfl, hw4⟩
  obtain ⟨w5, hw5⟩ : ∃ W, W = w4.alloc (.cells #[.slice none 0 0, .int .i64 0, .int .i64 0, .bool false] 57) := ⟨_, rfl⟩
  have hs4 : w4.heap.size = w3.heap.size + 1 := by rw [hw4]; simp
  have hs5 : w5.heap.size = w3.heap.size + 2 := by rw [hw5]; simp [hs4]
  have f5 : w5.heap[w3.heap.size]? = some (.cells (frCells topF (.slice none 0 0) 0 0 0 0) 88 (0, 0)) := by
    rw [hw5]
    refine (((Below.refl w4.heap.size w4).alloc (Nat.le_refl _) _).block _ (by omega)).trans ?_
    rw [hw4]; exact heap_alloc_new w3 _
  have x5 : w5.heap[w4.heap.size]? = some (.cells #[.slice none 0 0, .int .i64 0, .int .i64 0, .bool false] 57 (0, 0)) := by rw [hw5]; exact heap_alloc_new w4 _
  have B5 : Hid (Below w.heap.size w w5) := by
    show Below _ _ _
    refine below_on B3.out ?_
    rw [hw5]
    refine Below.alloc ?_ (by omega) _
    rw [hw4]
    exact (Below.refl _ _).alloc (Nat.le_refl _) _
  have S5 : Hid (w4.heap.size = w3.heap.size + 1 ∧ w5.heap.size = w3.heap.size + 2 ∧ 3 ≤ w3.heap.size ∧ w.heap.size ≤ w3.heap.size) := ⟨hs4, hs5, (HG.out.below B3.out).three, B3.out.size⟩
  have WS5 : Hid (WS w w5 w3.heap.size w4.heap.size w5.heap.size 0 [] [] (.slice none 0 0) false) := ws_start f5 x5
  clear f5 x5 hs4 hs5 hw4
  go_upto_region 12 with fail
  rw [← hw5]
  clear hw5
  go_wp2_with fail
  go_loopg [7, 9] s.n (fun gg s7 s9 wx => ∃ (i : Nat) (Wd : List (Pk × Cn)) (va : Option Addr) (vn vc : Nat), s7 = .slice va vn vc ∧ s9 = .int .i64 i ∧ i + gg = s.n ∧ Hid (WS w wx w3.heap.size w4.heap.size w5.heap.size (2 * sumN (fun i => parts (ps i) (cs i)) i + 25 * i) Wd [] (.slice va vn vc) false) ∧ Hid (Below w.heap.size w wx ∧ w5.heap.size ≤ wx.heap.size) ∧ Hid (Wd.length ≤ i))
  case atStart => exact ⟨0, [], none, 0, 0, rfl, rfl, by omega, by simpa [sumN] using WS5, ⟨B5.out, Nat.le_refl _⟩, Nat.le_refl _⟩
  case round =>
    obtain ⟨i, Wd, va, vn, vc, h7, h9, hi, WR, BR, LR⟩ := hrel
    subst h7 h9
    have GR : Hid (Gw wr) := HG.out.below BR.out.1
    by_cases hlt : i < s.n
    · have p0 : (i : Int) < (s.n : Int) := by omega
      obtain ⟨b, off, ea, hr, hin, hfit⟩ := HP.out.at BR.out.1 i hlt
      obtain ⟨_, _, _, _, hin0, _⟩ := HP.out.at (Below.refl _ _) i hlt
      have hpt : parts (ps i) (cs i) + sumN (fun i => parts (ps i) (cs i)) i ≤ 100000 := by
        have h1 := sumN_mono (fun i => parts (ps i) (cs i)) (show i + 1 ≤ s.n by omega)
        have h2 : sumN (fun i => parts (ps i) (cs i)) (i + 1) = sumN (fun i => parts (ps i) (cs i)) i + parts (ps i) (cs i) := rfl
        have := HN.out
        omega
      have hsm : Small (ps i) (cs i) := small_of (by omega)
      have HI : Hid (i < s.n ∧ s.n ≤ 200 ∧ parts (ps i) (cs i) + sumN (fun i => parts (ps i) (cs i)) i ≤ 100000 ∧ sumN (fun i => parts (ps i) (cs i)) (i + 1) = sumN (fun i => parts (ps i) (cs i)) i + parts (ps i) (cs i)) := ⟨hlt, HN.out.1, hpt, rfl⟩
      have HR : Hid (∀ wq, Below w.heap.size w wq → wq.rangeAt b (off + i * 25) (pkCells (ps i)).toList) := fun wq hq => by
        obtain ⟨b', off', e', h', _⟩ := HP.out.at hq i hlt
        rw [ea] at e'; injection e' with e'; injection e' with e1 e2; subst e1 e2; exact h'
      have HA : Hid (s.a = some ⟨b, off, none⟩) := ea
      have HIN : Hid (In wr (ps i) (cs i) ∧ In w (ps i) (cs i) ∧ Small (ps i) (cs i)) := ⟨hin, hin0, hsm⟩
      have hwi : IntKind.i64.wrap ((i : Int) + 1) = ((i + 1 : Nat) : Int) := by rw [IntKind.wrap_i64]; have := HI.out; omega
      have r3 : (0 : Int) ≤ (i : Int) := by omega
      clear hr hin hin0 hfit hpt hsm
      rw [ea]
      by_cases hck : ck TT (ps i) (cs i) = 0
      · have hR : Right TT (ps i) (cs i) := (ck_right TT _ _).1 hck
        have hlin := enc_lin hR
        have HRt : Hid (Right TT (ps i) (cs i) ∧ sz (ps i) (cs i) ≤ 2 * parts (ps i) (cs i) + 20) := ⟨hR, hlin⟩
        have EN : Hid (Calls Tryz.prog 11 #[.agg (pkCells (ps i))] wr fun e w' => ∃ v, e = .returned (.tuple #[v, .int .i64 0]) ∧ w'.ownsRow wr.heap.size 5 1 v (1 + kn (sz (ps i) (cs i)) + sz (ps i) (cs i)) (encL (ps i) (cs i)) ∧ v ≠ .slice none 0 0 ∧ Below wr.heap.size wr w') := encode_right (ps i) (cs i) wr GR.out.1 HIN.out.1 HIN.out.2.2 hR (by have := HI.out; omega)
        clear hR hlin hck
        go_wp2_with (first | (refine wpList_load_mid rfl 29 _ rfl b (off + i * 25) rfl (pkCells (ps i)).toList _ (HR.out _ BR.out.1) Tryz.underlying29 rfl (by rw [Array.length_toList, pk_size]; kernel_rfl) ?_) | fail)
        go_must (go_at_call 11)
        refine EN.out.mono ?_
        rintro e w6 ⟨v, rfl, ho6, hne6, hb6⟩
        obtain ⟨g6, cap6, cur6, hv6, _, hg6, _⟩ := ho6.2.resolve_left (fun q => hne6 q.1)
        have hlen6 : 1 + kn (sz (ps i) (cs i)) + sz (ps i) (cs i) = (encL (ps i) (cs i)).length := (enc_len HRt.out.1).symm
        have BT : Hid (Byts (encL (ps i) (cs i))) := byts_enc HRt.out.1 HIN.out.1.wP.2.1 HIN.out.1.pass.2.1 HIN.out.1.mP.2.1
        obtain ⟨M, hM⟩ : ∃ M, 1 + kn (sz (ps i) (cs i)) + sz (ps i) (cs i) = M := ⟨_, rfl⟩
        rw [hM] at hlen6 ho6 hv6
        subst hv6
        have BY6 : Hid (By w6 ⟨some ⟨g6, 0, none⟩, M, cap6⟩ (byteAt (encL (ps i) (cs i)))) := by
          refine came_byw (came_own (base := wr.heap.size) ?_ (byteAt_bd BT.out)) (fun ad e => by cases e; exact ⟨_, _, rfl⟩)
          rw [hlen6, ← byteAt_cells BT.out, ← hlen6]
          exact ho6
        have MM : Hid (M = (encL (ps i) (cs i)).length ∧ M ≤ 2 * parts (ps i) (cs i) + 25) := ⟨hlen6, by have := kn_bd (sz (ps i) (cs i)); have := HRt.out.2; omega⟩
        have T6 : Hid (w6.heap[g6]? = some (.cells cur6 5 (0, 0))) := hg6
        have B6 : Hid (Below wr.heap.size wr w6) := hb6
        have BW6 : Hid (Below w.heap.size w w6) := below_on BR.out.1 hb6
        have WS6 : Hid (WS w w6 w3.heap.size w4.heap.size w5.heap.size (2 * sumN (fun i => parts (ps i) (cs i)) i + 25 * i) Wd [] (.slice va vn vc) false) := WR.out.below hb6
        clear ho6 hne6 hb6 hg6 hlen6 hM
        have BA : Hid (Below w6.heap.size w6 (w6.alloc (.cells (pkCells (ps i)) 29))) := (Below.refl _ _).alloc (Nat.le_refl _) _
        have OA : Hid ((w6.alloc (.cells (pkCells (ps i)) 29)).ownsRow w5.heap.size 29 25 (.slice va vn vc) Wd.length (pkRow (Wd.map (·.1)))) := (WS6.out.below BA.out).row
        have ZA : Hid ((w6.alloc (.cells (pkCells (ps i)) 29)).heap[w6.heap.size]? = some (.cells (pkCells (ps i)) 29 (0, 0))) := heap_alloc_new w6 _
        go_wp2_with (first | (refine wpList_load_mid rfl 29 _ rfl b (off + i * 25) rfl (pkCells (ps i)).toList _ (HR.out _ BW6.out) Tryz.underlying29 rfl (by rw [Array.length_toList, pk_size]; kernel_rfl) ?_) | (refine wpList_build29 rfl _ rfl (ps i) rfl ?_) | (at_builtin; refine wpList_push rfl (.tmp 47) (.tmp 52) 55 rfl w5.heap.size 29 ii z29 25 ii.bytes Tryz.underlying55 hi29 hiz hi25 rfl hizs (by decide) (.slice va vn vc) Wd.length (pkRow (Wd.map (·.1))) rfl OA.out ⟨w6.heap.size, 0, none⟩ 1 1 (pkCells (ps i)).toList rfl (by decide) rfl (fun j u hu => by rw [plain_add, Nat.zero_add]; exact box_cells ZA.out j u (by simpa using hu)) (pk_ones (ps i)) (by have := LR.out; have := HI.out; unfold maxLen; omega) (by have := LR.out; have := HI.out; have : (Wd.length + 1) * ii.bytes ≤ 201 * 100000 := Nat.mul_le_mul (by omega) hibt; omega) (by have := BR.out.2; have := B6.out.size; have := BA.out.size; omega) ?_) | fail)
        intro v7 w7 ho hgr hne hw
        have WS7 : Hid (WS w w7 w3.heap.size w4.heap.size w5.heap.size (2 * sumN (fun i => parts (ps i) (cs i)) i + 25 * i) (Wd ++ [(ps i, cs i)]) [(ps i, cs i)] v7 false) := ws_push WS6.out (ps i) (cs i) ⟨HRt.out.1, HIN.out.2.1, HIN.out.2.2, by have := HRt.out.2; have := HI.out; omega⟩ v7 _ BA.out ho hgr (by rw [World.size_alloc]; exact hw)
        have S7 : Hid (w5.heap.size ≤ w7.heap.size) := by have := BR.out.2; have := B6.out.size; have := BA.out.size; have := hgr.size; show _ ≤ _; omega
        have BW7 : Hid (Below w.heap.size w w7) := below_ch (below_on BW6.out BA.out) (ch_grown hgr) (fun k q => by have := (OA.out.lt k q).1; have := S5.out; omega)
        have BY7 : Hid (By w7 ⟨some ⟨g6, 0, none⟩, M, cap6⟩ (byteAt (encL (ps i) (cs i)))) := by
          refine By.congr (BY6.out.below BA.out) (fun b' off' _ e => ?_)
          have e' : b' = g6 := by injection e with e; injection e with e1 e2; exact e1.symm
          subst e'
          have t1 := (BA.out.block _ (lt_of_block T6.out)).trans T6.out
          exact hgr.block _ (lt_of_block t1) (fun q => by obtain ⟨c2, hc2⟩ := own_blk OA.out q.symm; exact blk_ne t1 hc2 (by decide) rfl)
        obtain ⟨va7, vn7, vc7, hv7⟩ : ∃ a n c, v7 = .slice a n c := by
          rcases ho.2 with ⟨h1, _⟩ | ⟨g, cp, _, h1, _⟩
          · exact ⟨_, _, _, h1⟩
          · exact ⟨_, _, _, h1⟩
        clear ho hgr hne hw
        subst hv7
        go_wp2_with fail
        go_must (go_at_call 22)
        refine (ws_put WS7.out (ps i) (cs i) rfl ⟨some ⟨g6, 0, none⟩, M, cap6⟩ BY7.out MM.out.1 BT.out (by have := HI.out; omega) (by show M ≤ 300000; have := MM.out; have := HI.out; omega) S7.out).mono ?_
        rintro e w8 ⟨rfl, WS8', C8⟩
        have WS8 : Hid (WS w w8 w3.heap.size w4.heap.size w5.heap.size (2 * sumN (fun i => parts (ps i) (cs i)) (i + 1) + 25 * (i + 1)) (Wd ++ [(ps i, cs i)]) [] (.slice va7 vn7 vc7) false) := WS8'.out.more (by have := HI.out; have := MM.out; show _ + M ≤ _; omega)
        have BW8 : Hid (Below w.heap.size w w8) := below_ch BW7.out C8.out (fun k q => by have := S5.out; omega)
        have S8 : Hid (w5.heap.size ≤ w8.heap.size) := Nat.le_trans S7.out C8.out.size
        have L8 : Hid ((Wd ++ [(ps i, cs i)]).length ≤ i + 1) := by have := LR.out; show _ ≤ _; simp; omega
        clear WS8' C8
        by_cases hst : 0 < step
        · have s1 : (step == 0) = false := by simp; omega
          obtain ⟨x, hx⟩ : ∃ x, Int.tmod (i : Int) step = x := ⟨_, rfl⟩
          by_cases hx0 : x = 0
          · subst hx0
            go_wp2_with fail
            go_must (go_at_call 23)
            refine (ws_hears WS8.out (by have := HI.out; omega) S8.out (HG.out.below BW8.out) (by have := S5.out; exact ⟨by omega, by omega, by omega⟩) (by have := L8.out; have := HI.out; omega)).mono ?_
            rintro e w9 ⟨rfl, WS9, C9⟩
            have BW9 : Hid (Below w.heap.size w w9 ∧ w5.heap.size ≤ w9.heap.size) := ⟨below_ch BW8.out C9.out (fun k q => by have := S5.out; omega), Nat.le_trans S8.out C9.out.size⟩
            go_wp2_with fail
            rw [← HA.out]
            go_roundg (s.n - (i + 1))
            all_goals first | (have := HI.out; omega) | exact ⟨i + 1, Wd ++ [(ps i, cs i)], va7, vn7, vc7, rfl, rfl, by have := HI.out; omega, WS9.out.any, BW9, L8⟩ | exact ⟨i + 1, Wd ++ [(ps i, cs i)], va7, vn7, vc7, rfl, by simp, by have := HI.out; omega, WS9.out.any, BW9, L8⟩
          · have s2 : (x == 0) = false := by simpa using hx0
            go_wp2_with fail
            rw [← HA.out]
            go_roundg (s.n - (i + 1))
            all_goals first | (have := HI.out; omega) | exact ⟨i + 1, Wd ++ [(ps i, cs i)], va7, vn7, vc7, rfl, rfl, by have := HI.out; omega, WS8, ⟨BW8.out, S8.out⟩, L8⟩ | exact ⟨i + 1, Wd ++ [(ps i, cs i)], va7, vn7, vc7, rfl, by simp, by have := HI.out; omega, WS8, ⟨BW8.out, S8.out⟩, L8⟩
        · go_wp2_with fail
          rw [← HA.out]
          go_roundg (s.n - (i + 1))
          all_goals first | (have := HI.out; omega) | exact ⟨i + 1, Wd ++ [(ps i, cs i)], va7, vn7, vc7, rfl, rfl, by have := HI.out; omega, WS8, ⟨BW8.out, S8.out⟩, L8⟩ | exact ⟨i + 1, Wd ++ [(ps i, cs i)], va7, vn7, vc7, rfl, by simp, by have := HI.out; omega, WS8, ⟨BW8.out, S8.out⟩, L8⟩
      · have EN : Hid (Calls Tryz.prog 11 #[.agg (pkCells (ps i))] wr fun e w' => e = .returned (.tuple #[.slice none 0 0, .int .i64 (ck TT (ps i) (cs i))]) ∧ Below wr.heap.size wr w') := encode_wrong (ps i) (cs i) wr GR.out.1 HIN.out.1 HIN.out.2.2 hck
        obtain ⟨kk, hkk⟩ : ∃ kk : Int, ((ck TT (ps i) (cs i) : Nat) : Int) = kk := ⟨_, rfl⟩
        rw [hkk] at EN
        have k1 : (kk == 0) = false := by simp; omega
        have k2 : (kk != 0) = true := by simp; omega
        clear hkk hck
        go_wp2_with (first | (refine wpList_load_mid rfl 29 _ rfl b (off + i * 25) rfl (pkCells (ps i)).toList _ (HR.out _ BR.out.1) Tryz.underlying29 rfl (by rw [Array.length_toList, pk_size]; kernel_rfl) ?_) | fail)
        go_must (go_at_call 11)
        refine EN.out.mono ?_
        rintro e w6 ⟨rfl, hb6⟩
        have WS6 : Hid (WS w w6 w3.heap.size w4.heap.size w5.heap.size (2 * sumN (fun i => parts (ps i) (cs i)) (i + 1) + 25 * (i + 1)) Wd [] (.slice va vn vc) false) := (WR.out.below hb6).more (by have := HI.out; omega)
        have BW6 : Hid (Below w.heap.size w w6 ∧ w5.heap.size ≤ w6.heap.size) := ⟨below_on BR.out.1 hb6, Nat.le_trans BR.out.2 hb6.size⟩
        have L6 : Hid (Wd.length ≤ i + 1) := by have := LR.out; show _ ≤ _; omega
        clear hb6
        go_wp2_with fail
        rw [← HA.out]
        go_roundg (s.n - (i + 1))
        all_goals first | (have := HI.out; omega) | exact ⟨i + 1, Wd, va, vn, vc, rfl, rfl, by have := HI.out; omega, WS6, BW6, L6⟩ | exact ⟨i + 1, Wd, va, vn, vc, rfl, by simp, by have := HI.out; omega, WS6, BW6, L6⟩
    · have p0 : ¬ (i : Int) < (s.n : Int) := by omega
      have hin : i = s.n := by omega
      have NB9 : Hid (2 * sumN (fun i => parts (ps i) (cs i)) i + 25 * i ≤ 300000 ∧ Wd.length ≤ 200) := by have := HN.out; have := LR.out; rw [hin]; exact ⟨by omega, by omega⟩
      go_wp2_with fail
      go_must (go_at_call 23)
      refine (ws_hears WR.out NB9.out.1 BR.out.2 GR.out (by have := S5.out; exact ⟨by omega, by omega, by omega⟩) NB9.out.2).mono ?_
      rintro e w6 ⟨rfl, WS6, C6⟩
      have BW6 : Hid (Below w.heap.size w w6) := below_ch BR.out.1 C6.out (fun k q => by have := S5.out; omega)
      obtain ⟨w7, hw7⟩ : ∃ W, W = w6.alloc (.cells #[.slice va vn vc, .int .i64 0, .int .i64 0, .bool false] 57) := ⟨_, rfl⟩
      have B7 : Hid (Below w6.heap.size w6 w7) := by show Below _ _ _; rw [hw7]; exact (Below.refl _ _).alloc (Nat.le_refl _) _
      have Z7 : Hid (w7.heap[w6.heap.size]? = some (.cells #[.slice va vn vc, .int .i64 0, .int .i64 0, .bool false] 57 (0, 0))) := by show _ = _; rw [hw7]; exact heap_alloc_new w6 _
      have W7 := WS6.out.below B7.out
      obtain ⟨A, Bp, L, P, z, H, rf, rh, la, le, h1, h2, h3, h4, h5, h6, h7, h8, h9, h10, h11, h12⟩ := W7
      obtain ⟨hBp, hla, hle⟩ := h12 rfl
      subst hBp hla hle
      have hA : Wd = A := by rw [h1]; simp
      have hH0 : H = 0 := by rw [h5]; rfl
      have SM : Hid (Calls Tryz.prog 25 #[.pointer (some ⟨w4.heap.size, 0, none⟩), .pointer (some ⟨w6.heap.size, 0, none⟩)] w7 fun e w' => e = .returned (.bool true) ∧ Below w7.heap.size w7 w') := by
        refine same_any (L := Wd) (hs_conv (w0 := w) h8 (hA ▸ h2) (fun x hx => (h11 x hx).2.1)) (B2 := w5.heap.size) (ry := (Value.slice va vn vc).ownBlock) (ny := fun _ => False) ⟨.slice va vn vc, Wd.map (·.1), Z7.out, ?_, rfl, ps_own (fun x hx => (h11 x hx).2.1.below (below_on BW6.out B7.out))⟩ (fun x hx => (h11 x hx).2.2.1) (by have := NB9.out; omega)
        rw [List.length_map]; exact h9
      have F7 : Hid (FS w7 w3.heap.size topF w5.heap.size rf P z 0) := hH0 ▸ h3
      clear h1 h2 h3 h4 h5 h6 h7 h8 h9 h10 h11 h12 hA hH0
      go_wp2_with fail
      go_must (go_at_call 25)
      rw [← hw7]
      clear hw7
      refine SM.out.mono ?_
      rintro e w8 ⟨rfl, hb8⟩
      have F8 : Hid (FS w8 w3.heap.size topF w5.heap.size rf P z 0) := F7.out.below hb8
      have BW8 : Hid (Below w.heap.size w w8) := below_on (below_on BW6.out B7.out) hb8
      clear hb8
      go_wp2_with fail
      go_must (go_at_call 24)
      refine (fs_held F8.out).mono ?_
      rintro e w9 ⟨rfl, hb9⟩
      have BW9 : Hid (Below w.heap.size w w9) := below_on BW8.out hb9
      clear hb9
      go_wp2_with fail
      go_ret
      exact ⟨rfl, BW9.out⟩
end Go.Proofs.YtibihbclijpkjaaGreatDoor
