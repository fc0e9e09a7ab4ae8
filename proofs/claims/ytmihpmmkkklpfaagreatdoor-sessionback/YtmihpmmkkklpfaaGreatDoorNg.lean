import Derived.Test.YtmihpmmkkklpfaaGreatDoorNd
import Derived.Test.YtmihpmmkkklpfaaGreatDoorNf
namespace Go.Proofs.YtmihpmmkkklpfaaGreatDoor
open Go Go.RowKit
set_option linter.unusedSimpArgs false
set_option linter.unusedVariables false
/-! ### A set of numbers in memory -/
theorem fW_set (W : Nat → Nat) (k0 x : Nat) (hx : x ≠ 0) (k : Int) : fW (setW W k0 x) k = setF (fW W) (k0 : Int) (some (.int .u64 (x : Int))) k := by
  unfold fW setF setW
  by_cases e : k = (k0 : Int)
  · subst e
    simp [hx]
  · by_cases h0 : 0 ≤ k
    · have : k.toNat ≠ k0 := by omega
      simp [e, this]
    · simp [e, h0]
theorem fW_zero (W : Nat → Nat) (k0 : Nat) (k : Int) : fW (setW W k0 0) k = setF (fW W) (k0 : Int) none k := by
  unfold fW setF setW
  by_cases e : k = (k0 : Int)
  · subst e
    simp
  · by_cases h0 : 0 ≤ k
    · have : k.toNat ≠ k0 := by omega
      simp [e, this]
    · simp [e, h0]
theorem fW_none {W : Nat → Nat} {k0 : Nat} (h : fW W (k0 : Int) = none) : W k0 = 0 := by
  unfold fW at h
  by_cases e : W k0 = 0
  · exact e
  · simp [e] at h
def NT (w : World) (mv : Value) (T : Nat → Bool) (N : Nat) : Prop := ∃ W, NS w mv W N ∧ WB W T
theorem NT.keep {w w' : World} {mv : Value} {T : Nat → Bool} {N : Nat} (h : NT w mv T N) (hs : ∀ b, mv = .map (some b) → w'.heap[b]? = w.heap[b]?) : NT w' mv T N := by
  obtain ⟨W, ⟨n, hn, h⟩, hw⟩ := h
  exact ⟨W, ⟨n, hn, h.keep hs⟩, hw⟩
theorem NT.block {w : World} {mv : Value} {T : Nat → Bool} {N : Nat} (h : NT w mv T N) {b : Nat} (hb : mv = .map (some b)) : ∃ es clock, w.heap[b]? = some (.map es clock) := by
  obtain ⟨W, ⟨n, hn, h⟩, hw⟩ := h
  exact h.block hb
theorem NT.nil (w : World) : NT w (.map none) (fun _ => false) 0 := by
  refine ⟨fun _ => 0, ⟨0, Nat.le_refl _, (MI.nil w).congr (fun k _ => by simp [fW])⟩, fun k => ⟨by show 0 < _; omega, fun i _ => by simp⟩⟩
theorem NT.mk {w : World} {mv : Value} {T : Nat → Bool} {N : Nat} (h : NT w mv T N) : mv = .map none ∨ ∃ mb, mv = .map (some mb) := by
  obtain ⟨W, ⟨n, hn, h⟩, hw⟩ := h
  exact h.mk
/-- What a step of a window may change: its own block and the block of one of its maps. -/
def Of2 (nb : Nat) (mv : Value) (j : Nat) : Prop := j = nb ∨ mv = .map (some j)
theorem has_any {w : World} {nb i : Nat} {mv : Value} {T : Nat → Bool} {N : Nat} (h : NT w mv T N) (hc : w.cell? ⟨nb, i, none⟩ = some mv) (id : Int) (hid : okI id) :
    Calls Tryz.prog 90 #[.pointer (some ⟨nb, i, none⟩), .int .i64 id] w fun e w' => e = .returned (.bool (decide (1 ≤ id ∧ id ≤ 65535) && T id.toNat)) ∧ ∃ m, w' = w.drewN m := by
  obtain ⟨W, hN, hw⟩ := h
  by_cases hr : 1 ≤ id ∧ id ≤ 65535
  · obtain ⟨q, rfl⟩ : ∃ q : Nat, id = (q : Int) := ⟨id.toNat, by omega⟩
    have hl : ∀ m, (Instr.lookup 97 mv (.int .i64 ((q : Int) / 64)) false).run Tryz.prog (w.drewN m) = .ok (.int .u64 (W (q / 64))) (w.drewN m) := fun m => by
      have hN' : NS (w.drewN m) mv W N := by
        obtain ⟨n, hn, h⟩ := hN
        exact ⟨n, hn, h.keep (fun b _ => by simp)⟩
      exact hN'.look (q / 64) (by omega)
    refine (has_walk nb i q mv (W (q / 64)) w (by omega) (by omega) hc (hw _).1 hl).mono ?_
    rintro e w' ⟨rfl, hm⟩
    refine ⟨?_, hm⟩
    have e1 : decide (W (q / 64) &&& bt q ≠ 0) = T q := by
      have := wb_has hw q
      rw [Bool.eq_iff_iff, decide_eq_true_iff]
      exact this
    rw [e1]
    have e2 : decide (1 ≤ (q : Int) ∧ (q : Int) ≤ 65535) = true := decide_eq_true hr
    rw [e2]
    simp
  · have e2 : decide (1 ≤ id ∧ id ≤ 65535) = false := decide_eq_false hr
    rw [e2]
    refine (has_out nb i id mv w hr).mono ?_
    rintro e w' ⟨rfl, hm⟩
    exact ⟨by simp, hm⟩
theorem put_any {w : World} {nb i t : Nat} {cs : Array Value} {mv : Value} {T : Nat → Bool} {N : Nat} (h : NT w mv T N) (hb : w.heap[nb]? = some (.cells cs t (0, 0))) (hi : cs[i]? = some mv) (id : Nat) (hid : id ≤ 65535) (hN : N < 1000000) :
    Calls Tryz.prog 92 #[.pointer (some ⟨nb, i, none⟩), .int .i64 id] w fun e w' => e = .returned (.tuple #[]) ∧ ∃ mb, (mv = .map (some mb) ∨ mv = .map none ∧ mb = w.heap.size) ∧ NT w' (.map (some mb)) (setT T id true) (N + 1) ∧ w'.heap[nb]? = some (.cells (cs.setIfInBounds i (.map (some mb))) t (0, 0)) ∧ Ch (Of2 nb mv) w w' := by
  obtain ⟨W, ⟨n, hn, hM⟩, hw⟩ := h
  have hnb : nb < w.heap.size := (Array.getElem?_eq_some_iff.1 hb).1
  have hdiv : ((id : Int) / 64) = ((id / 64 : Nat) : Int) := by omega
  have hok : okI ((id / 64 : Nat) : Int) := okI_nat _ (by omega)
  have hWn : WB (setW W (id / 64) (W (id / 64) ||| bt id)) (setT T id true) := wb_put hw id
  have hfn : ∀ k, okI k → fW (setW W (id / 64) (W (id / 64) ||| bt id)) k = setF (fW W) ((id / 64 : Nat) : Int) (some (.int .u64 ((W (id / 64) ||| bt id : Nat) : Int))) k := by
    intro k hk
    refine fW_set W (id / 64) _ ?_ k
    have := bt_pos id
    have h2 : bt id ≤ W (id / 64) ||| bt id := Nat.right_le_or
    omega
  rcases hM.mk with rfl | ⟨mb, rfl⟩
  · -- NO MAP YET
    have hn0 : n = 0 := by
      rcases hM with ⟨-, h0, -⟩ | ⟨mb, D, h1, -⟩
      · exact h0
      · cases h1
    subst hn0
    have hW0 : W (id / 64) = 0 := fW_none (hM.zero hok)
    have w1 : MI ((w.setCell ⟨nb, i, none⟩ (.map (some w.heap.size))).alloc (.map #[] 0)).drew (.map (some w.heap.size)) 0 (fun _ => none) := by
      have := MI.made (w.setCell ⟨nb, i, none⟩ (.map (some w.heap.size)))
      rw [show (w.setCell ⟨nb, i, none⟩ (.map (some w.heap.size))).heap.size = w.heap.size by simp] at this
      exact this.keep (fun b _ => rfl)
    obtain ⟨w2, hrun, hM2, hch⟩ := w1.put Tryz.underlying97 hok (.int .u64 ((bt id : Nat) : Int)) (by unfold maxLen; omega)
    have hl := w1.look Tryz.underlying97 zero101 hok
    refine (put_nil nb i id hid w w2 (box_cells hb i _ hi) (box_frozen hb i) hnb (by rw [hdiv]; simpa using hl) (by rw [hdiv]; exact hrun)).mono ?_
    rintro e w' ⟨rfl, rfl⟩
    have hb1 : ((w.setCell ⟨nb, i, none⟩ (.map (some w.heap.size))).alloc (.map #[] 0)).drew.heap[nb]? = some (.cells (cs.setIfInBounds i (.map (some w.heap.size))) t (0, 0)) := by
      have h1 := heap_set (k := i) hb (.map (some w.heap.size))
      show ((w.setCell ⟨nb, i, none⟩ (.map (some w.heap.size))).alloc (.map #[] 0)).heap[nb]? = _
      exact ((ch_alloc (fun _ => False) _ _).block nb (by simpa using hnb) (fun q => q)).trans h1
    refine ⟨rfl, w.heap.size, .inr ⟨rfl, rfl⟩, ⟨_, ⟨1, by omega, ?_⟩, hWn⟩, ?_, ?_⟩
    · have := hM2.congr (g := fW (setW W (id / 64) (W (id / 64) ||| bt id))) (fun k hk => by
        rw [hfn k hk]
        unfold setF
        by_cases e : k = ((id / 64 : Nat) : Int)
        · rw [if_pos e, if_pos e, hW0, Nat.zero_or]
        · rw [if_neg e, if_neg e, hM.zero hk])
      exact this
    · rw [hch.block nb (by simp; omega) (by omega)]
      exact hb1
    · refine (((ch_set nb i _).mono (fun j _ q => .inl q)).trans ((ch_alloc (Of2 nb (.map none)) _ _).then ((ch_drew _ _))) (fun j _ q => q)).trans hch (fun j hj q => absurd q (by omega))
  · have hMd : MI w.drew (.map (some mb)) n (fW W) := hM.keep (fun b _ => rfl)
    obtain ⟨w2, hrun, hM2, hch⟩ := hMd.put Tryz.underlying97 hok (.int .u64 ((W (id / 64) ||| bt id : Nat) : Int)) (by unfold maxLen; omega)
    have hl := hMd.look Tryz.underlying97 zero101 hok
    rw [fW_get] at hl
    refine (put_some nb i id mb hid (W (id / 64)) w w2 (box_cells hb i _ hi) (hw _).1 (by rw [hdiv]; exact hl) (by rw [hdiv]; exact hrun)).mono ?_
    rintro e w' ⟨rfl, rfl⟩
    have hne : nb ≠ mb := fun q => by
      subst q
      obtain ⟨es, c, hq⟩ := hM.block rfl
      rw [hb] at hq
      cases hq
    refine ⟨rfl, mb, .inl rfl, ⟨_, ⟨szF (fW W) ((id / 64 : Nat) : Int) n, ?_, hM2.congr hfn⟩, hWn⟩, ?_, ?_⟩
    · unfold szF
      split <;> omega
    · rw [hch.block nb hnb hne]
      rw [hi_same hi]
      exact hb
    · exact (ch_drew _ _).trans hch (fun j _ q => .inr (by rw [q]))
theorem drop_any {w : World} {nb i t : Nat} {cs : Array Value} {mv : Value} {T : Nat → Bool} {N : Nat} (h : NT w mv T N) (hb : w.heap[nb]? = some (.cells cs t (0, 0))) (hi : cs[i]? = some mv) (id : Nat) (hid : id ≤ 65535) (hT : T id = true) (hN : N < 1000000) :
    Calls Tryz.prog 82 #[.pointer (some ⟨nb, i, none⟩), .int .i64 id] w fun e w' => e = .returned (.tuple #[]) ∧ ∃ mv', (mv' = mv ∨ mv' = .map none) ∧ NT w' mv' (setT T id false) N ∧ w'.heap[nb]? = some (.cells (cs.setIfInBounds i mv') t (0, 0)) ∧ Ch (Of2 nb mv) w w' := by
  obtain ⟨W, ⟨n, hn, hM⟩, hw⟩ := h
  have hnb : nb < w.heap.size := (Array.getElem?_eq_some_iff.1 hb).1
  have hdiv : ((id : Int) / 64) = ((id / 64 : Nat) : Int) := by omega
  have hok : okI ((id / 64 : Nat) : Int) := okI_nat _ (by omega)
  have hWn : WB (setW W (id / 64) (W (id / 64) &&& (18446744073709551615 - bt id))) (setT T id false) := wb_drop hw id
  have hx0 : W (id / 64) ≠ 0 := fun q => by
    have := (wb_has hw id).2 hT
    rw [q] at this
    simp at this
  have hsome : (fW W ((id / 64 : Nat) : Int)).isSome = true := by
    cases e : fW W ((id / 64 : Nat) : Int) with
    | none => exact absurd (fW_none e) hx0
    | some v => rfl
  obtain ⟨x, hx⟩ : ∃ x, x = W (id / 64) := ⟨_, rfl⟩
  obtain ⟨y, hy⟩ : ∃ y, y = x &&& (18446744073709551615 - bt id) := ⟨_, rfl⟩
  have hy' : W (id / 64) &&& (18446744073709551615 - bt id) = y := by rw [hy, hx]
  rw [hy'] at hWn
  rcases hM.mk with rfl | ⟨mb, rfl⟩
  · exfalso
    rcases hM with ⟨-, -, h0⟩ | ⟨mb, D, h1, -⟩
    · rw [h0 _ hok] at hsome; cases hsome
    · cases h1
  · have hne : nb ≠ mb := fun q => by
      subst q
      obtain ⟨es, c, hq⟩ := hM.block rfl
      rw [hb] at hq
      cases hq
    have hMd : MI w.drew (.map (some mb)) n (fW W) := hM.keep (fun b _ => rfl)
    obtain ⟨w2, hrun, hM2, hch⟩ := hMd.put Tryz.underlying97 hok (.int .u64 (y : Int)) (by unfold maxLen; omega)
    have hl := hMd.look Tryz.underlying97 zero101 hok
    rw [fW_get, ← hx] at hl
    have hl2 := hM2.look Tryz.underlying97 zero101 hok
    have e0 : setF (fW W) ((id / 64 : Nat) : Int) (some (.int .u64 (y : Int))) ((id / 64 : Nat) : Int) = some (.int .u64 (y : Int)) := by unfold setF; rw [if_pos rfl]
    rw [e0] at hl2
    have hsz : szF (fW W) ((id / 64 : Nat) : Int) n = n := by unfold szF; rw [if_pos hsome]
    rw [hsz] at hM2
    have hb2 : w2.heap[nb]? = some (.cells cs t (0, 0)) := (hch.block nb hnb hne).trans hb
    have key : ∃ w3 n3, (y ≠ 0 → w3 = w2) ∧ (y = 0 → (Builtin.delete_ #[97, 3] 0 #[.map (some mb), .int .i64 ((id / 64 : Nat) : Int)]).run Tryz.prog w2 = .ok (.tuple #[]) w3) ∧ n3 ≤ n ∧ MI w3 (.map (some mb)) n3 (fW (setW W (id / 64) y)) ∧ Ch (fun j => j = mb) w2 w3 := by
      by_cases hy0 : y = 0
      · obtain ⟨w3, hrun3, hM3, hch3⟩ := hM2.del Tryz.underlying97 hok 0
        refine ⟨w3, _, fun q => absurd hy0 q, fun _ => hrun3, Nat.sub_le _ _, hM3.congr (fun k hk => ?_), hch3⟩
        rw [hy0, fW_zero]
        unfold setF
        by_cases e : k = ((id / 64 : Nat) : Int)
        · rw [if_pos e, if_pos e]
        · rw [if_neg e, if_neg e, if_neg e]
      · exact ⟨w2, n, fun _ => rfl, fun q => absurd q hy0, Nat.le_refl _, hM2.congr (fun k hk => fW_set W (id / 64) y hy0 k), Ch.refl _ _⟩
    obtain ⟨w3, n3, k1, k2, k3, k4, k5⟩ := key
    have hb3 : w3.heap[nb]? = some (.cells cs t (0, 0)) := (k5.block nb (by have := hch.size; have : w.drew.heap.size = w.heap.size := rfl; omega) hne).trans hb2
    have hchA : Ch (Of2 nb (.map (some mb))) w w3 := ((ch_drew _ _).trans hch (fun j _ q => .inr (by rw [q]))).trans k5 (fun j _ q => .inr (by rw [q]))
    refine drop_walk nb i id mb hid x y n3 w w2 (box_cells hb i _ hi) (by rw [hx]; exact (hw _).1) hy (by rw [hdiv]; exact hl) (by rw [hdiv]; exact hrun) (box_cells hb2 i _ hi) (by rw [hdiv]; exact hl2) w3 k1 (by rw [hdiv]; exact k2) (box_cells hb3 i _ hi) (box_frozen hb3 i) (k4.len Tryz.underlying97 3)
      (R := fun w' => ∃ mv', (mv' = .map (some mb) ∨ mv' = .map none) ∧ NT w' mv' (setT T id false) N ∧ w'.heap[nb]? = some (.cells (cs.setIfInBounds i mv') t (0, 0)) ∧ Ch (Of2 nb (.map (some mb))) w w') (fun q => ?_) (fun q => ?_)
    · subst q
      refine ⟨.map none, .inr rfl, ⟨_, ⟨0, by omega, ?_⟩, hWn⟩, heap_set hb3 _, hchA.trans (ch_set nb i _) (fun j _ q => .inl q)⟩
      exact (MI.nil _).congr (fun k hk => k4.zero hk)
    · exact ⟨.map (some mb), .inl rfl, ⟨_, ⟨n3, by omega, k4⟩, hWn⟩, by rw [hi_same hi]; exact hb3, hchA⟩
theorem above_any {w : World} {nb i : Nat} {mv : Value} {T : Nat → Bool} {N : Nat} (h : NT w mv T N) (hc : w.cell? ⟨nb, i, none⟩ = some mv) (last : Nat) (hl : last ≤ 65535) (hT : TzOk w) (hfree : ∃ j, 1 ≤ j ∧ j ≤ 65535 ∧ T j = false) :
    Calls Tryz.prog 101 #[.pointer (some ⟨nb, i, none⟩), .int .i64 last] w fun e w' => (∃ id : Nat, e = .returned (.int .i64 id) ∧ Abv T last id) ∧ w' = w := by
  obtain ⟨W, hN, hw⟩ := h
  exact above_walk nb i last mv W T w hl hc hw (fun k hk => hN.look k (by omega)) hT hfree
end Go.Proofs.YtmihpmmkkklpfaaGreatDoor
