import Derived.Test.YtenaliaefbkbcaaGreatNc
import Derived.Test.YtenaliaefbkbcaaGreatVb
import Derived.Test.YtenaliaefbkbcaaGreatMg
namespace Go.Proofs.YtenaliaefbkbcaaGreat.Li
open Go Go.RowKit Go.Maps
set_option linter.unusedSimpArgs false
set_option linter.unusedVariables false
set_option maxRecDepth 100000 in
set_option maxHeartbeats 2000000 in
theorem without62_zero (g c : Nat) (w : World) (B : Nat) (x : PV) (hsh : ShE x.2) (ho : w.ownsRow B 44 2 (.slice (some ⟨g, 0, none⟩) 1 c) 1 (prow [x])) :
    Calls Tryz.prog 62 #[.slice (some ⟨g, 0, none⟩) 1 c, .int .i64 0] w fun e w' => e = .returned (.slice none 0 0) ∧ Ch (fun j => j = g) w w' := by
  have h1 : w.ownsRow B 44 2 (.slice (some ⟨g, 0, none⟩) [x].length c) [x].length (prow [x]) := ho
  obtain ⟨g', c', e, hle, hc⟩ := prow_cell h1 (j := 0) (by simp)
  simp only [Value.slice.injEq, Option.some.injEq, Addr.mk.injEq, true_and, and_true] at e
  obtain ⟨rfl, rfl⟩ := e
  obtain ⟨cu, hcu⟩ := own_lt ho (g := g) rfl
  obtain ⟨f, u⟩ := x
  obtain ⟨xq, hxv⟩ := hsh
  simp only at hxv
  subst hxv
  have k0 : w.cell? ⟨g, 0, none⟩ = some (.string f) := (hc 0 (by simp)).1
  have k1 : w.cell? ⟨g, 1, none⟩ = some (.int .i64 xq) := (hc 0 (by simp)).2
  have f0 := box_frozen hcu 0
  have f1 := box_frozen hcu 1
  have hc0 : ¬ c = 0 := by simp at hle; omega
  have hcz : (0 : Int) ≤ (c : Int) := by omega
  have hc1 : (1 : Int) ≤ (c : Int) := by simp at hle; omega
  obtain ⟨w1, hw1⟩ : ∃ w1, w1 = (w.setCell ⟨g, 0, none⟩ (.string f)).setCell ⟨g, 1, none⟩ (.int .i64 xq) := ⟨_, rfl⟩
  have hcu1 : w1.heap[g]? = some (.cells ((cu.setIfInBounds 0 (.string f)).setIfInBounds 1 (.int .i64 xq)) 44 (0, 0)) := by rw [hw1]; exact heap_set (heap_set hcu _) _
  have hsz : 2 ≤ cu.size := by
    have : cu[1]? = some (.int .i64 xq) := by simp [World.cell?, hcu] at k1; exact k1
    have := (Array.getElem?_eq_some_iff.1 this).1
    omega
  obtain ⟨Z, hclr⟩ := run_clear44 w1 0 g 0 1 c (by omega) (fun j hj => by
    simp [World.cell?, hcu1]
    omega) (fun j hj => box_frozen hcu1 _)
  have hch : Ch (fun j => j = g) w (w1.setCells g 0 Z) := by rw [hw1]; exact ((ch_set g 0 _).then (ch_set g 1 _)).then (ch_setCells g Z 0 _)
  have HCH := hidi hch
  rw [hw1] at hclr HCH
  clear hch hcu1 hw1 hcu hc ho h1 hsz hle
  go_enter Tryz.func62, Tryz.ntmps62
  go_wp2_with fail
  go_ret
  exact ⟨rfl, HCH.out⟩
set_option maxRecDepth 100000 in
set_option maxHeartbeats 4000000 in
/-- A list without its last element. -/
theorem without62_last (g c n : Nat) (w : World) (B : Nat) (L : List PV) (y : PV) (hL : L.length = n + 1) (hn0 : 0 < n) (hn2 : n ≤ 1000000) (hy : L[n]? = some y) (hsh : ∀ x ∈ L, ShE x.2) (hB : B ≤ w.heap.size) (ho : w.ownsRow B 44 2 (.slice (some ⟨g, 0, none⟩) (n + 1) c) (n + 1) (prow L)) :
    Calls Tryz.prog 62 #[.slice (some ⟨g, 0, none⟩) (n + 1) c, .int .i64 (n : Int)] w fun e w' => ∃ v', e = .returned v' ∧ w'.ownsRow B 44 2 v' n (prow (L.take n)) ∧ Ch (fun j => j = g) w w' ∧ (v'.ownBlock = some g ∨ ∃ g', v'.ownBlock = some g' ∧ w.heap.size ≤ g') := by
  have h1 : w.ownsRow B 44 2 (.slice (some ⟨g, 0, none⟩) L.length c) L.length (prow L) := by rw [hL]; exact ho
  obtain ⟨g', c', e, hle, hc⟩ := prow_cell h1 (j := 0) (by omega)
  simp only [Value.slice.injEq, Option.some.injEq, Addr.mk.injEq, true_and, and_true] at e
  obtain ⟨rfl, rfl⟩ := e
  rw [hL] at hle
  obtain ⟨cu, hcu⟩ := own_lt ho (g := g) rfl
  have hyn : L[n]'(by omega) = y := by rw [List.getElem?_eq_getElem (by omega)] at hy; simpa using hy
  have k0 : w.cell? ⟨g, n * 2, none⟩ = some (.string y.1) := by have := (hc n (by omega)).1; rw [hyn] at this; exact this
  have k1 : w.cell? ⟨g, n * 2 + 1, none⟩ = some y.2 := by have := (hc n (by omega)).2; rw [hyn] at this; exact this
  have f0 := box_frozen hcu (n * 2)
  have f1 := box_frozen hcu (n * 2 + 1)
  obtain ⟨w1, hw1⟩ : ∃ w1, w1 = (w.setCell ⟨g, n * 2, none⟩ (.string y.1)).setCell ⟨g, n * 2 + 1, none⟩ y.2 := ⟨_, rfl⟩
  have hLs : L.set n y = L := by
    apply List.ext_getElem?
    intro i
    rw [List.getElem?_set]
    split
    · rename_i q
      subst q
      rw [if_pos (by omega), hy]
    · rfl
  have ho1 : w1.ownsRow B 44 2 (.slice (some ⟨g, 0, none⟩) (n + 1) c) (n + 1) (prow L) := by rw [hw1, ← hL]; have := own_put h1 (i := n) (by omega) y; rw [hLs] at this; exact this
  obtain ⟨cu1, hcu1⟩ := own_lt ho1 (g := g) rfl
  obtain ⟨Z, hclr⟩ := run_clear44 w1 0 g (n * 2) 1 (c - n) (by omega) (fun j hj => by
    have := own_cells ho1 (n * 2 + j) ((prow L)[n * 2 + j]'(by rw [prow_len, hL]; omega)) (List.getElem?_eq_getElem _)
    rw [addr_at] at this
    rw [this]
    rfl) (fun j hj => box_frozen hcu1 _)
  have ho2 := own_aboves Z (n * 2) w1 (own_take ho1 (k := n) (by omega)) (Nat.le_refl _)
  have h1c : ∀ u ∈ prow (L.take n), u.oneCell' = true := fun u hu => by
    simp only [prow, List.mem_flatMap] at hu
    obtain ⟨x, hx, hu⟩ := hu
    obtain ⟨xq, hxv⟩ := hsh x (List.mem_of_mem_take hx)
    simp only [pcs, List.mem_cons, List.not_mem_nil, or_false] at hu
    rcases hu with rfl | rfl
    · rfl
    · rw [hxv]; rfl
  obtain ⟨g9, c9, w9, hrun, ho9, hb9⟩ := app_nil (w := w1.setCells g (n * 2) Z) (st := 41) Tryz.underlying41 info44 rfl (by omega) ho2 (by omega) (by omega) h1c
  have hch : Ch (fun j => j = g) w (w1.setCells g (n * 2) Z) := by rw [hw1]; exact ((ch_set g _ _).then (ch_set g _ _)).then (ch_setCells g Z _ _)
  have hs9 : w.heap.size ≤ (w1.setCells g (n * 2) Z).heap.size := hch.size
  have HF := hidi (And.intro (row_base ho9 (B' := B) (fun j hj => Nat.le_trans (Nat.le_trans hB hs9) (row_ge ho9 hj))) (And.intro (hch.then (Below.ch hb9)) (show (Value.slice (some ⟨g9, 0, none⟩) n c9).ownBlock = some g ∨ ∃ g', (Value.slice (some ⟨g9, 0, none⟩) n c9).ownBlock = some g' ∧ w.heap.size ≤ g' from .inr ⟨g9, rfl, Nat.le_trans hs9 (row_ge ho9 rfl)⟩)))
  have HG := hidi (And.intro ho2 hch)
  obtain ⟨xq, hxv⟩ := hsh y (List.mem_of_getElem? hy)
  rw [hw1] at hclr hrun HG
  rw [hxv] at hclr hrun k1 HG
  have hcn : ¬ c = n := by omega
  have hi1 : (n : Int) < (n : Int) + 1 := by omega
  have hi4 : (0 : Int) ≤ (n : Int) := by omega
  have hi5 : (n : Int) ≤ (n : Int) + 1 := by omega
  have hi6 : (n : Int) ≤ (c : Int) := by omega
  have hsb : (n : Int) + 1 - 1 = (n : Int) := by omega
  have hwn : IntKind.i64.wrap (n : Int) = (n : Int) := by rw [IntKind.wrap_i64]; omega
  have hwn1 : IntKind.i64.wrap ((n : Int) - 1) = (n : Int) - 1 := by rw [IntKind.wrap_i64]; omega
  have hnn : n + 1 - n = 1 := by omega
  clear ho ho1 ho2 ho9 hb9 h1 hc hcu hcu1 hw1 hyn hy hsh h1c hch hs9 hxv hle hL hLs
  have HRUN := hidi hrun
  clear hrun hn0
  obtain ⟨bt, hbt⟩ : ∃ bt, bt = bits .and .i64 (n : Int) ((n : Int) - 1) := ⟨_, rfl⟩
  by_cases hz : bt = 0
  · have hbt : bits .and .i64 (n : Int) ((n : Int) - 1) = 0 := by rw [← hbt]; exact hz
    clear hz
    go_enter Tryz.func62, Tryz.ntmps62
    go_wp2_with (at_builtin; refine Lib.wpList_append_run _ rfl (.const (.slice none 0 0)) (.tmp 27) 41 41 rfl _ _ rfl rfl _ w9 HRUN.out ?_)
    go_ret
    exact ⟨_, rfl, HF.out.1, HF.out.2⟩
  · have hz' : (bt == 0) = false := by simpa using hz
    have hbt' : bits .and .i64 (n : Int) ((n : Int) - 1) = bt := hbt.symm
    clear hbt
    go_enter Tryz.func62, Tryz.ntmps62
    go_wp2_with fail
    go_ret
    exact ⟨_, rfl, HG.out.1, HG.out.2, .inl rfl⟩
set_option maxRecDepth 100000 in
set_option maxHeartbeats 2000000 in
theorem without63_zero (g c : Nat) (w : World) (B : Nat) (x : PV) (hsh : ShK x.2) (ho : w.ownsRow B 76 2 (.slice (some ⟨g, 0, none⟩) 1 c) 1 (prow [x])) :
    Calls Tryz.prog 63 #[.slice (some ⟨g, 0, none⟩) 1 c, .int .i64 0] w fun e w' => e = .returned (.slice none 0 0) ∧ Ch (fun j => j = g) w w' := by
  have h1 : w.ownsRow B 76 2 (.slice (some ⟨g, 0, none⟩) [x].length c) [x].length (prow [x]) := ho
  obtain ⟨g', c', e, hle, hc⟩ := prow_cell h1 (j := 0) (by simp)
  simp only [Value.slice.injEq, Option.some.injEq, Addr.mk.injEq, true_and, and_true] at e
  obtain ⟨rfl, rfl⟩ := e
  obtain ⟨cu, hcu⟩ := own_lt ho (g := g) rfl
  obtain ⟨f, u⟩ := x
  obtain ⟨xa, xn, xc, hxv⟩ := hsh
  simp only at hxv
  subst hxv
  have k0 : w.cell? ⟨g, 0, none⟩ = some (.string f) := (hc 0 (by simp)).1
  have k1 : w.cell? ⟨g, 1, none⟩ = some (.slice xa xn xc) := (hc 0 (by simp)).2
  have f0 := box_frozen hcu 0
  have f1 := box_frozen hcu 1
  have hc0 : ¬ c = 0 := by simp at hle; omega
  have hcz : (0 : Int) ≤ (c : Int) := by omega
  have hc1 : (1 : Int) ≤ (c : Int) := by simp at hle; omega
  obtain ⟨w1, hw1⟩ : ∃ w1, w1 = (w.setCell ⟨g, 0, none⟩ (.string f)).setCell ⟨g, 1, none⟩ (.slice xa xn xc) := ⟨_, rfl⟩
  have hcu1 : w1.heap[g]? = some (.cells ((cu.setIfInBounds 0 (.string f)).setIfInBounds 1 (.slice xa xn xc)) 76 (0, 0)) := by rw [hw1]; exact heap_set (heap_set hcu _) _
  have hsz : 2 ≤ cu.size := by
    have : cu[1]? = some (.slice xa xn xc) := by simp [World.cell?, hcu] at k1; exact k1
    have := (Array.getElem?_eq_some_iff.1 this).1
    omega
  obtain ⟨Z, hclr⟩ := run_clear76 w1 0 g 0 1 c (by omega) (fun j hj => by
    simp [World.cell?, hcu1]
    omega) (fun j hj => box_frozen hcu1 _)
  have hch : Ch (fun j => j = g) w (w1.setCells g 0 Z) := by rw [hw1]; exact ((ch_set g 0 _).then (ch_set g 1 _)).then (ch_setCells g Z 0 _)
  have HCH := hidi hch
  rw [hw1] at hclr HCH
  clear hch hcu1 hw1 hcu hc ho h1 hsz hle
  go_enter Tryz.func63, Tryz.ntmps63
  go_wp2_with fail
  go_ret
  exact ⟨rfl, HCH.out⟩
set_option maxRecDepth 100000 in
set_option maxHeartbeats 4000000 in
/-- A list without its last element. -/
theorem without63_last (g c n : Nat) (w : World) (B : Nat) (L : List PV) (y : PV) (hL : L.length = n + 1) (hn0 : 0 < n) (hn2 : n ≤ 1000000) (hy : L[n]? = some y) (hsh : ∀ x ∈ L, ShK x.2) (hB : B ≤ w.heap.size) (ho : w.ownsRow B 76 2 (.slice (some ⟨g, 0, none⟩) (n + 1) c) (n + 1) (prow L)) :
    Calls Tryz.prog 63 #[.slice (some ⟨g, 0, none⟩) (n + 1) c, .int .i64 (n : Int)] w fun e w' => ∃ v', e = .returned v' ∧ w'.ownsRow B 76 2 v' n (prow (L.take n)) ∧ Ch (fun j => j = g) w w' ∧ (v'.ownBlock = some g ∨ ∃ g', v'.ownBlock = some g' ∧ w.heap.size ≤ g') := by
  have h1 : w.ownsRow B 76 2 (.slice (some ⟨g, 0, none⟩) L.length c) L.length (prow L) := by rw [hL]; exact ho
  obtain ⟨g', c', e, hle, hc⟩ := prow_cell h1 (j := 0) (by omega)
  simp only [Value.slice.injEq, Option.some.injEq, Addr.mk.injEq, true_and, and_true] at e
  obtain ⟨rfl, rfl⟩ := e
  rw [hL] at hle
  obtain ⟨cu, hcu⟩ := own_lt ho (g := g) rfl
  have hyn : L[n]'(by omega) = y := by rw [List.getElem?_eq_getElem (by omega)] at hy; simpa using hy
  have k0 : w.cell? ⟨g, n * 2, none⟩ = some (.string y.1) := by have := (hc n (by omega)).1; rw [hyn] at this; exact this
  have k1 : w.cell? ⟨g, n * 2 + 1, none⟩ = some y.2 := by have := (hc n (by omega)).2; rw [hyn] at this; exact this
  have f0 := box_frozen hcu (n * 2)
  have f1 := box_frozen hcu (n * 2 + 1)
  obtain ⟨w1, hw1⟩ : ∃ w1, w1 = (w.setCell ⟨g, n * 2, none⟩ (.string y.1)).setCell ⟨g, n * 2 + 1, none⟩ y.2 := ⟨_, rfl⟩
  have hLs : L.set n y = L := by
    apply List.ext_getElem?
    intro i
    rw [List.getElem?_set]
    split
    · rename_i q
      subst q
      rw [if_pos (by omega), hy]
    · rfl
  have ho1 : w1.ownsRow B 76 2 (.slice (some ⟨g, 0, none⟩) (n + 1) c) (n + 1) (prow L) := by rw [hw1, ← hL]; have := own_put h1 (i := n) (by omega) y; rw [hLs] at this; exact this
  obtain ⟨cu1, hcu1⟩ := own_lt ho1 (g := g) rfl
  obtain ⟨Z, hclr⟩ := run_clear76 w1 0 g (n * 2) 1 (c - n) (by omega) (fun j hj => by
    have := own_cells ho1 (n * 2 + j) ((prow L)[n * 2 + j]'(by rw [prow_len, hL]; omega)) (List.getElem?_eq_getElem _)
    rw [addr_at] at this
    rw [this]
    rfl) (fun j hj => box_frozen hcu1 _)
  have ho2 := own_aboves Z (n * 2) w1 (own_take ho1 (k := n) (by omega)) (Nat.le_refl _)
  have h1c : ∀ u ∈ prow (L.take n), u.oneCell' = true := fun u hu => by
    simp only [prow, List.mem_flatMap] at hu
    obtain ⟨x, hx, hu⟩ := hu
    obtain ⟨xa, xn, xc, hxv⟩ := hsh x (List.mem_of_mem_take hx)
    simp only [pcs, List.mem_cons, List.not_mem_nil, or_false] at hu
    rcases hu with rfl | rfl
    · rfl
    · rw [hxv]; rfl
  obtain ⟨g9, c9, w9, hrun, ho9, hb9⟩ := app_nil (w := w1.setCells g (n * 2) Z) (st := 69) Tryz.underlying69 info76 rfl (by omega) ho2 (by omega) (by omega) h1c
  have hch : Ch (fun j => j = g) w (w1.setCells g (n * 2) Z) := by rw [hw1]; exact ((ch_set g _ _).then (ch_set g _ _)).then (ch_setCells g Z _ _)
  have hs9 : w.heap.size ≤ (w1.setCells g (n * 2) Z).heap.size := hch.size
  have HF := hidi (And.intro (row_base ho9 (B' := B) (fun j hj => Nat.le_trans (Nat.le_trans hB hs9) (row_ge ho9 hj))) (And.intro (hch.then (Below.ch hb9)) (show (Value.slice (some ⟨g9, 0, none⟩) n c9).ownBlock = some g ∨ ∃ g', (Value.slice (some ⟨g9, 0, none⟩) n c9).ownBlock = some g' ∧ w.heap.size ≤ g' from .inr ⟨g9, rfl, Nat.le_trans hs9 (row_ge ho9 rfl)⟩)))
  have HG := hidi (And.intro ho2 hch)
  obtain ⟨xa, xn, xc, hxv⟩ := hsh y (List.mem_of_getElem? hy)
  rw [hw1] at hclr hrun HG
  rw [hxv] at hclr hrun k1 HG
  have hcn : ¬ c = n := by omega
  have hi1 : (n : Int) < (n : Int) + 1 := by omega
  have hi4 : (0 : Int) ≤ (n : Int) := by omega
  have hi5 : (n : Int) ≤ (n : Int) + 1 := by omega
  have hi6 : (n : Int) ≤ (c : Int) := by omega
  have hsb : (n : Int) + 1 - 1 = (n : Int) := by omega
  have hwn : IntKind.i64.wrap (n : Int) = (n : Int) := by rw [IntKind.wrap_i64]; omega
  have hwn1 : IntKind.i64.wrap ((n : Int) - 1) = (n : Int) - 1 := by rw [IntKind.wrap_i64]; omega
  have hnn : n + 1 - n = 1 := by omega
  clear ho ho1 ho2 ho9 hb9 h1 hc hcu hcu1 hw1 hyn hy hsh h1c hch hs9 hxv hle hL hLs
  have HRUN := hidi hrun
  clear hrun hn0
  obtain ⟨bt, hbt⟩ : ∃ bt, bt = bits .and .i64 (n : Int) ((n : Int) - 1) := ⟨_, rfl⟩
  by_cases hz : bt = 0
  · have hbt : bits .and .i64 (n : Int) ((n : Int) - 1) = 0 := by rw [← hbt]; exact hz
    clear hz
    go_enter Tryz.func63, Tryz.ntmps63
    go_wp2_with (at_builtin; refine Lib.wpList_append_run _ rfl (.const (.slice none 0 0)) (.tmp 27) 69 69 rfl _ _ rfl rfl _ w9 HRUN.out ?_)
    go_ret
    exact ⟨_, rfl, HF.out.1, HF.out.2⟩
  · have hz' : (bt == 0) = false := by simpa using hz
    have hbt' : bits .and .i64 (n : Int) ((n : Int) - 1) = bt := hbt.symm
    clear hbt
    go_enter Tryz.func63, Tryz.ntmps63
    go_wp2_with fail
    go_ret
    exact ⟨_, rfl, HG.out.1, HG.out.2, .inl rfl⟩
end Go.Proofs.YtenaliaefbkbcaaGreat.Li
namespace Go.Proofs.YtenaliaefbkbcaaGreat.Li
open Go Go.RowKit
set_option linter.unusedSimpArgs false
set_option linter.unusedVariables false
/-! ### Which blocks a list has; Put changes no other one -/
def LB (sb : Nat) (v : Value) (L : List Fl) (j : Nat) : Prop := j = sb ∨ v.ownBlock = some j ∨ ∃ x ∈ L, x.v.ownBlock = some j
structure KQ (sb : Nat) (w w' : World) (v : Value) (L : List Fl) (v' : Value) (L' : List Fl) : Prop where
  ch : Ch (LB sb v L) w w'
  nw : ∀ j, LB sb v' L' j → LB sb v L j ∨ w.heap.size ≤ j
section
variable {B : Nat} {w w' : World} {sb : Nat} {v v' : Value} {L L' : List Fl}
theorem KQ.trans {w'' : World} {v'' : Value} {L'' : List Fl} (h : KQ sb w w' v L v' L') (k : KQ sb w' w'' v' L' v'' L'') : KQ sb w w'' v L v'' L'' :=
  ⟨h.ch.trans k.ch (fun j hj q => by
    rcases h.nw j q with z | z
    · exact z
    · omega), fun j q => by
    rcases k.nw j q with z | z
    · exact h.nw j z
    · exact .inr (Nat.le_trans h.ch.size z)⟩
theorem KQ.below (hb : Below w.heap.size w w') : KQ sb w w' v L v L := ⟨Below.ch hb, fun j q => .inl q⟩
theorem SL.blk (h : SL B w sb v L) {j : Nat} (hj : LB sb v L j) : B ≤ j ∧ isL w j := by
  rcases hj with rfl | q | ⟨x, hx, q⟩
  · exact ⟨h.ge, _, _, _, h.at_, .inl rfl⟩
  · exact own_isL h.own (.inl rfl) q
  · exact own_isL (h.es x hx) (.inr rfl) q
theorem SL.blt (h : SL B w sb v L) {j : Nat} (hj : LB sb v L j) : j < w.heap.size := by
  obtain ⟨-, c, t, z, e, -⟩ := h.blk hj
  exact (Array.getElem?_eq_some_iff.1 e).1
theorem KQ.kl (h : SL B w sb v L) (k : KQ sb w w' v L v' L') : KL B w w' := KL.ch k.ch (fun j _ q => h.blk q)
theorem SL.stays (h : SL B w sb v L) (hk : ∀ j, LB sb v L j → w'.heap[j]? = w.heap[j]?) : SL B w' sb v L := by
  have ow : ∀ (e : Nat) (u : Value) (n : Nat) (xs : List Value), (∀ g, u.ownBlock = some g → LB sb v L g) → w.ownsRow B e 2 u n xs → w'.ownsRow B e 2 u n xs := fun e u n xs he ho => by
    refine ⟨ho.1, ?_⟩
    rcases ho.2 with q | ⟨g, cap, cur, h1, h2, h3, h4⟩
    · exact .inl q
    · exact .inr ⟨g, cap, cur, h1, h2, (hk g (he g (by rw [h1]; rfl))).trans h3, h4⟩
  exact ⟨(hk sb (.inl rfl)).trans h.at_, ow 76 _ _ _ (fun g hg => .inr (.inl hg)) h.own, fun x hx => ow 44 _ _ _ (fun g hg => .inr (.inr ⟨x, hx, hg⟩)) (h.es x hx), h.nb, h.ge⟩
theorem SL.putq (h : SL B w sb v L) {i : Nat} {x x' : Fl} (hi : L[i]? = some x) (hf : x'.f = x.f) {F c : Nat} (hv : v = .slice (some ⟨F, 0, none⟩) L.length c) (hr : w'.ownsRow B 76 2 v (L.map fpv).length (prow ((L.map fpv).set i (x.f, x'.v)))) (he : w'.ownsRow B 44 2 x'.v (x'.es.map epv).length (prow (x'.es.map epv)))
    (hc : Ch (fun j => j = F ∨ x.v.ownBlock = some j) w w') (hn : x.v.ownBlock = x'.v.ownBlock ∨ ∃ g, x'.v.ownBlock = some g ∧ w.heap.size ≤ g) : SL B w' sb v (L.set i x') ∧ KQ sb w w' v L v (L.set i x') := by
  refine ⟨(h.put hi hf hv hr he hc hn).1, hc.mono (fun j _ q => ?_), fun j q => ?_⟩
  · rcases q with rfl | q
    · exact .inr (.inl (by rw [hv]; rfl))
    · exact .inr (.inr ⟨x, List.mem_of_getElem? hi, q⟩)
  · rcases q with q | q | ⟨y, hy, q⟩
    · exact .inl (.inl q)
    · exact .inl (.inr (.inl q))
    · rcases List.mem_or_eq_of_mem_set hy with z | rfl
      · exact .inl (.inr (.inr ⟨y, z, q⟩))
      · rcases hn with e | ⟨g, e1, e2⟩
        · exact .inl (.inr (.inr ⟨x, List.mem_of_getElem? hi, e.trans q⟩))
        · rw [q] at e1
          cases e1
          exact .inr e2
theorem SL.newq (h : SL B w sb v L) {i : Nat} {x : Fl} (hi : L[i]? = some x) {F c : Nat} {fc : Array Value} (hv : v = .slice (some ⟨F, 0, none⟩) L.length c) (hF : w.heap[F]? = some (.cells fc 76 (0, 0))) {e : En} (ha : Ap w w' B 44 F (i * 2 + 1) 76 fc x.v (x.es.map epv) (epv e)) :
    ∃ u, SL B w' sb v (L.set i ⟨x.f, x.es ++ [e], u⟩) ∧ KQ sb w w' v L v (L.set i ⟨x.f, x.es ++ [e], u⟩) := by
  obtain ⟨⟨u, h1, h2, h3⟩, h4⟩ := ha
  have hl : i < L.length := (List.getElem?_eq_some_iff.1 hi).1
  refine ⟨u, h.putq hi rfl hv ?_ ?_ h4 h3⟩
  · have hm : (L.map fpv)[i]? = some (fpv x) := by rw [List.getElem?_map, hi]; rfl
    have ho := h.own
    rw [hv] at ho ⊢
    have e1 : L.length = (L.map fpv).length := by simp
    rw [e1] at ho ⊢
    exact own_set2 ho hm hF h1
  · simpa using h2
theorem SL.oldq (h : SL B w sb v L) {i j : Nat} {x : Fl} (hi : L[i]? = some x) {e : En} (hr : w'.ownsRow B 44 2 x.v (x.es.map epv).length (prow ((x.es.map epv).set j (epv e)))) (hc : Ch (fun k => x.v.ownBlock = some k) w w') :
    SL B w' sb v (L.set i ⟨x.f, x.es.set j e, x.v⟩) ∧ KQ sb w w' v L v (L.set i ⟨x.f, x.es.set j e, x.v⟩) := by
  refine ⟨(h.old hi hr hc).1, hc.mono (fun k _ q => .inr (.inr ⟨x, List.mem_of_getElem? hi, q⟩)), fun k q => ?_⟩
  rcases q with q | q | ⟨y, hy, q⟩
  · exact .inl (.inl q)
  · exact .inl (.inr (.inl q))
  · rcases List.mem_or_eq_of_mem_set hy with z | rfl
    · exact .inl (.inr (.inr ⟨y, z, q⟩))
    · exact .inl (.inr (.inr ⟨x, List.mem_of_getElem? hi, q⟩))
theorem SL.appq (h : SL B w sb v L) {f : ByteArray} (ha : Ap w w' B 76 sb 0 71 #[v] v (L.map fpv) (f, .slice none 0 0)) :
    ∃ u, SL B w' sb u (L ++ [⟨f, [], .slice none 0 0⟩]) ∧ KQ sb w w' v L u (L ++ [⟨f, [], .slice none 0 0⟩]) := by
  obtain ⟨u, h1, h2⟩ := h.app ha
  obtain ⟨⟨u', g1, g2, g3⟩, g4⟩ := ha
  have eu : u' = u := by
    have := h1.at_
    rw [g1] at this
    simpa using this
  subst eu
  refine ⟨u', h1, g4.mono (fun j _ q => q.elim (fun q => .inl q) (fun q => .inr (.inl q))), fun j q => ?_⟩
  rcases q with q | q | ⟨y, hy, q⟩
  · exact .inl (.inl q)
  · rcases g3 with e | ⟨g, e1, e2⟩
    · exact .inl (.inr (.inl (e.trans q)))
    · rw [q] at e1
      cases e1
      exact .inr e2
  · rcases List.mem_append.1 hy with z | z
    · exact .inl (.inr (.inr ⟨y, z, q⟩))
    · simp at z
      subst z
      simp [Value.ownBlock] at q
theorem note_slq (h : SL B w sb v L) {i : Nat} {x : Fl} (hi : L[i]? = some x) {F c : Nat} (hv : v = .slice (some ⟨F, 0, none⟩) L.length c) (hl : x.es.length ≤ 900000) (hB : B ≤ w.heap.size) (k : ByteArray) (hk : k.size ≤ 1000000) (q : Int) :
    Calls Tryz.prog 31 #[.pointer (some ⟨F, i * 2, none⟩), .string k, .int .i64 q] w fun e w' => e = .returned (.int .i64 (pNote x.es k q).2) ∧ ∃ L', SL B w' sb v L' ∧ L'.map Fl.p = (L.map Fl.p).set i (x.f, (pNote x.es k q).1) ∧ KQ sb w w' v L v L' := by
  obtain ⟨F', c', fc, hv', hF, hc, hle, -⟩ := h.row hi
  have eF : F' = F := by
    rw [hv'] at hv
    simp only [Value.slice.injEq, Option.some.injEq, Addr.mk.injEq] at hv
    exact hv.1.1
  subst eF
  have hes := h.es x (List.mem_of_getElem? hi)
  have hlm : (x.es.map epv).length ≤ 900000 := by simpa using hl
  have hp : ix (x.es.map epv) k = pos (x.es.map (·.1)) k := by rw [ix_pos, List.map_map]; rfl
  cases e : pos (x.es.map (·.1)) k with
  | none =>
    have en : pNote x.es k q = (x.es ++ [(k, q)], -1) := by unfold pNote; rw [e]
    rw [en]
    refine (note_new hF hc hes hlm hB k hk q (hp.trans e)).mono ?_
    rintro e w' ⟨rfl, ha⟩
    obtain ⟨u, h1, h2⟩ := h.newq hi hv hF (e := (k, q)) ha
    exact ⟨rfl, _, h1, map_set_p hi rfl, h2⟩
  | some j =>
    have en : pNote x.es k q = (x.es.set j (k, q), ((x.es[j]?).map (·.2)).getD 0) := by unfold pNote; rw [e]
    rw [en]
    have hj := pos_some e
    rw [List.getElem?_map] at hj
    obtain ⟨⟨k', o⟩, ho, hk'⟩ := Option.map_eq_some_iff.1 hj
    simp only at hk'
    subst hk'
    rw [ho]
    refine (note_old hF hc hes hlm k' q (hp.trans e) (by rw [List.getElem?_map, ho]; rfl)).mono ?_
    rintro e w' ⟨rfl, hr, hch⟩
    obtain ⟨h1, h2⟩ := h.oldq hi (e := (k', q)) hr hch
    exact ⟨rfl, _, h1, map_set_p hi rfl, h2⟩
set_option maxRecDepth 100000 in
set_option maxHeartbeats 4000000 in
theorem put_hasq (h : SL B w sb v L) (f k : ByteArray) (q : Int) (hf : rfc f = 0) (hq : 0 ≤ q ∧ q ≤ 2) (hL : L.length ≤ 900000) (he : ∀ x ∈ L, x.es.length ≤ 900000) (hk : k.size ≤ 1000000) (hB : B ≤ w.heap.size) {i : Nat} (hi : pos ((L.map Fl.p).map (·.1)) f = some i) :
    Calls Tryz.prog 8 #[.pointer (some ⟨sb, 0, none⟩), .string f, .string k, .int .i64 q] w fun e w' => e = .returned (.tuple #[.int .i64 (pPut (L.map Fl.p) f k q).2, .int .i64 0]) ∧ ∃ v' L', SL B w' sb v' L' ∧ L'.map Fl.p = (pPut (L.map Fl.p) f k q).1 ∧ KQ sb w w' v L v' L' := by
  have hx : ∃ x, L[i]? = some x ∧ x.f = f := by
    have := pos_some hi
    rw [List.map_map, List.getElem?_map] at this
    obtain ⟨x, h1, h2⟩ := Option.map_eq_some_iff.1 this
    exact ⟨x, h1, h2⟩
  obtain ⟨x, hxi, hxf⟩ := hx
  have hil : i < L.length := (List.getElem?_eq_some_iff.1 hxi).1
  obtain ⟨F, c, fc, hv, hF, hc, hle, -⟩ := h.row hxi
  have ep : pPut (L.map Fl.p) f k q = ((L.map Fl.p).set i (f, (pNote x.es k q).1), (pNote x.es k q).2) := by
    unfold pPut
    rw [hi]
    simp only [List.getElem?_map, hxi, Option.map_some, Option.getD_some]
    rfl
  rw [ep]
  have H := hidi (fcheck_any f w)
  rw [hf] at H
  have Q := hidi (fun w => isq_any q w)
  rw [decide_eq_true hq.1, decide_eq_true hq.2] at Q
  have PL := hidi (fun (w1 : World) (hb : Below w.heap.size w w1) => place29_any (box_cells (h.below hb).at_ 0 v rfl) (h.below hb).own (by simp; omega) f)
  have hix : ix (L.map fpv) f = some i := by rw [ix_pos, List.map_map]; rw [List.map_map] at hi; exact hi
  rw [ixI_some hix] at PL
  have NT := hidi (fun (w1 : World) (hb : Below w.heap.size w w1) => note_slq (h.below hb) hxi hv (he x (List.mem_of_getElem? hxi)) (Nat.le_trans hB hb.size) k hk q)
  have KC := hidi (fun (w1 : World) (hb : Below w.heap.size w w1) => box_cells (h.below hb).at_ 0 v rfl)
  rw [hv] at KC
  obtain ⟨n, hn⟩ : ∃ n, n = L.length := ⟨_, rfl⟩
  obtain ⟨r, hr⟩ : ∃ r, r = (pNote x.es k q).2 := ⟨_, rfl⟩
  obtain ⟨es', hes⟩ : ∃ es', es' = (pNote x.es k q).1 := ⟨_, rfl⟩
  rw [← hn] at KC
  rw [← hr, ← hes] at NT
  simp only
  rw [← hr, ← hes]
  rw [hxf] at NT
  have hlt : (i : Int) < (n : Int) := by omega
  have hge : (0 : Int) ≤ (i : Int) := by omega
  have hng : ¬ (i : Int) < 0 := by omega
  clear h hf hq hL he hk hB hi hxi hxf hil hF hc hle ep hix hn hr hes hv
  go_enter Tryz.func8, Tryz.ntmps8
  go_wp2_with (first | (go_at_call 27; refine H.out.mono ?_; rintro e w1 ⟨rfl, hb⟩; have HB := hidi hb; have c1 := KC.out w1 hb; clear hb) | (go_at_call 28; refine (Q.out _).mono ?_; rintro e w' ⟨rfl, he⟩; obtain rfl := he.symm; clear he) | (go_at_call 29; refine (PL.out _ HB.out).mono ?_; rintro e w' ⟨rfl, he⟩; obtain rfl := he.symm; clear he) | (go_at_call 31; refine (NT.out _ HB.out).mono ?_; rintro e w' ⟨rfl, L', h1, h2, h3⟩; have H9 := hidi (And.intro h1 (And.intro h2 h3)); clear h1 h2 h3))
  go_ret2
  exact ⟨rfl, _, L', H9.out.1, H9.out.2.1, (KQ.below HB.out).trans H9.out.2.2⟩
set_option maxRecDepth 100000 in
set_option maxHeartbeats 4000000 in
theorem put_newq (h : SL B w sb v L) (f k : ByteArray) (q : Int) (hf : rfc f = 0) (hfs : f.size ≤ 1000000) (hq : 0 ≤ q ∧ q ≤ 2) (hL : L.length ≤ 900000) (hk : k.size ≤ 1000000) (hB : B ≤ w.heap.size) (hi : pos ((L.map Fl.p).map (·.1)) f = none) :
    Calls Tryz.prog 8 #[.pointer (some ⟨sb, 0, none⟩), .string f, .string k, .int .i64 q] w fun e w' => e = .returned (.tuple #[.int .i64 (pPut (L.map Fl.p) f k q).2, .int .i64 0]) ∧ ∃ v' L', SL B w' sb v' L' ∧ L'.map Fl.p = (pPut (L.map Fl.p) f k q).1 ∧ KQ sb w w' v L v' L' := by
  obtain ⟨v0, hv0⟩ : ∃ v0, v0 = v := ⟨_, rfl⟩
  have HV0 := hidi hv0
  have ep : pPut (L.map Fl.p) f k q = (L.map Fl.p ++ [(f, [(k, q)])], -1) := by
    unfold pPut
    rw [hi]
  rw [ep]
  have H := hidi (fcheck_any f w)
  rw [hf] at H
  have Q := hidi (fun w => isq_any q w)
  rw [decide_eq_true hq.1, decide_eq_true hq.2] at Q
  have PL := hidi (fun (w1 : World) (hb : Below w.heap.size w w1) => place29_any (box_cells (h.below hb).at_ 0 v rfl) (h.below hb).own (by simp; omega) f)
  have hix : ix (L.map fpv) f = none := by rw [ix_pos, List.map_map]; rw [List.map_map] at hi; exact hi
  rw [ixI_none hix] at PL
  have KC := hidi (fun (w1 : World) (hb : Below w.heap.size w w1) => box_cells (h.below hb).at_ 0 v rfl)
  have CL := hidi (fun w => sclone_any f w hfs)
  have AP := hidi (fun (w2 : World) (b2 : Below w.heap.size w w2) => ap_of (x := (f, .slice none 0 0)) (i := 0) (st := 69) Tryz.underlying69 info76 rfl (by omega) (by simp [Value.oneCell']) h.at_ (by decide) h.own (by simp; omega) hB b2)
  have NT := hidi (fun (w3 : World) (ha : Ap w w3 B 76 sb 0 71 #[v] v (L.map fpv) (f, .slice none 0 0)) => (show ∃ F c, w3.cell? ⟨sb, 0, none⟩ = some (.slice (some ⟨F, 0, none⟩) (L.length + 1) c) ∧ Calls Tryz.prog 31 #[.pointer (some ⟨F, L.length * 2, none⟩), .string k, .int .i64 q] w3 fun e w' => e = .returned (.int .i64 (-1)) ∧ ∃ v' L', SL B w' sb v' L' ∧ L'.map Fl.p = L.map Fl.p ++ [(f, [(k, q)])] ∧ KQ sb w w' v0 L v' L' from by
    rw [hv0]
    obtain ⟨u, h1, h2⟩ := h.appq ha
    have hgi : (L ++ [(⟨f, [], .slice none 0 0⟩ : Fl)])[L.length]? = some ⟨f, [], .slice none 0 0⟩ := by simp
    obtain ⟨F, c, fc, hv, hF, hc, hle, -⟩ := h1.row hgi
    refine ⟨F, c, ?_, (note_slq h1 hgi hv (by simp) (Nat.le_trans hB h2.ch.size) k hk q).mono ?_⟩
    · have := box_cells h1.at_ 0 u rfl
      rw [this, hv]
      simp
    · rintro e w' ⟨rfl, L', h3, h4, h5⟩
      refine ⟨rfl, u, L', h3, ?_, h2.trans h5⟩
      rw [h4]
      simp only [pNote, pos, List.map_nil, List.nil_append, List.map_append, List.map_cons]
      rw [List.set_append_right _ _ (by simp)]
      simp [Fl.p]))
  obtain ⟨a, c, hv⟩ := own_sl h.own
  have hfz := box_frozen h.at_ 0
  rw [hv] at KC AP
  have hml : (L.map fpv).length = L.length := by simp
  rw [hml] at KC AP
  rw [hv] at NT
  obtain ⟨n, hn⟩ : ∃ n, n = L.length := ⟨_, rfl⟩
  rw [hml] at NT
  rw [← hn] at KC AP NT
  have hw1 : IntKind.i64.wrap ((n : Int) + 1) = (n : Int) + 1 := by rw [IntKind.wrap_i64]; omega
  have hlt : (n : Int) < ((n + 1 : Nat) : Int) := by omega
  have hge : (0 : Int) ≤ (n : Int) := by omega
  clear h hf hfs hq hL hk hB hi ep hix hn hv hml hv0
  go_enter Tryz.func8, Tryz.ntmps8
  go_wp2_with (first | (go_at_call 27; refine H.out.mono ?_; rintro e w1 ⟨rfl, hb⟩; have HB := hidi hb; have c1 := KC.out w1 hb; clear hb) | (go_at_call 28; refine (Q.out _).mono ?_; rintro e w' ⟨rfl, he⟩; obtain rfl := he.symm; clear he) | (go_at_call 29; refine (PL.out _ HB.out).mono ?_; rintro e w' ⟨rfl, he⟩; obtain rfl := he.symm; clear he))
  go_region_law (first
    | (go_simp; go_at_call 30; refine (CL.out _).mono ?_; rintro e w2 ⟨rfl, hb⟩; have hb2 := HB.out.trans (((Below.refl w1.heap.size w1).drew.trans hb).mono HB.out.size); obtain ⟨g', cap', w3, hrun, hk3, hf3, hap⟩ := AP.out w2 hb2; have hc3 := hk3.trans (KC.out w (Below.refl _ _)); have HR := hidi hrun; obtain ⟨F9, c9, hc9, hn9⟩ := NT.out _ hap; rw [cell_self hc3] at hc9; simp only [Option.some.injEq, Value.slice.injEq, Addr.mk.injEq, and_true, true_and] at hc9; obtain ⟨e9, -⟩ := hc9; rw [← e9] at hn9; clear e9; have HN9 := hidi hn9; have c2 := KC.out w2 hb2; have c4 := KC.out (w2.alloc (.cells #[.string f, .slice none 0 0] 76)) (hb2.alloc hb2.size _); clear hb hb2 hk3 hrun hap hn9)
    | (refine step_app rfl (.tmp 31) (.tmp 35) 69 69 rfl _ _ rfl rfl _ w3 HR.out ?_))
  all_goals go_wp2_with (go_at_call 31; refine HN9.out.mono ?_; rintro e w' ⟨rfl, v', L', h1, h2, h3⟩; have H9 := hidi (And.intro h1 (And.intro h2 h3)); clear h1 h2 h3)
  all_goals go_ret2
  all_goals exact ⟨rfl, v', L', H9.out.1, H9.out.2.1, by rw [← HV0.out]; exact H9.out.2.2⟩
theorem put_anyq (h : SL B w sb v L) (f k : ByteArray) (q : Int) (hf : rfc f = 0) (hfs : f.size ≤ 1000000) (hq : 0 ≤ q ∧ q ≤ 2) (hL : L.length ≤ 900000) (he : ∀ x ∈ L, x.es.length ≤ 900000) (hk : k.size ≤ 1000000) (hB : B ≤ w.heap.size) :
    Calls Tryz.prog 8 #[.pointer (some ⟨sb, 0, none⟩), .string f, .string k, .int .i64 q] w fun e w' => e = .returned (.tuple #[.int .i64 (pPut (L.map Fl.p) f k q).2, .int .i64 0]) ∧ ∃ v' L', SL B w' sb v' L' ∧ L'.map Fl.p = (pPut (L.map Fl.p) f k q).1 ∧ KQ sb w w' v L v' L' := by
  cases e : pos ((L.map Fl.p).map (·.1)) f with
  | none => exact put_newq h f k q hf hfs hq hL hk hB e
  | some i => exact put_hasq h f k q hf hq hL he hk hB e
end
end Go.Proofs.YtenaliaefbkbcaaGreat.Li
