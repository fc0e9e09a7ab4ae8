import Derived.Test.YtibihbclijpkjaaGreatDoorFre
import Derived.Test.YtibihbclijpkjaaGreatDoorAsf
namespace Go.Proofs.YtibihbclijpkjaaGreatDoor
open Go Go.RowKit
open Pkt (Pk Cn Sl In By pkCells Gd box_below)
set_option linter.unusedSimpArgs false
set_option linter.unusedVariables false

/-- What errors.As looks at. -/
def Et (w : World) : Prop := w.cell? ⟨1, 0, none⟩ = some (.iface 168 (.agg #[.pointer (some ⟨3, 39, none⟩)]))
theorem Et.below {w w' : World} (h : Et w) (hb : Below w.heap.size w w') : Et w' := cell_later hb h
theorem set_fault {w : World} {fb : Nat} {most : Int} {v : Value} {d gone fa fe : Int} (a e : Int) (h : FrAt w fb most v d gone fa fe) : FrAt ((w.setCell ⟨fb, 4, none⟩ (.int .i64 a)).setCell ⟨fb, 5, none⟩ (.int .i64 e)) fb most v d gone a e := by
  unfold FrAt at h ⊢
  have h1 := heap_setCell_same w fb 4 _ _ (.int .i64 a) h
  have h2 := heap_setCell_same (w.setCell ⟨fb, 4, none⟩ (.int .i64 a)) fb 5 _ _ (.int .i64 e) h1
  rw [h2]
  rfl
/-- errors.As of a fault, in few words. -/
theorem as_any (gg : Nat) (w : World) (het : Et w) : Calls Tryz.prog 106 #[.iface 78 (.pointer (some ⟨gg, 0, none⟩)), .iface 138 (.pointer (some ⟨w.heap.size, 0, none⟩))] (w.alloc (.cells #[.pointer none] 78)) fun e w' => e = .returned (.bool true) ∧ Below w.heap.size w w' ∧ w'.cell? ⟨w.heap.size, 0, none⟩ = some (.pointer (some ⟨gg, 0, none⟩)) := by
  have hb : Below w.heap.size w (w.alloc (.cells #[.pointer none] 78)) := (Below.refl _ _).alloc (Nat.le_refl _) _
  have hn := heap_alloc_new w (.cells #[.pointer none] 78)
  refine (as_hit ⟨gg, 0, none⟩ ⟨w.heap.size, 0, none⟩ (.pointer none) (w.alloc (.cells #[.pointer none] 78)) (het.below hb) (box_cells hn 0 _ rfl) (frozen_of_row _ _ 0 _ _ hn)).mono ?_
  rintro e w' ⟨rfl, rfl⟩
  refine ⟨rfl, ?_, ?_⟩
  · refine ⟨rfl, rfl, rfl, by simp [World.setCell]; omega, fun k hk => ?_⟩
    rw [Below.heap_setCell _ _ _ _ (show k ≠ w.heap.size by omega)]
    exact ((((hb.alloc (by simp) _).alloc (by simp; omega) _).alloc (by simp; omega) _).alloc (by simp; omega) _).block k hk
  · have h2 : ∀ (W : World), W.heap[w.heap.size]? = some (.cells #[.pointer none] 78 (0, 0)) → (W.setCell ⟨w.heap.size, 0, none⟩ (.pointer (some ⟨gg, 0, none⟩))).cell? ⟨w.heap.size, 0, none⟩ = some (.pointer (some ⟨gg, 0, none⟩)) := by
      intro W hW
      have := heap_setCell_same W w.heap.size 0 _ _ (.pointer (some ⟨gg, 0, none⟩)) hW
      simp [World.cell?, this]
    refine h2 _ ?_
    refine ((((((Below.refl _ _).alloc (Nat.le_refl _) _).alloc (by simp) _).alloc (by simp) _).alloc (by simp) _).block _ ?_).trans hn
    simp
set_option maxRecDepth 100000 in
set_option maxHeartbeats 2000000 in
theorem die_any {w : World} {fb : Nat} {most : Int} {v : Value} {d gone fa fe x y : Int} {gg : Nat} (h : FrAt w fb most v d gone fa fe) (hg : w.heap[gg]? = some (.cells #[.int .i64 x, .int .i64 y] 81 (0, 0))) (het : Et w) :
    Calls Tryz.prog 78 #[.pointer (some ⟨fb, 0, none⟩), .iface 78 (.pointer (some ⟨gg, 0, none⟩))] w fun e w' => e = .returned (.tuple #[]) ∧ FrAt w' fb most (.slice none 0 0) 0 gone (wrap64 (wrap64 (gone + d) + x)) y ∧ Kq fb none w w' := by
  have HF : Hid (FrAt w fb most v d gone fa fe) := h
  have HG : Hid (w.heap[gg]? = some (.cells #[.int .i64 x, .int .i64 y] 81 (0, 0))) := hg
  have HC : Hid (Calls Tryz.prog 106 #[.iface 78 (.pointer (some ⟨gg, 0, none⟩)), .iface 138 (.pointer (some ⟨w.heap.size, 0, none⟩))] (w.alloc (.cells #[.pointer none] 78)) fun e w' => e = .returned (.bool true) ∧ Below w.heap.size w w' ∧ w'.cell? ⟨w.heap.size, 0, none⟩ = some (.pointer (some ⟨gg, 0, none⟩))) := as_any gg w het
  have HL : Hid (fb < w.heap.size) := FrAt.lt h
  clear h hg het
  go_enter Tryz.func78, Tryz.ntmps78
  go_wp2_with fail
  go_must (go_at_call 106)
  refine HC.out.mono ?_
  rintro e w2 ⟨rfl, hb, hx⟩
  have B2 : Hid (Below w.heap.size w w2) := hb
  have F2 : Hid (FrAt w2 fb most v d gone fa fe) := by
    have h1 := HF.out
    unfold FrAt at h1
    show FrAt _ _ _ _ _ _ _ _
    unfold FrAt
    rw [hb.block fb HL.out]; exact h1
  have g2 : w2.heap[gg]? = some (.cells #[.int .i64 x, .int .i64 y] 81 (0, 0)) := (hb.block gg (lt_of_block HG.out)).trans HG.out
  clear hb
  have cg : w2.cell? ⟨gg, 0, none⟩ = some (.int .i64 x) := by simp [World.cell?, g2]
  have ce : w2.cell? ⟨gg, 1, none⟩ = some (.int .i64 y) := by simp [World.cell?, g2]
  have c2 : w2.cell? ⟨fb, 2, none⟩ = some (.int .i64 d) := F2.out.cell 2 _ rfl
  have c3 : w2.cell? ⟨fb, 3, none⟩ = some (.int .i64 gone) := F2.out.cell 3 _ rfl
  have c4 : w2.cell? ⟨fb, 4, none⟩ = some (.int .i64 fa) := F2.out.cell 4 _ rfl
  have c5 : w2.cell? ⟨fb, 5, none⟩ = some (.int .i64 fe) := F2.out.cell 5 _ rfl
  have z4 : w2.frozen? ⟨fb, 4, none⟩ = false := Fr.frozen F2.out 4
  have z5 : w2.frozen? ⟨fb, 5, none⟩ = false := Fr.frozen F2.out 5
  clear g2
  go_wp2_with fail
  go_region
  obtain ⟨w3, hw3⟩ : ∃ w3, w3 = ((w2.setCell ⟨fb, 4, none⟩ (.int .i64 (wrap64 (wrap64 (gone + d) + x)))).setCell ⟨fb, 5, none⟩ (.int .i64 y)).drew := ⟨_, rfl⟩
  have F3 : Hid (FrAt w3 fb most v d gone (wrap64 (wrap64 (gone + d) + x)) y) := by
    show FrAt _ _ _ _ _ _ _ _
    rw [hw3]; exact set_fault _ _ F2.out
  have K3 : Hid (∀ k, k ≠ fb → w3.heap[k]? = w2.heap[k]?) := by
    intro k hk
    rw [hw3]
    show ((w2.setCell ⟨fb, 4, none⟩ _).setCell ⟨fb, 5, none⟩ _).heap[k]? = _
    rw [Below.heap_setCell _ _ _ _ hk, Below.heap_setCell _ _ _ _ hk]
  have E3 : Hid (w3.os = w2.os ∧ w3.tape = w2.tape ∧ w3.output = w2.output ∧ w3.heap.size = w2.heap.size) := by
    rw [hw3]; exact ⟨rfl, rfl, rfl, by simp [World.setCell, World.drew]⟩
  rw [← hw3]
  clear hw3 cg ce c2 c3 c4 c5 z4 z5 hx
  have c1 : w3.cell? ⟨fb, 1, none⟩ = some v := F3.out.cell 1 _ rfl
  have c2 : w3.cell? ⟨fb, 2, none⟩ = some (.int .i64 d) := F3.out.cell 2 _ rfl
  have z1 : w3.frozen? ⟨fb, 1, none⟩ = false := Fr.frozen F3.out 1
  have z2 : w3.frozen? ⟨fb, 2, none⟩ = false := Fr.frozen F3.out 2
  go_wp2_with fail
  go_end0
  refine ⟨rfl, ?_, ?_⟩
  · exact set_done 0 (set_list F3.out)
  · refine ⟨E3.out.1.trans B2.out.os, E3.out.2.1.trans B2.out.tape, E3.out.2.2.1.trans B2.out.output, ?_, fun k hk h1 _ => ?_⟩
    · have := B2.out.size; have := E3.out.2.2.2; simp [World.setCell]; omega
    · rw [Below.heap_setCell _ _ _ _ h1, Below.heap_setCell _ _ _ _ h1, K3.out k h1, B2.out.block k hk]
end Go.Proofs.YtibihbclijpkjaaGreatDoor
