import Derived.Test.YtmfbkfgggdkfmaaGreatDoorGtwo
import Derived.Test.YtmfbkfgggdkfmaaGreatDoorSsix
import Derived.Lib.LazyBuf
namespace Go.Proofs.YtmfbkfgggdkfmaaGreatDoor
open Go Go.RowKit
set_option linter.unusedSimpArgs false
set_option linter.unusedVariables false

theorem eql_nil (a : Addr) (l c : Nat) (w : World) : (binOp .eql 22 (.slice (some a) l c) (.slice none 0 0)).run Tryz.prog w = .ok (.bool false) w := by kernel_rfl

set_option maxRecDepth 100000 in
set_option maxHeartbeats 1000000 in
theorem clone_some (ad : Addr) (l k : Nat) (z : Nat → Int) (w : World) (h : Came w (some ad) l k z) (hl : l ≤ 800000) :
    Calls Tryz.prog 54 #[.slice (some ad) l k] w fun e w' => Made w w' e l (cellsOf z l) := by
  obtain ⟨i0, hi, hz0, hz1, hz2⟩ := info_parts Tryz.info5
  have en := eql_nil
  have HC : Hid (∀ j, j < l → w.cell? (ad.add j) = some (.int .u8 (z j))) := by
    obtain ⟨_, _, ⟨h, _⟩ | ⟨ad', h, hc⟩⟩ := h
    · cases h
    · obtain rfl := Option.some.inj h
      exact hc
  clear h
  have OWN0 : Hid ((w.alloc (.cells #[] 5)).ownsRow w.heap.size 5 1 (.slice (some ⟨w.heap.size, 0, none⟩) 0 0) 0 []) := World.ownsRow_made w #[] 0 (Nat.le_refl _) (by decide) (by decide)
  go_enter Tryz.func54, Tryz.ntmps54
  go_wp2_with (at_builtin; refine wpList_append_own _ rfl (.tmp 5) (.tmp 6) 22 rfl w.heap.size 5 i0 (.int .u8 0) 1 1 Tryz.underlying22 hi hz0 hz1 hz2 rfl (by decide) _ _ _ rfl OWN0.out ad l k (cellsOf z l) rfl ?c0 ?c1 ?c2 ?c3 ?c4 ?c5 ?_)
  case c0 => simp [cellsOf]
  case c1 =>
    intro j u hj
    obtain ⟨h1, rfl⟩ := cellsOf_get z l j u hj
    exact cell_later ((Below.refl _ _).alloc (Nat.le_refl _) _) (HC.out j h1)
  case c2 => exact fun u hu => cellsOf_one z l u hu
  case c3 => unfold maxLen; omega
  case c4 => omega
  case c5 => simp
  intro v1 w1 hown1 hgrow1 hnil1
  have hb1 : Below w.heap.size w w1 := ((Below.refl w.heap.size w).alloc (Nat.le_refl _) _).grown hgrow1 (by simp) (by intro k hk; simp [Value.ownBlock] at hk; omega)
  have hown2 : w1.ownsRow w.heap.size 5 1 v1 l (cellsOf z l) := by simpa using hown1
  have hex : ∃ g cp, v1 = .slice (some ⟨g, 0, none⟩) l cp := by
    obtain ⟨_, h | ⟨g, cp, cur, hv, _⟩⟩ := hown2
    · exact absurd h.1 (by simpa using hnil1)
    · exact ⟨g, cp, hv⟩
  obtain ⟨g, cp, rfl⟩ := hex
  have HS : Hid (w1.ownsRow w.heap.size 5 1 (.slice (some ⟨g, 0, none⟩) l cp) l (cellsOf z l) ∧ Below w.heap.size w w1) := ⟨hown2, hb1⟩
  clear hown1 hown2 hgrow1 hnil1 hb1
  go_wp2
  go_ret
  exact ⟨g, cp, rfl, HS.out.1, HS.out.2⟩

/-- A new reader of these bytes. -/
def NewRd (w w' : World) (e : Ending) (n : Nat) (z : Nat → Int) : Prop :=
  ∃ rb g cp, e = .returned (.pointer (some ⟨rb, 0, none⟩)) ∧ RdAt w' rb (.slice (some ⟨g, 0, none⟩) n cp) 0 0 0 ∧ Own w' g n z ∧ g ≠ rb ∧ n ≤ cp ∧ w.heap.size ≤ g ∧ w.heap.size ≤ rb ∧ Below w.heap.size w w'

set_option maxRecDepth 100000 in
set_option maxHeartbeats 1000000 in
theorem read_some (ad : Addr) (l k : Nat) (z : Nat → Int) (w : World) (h : Came w (some ad) l k z) (hl : l ≤ 800000) :
    Calls Tryz.prog 45 #[.slice (some ad) l k] w fun e w' => NewRd w w' e l z := by
  have C0 : Hid (Calls Tryz.prog 54 #[.slice (some ad) l k] w fun e w' => Made w w' e l (cellsOf z l)) := clone_some ad l k z w h hl
  have hz : Hid (∀ i, 0 ≤ z i ∧ z i ≤ 255) := h.2.1
  clear h
  go_enter Tryz.func45, Tryz.ntmps45
  go_wp2_with (go_at_call 54; refine C0.out.mono ?_; rintro e w1 ⟨g, cp, rfl, ho, hb⟩)
  go_ret
  have hcm := made_came (w := w) ho hz.out
  have hgl : g < w1.heap.size ∧ w.heap.size ≤ g := by
    have := ho.lt g rfl
    omega
  have hbb : Below w1.heap.size w1 (w1.alloc (.cells #[.slice (some ⟨g, 0, none⟩) l cp, .int .i64 0, .int .i64 0, .int .i64 0] 123)) := (Below.refl _ _).alloc (Nat.le_refl _) _
  refine ⟨w1.heap.size, g, cp, rfl, heap_alloc_new w1 _, ⟨hz.out, fun i hi => ?_⟩, by omega, hcm.1, hgl.2, hb.size, hb.trans (hbb.mono hb.size)⟩
  have hc := (came_byt hcm).2.2
  rcases hc with hc | ⟨b, off, e1, hc⟩
  · omega
  · cases e1
    have q := hc i hi
    rw [Nat.zero_add] at q
    exact cell_later hbb q


end Go.Proofs.YtmfbkfgggdkfmaaGreatDoor
