import Derived.Test.YtcoccggimbficaaGreatDoorUh
namespace Go.Proofs.YtcoccggimbficaaGreatDoor
open Go Go.RowKit Go.Sort
set_option linter.unusedSimpArgs false
set_option linter.unusedVariables false

/-- So many lists of one kind that a room keeps: all marks stand. -/
def Keeps (w : World) (R f m room : Nat) (mark : Nat → Nat → Nat → Prop) : Prop :=
  ∃ (gb cb ga ca : Nat) (G N C : Nat → Nat), m ≤ 1000 ∧ (∀ i, i < m → N i ≤ 1000000 ∧ N i + room ≤ C i) ∧ m ≤ cb ∧ m ≤ ca ∧ w.cell? ⟨R, f, none⟩ = some (.slice (some ⟨gb, 0, none⟩) m cb) ∧ w.cell? ⟨R, f + 1, none⟩ = some (.slice (some ⟨ga, 0, none⟩) m ca) ∧
    (∀ i, i < m → w.cell? ⟨gb, i, none⟩ = some (.slice (some ⟨G i, 0, none⟩) (N i + room) (C i))) ∧ (∀ i, i < m → w.cell? ⟨ga, i, none⟩ = some (.int .i64 (N i))) ∧ ∀ i, i < m → ∀ k, k < room → mark (G i) (N i + k) k
theorem Keeps.below {w w' : World} {R f m room : Nat} {mk mk' : Nat → Nat → Nat → Prop} (h : Keeps w R f m room mk) (hb : Below w.heap.size w w') (hmk : ∀ g j k, mk g j k → mk' g j k) : Keeps w' R f m room mk' := by
  obtain ⟨gb, cb, ga, ca, G, N, C, h1, h2, h3, h4, h5, h6, h7, h8, h9⟩ := h
  exact ⟨gb, cb, ga, ca, G, N, C, h1, h2, h3, h4, cell_later hb h5, cell_later hb h6, fun i hi => cell_later hb (h7 i hi), fun i hi => cell_later hb (h8 i hi), fun i hi k hk => hmk _ _ _ (h9 i hi k hk)⟩
def markB (w : World) (g j k : Nat) : Prop := w.cell? ⟨g, j, none⟩ = some (.int .u8 (markU k))
def markI (w : World) (g j k : Nat) : Prop := w.cell? ⟨g, j, none⟩ = some (.int .i64 (lotI k))
def markS (w : World) (g j k : Nat) : Prop := w.cell? ⟨g, j, none⟩ = some (.string (wordB k))
def markA (w : World) (g j k : Nat) : Prop := w.cell? ⟨g, j * 2, none⟩ = some (.string (wordB k)) ∧ w.cell? ⟨g, j * 2 + 1, none⟩ = some (.int .i64 0)
/-- A room that keeps so many lists of bytes, of numbers, of texts, of filters. -/
structure RoomOk (w : World) (R mb mi ms ma : Nat) : Prop where
  bytes : Keeps w R 0 mb 600 (markB w)
  ints : Keeps w R 2 mi 40 (markI w)
  texts : Keeps w R 4 ms 40 (markS w)
  asks : Keeps w R 6 ma 40 (markA w)
  none : ∀ i, 8 ≤ i → i < 28 → w.cell? ⟨R, i, none⟩ = some (.slice none 0 0)
theorem RoomOk.below {w w' : World} {R mb mi ms ma : Nat} (h : RoomOk w R mb mi ms ma) (hb : Below w.heap.size w w') : RoomOk w' R mb mi ms ma where
  bytes := h.bytes.below hb fun g j k q => cell_later hb q
  ints := h.ints.below hb fun g j k q => cell_later hb q
  texts := h.texts.below hb fun g j k q => cell_later hb q
  asks := h.asks.below hb fun g j k q => ⟨cell_later hb q.1, cell_later hb q.2⟩
  none i h1 h2 := cell_later hb (h.none i h1 h2)

set_option maxHeartbeats 2000000 in
set_option maxRecDepth 100000 in
theorem hold_any (R mb mi ms ma : Nat) (w : World) (h : RoomOk w R mb mi ms ma) : Calls Tryz.prog 9 #[.pointer (some ⟨R, 0, none⟩)] w fun e w' => e = .returned (.bool true) ∧ Below w.heap.size w w' := by
  have H0 : Hid (Calls Tryz.prog 34 #[.pointer (some ⟨R, 0, none⟩)] w fun e w'' => e = .returned (.bool true) ∧ w'' = w) := by
    obtain ⟨gb, cb, ga, ca, G, N, C, h1, h2, h3, h4, h5, h6, h7, h8, h9⟩ := h.bytes
    exact hold_bytes R mb gb cb ga ca G N C w h1 h2 h3 h4 h5 h6 h7 h8 h9
  have H1 : Hid (Calls Tryz.prog 35 #[.pointer (some ⟨R, 0, none⟩)] w fun e w'' => e = .returned (.bool true) ∧ w'' = w) := by
    obtain ⟨gb, cb, ga, ca, G, N, C, h1, h2, h3, h4, h5, h6, h7, h8, h9⟩ := h.ints
    exact hold_ints R mi gb cb ga ca G N C w h1 h2 h3 h4 h5 h6 h7 h8 h9
  have H2 : Hid (Calls Tryz.prog 36 #[.pointer (some ⟨R, 0, none⟩)] w fun e w'' => e = .returned (.bool true) ∧ w'' = w) := by
    obtain ⟨gb, cb, ga, ca, G, N, C, h1, h2, h3, h4, h5, h6, h7, h8, h9⟩ := h.texts
    exact hold_texts R ms gb cb ga ca G N C w h1 h2 h3 h4 h5 h6 h7 h8 h9
  have H3 : Hid (Calls Tryz.prog 37 #[.pointer (some ⟨R, 0, none⟩)] w fun e w'' => e = .returned (.bool true) ∧ Below w.heap.size w w'') := by
    obtain ⟨gb, cb, ga, ca, G, N, C, h1, h2, h3, h4, h5, h6, h7, h8, h9⟩ := h.asks
    exact hold_asks R ma gb cb ga ca G N C w h1 h2 h3 h4 h5 h6 h7 h8 h9
  have HN : Hid (∀ w', Below w.heap.size w w' → ∀ i, 8 ≤ i → i < 28 → w'.cell? ⟨R, i, none⟩ = some (.slice none 0 0)) := fun w' hb => (h.below hb).none
  clear h
  go_enter Tryz.func9, Tryz.ntmps9
  go_wp2_with fail
  go_must (go_at_call 34)
  refine H0.out.mono ?_
  rintro e w' ⟨rfl, hee⟩
  obtain rfl := hee.symm
  clear hee
  go_wp2_with fail
  go_must (go_at_call 35)
  refine H1.out.mono ?_
  rintro e w' ⟨rfl, hee⟩
  obtain rfl := hee.symm
  clear hee
  go_wp2_with fail
  go_must (go_at_call 36)
  refine H2.out.mono ?_
  rintro e w' ⟨rfl, hee⟩
  obtain rfl := hee.symm
  clear hee
  go_wp2_with fail
  go_must (go_at_call 37)
  refine H3.out.mono ?_
  rintro e w1 ⟨rfl, hb⟩
  have B1 : Hid (Below w.heap.size w w1) := hb
  clear hb
  go_wp2_with (first | (go_at_call 38; refine (hold38 R _ (HN.out _ B1.out 8 (by decide) (by decide))).mono ?_; rintro e w' ⟨rfl, hee⟩; obtain rfl := hee.symm; clear hee) | (go_at_call 39; refine (hold39 R _ (HN.out _ B1.out 10 (by decide) (by decide))).mono ?_; rintro e w' ⟨rfl, hee⟩; obtain rfl := hee.symm; clear hee) | (go_at_call 40; refine (hold40 R _ (HN.out _ B1.out 12 (by decide) (by decide))).mono ?_; rintro e w' ⟨rfl, hee⟩; obtain rfl := hee.symm; clear hee) | (go_at_call 41; refine (hold41 R _ (HN.out _ B1.out 14 (by decide) (by decide))).mono ?_; rintro e w' ⟨rfl, hee⟩; obtain rfl := hee.symm; clear hee) | (go_at_call 42; refine (hold42 R _ (HN.out _ B1.out 16 (by decide) (by decide))).mono ?_; rintro e w' ⟨rfl, hee⟩; obtain rfl := hee.symm; clear hee) | (go_at_call 43; refine (hold43 R _ (HN.out _ B1.out 18 (by decide) (by decide))).mono ?_; rintro e w' ⟨rfl, hee⟩; obtain rfl := hee.symm; clear hee) | (go_at_call 44; refine (hold44 R _ (HN.out _ B1.out 20 (by decide) (by decide))).mono ?_; rintro e w' ⟨rfl, hee⟩; obtain rfl := hee.symm; clear hee) | (go_at_call 45; refine (hold45 R _ (HN.out _ B1.out 22 (by decide) (by decide))).mono ?_; rintro e w' ⟨rfl, hee⟩; obtain rfl := hee.symm; clear hee) | (go_at_call 46; refine (hold46 R _ (HN.out _ B1.out 24 (by decide) (by decide))).mono ?_; rintro e w' ⟨rfl, hee⟩; obtain rfl := hee.symm; clear hee) | (go_at_call 47; refine (hold47 R _ (HN.out _ B1.out 26 (by decide) (by decide))).mono ?_; rintro e w' ⟨rfl, hee⟩; obtain rfl := hee.symm; clear hee))
  go_ret
  exact ⟨rfl, B1.out⟩
end Go.Proofs.YtcoccggimbficaaGreatDoor
