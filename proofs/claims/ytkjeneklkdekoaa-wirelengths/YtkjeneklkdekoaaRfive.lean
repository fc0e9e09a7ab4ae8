import Derived.Test.YtkjeneklkdekoaaRfour
namespace Go.Proofs.Ytkjeneklkdekoaa
open Go.RowKit
set_option linter.unusedSimpArgs false
set_option linter.unusedVariables false

theorem plain_add (b off j : Nat) : (⟨b, off, none⟩ : Addr).add j = ⟨b, off + j, none⟩ := by
  unfold Addr.add
  split <;> simp_all

theorem came_byt {w : World} {ao : Option Addr} {len cap : Nat} {z : Nat → Int} (h : Came w ao len cap z) : Byt w ao len cap z := by
  obtain ⟨h1, h2, ⟨rfl, rfl, rfl⟩ | ⟨ad, rfl, hc⟩⟩ := h
  · exact ⟨h1, h2, .inl rfl⟩
  · refine ⟨h1, h2, ?_⟩
    by_cases h0 : len = 0
    · exact .inl h0
    · right
      obtain ⟨b, off, spot⟩ := ad
      have q := hc 0 (by omega)
      have hspot : spot = none := by simpa [Addr.add] using World.cell?_spot q
      subst hspot
      exact ⟨b, off, rfl, fun i hi => by have h := hc i hi; rw [plain_add] at h; exact h⟩

theorem came_below {w w' : World} {B : Nat} {ao : Option Addr} {len cap : Nat} {z : Nat → Int} (h : Came w ao len cap z) (hb : Below w.heap.size w w') : Came w' ao len cap z := by
  obtain ⟨h1, h2, h3 | ⟨ad, rfl, hc⟩⟩ := h
  · exact ⟨h1, h2, .inl h3⟩
  · exact ⟨h1, h2, .inr ⟨ad, rfl, fun i hi => cell_later hb (hc i hi)⟩⟩

/-- A room's fields, all without lists. -/
def nil28 : Array Value := #[.slice none 0 0, .slice none 0 0, .slice none 0 0, .slice none 0 0, .slice none 0 0, .slice none 0 0, .slice none 0 0, .slice none 0 0, .slice none 0 0, .slice none 0 0, .slice none 0 0, .slice none 0 0, .slice none 0 0, .slice none 0 0, .slice none 0 0, .slice none 0 0, .slice none 0 0, .slice none 0 0, .slice none 0 0, .slice none 0 0, .slice none 0 0, .slice none 0 0, .slice none 0 0, .slice none 0 0, .slice none 0 0, .slice none 0 0, .slice none 0 0, .slice none 0 0]
theorem nil28_at : ∀ i, i < 28 → nil28[i]? = some (.slice none 0 0) := by
  intro i hi
  match i, hi with
  | 0, _ => rfl
  | 1, _ => rfl
  | 2, _ => rfl
  | 3, _ => rfl
  | 4, _ => rfl
  | 5, _ => rfl
  | 6, _ => rfl
  | 7, _ => rfl
  | 8, _ => rfl
  | 9, _ => rfl
  | 10, _ => rfl
  | 11, _ => rfl
  | 12, _ => rfl
  | 13, _ => rfl
  | 14, _ => rfl
  | 15, _ => rfl
  | 16, _ => rfl
  | 17, _ => rfl
  | 18, _ => rfl
  | 19, _ => rfl
  | 20, _ => rfl
  | 21, _ => rfl
  | 22, _ => rfl
  | 23, _ => rfl
  | 24, _ => rfl
  | 25, _ => rfl
  | 26, _ => rfl
  | 27, _ => rfl
  | n + 28, h => omega

set_option maxHeartbeats 400000 in
theorem bytes_wrap (R : Nat) (ao : Option Addr) (len cap : Nat) (w : World) (Q : Ending → World → Prop)
    (h : Calls Try.prog 15 #[.pointer (some ⟨R, 0, none⟩), .slice ao len cap, .int .i64 600] w fun e w' => ∃ g n c, e = .returned (.slice (some ⟨g, 0, none⟩) n c) ∧ Q e w') :
    Calls Try.prog 8 #[.pointer (some ⟨R, 0, none⟩), .slice ao len cap] w Q := by
  have H : Hid (Calls Try.prog 15 #[.pointer (some ⟨R, 0, none⟩), .slice ao len cap, .int .i64 600] w fun e w' => ∃ g n c, e = .returned (.slice (some ⟨g, 0, none⟩) n c) ∧ Q e w') := h
  clear h
  go_enter Try.func8, Try.ntmps8
  go_wp2_with (go_at_call 15; refine H.out.mono ?_; rintro e w' ⟨g, n, c, rfl, hq⟩)
  assumption

theorem bytes_first (ao : Option Addr) (len cap : Nat) (z : Nat → Int) (w : World) (hm : len ≤ 140000) (hc : Came w ao len cap z) :
    Calls Try.prog 8 #[.pointer (some ⟨w.heap.size, 0, none⟩), .slice ao len cap] (w.alloc (.cells nil28 47)) fun e w' => ∃ g cp gb cb ga ca, e = .returned (.slice (some ⟨g, 0, none⟩) len (len + 600)) ∧
      RoomOk w' w.heap.size 1 gb cb ga ca (fun _ => g) (fun _ => len) (fun _ => cp) ∧ Came w' (some ⟨g, 0, none⟩) len (len + 600) z ∧ Below w.heap.size w w' := by
  have hb0 : Below w.heap.size w (w.alloc (.cells nil28 47)) := (Below.refl _ _).alloc (Nat.le_refl _) _
  refine bytes_wrap _ _ _ _ _ _ ((lay_any w.heap.size w.heap.size 0 nil28 (.slice none 0 0) (.slice none 0 0) [] [] ao len cap z _ hm (by decide) (came_below (B := 0) hc hb0) (heap_alloc_new w _) (nil28_at 0 (by decide)) (nil28_at 1 (by decide)) (Nat.le_refl _) (World.ownsRow_nil _ _ _ _) (World.ownsRow_nil _ _ _ _)).mono ?_)
  rintro e w' ⟨g, cp, cur, vb', va', rfl, hg, hh, hs, hl, ht, hR, ob, oa, hb⟩
  refine ⟨g, len, len + 600, rfl, g, cp, ?_⟩
  obtain ⟨_, k | ⟨gb, cb, curb, rfl, _, hhb, _, _, hsb, htb⟩⟩ := ob
  · exact absurd k.2 (by decide)
  obtain ⟨_, k | ⟨ga, ca, cura, rfl, _, hha, _, _, hsa, hta⟩⟩ := oa
  · exact absurd k.2 (by decide)
  have cell : ∀ j, j < len + 600 → w'.cell? ⟨g, j, none⟩ = (cellsOf z len ++ cellsOf mark 600)[j]? := by
    intro j hj
    rw [← ht, List.getElem?_take_of_lt hj]
    have hj' : j < cur.size := by omega
    simp [World.cell?, hh]
  refine ⟨gb, cb, ga, ca, rfl, ⟨by decide, fun _ => ⟨hm, hl⟩, ?_, ?_, ?_, ?_, ?_, ?_⟩, ⟨by omega, hc.2.1, .inr ⟨_, rfl, ?_⟩⟩, hb0.trans hb⟩
  · simp [World.cell?, hR, nil28]
  · simp [World.cell?, hR, nil28]
  · intro i hi
    obtain rfl : i = 0 := by omega
    have q : curb.toList[0]? = some (.slice (some ⟨g, 0, none⟩) (len + 600) cp) := by
      have e := congrArg (fun l => l[0]?) htb
      simpa [List.getElem?_take_of_lt] using e
    simpa [World.cell?, hhb] using q
  · intro i hi
    obtain rfl : i = 0 := by omega
    have q : cura.toList[0]? = some (.int .i64 len) := by
      have e := congrArg (fun l => l[0]?) hta
      simpa [List.getElem?_take_of_lt] using e
    simpa [World.cell?, hha] using q
  · intro i _ k hk
    show w'.cell? ⟨g, len + k, none⟩ = _
    rw [cell (len + k) (by omega), List.getElem?_append_right (by rw [cellsOf_length]; omega), cellsOf_length, Nat.add_sub_cancel_left, cellsOf_at mark 600 k hk]
  · intro i h2 h28
    have q := nil28_at i h28
    simp [World.cell?, hR, Array.getElem?_setIfInBounds, show ¬ 1 = i by omega, show ¬ 0 = i by omega, q]
  · intro i hi
    have e : (⟨g, 0, none⟩ : Addr).add i = ⟨g, i, none⟩ := by rw [plain_add, Nat.zero_add]
    rw [e, cell i (by omega), List.getElem?_append_left (by rw [cellsOf_length]; omega), cellsOf_at z len i hi]
end Go.Proofs.Ytkjeneklkdekoaa
