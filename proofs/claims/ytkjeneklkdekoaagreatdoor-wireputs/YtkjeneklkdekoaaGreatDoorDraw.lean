import Derived.Test.YtkjeneklkdekoaaGreatDoorMRtwo
import Derived.Test.YtkjeneklkdekoaaGreatDoorMRthree
import Derived.Laws.BytesArg
import Derived.Test.YtkjeneklkdekoaaGreatDoorProg
import Derived.WalkKit
import Derived.WalkSpells
import Derived.WalkLawsBesides
import Derived.Recover
import Derived.Orders
namespace Go.Proofs.YtkjeneklkdekoaaGreatDoor.Rm
open Go.RowKit
set_option linter.unusedSimpArgs false
set_option linter.unusedVariables false

/-- A room that keeps so many lists of bytes and no others: all marks stand. -/
def RoomOk (w : World) (R m gb cb ga ca : Nat) (G N C : Nat → Nat) : Prop :=
  m ≤ 1000 ∧ (∀ i, N i ≤ 140000 ∧ N i + 600 ≤ C i) ∧ w.cell? ⟨R, 0, none⟩ = some (.slice (some ⟨gb, 0, none⟩) m cb) ∧ w.cell? ⟨R, 1, none⟩ = some (.slice (some ⟨ga, 0, none⟩) m ca) ∧
  (∀ i, i < m → w.cell? ⟨gb, i, none⟩ = some (.slice (some ⟨G i, 0, none⟩) (N i + 600) (C i))) ∧ (∀ i, i < m → w.cell? ⟨ga, i, none⟩ = some (.int .i64 (N i))) ∧
  (∀ i, i < m → ∀ k, k < 600 → w.cell? ⟨G i, N i + k, none⟩ = some (.int .u8 (mark k))) ∧ ∀ i, 2 ≤ i → i < 28 → w.cell? ⟨R, i, none⟩ = some (.slice none 0 0)

set_option maxHeartbeats 1000000 in
theorem hold_any (R m gb cb ga ca : Nat) (G N C : Nat → Nat) (w : World) (h : RoomOk w R m gb cb ga ca G N C) :
    Calls Tryz.prog 9 #[.pointer (some ⟨R, 0, none⟩)] w fun e w' => e = .returned (.bool true) ∧ w' = w := by
  have H0 : Hid (∀ w', w' = w → Calls Tryz.prog 29 #[.pointer (some ⟨R, 0, none⟩)] w' fun e w'' => e = .returned (.bool true) ∧ w'' = w') := fun w' hw => by
    subst hw
    obtain ⟨h1, h2, h3, h4, h5, h6, h7, _⟩ := h
    exact hold_bytes R m gb cb ga ca G N C _ h1 h2 h3 h4 h5 h6 h7
  have HN : Hid (∀ i, 2 ≤ i → i < 28 → w.cell? ⟨R, i, none⟩ = some (.slice none 0 0)) := h.2.2.2.2.2.2.2
  clear h
  go_enter Tryz.func9, Tryz.ntmps9
  go_wp2_with (first | (go_at_call 29; refine (H0.out _ rfl).mono ?_; rintro e w' ⟨rfl, rfl⟩) | (go_at_call 30; refine (hold17 R _ (HN.out 2 (by decide) (by decide))).mono ?_; rintro e w' ⟨rfl, rfl⟩) | (go_at_call 31; refine (hold18 R _ (HN.out 4 (by decide) (by decide))).mono ?_; rintro e w' ⟨rfl, rfl⟩) | (go_at_call 32; refine (hold19 R _ (HN.out 6 (by decide) (by decide))).mono ?_; rintro e w' ⟨rfl, rfl⟩) | (go_at_call 33; refine (hold20 R _ (HN.out 8 (by decide) (by decide))).mono ?_; rintro e w' ⟨rfl, rfl⟩) | (go_at_call 34; refine (hold21 R _ (HN.out 10 (by decide) (by decide))).mono ?_; rintro e w' ⟨rfl, rfl⟩) | (go_at_call 35; refine (hold22 R _ (HN.out 12 (by decide) (by decide))).mono ?_; rintro e w' ⟨rfl, rfl⟩) | (go_at_call 36; refine (hold23 R _ (HN.out 14 (by decide) (by decide))).mono ?_; rintro e w' ⟨rfl, rfl⟩) | (go_at_call 37; refine (hold24 R _ (HN.out 16 (by decide) (by decide))).mono ?_; rintro e w' ⟨rfl, rfl⟩) | (go_at_call 38; refine (hold25 R _ (HN.out 18 (by decide) (by decide))).mono ?_; rintro e w' ⟨rfl, rfl⟩) | (go_at_call 39; refine (hold26 R _ (HN.out 20 (by decide) (by decide))).mono ?_; rintro e w' ⟨rfl, rfl⟩) | (go_at_call 40; refine (hold27 R _ (HN.out 22 (by decide) (by decide))).mono ?_; rintro e w' ⟨rfl, rfl⟩) | (go_at_call 41; refine (hold28 R _ (HN.out 24 (by decide) (by decide))).mono ?_; rintro e w' ⟨rfl, rfl⟩) | (go_at_call 42; refine (hold29 R _ (HN.out 26 (by decide) (by decide))).mono ?_; rintro e w' ⟨rfl, rfl⟩))
  go_ret
  exact ⟨rfl, rfl⟩

/-- The text that so many bytes make. -/
def strZ (z : Nat → Int) (n : Nat) : ByteArray := strOfNums ((List.range n).map z)

theorem conv_any (ao : Option Addr) (len cap : Nat) (z : Nat → Int) (w : World) (h : Came w ao len cap z) : (convert 22 9 (.slice ao len cap)).run Tryz.prog w = .ok (.string (strZ z len)) w := by
  obtain ⟨_, _, ⟨rfl, rfl, rfl⟩ | ⟨ad, rfl, hc⟩⟩ := h
  · rw [run_convert_bytes_nil w 22 5 Tryz.underlying22 Tryz.underlying5 0 0 9 Tryz.underlying9]
    rfl
  · rw [run_convert_bytes_string w 22 9 5 _ len cap Tryz.underlying22 Tryz.underlying5 Tryz.underlying9]
    have hl : (loadCells ad len).run Tryz.prog w = .ok (((List.range len).map z).map (Value.int .u8)).toArray w := by
      have := run_loadCells_list (P := Tryz.prog) w ad (cellsOf z len) (fun j v hj => by
        obtain ⟨h1, rfl⟩ := cellsOf_get z len j v hj
        exact hc j h1)
      simpa [cellsOf, Function.comp_def] using this
    rw [run_bytesToString w ad len cap _ hl, foldl_push_bytes]
    simp [strZ, strOfNums, ByteArray.empty, ByteArray.emptyWithCapacity]
    rfl

set_option maxHeartbeats 400000 in
theorem same_any (ao ao' : Option Addr) (len cap len' cap' : Nat) (z z' : Nat → Int) (w : World) (h : Came w ao len cap z) (h' : Came w ao' len' cap' z') :
    Calls Tryz.prog 8 #[.slice ao len cap, .slice ao' len' cap'] w fun e w' => e = .returned (.bool ((strZ z len).toList == (strZ z' len').toList)) ∧ w' = w := by
  have c1 := conv_any ao len cap z w h
  have c2 := conv_any ao' len' cap' z' w h'
  clear h h'
  go_enter Tryz.func8, Tryz.ntmps8
  go_wp2
  go_ret
  exact ⟨rfl, rfl⟩
end Go.Proofs.YtkjeneklkdekoaaGreatDoor.Rm
namespace Go.Proofs.YtkjeneklkdekoaaGreatDoor.Rm
open Go.RowKit
set_option linter.unusedSimpArgs false
set_option linter.unusedVariables false

theorem plain_add (b off j : Nat) : (⟨b, off, none⟩ : Addr).add j = ⟨b, off + j, none⟩ := by
  unfold Addr.add
  split <;> simp_all

theorem came_byt {w : World} {ao : Option Addr} {len cap : Nat} {z : Nat → Int} (h : Came w ao len cap z) : Byt w ao len cap z := by
  obtain ⟨h1, h2, ⟨rfl, rfl, rfl⟩ | ⟨ad, rfl, hc⟩⟩ := h
  · exact ⟨h1, h2, .inl rfl⟩
  · refine ⟨h1, h2, ?_⟩
    by_cases h0 : len = 0
    · exact .inl h0
    · right
      obtain ⟨b, off, spot⟩ := ad
      have q := hc 0 (by omega)
      have hspot : spot = none := by simpa [Addr.add] using World.cell?_spot q
      subst hspot
      exact ⟨b, off, rfl, fun i hi => by have h := hc i hi; rw [plain_add] at h; exact h⟩

theorem came_below {w w' : World} {B : Nat} {ao : Option Addr} {len cap : Nat} {z : Nat → Int} (h : Came w ao len cap z) (hb : Below w.heap.size w w') : Came w' ao len cap z := by
  obtain ⟨h1, h2, h3 | ⟨ad, rfl, hc⟩⟩ := h
  · exact ⟨h1, h2, .inl h3⟩
  · exact ⟨h1, h2, .inr ⟨ad, rfl, fun i hi => cell_later hb (hc i hi)⟩⟩

/-- A room's fields, all without lists. -/
def nil28 : Array Value := #[.slice none 0 0, .slice none 0 0, .slice none 0 0, .slice none 0 0, .slice none 0 0, .slice none 0 0, .slice none 0 0, .slice none 0 0, .slice none 0 0, .slice none 0 0, .slice none 0 0, .slice none 0 0, .slice none 0 0, .slice none 0 0, .slice none 0 0, .slice none 0 0, .slice none 0 0, .slice none 0 0, .slice none 0 0, .slice none 0 0, .slice none 0 0, .slice none 0 0, .slice none 0 0, .slice none 0 0, .slice none 0 0, .slice none 0 0, .slice none 0 0, .slice none 0 0]
theorem nil28_at : ∀ i, i < 28 → nil28[i]? = some (.slice none 0 0) := by
  intro i hi
  match i, hi with
  | 0, _ => rfl
  | 1, _ => rfl
  | 2, _ => rfl
  | 3, _ => rfl
  | 4, _ => rfl
  | 5, _ => rfl
  | 6, _ => rfl
  | 7, _ => rfl
  | 8, _ => rfl
  | 9, _ => rfl
  | 10, _ => rfl
  | 11, _ => rfl
  | 12, _ => rfl
  | 13, _ => rfl
  | 14, _ => rfl
  | 15, _ => rfl
  | 16, _ => rfl
  | 17, _ => rfl
  | 18, _ => rfl
  | 19, _ => rfl
  | 20, _ => rfl
  | 21, _ => rfl
  | 22, _ => rfl
  | 23, _ => rfl
  | 24, _ => rfl
  | 25, _ => rfl
  | 26, _ => rfl
  | 27, _ => rfl
  | n + 28, h => omega

set_option maxHeartbeats 400000 in
theorem bytes_wrap (R : Nat) (ao : Option Addr) (len cap : Nat) (w : World) (Q : Ending → World → Prop)
    (h : Calls Tryz.prog 16 #[.pointer (some ⟨R, 0, none⟩), .slice ao len cap, .int .i64 600] w fun e w' => ∃ g n c, e = .returned (.slice (some ⟨g, 0, none⟩) n c) ∧ Q e w') :
    Calls Tryz.prog 6 #[.pointer (some ⟨R, 0, none⟩), .slice ao len cap] w Q := by
  have H : Hid (Calls Tryz.prog 16 #[.pointer (some ⟨R, 0, none⟩), .slice ao len cap, .int .i64 600] w fun e w' => ∃ g n c, e = .returned (.slice (some ⟨g, 0, none⟩) n c) ∧ Q e w') := h
  clear h
  go_enter Tryz.func6, Tryz.ntmps6
  go_wp2_with (go_at_call 16; refine H.out.mono ?_; rintro e w' ⟨g, n, c, rfl, hq⟩)
  assumption

theorem bytes_first (ao : Option Addr) (len cap : Nat) (z : Nat → Int) (w : World) (hm : len ≤ 140000) (hc : Came w ao len cap z) :
    Calls Tryz.prog 6 #[.pointer (some ⟨w.heap.size, 0, none⟩), .slice ao len cap] (w.alloc (.cells nil28 40)) fun e w' => ∃ g cp gb cb ga ca, e = .returned (.slice (some ⟨g, 0, none⟩) len (len + 600)) ∧
      RoomOk w' w.heap.size 1 gb cb ga ca (fun _ => g) (fun _ => len) (fun _ => cp) ∧ Came w' (some ⟨g, 0, none⟩) len (len + 600) z ∧ Below w.heap.size w w' := by
  have hb0 : Below w.heap.size w (w.alloc (.cells nil28 40)) := (Below.refl _ _).alloc (Nat.le_refl _) _
  refine bytes_wrap _ _ _ _ _ _ ((lay_any w.heap.size w.heap.size 0 nil28 (.slice none 0 0) (.slice none 0 0) [] [] ao len cap z _ hm (by decide) (came_below (B := 0) hc hb0) (heap_alloc_new w _) (nil28_at 0 (by decide)) (nil28_at 1 (by decide)) (Nat.le_refl _) (World.ownsRow_nil _ _ _ _) (World.ownsRow_nil _ _ _ _)).mono ?_)
  rintro e w' ⟨g, cp, cur, vb', va', rfl, hg, hh, hs, hl, ht, hR, ob, oa, hb⟩
  refine ⟨g, len, len + 600, rfl, g, cp, ?_⟩
  obtain ⟨_, k | ⟨gb, cb, curb, rfl, _, hhb, _, _, hsb, htb⟩⟩ := ob
  · exact absurd k.2 (by decide)
  obtain ⟨_, k | ⟨ga, ca, cura, rfl, _, hha, _, _, hsa, hta⟩⟩ := oa
  · exact absurd k.2 (by decide)
  have cell : ∀ j, j < len + 600 → w'.cell? ⟨g, j, none⟩ = (cellsOf z len ++ cellsOf mark 600)[j]? := by
    intro j hj
    rw [← ht, List.getElem?_take_of_lt hj]
    have hj' : j < cur.size := by omega
    simp [World.cell?, hh]
  refine ⟨gb, cb, ga, ca, rfl, ⟨by decide, fun _ => ⟨hm, hl⟩, ?_, ?_, ?_, ?_, ?_, ?_⟩, ⟨by omega, hc.2.1, .inr ⟨_, rfl, ?_⟩⟩, hb0.trans hb.1⟩
  · simp [World.cell?, hR, nil28]
  · simp [World.cell?, hR, nil28]
  · intro i hi
    obtain rfl : i = 0 := by omega
    have q : curb.toList[0]? = some (.slice (some ⟨g, 0, none⟩) (len + 600) cp) := by
      have e := congrArg (fun l => l[0]?) htb
      simpa [List.getElem?_take_of_lt] using e
    simpa [World.cell?, hhb] using q
  · intro i hi
    obtain rfl : i = 0 := by omega
    have q : cura.toList[0]? = some (.int .i64 len) := by
      have e := congrArg (fun l => l[0]?) hta
      simpa [List.getElem?_take_of_lt] using e
    simpa [World.cell?, hha] using q
  · intro i _ k hk
    show w'.cell? ⟨g, len + k, none⟩ = _
    rw [cell (len + k) (by omega), List.getElem?_append_right (by rw [cellsOf_length]; omega), cellsOf_length, Nat.add_sub_cancel_left, cellsOf_at mark 600 k hk]
  · intro i h2 h28
    have q := nil28_at i h28
    simp [World.cell?, hR, Array.getElem?_setIfInBounds, show ¬ 1 = i by omega, show ¬ 0 = i by omega, q]
  · intro i hi
    have e : (⟨g, 0, none⟩ : Addr).add i = ⟨g, i, none⟩ := by rw [plain_add, Nat.zero_add]
    rw [e, cell i (by omega), List.getElem?_append_left (by rw [cellsOf_length]; omega), cellsOf_at z len i hi]
end Go.Proofs.YtkjeneklkdekoaaGreatDoor.Rm
namespace Go.Proofs.YtkjeneklkdekoaaGreatDoor.Rm
open Go.RowKit
open Go
set_option linter.unusedSimpArgs false
set_option linter.unusedVariables false

/-- A room with so many lists of bytes, by its blocks. -/
structure Rq (w : World) (R base m : Nat) (cs : Array Value) (vb va : Value) (xsb xsa : List Value) : Prop where
  at_ : w.heap[R]? = some (.cells cs 40 (0, 0))
  c0 : cs[0]? = some vb
  c1 : cs[1]? = some va
  nil : ∀ i, 2 ≤ i → i < 28 → cs[i]? = some (.slice none 0 0)
  bs : base ≤ R
  ob : w.ownsRow base 22 1 vb m xsb
  oa : w.ownsRow base 3 1 va m xsa
  lists : ∀ i, i < m → ∃ g n cp cur, xsb[i]? = some (.slice (some ⟨g, 0, none⟩) (n + 600) cp) ∧ xsa[i]? = some (.int .i64 (n : Nat)) ∧ n ≤ 140000 ∧ n + 600 ≤ cp ∧ w.heap[g]? = some (.cells cur 5 (0, 0)) ∧ ∀ k, k < 600 → w.cell? ⟨g, n + k, none⟩ = some (.int .u8 (mark k))
theorem Rq.start (w : World) : Rq (w.alloc (.cells nil28 40)) w.heap.size w.heap.size 0 nil28 (.slice none 0 0) (.slice none 0 0) [] [] :=
  ⟨heap_alloc_new w _, nil28_at 0 (by decide), nil28_at 1 (by decide), fun i _ h => nil28_at i h, Nat.le_refl _, World.ownsRow_nil _ _ _ _, World.ownsRow_nil _ _ _ _, fun i hi => by omega⟩
theorem Rq.lay {w : World} {R base m : Nat} {cs : Array Value} {vb va : Value} {xsb xsa : List Value} (h : Rq w R base m cs vb va xsb xsa) (hm1 : m ≤ 900) (ao : Option Addr) (len cap : Nat) (z : Nat → Int) (hm : len ≤ 140000) (hc : Came w ao len cap z) :
    Calls Tryz.prog 6 #[.pointer (some ⟨R, 0, none⟩), .slice ao len cap] w fun e w' => ∃ g cs' vb' va' xsb' xsa', e = .returned (.slice (some ⟨g, 0, none⟩) len (len + 600)) ∧ w.heap.size ≤ g ∧
      Rq w' R base (m + 1) cs' vb' va' xsb' xsa' ∧ Came w' (some ⟨g, 0, none⟩) len (len + 600) z ∧ BelF base w w' := by
  refine bytes_wrap _ _ _ _ _ _ ((lay_any R base m cs vb va xsb xsa ao len cap z w hm (by omega) hc h.at_ h.c0 h.c1 h.bs h.ob h.oa).mono ?_)
  rintro e w' ⟨g, cp, cur, vb', va', rfl, hg, hh, hs, hl, ht, hR, ob, oa, hb⟩
  have cell : ∀ j, j < len + 600 → w'.cell? ⟨g, j, none⟩ = (cellsOf z len ++ cellsOf mark 600)[j]? := by
    intro j hj
    rw [← ht, List.getElem?_take_of_lt hj]
    have hj' : j < cur.size := by omega
    simp [World.cell?, hh]
  have s0 : 0 < cs.size := (Array.getElem?_eq_some_iff.1 h.c0).1
  have s1 : 1 < cs.size := (Array.getElem?_eq_some_iff.1 h.c1).1
  have lb : xsb.length = m := by simpa using h.ob.1
  have la : xsa.length = m := by simpa using h.oa.1
  refine ⟨g, len, len + 600, rfl, g, _, vb', va', _, _, rfl, hg, ⟨hR, ?_, ?_, fun i h2 h28 => ?_, h.bs, ob, oa, fun i hi => ?_⟩, ⟨by omega, hc.2.1, .inr ⟨_, rfl, ?_⟩⟩, hb⟩
  · simp [Array.getElem?_setIfInBounds, s0, s1]
  · simp [Array.getElem?_setIfInBounds, s0, s1]
  · simp [Array.getElem?_setIfInBounds, show ¬ 1 = i by omega, show ¬ 0 = i by omega, h.nil i h2 h28]
  · by_cases q : i < m
    · obtain ⟨g', n, cp', cur', e1, e2, e3, e4, e5, e6⟩ := h.lists i q
      refine ⟨g', n, cp', cur', by rw [List.getElem?_append_left (by omega)]; exact e1, by rw [List.getElem?_append_left (by omega)]; exact e2, e3, e4, (hb.2 g' cur' 5 (.inl rfl) e5).trans e5, fun k hk => ?_⟩
      rw [← e6 k hk]
      unfold World.cell?
      rw [show (⟨g', n + k, none⟩ : Addr).block = g' from rfl, hb.2 g' cur' 5 (.inl rfl) e5]
    · obtain rfl : i = m := by omega
      refine ⟨g, len, cp, cur, by rw [List.getElem?_append_right (by omega)]; simp [lb], by rw [List.getElem?_append_right (by omega)]; simp [la], hm, hl, hh, fun k hk => ?_⟩
      rw [cell (len + k) (by omega), List.getElem?_append_right (by rw [cellsOf_length]; omega), cellsOf_length, Nat.add_sub_cancel_left, cellsOf_at mark 600 k hk]
  · intro i hi
    rw [plain_add, Nat.zero_add, cell i (by omega), List.getElem?_append_left (by rw [cellsOf_length]; omega), cellsOf_at z len i hi]
theorem Rq.hold {w : World} {R base m : Nat} {cs : Array Value} {vb va : Value} {xsb xsa : List Value} (h : Rq w R base m cs vb va xsb xsa) (hm : m ≤ 1000) (h0 : 0 < m) :
    Calls Tryz.prog 9 #[.pointer (some ⟨R, 0, none⟩)] w fun e w' => e = .returned (.bool true) ∧ w' = w := by
  have hl : ∀ i : Nat, ∃ p : Nat × Nat × Nat, p.2.1 ≤ 140000 ∧ p.2.1 + 600 ≤ p.2.2 ∧ (i < m → xsb[i]? = some (.slice (some ⟨p.1, 0, none⟩) (p.2.1 + 600) p.2.2) ∧ xsa[i]? = some (.int .i64 (p.2.1 : Nat)) ∧ ∀ k, k < 600 → w.cell? ⟨p.1, p.2.1 + k, none⟩ = some (.int .u8 (mark k))) := fun i => by
    by_cases q : i < m
    · obtain ⟨g, n, cp, cur, e1, e2, e3, e4, e5, e6⟩ := h.lists i q
      exact ⟨(g, n, cp), e3, e4, fun _ => ⟨e1, e2, e6⟩⟩
    · exact ⟨(0, 0, 600), by decide, by decide, fun q' => absurd q' q⟩
  obtain ⟨ob1, k | ⟨gb, cb, curb, rfl, _, hhb, _⟩⟩ := h.ob
  · exact absurd k.2 (by omega)
  obtain ⟨oa1, k | ⟨ga, ca, cura, rfl, _, hha, _⟩⟩ := h.oa
  · exact absurd k.2 (by omega)
  refine hold_any R m gb cb ga ca (fun i => (hl i).choose.1) (fun i => (hl i).choose.2.1) (fun i => (hl i).choose.2.2) w ⟨hm, fun i => ⟨(hl i).choose_spec.1, (hl i).choose_spec.2.1⟩, ?_, ?_, fun i hi => ?_, fun i hi => ?_, fun i hi k hk => ((hl i).choose_spec.2.2 hi).2.2 k hk, fun i h2 h28 => ?_⟩
  · have := h.c0; simp [World.cell?, h.at_, this]
  · have := h.c1; simp [World.cell?, h.at_, this]
  · exact (h.ob.cellAt i (by omega)).trans ((hl i).choose_spec.2.2 hi).1
  · exact (h.oa.cellAt i (by omega)).trans ((hl i).choose_spec.2.2 hi).2.1
  · have := h.nil i h2 h28; simp [World.cell?, h.at_, this]
end Go.Proofs.YtkjeneklkdekoaaGreatDoor.Rm
namespace Go.Proofs.YtkjeneklkdekoaaGreatDoor
open Go Go.RowKit
set_option linter.unusedSimpArgs false
set_option linter.unusedVariables false

/-- A region that draws its order, in a deferred call that may recover. -/
theorem wpS_region_draw {P : Program} {Q : Exit → Act → List Frame → World → Prop} {a : Act} {cs : List Frame} {w : World} {id : Nat} {ops : Array Oper}
    (h : ∀ t, wpOpsS P ops Q (Region.schedule (P.follows .mixedOrders) ops t) a cs { w with drawn := w.drawn + 1 }) : (Code.region id ops true).wpS P Q a cs w :=
  fun b k hb hr => let ⟨e, a', cs', w', q, r⟩ := wp_opsS _ a cs _ (h _) b k hb hr; ⟨e, a', cs', w', q, .of_steps (.one step_region_draw) r⟩

/-- Something holds of every order in which a region's operations may come. -/
def AnyOrder (md : Region.Mode) (ops : Array Oper) : Nat → Array Bool → (List Nat → Prop) → Prop
  | 0, listed, F => Region.ready md ops listed = [] ∧ F []
  | fuel + 1, listed, F => (Region.ready md ops listed = [] → F []) ∧ ∀ i ∈ Region.ready md ops listed, AnyOrder md ops fuel (listed.setIfInBounds i true) fun l => F (i :: l)

theorem anyOrder_sound (md : Region.Mode) (ops : Array Oper) : ∀ (fuel t : Nat) (listed : Array Bool) (F : List Nat → Prop), AnyOrder md ops fuel listed F → F (Region.linearise.go md ops fuel t listed []) := by
  intro fuel
  induction fuel with
  | zero => intro t listed F h; simpa [Region.linearise.go] using h.2
  | succ fuel ih =>
    intro t listed F h
    obtain ⟨h₀, h₁⟩ := h
    simp only [Region.linearise.go]
    change F (match (Region.ready md ops listed)[t % (Region.ready md ops listed).length]? with
      | some i => Region.linearise.go md ops fuel (t / (Region.ready md ops listed).length) (listed.setIfInBounds i true) [i]
      | none => [].reverse)
    cases hi : (Region.ready md ops listed)[t % (Region.ready md ops listed).length]? with
    | none =>
      have hnil : Region.ready md ops listed = [] := by
        cases hr : Region.ready md ops listed with
        | nil => rfl
        | cons x xs =>
          rw [hr] at hi
          have hlt : t % (x :: xs).length < (x :: xs).length := Nat.mod_lt _ (by simp)
          simp at hi
          simp at hlt
          omega
      exact h₀ hnil
    | some i =>
      simp only []
      rw [linearise_go_acc, List.reverse_singleton, List.singleton_append]
      exact ih _ _ _ (h₁ i (List.mem_of_getElem? hi))

theorem wpS_region_any {P : Program} {Q : Exit → Act → List Frame → World → Prop} {a : Act} {cs : List Frame} {w : World} {id : Nat} {ops : Array Oper} (hm : P.follows .mixedOrders = true)
    (h : AnyOrder .any ops ops.size (Array.replicate ops.size false) fun l => wpOpsS P ops Q l a cs { w with drawn := w.drawn + 1 }) : (Code.region id ops true).wpS P Q a cs w :=
  wpS_region_draw fun t => by
    simp only [Region.schedule, hm, Bool.true_or, if_true]
    exact anyOrder_sound .any ops ops.size t _ _ h

/-! Worlds that part in one block alone. -/
theorem gb_refl (w : World) (r : Option Nat) : w.grownBy w r := ⟨rfl, rfl, rfl, Nat.le_refl _, fun _ _ _ => rfl⟩
theorem gb_trans {w w1 w2 : World} {r : Option Nat} (h : w.grownBy w1 r) (h' : w1.grownBy w2 r) : w.grownBy w2 r :=
  ⟨h'.os.trans h.os, h'.tape.trans h.tape, h'.output.trans h.output, Nat.le_trans h.size h'.size, fun k hk hn => (h'.block k (Nat.lt_of_lt_of_le hk h.size) hn).trans (h.block k hk hn)⟩
theorem gb_alloc {w w1 : World} {r : Option Nat} (h : w.grownBy w1 r) (o : Obj) : w.grownBy (w1.alloc o) r :=
  gb_trans h ⟨rfl, rfl, rfl, by simp, fun k hk _ => Below.heap_alloc w1 o k hk⟩
theorem gb_set {w w1 : World} {r : Nat} (h : w.grownBy w1 (some r)) (i : Nat) (v : Value) : w.grownBy (w1.setCell ⟨r, i, none⟩ v) (some r) :=
  gb_trans h ⟨rfl, rfl, rfl, by simp [World.setCell], fun k _ hn => Below.heap_setCell w1 _ v k (fun e => hn (by rw [e]))⟩
theorem gb_drew {w w1 : World} {r : Option Nat} (h : w.grownBy w1 r) : w.grownBy w1.drew r := gb_trans h ⟨rfl, rfl, rfl, Nat.le_refl _, fun _ _ _ => rfl⟩
theorem gb_new {w w1 : World} {r : Option Nat} (h : w.grownBy w1 r) {a : Addr} (ha : w.heap.size ≤ a.block) (v : Value) : w.grownBy (w1.setCell a v) r :=
  ⟨h.os, h.tape, h.output, by simpa [World.setCell] using h.size, fun k hk hn => (Below.heap_setCell w1 a v k (by omega)).trans (h.block k hk hn)⟩

end Go.Proofs.YtkjeneklkdekoaaGreatDoor
