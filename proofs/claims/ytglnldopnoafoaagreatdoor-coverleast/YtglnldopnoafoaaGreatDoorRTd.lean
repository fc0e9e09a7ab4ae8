import Derived.Test.YtglnldopnoafoaaGreatDoorRTb
import Derived.Test.YtglnldopnoafoaaGreatDoorRTc
namespace Go.Proofs.YtglnldopnoafoaaGreatDoor.Rm
open Go Go.RowKit
set_option linter.unusedSimpArgs false
set_option linter.unusedVariables false

def RoomOk (w : World) (R m gb cb ga ca : Nat) (G N C : Nat → Nat) : Prop :=
  m ≤ 1000 ∧ (∀ i, N i ≤ 140000 ∧ N i + 40 ≤ C i) ∧ w.cell? ⟨R, 4, none⟩ = some (.slice (some ⟨gb, 0, none⟩) m cb) ∧ w.cell? ⟨R, 5, none⟩ = some (.slice (some ⟨ga, 0, none⟩) m ca) ∧
  (∀ i, i < m → w.cell? ⟨gb, i, none⟩ = some (.slice (some ⟨G i, 0, none⟩) (N i + 40) (C i))) ∧ (∀ i, i < m → w.cell? ⟨ga, i, none⟩ = some (.int .i64 (N i))) ∧
  (∀ i, i < m → ∀ k, k < 40 → w.cell? ⟨G i, N i + k, none⟩ = some (.string (mark k))) ∧ ∀ i, i ≠ 4 → i ≠ 5 → i < 28 → w.cell? ⟨R, i, none⟩ = some (.slice none 0 0)
theorem hold_any (R m gb cb ga ca : Nat) (G N C : Nat → Nat) (w : World) (h : RoomOk w R m gb cb ga ca G N C) :
    Calls Tryz.prog 13 #[.pointer (some ⟨R, 0, none⟩)] w fun e w' => e = .returned (.bool true) ∧ w' = w := by
  have H0 : Hid (∀ w', w' = w → Calls Tryz.prog 43 #[.pointer (some ⟨R, 0, none⟩)] w' fun e w'' => e = .returned (.bool true) ∧ w'' = w') := fun w' hw => by
    subst hw
    obtain ⟨h1, h2, h3, h4, h5, h6, h7, _⟩ := h
    exact hold_bytes R m gb cb ga ca G N C _ h1 h2 h3 h4 h5 h6 h7
  have HN : Hid (∀ i, i ≠ 4 → i ≠ 5 → i < 28 → w.cell? ⟨R, i, none⟩ = some (.slice none 0 0)) := h.2.2.2.2.2.2.2
  clear h
  go_enter Tryz.func13, Tryz.ntmps13
  go_wp2_with (first | (go_at_call 43; refine (H0.out _ rfl).mono ?_; rintro e w' ⟨rfl, rfl⟩) | (go_at_call 41; refine (holdBytes R _ (HN.out 0 (by decide) (by decide) (by decide))).mono ?_; rintro e w' ⟨rfl, rfl⟩) | (go_at_call 42; refine (holdInts R _ (HN.out 2 (by decide) (by decide) (by decide))).mono ?_; rintro e w' ⟨rfl, rfl⟩) | (go_at_call 44; refine (holdAsks R _ (HN.out 6 (by decide) (by decide) (by decide))).mono ?_; rintro e w' ⟨rfl, rfl⟩) | (go_at_call 45; refine (holdUsers R _ (HN.out 8 (by decide) (by decide) (by decide))).mono ?_; rintro e w' ⟨rfl, rfl⟩) | (go_at_call 46; refine (holdWhos R _ (HN.out 10 (by decide) (by decide) (by decide))).mono ?_; rintro e w' ⟨rfl, rfl⟩) | (go_at_call 47; refine (holdChunks R _ (HN.out 12 (by decide) (by decide) (by decide))).mono ?_; rintro e w' ⟨rfl, rfl⟩) | (go_at_call 48; refine (holdMessages R _ (HN.out 14 (by decide) (by decide) (by decide))).mono ?_; rintro e w' ⟨rfl, rfl⟩) | (go_at_call 49; refine (holdFlights R _ (HN.out 16 (by decide) (by decide) (by decide))).mono ?_; rintro e w' ⟨rfl, rfl⟩) | (go_at_call 50; refine (holdPackets R _ (HN.out 18 (by decide) (by decide) (by decide))).mono ?_; rintro e w' ⟨rfl, rfl⟩) | (go_at_call 51; refine (holdInputs R _ (HN.out 20 (by decide) (by decide) (by decide))).mono ?_; rintro e w' ⟨rfl, rfl⟩) | (go_at_call 52; refine (holdEvents R _ (HN.out 22 (by decide) (by decide) (by decide))).mono ?_; rintro e w' ⟨rfl, rfl⟩) | (go_at_call 53; refine (holdSessions R _ (HN.out 24 (by decide) (by decide) (by decide))).mono ?_; rintro e w' ⟨rfl, rfl⟩) | (go_at_call 54; refine (holdSteps R _ (HN.out 26 (by decide) (by decide) (by decide))).mono ?_; rintro e w' ⟨rfl, rfl⟩))
  go_ret
  exact ⟨rfl, rfl⟩
theorem plain_add (b off j : Nat) : (⟨b, off, none⟩ : Addr).add j = ⟨b, off + j, none⟩ := by
  unfold Addr.add
  split <;> simp_all
theorem came_below {w w' : World} {B : Nat} {ao : Option Addr} {len cap : Nat} {z : Nat → ByteArray} (h : Came w ao len cap z) (hb : Below w.heap.size w w') : Came w' ao len cap z := by
  obtain ⟨h1, h2, h3 | ⟨ad, rfl, hc⟩⟩ := h
  · exact ⟨h1, h2, .inl h3⟩
  · exact ⟨h1, h2, .inr ⟨ad, rfl, fun i hi => cell_later hb (hc i hi)⟩⟩
def nil28 : Array Value := #[.slice none 0 0, .slice none 0 0, .slice none 0 0, .slice none 0 0, .slice none 0 0, .slice none 0 0, .slice none 0 0, .slice none 0 0, .slice none 0 0, .slice none 0 0, .slice none 0 0, .slice none 0 0, .slice none 0 0, .slice none 0 0, .slice none 0 0, .slice none 0 0, .slice none 0 0, .slice none 0 0, .slice none 0 0, .slice none 0 0, .slice none 0 0, .slice none 0 0, .slice none 0 0, .slice none 0 0, .slice none 0 0, .slice none 0 0, .slice none 0 0, .slice none 0 0]
theorem nil28_at : ∀ i, i < 28 → nil28[i]? = some (.slice none 0 0) := by
  intro i hi
  match i, hi with
  | 0, _ => rfl
  | 1, _ => rfl
  | 2, _ => rfl
  | 3, _ => rfl
  | 4, _ => rfl
  | 5, _ => rfl
  | 6, _ => rfl
  | 7, _ => rfl
  | 8, _ => rfl
  | 9, _ => rfl
  | 10, _ => rfl
  | 11, _ => rfl
  | 12, _ => rfl
  | 13, _ => rfl
  | 14, _ => rfl
  | 15, _ => rfl
  | 16, _ => rfl
  | 17, _ => rfl
  | 18, _ => rfl
  | 19, _ => rfl
  | 20, _ => rfl
  | 21, _ => rfl
  | 22, _ => rfl
  | 23, _ => rfl
  | 24, _ => rfl
  | 25, _ => rfl
  | 26, _ => rfl
  | 27, _ => rfl
  | n + 28, h => omega
theorem bytes_wrap (R : Nat) (ao : Option Addr) (len cap : Nat) (w : World) (Q : Ending → World → Prop)
    (h : Calls Tryz.prog 15 #[.pointer (some ⟨R, 0, none⟩), .slice ao len cap, .int .i64 40] w fun e w' => ∃ g n c, e = .returned (.slice (some ⟨g, 0, none⟩) n c) ∧ Q e w') :
    Calls Tryz.prog 7 #[.pointer (some ⟨R, 0, none⟩), .slice ao len cap] w Q := by
  have H : Hid (Calls Tryz.prog 15 #[.pointer (some ⟨R, 0, none⟩), .slice ao len cap, .int .i64 40] w fun e w' => ∃ g n c, e = .returned (.slice (some ⟨g, 0, none⟩) n c) ∧ Q e w') := h
  clear h
  go_enter Tryz.func7, Tryz.ntmps7
  go_wp2_with (go_at_call 15; refine H.out.mono ?_; rintro e w' ⟨g, n, c, rfl, hq⟩)
  assumption
/-- A room with so many lists of bytes, by its blocks. -/
structure Rq (w : World) (R base m : Nat) (cs : Array Value) (vb va : Value) (xsb xsa : List Value) : Prop where
  at_ : w.heap[R]? = some (.cells cs 44 (0, 0))
  c0 : cs[4]? = some vb
  c1 : cs[5]? = some va
  nil : ∀ i, i ≠ 4 → i ≠ 5 → i < 28 → cs[i]? = some (.slice none 0 0)
  bs : base ≤ R
  ob : w.ownsRow base 22 1 vb m xsb
  oa : w.ownsRow base 3 1 va m xsa
  lists : ∀ i, i < m → ∃ g n cp cur, xsb[i]? = some (.slice (some ⟨g, 0, none⟩) (n + 40) cp) ∧ xsa[i]? = some (.int .i64 (n : Nat)) ∧ n ≤ 140000 ∧ n + 40 ≤ cp ∧ w.heap[g]? = some (.cells cur 9 (0, 0)) ∧ ∀ k, k < 40 → w.cell? ⟨g, n + k, none⟩ = some (.string (mark k))
theorem Rq.start (w : World) : Rq (w.alloc (.cells nil28 44)) w.heap.size w.heap.size 0 nil28 (.slice none 0 0) (.slice none 0 0) [] [] :=
  ⟨heap_alloc_new w _, nil28_at 4 (by decide), nil28_at 5 (by decide), fun i _ _ h => nil28_at i h, Nat.le_refl _, World.ownsRow_nil _ _ _ _, World.ownsRow_nil _ _ _ _, fun i hi => by omega⟩
theorem Rq.lay {w : World} {R base m : Nat} {cs : Array Value} {vb va : Value} {xsb xsa : List Value} (h : Rq w R base m cs vb va xsb xsa) (hm1 : m ≤ 900) (ao : Option Addr) (len cap : Nat) (z : Nat → ByteArray) (hm : len ≤ 140000) (hc : Came w ao len cap z) :
    Calls Tryz.prog 7 #[.pointer (some ⟨R, 0, none⟩), .slice ao len cap] w fun e w' => ∃ g cs' vb' va' xsb' xsa', e = .returned (.slice (some ⟨g, 0, none⟩) len (len + 40)) ∧ w.heap.size ≤ g ∧
      Rq w' R base (m + 1) cs' vb' va' xsb' xsa' ∧ Came w' (some ⟨g, 0, none⟩) len (len + 40) z ∧ BelF base w w' := by
  refine bytes_wrap _ _ _ _ _ _ ((lay_any R base m cs vb va xsb xsa ao len cap z w hm (by omega) hc h.at_ h.c0 h.c1 h.bs h.ob h.oa).mono ?_)
  rintro e w' ⟨g, cp, cur, vb', va', rfl, hg, hh, hs, hl, ht, hR, ob, oa, hb⟩
  have cell : ∀ j, j < len + 40 → w'.cell? ⟨g, j, none⟩ = (cellsOf z len ++ cellsOf mark 40)[j]? := by
    intro j hj
    rw [← ht, List.getElem?_take_of_lt hj]
    have hj' : j < cur.size := by omega
    simp [World.cell?, hh]
  have s0 : 4 < cs.size := (Array.getElem?_eq_some_iff.1 h.c0).1
  have s1 : 5 < cs.size := (Array.getElem?_eq_some_iff.1 h.c1).1
  have lb : xsb.length = m := by simpa using h.ob.1
  have la : xsa.length = m := by simpa using h.oa.1
  refine ⟨g, len, len + 40, rfl, g, _, vb', va', _, _, rfl, hg, ⟨hR, ?_, ?_, fun i h2 h2' h28 => ?_, h.bs, ob, oa, fun i hi => ?_⟩, ⟨by omega, hc.2.1, .inr ⟨_, rfl, ?_⟩⟩, hb⟩
  · simp [Array.getElem?_setIfInBounds, s0, s1]
  · simp [Array.getElem?_setIfInBounds, s0, s1]
  · simp [Array.getElem?_setIfInBounds, show ¬ 5 = i by omega, show ¬ 4 = i by omega, h.nil i h2 h2' h28]
  · by_cases q : i < m
    · obtain ⟨g', n, cp', cur', e1, e2, e3, e4, e5, e6⟩ := h.lists i q
      refine ⟨g', n, cp', cur', by rw [List.getElem?_append_left (by omega)]; exact e1, by rw [List.getElem?_append_left (by omega)]; exact e2, e3, e4, (hb.2 g' cur' 9 (.inl rfl) e5).trans e5, fun k hk => ?_⟩
      rw [← e6 k hk]
      unfold World.cell?
      rw [show (⟨g', n + k, none⟩ : Addr).block = g' from rfl, hb.2 g' cur' 9 (.inl rfl) e5]
    · obtain rfl : i = m := by omega
      refine ⟨g, len, cp, cur, by rw [List.getElem?_append_right (by omega)]; simp [lb], by rw [List.getElem?_append_right (by omega)]; simp [la], hm, hl, hh, fun k hk => ?_⟩
      rw [cell (len + k) (by omega), List.getElem?_append_right (by rw [cellsOf_length]; omega), cellsOf_length, Nat.add_sub_cancel_left, cellsOf_at mark 40 k hk]
  · intro i hi
    rw [plain_add, Nat.zero_add, cell i (by omega), List.getElem?_append_left (by rw [cellsOf_length]; omega), cellsOf_at z len i hi]
theorem Rq.hold {w : World} {R base m : Nat} {cs : Array Value} {vb va : Value} {xsb xsa : List Value} (h : Rq w R base m cs vb va xsb xsa) (hm : m ≤ 1000) (h0 : 0 < m) :
    Calls Tryz.prog 13 #[.pointer (some ⟨R, 0, none⟩)] w fun e w' => e = .returned (.bool true) ∧ w' = w := by
  have hl : ∀ i : Nat, ∃ p : Nat × Nat × Nat, p.2.1 ≤ 140000 ∧ p.2.1 + 40 ≤ p.2.2 ∧ (i < m → xsb[i]? = some (.slice (some ⟨p.1, 0, none⟩) (p.2.1 + 40) p.2.2) ∧ xsa[i]? = some (.int .i64 (p.2.1 : Nat)) ∧ ∀ k, k < 40 → w.cell? ⟨p.1, p.2.1 + k, none⟩ = some (.string (mark k))) := fun i => by
    by_cases q : i < m
    · obtain ⟨g, n, cp, cur, e1, e2, e3, e4, e5, e6⟩ := h.lists i q
      exact ⟨(g, n, cp), e3, e4, fun _ => ⟨e1, e2, e6⟩⟩
    · exact ⟨(0, 0, 40), by decide, by decide, fun q' => absurd q' q⟩
  obtain ⟨ob1, k | ⟨gb, cb, curb, rfl, _, hhb, _⟩⟩ := h.ob
  · exact absurd k.2 (by omega)
  obtain ⟨oa1, k | ⟨ga, ca, cura, rfl, _, hha, _⟩⟩ := h.oa
  · exact absurd k.2 (by omega)
  refine hold_any R m gb cb ga ca (fun i => (hl i).choose.1) (fun i => (hl i).choose.2.1) (fun i => (hl i).choose.2.2) w ⟨hm, fun i => ⟨(hl i).choose_spec.1, (hl i).choose_spec.2.1⟩, ?_, ?_, fun i hi => ?_, fun i hi => ?_, fun i hi k hk => ((hl i).choose_spec.2.2 hi).2.2 k hk, fun i h2 h2' h28 => ?_⟩
  · have := h.c0; simp [World.cell?, h.at_, this]
  · have := h.c1; simp [World.cell?, h.at_, this]
  · exact (h.ob.cellAt i (by omega)).trans ((hl i).choose_spec.2.2 hi).1
  · exact (h.oa.cellAt i (by omega)).trans ((hl i).choose_spec.2.2 hi).2.1
  · have := h.nil i h2 h2' h28; simp [World.cell?, h.at_, this]
end Go.Proofs.YtglnldopnoafoaaGreatDoor.Rm
