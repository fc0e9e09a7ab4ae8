import Derived.Test.YtkjeneklkdekoaaGreatDoorMRtwo
import Derived.Test.YtkjeneklkdekoaaGreatDoorMRthree
import Derived.Laws.BytesArg
import Derived.Test.YtkjeneklkdekoaaGreatDoorProg
import Derived.WalkKit
import Derived.WalkSpells
import Derived.WalkLawsBesides
import Derived.Recover
import Derived.Orders
namespace Go.Proofs.YtkjeneklkdekoaaGreatDoor.Rm
open Go.RowKit
set_option linter.unusedSimpArgs false
set_option linter.unusedVariables false

/-- A room that keeps so many lists of bytes and no others: all marks stand. -/
def RoomOk (w : World) (R m gb cb ga ca : Nat) (G N C : Nat → Nat) : Prop :=
  m ≤ 1000 ∧ (∀ i, N i ≤ 140000 ∧ N i + 600 ≤ C i) ∧ w.cell? ⟨R, 0, none⟩ = some (.slice (some ⟨gb, 0, none⟩) m cb) ∧ w.cell? ⟨R, 1, none⟩ = some (.slice (some ⟨ga, 0, none⟩) m ca) ∧
  (∀ i, i < m → w.cell? ⟨gb, i, none⟩ = some (.slice (some ⟨G i, 0, none⟩) (N i + 600) (C i))) ∧ (∀ i, i < m → w.cell? ⟨ga, i, none⟩ = some (.int .i64 (N i))) ∧
  (∀ i, i < m → ∀ k, k < 600 → w.cell? ⟨G i, N i + k, none⟩ = some (.int .u8 (mark k))) ∧ ∀ i, 2 ≤ i → i < 28 → w.cell? ⟨R, i, none⟩ = some (.slice none 0 0)

set_option maxHeartbeats 1000000 in
theorem hold_any (R m gb cb ga ca : Nat) (G N C : Nat → Nat) (w : World) (h : RoomOk w R m gb cb ga ca G N C) :
    Calls Tryz.prog 9 #[.pointer (some ⟨R, 0, none⟩)] w fun e w' => e = .returned (.bool true) ∧ w' = w := by
  have H0 : Hid (∀ w', w' = w → Calls Tryz.prog 29 #[.pointer (some ⟨R, 0, none⟩)] w' fun e w'' => e = .returned (.bool true) ∧ w'' = w') := fun w' hw => by
    subst hw
    obtain ⟨h1, h2, h3, h4, h5, h6, h7, _⟩ := h
    exact hold_bytes R m gb cb ga ca G N C _ h1 h2 h3 h4 h5 h6 h7
  have HN : Hid (∀ i, 2 ≤ i → i < 28 → w.cell? ⟨R, i, none⟩ = some (.slice none 0 0)) := h.2.2.2.2.2.2.2
  clear h
  go_enter Tryz.func9, Tryz.ntmps9
  go_wp2_with (first | (go_at_call 29; refine (H0.out _ rfl).mono ?_; rintro e w' ⟨rfl, rfl⟩) | (go_at_call 30; refine (hold17 R _ (HN.out 2 (by decide) (by decide))).mono ?_; rintro e w' ⟨rfl, rfl⟩) | (go_at_call 31; refine (hold18 R _ (HN.out 4 (by decide) (by decide))).mono ?_; rintro e w' ⟨rfl, rfl⟩) | (go_at_call 32; refine (hold19 R _ (HN.out 6 (by decide) (by decide))).mono ?_; rintro e w' ⟨rfl, rfl⟩) | (go_at_call 33; refine (hold20 R _ (HN.out 8 (by decide) (by decide))).mono ?_; rintro e w' ⟨rfl, rfl⟩) | (go_at_call 34; refine (hold21 R _ (HN.out 10 (by decide) (by decide))).mono ?_; rintro e w' ⟨rfl, rfl⟩) | (go_at_call 35; refine (hold22 R _ (HN.out 12 (by decide) (by decide))).mono ?_; rintro e w' ⟨rfl, rfl⟩) | (go_at_call 36; refine (hold23 R _ (HN.out 14 (by decide) (by decide))).mono ?_; rintro e w' ⟨rfl, rfl⟩) | (go_at_call 37; refine (hold24 R _ (HN.out 16 (by decide) (by decide))).mono ?_; rintro e w' ⟨rfl, rfl⟩) | (go_at_call 38; refine (hold25 R _ (HN.out 18 (by decide) (by decide))).mono ?_; rintro e w' ⟨rfl, rfl⟩) | (go_at_call 39; refine (hold26 R _ (HN.out 20 (by decide) (by decide))).mono ?_; rintro e w' ⟨rfl, rfl⟩) | (go_at_call 40; refine (hold27 R _ (HN.out 22 (by decide) (by decide))).mono ?_; rintro e w' ⟨rfl, rfl⟩) | (go_at_call 41; refine (hold28 R _ (HN.out 24 (by decide) (by decide))).mono ?_; rintro e w' ⟨rfl, rfl⟩) | (go_at_call 42; refine (hold29 R _ (HN.out 26 (by decide) (by decide))).mono ?_; rintro e w' ⟨rfl, rfl⟩))
  go_ret
  exact ⟨rfl, rfl⟩

/-- The text that so many bytes make. -/
def strZ (z : Nat → Int) (n : Nat) : ByteArray := strOfNums ((List.range n).map z)

theorem conv_any (ao : Option Addr) (len cap : Nat) (z : Nat → Int) (w : World) (h : Came w ao len cap z) : (convert 22 9 (.slice ao len cap)).run Tryz.prog w = .ok (.string (strZ z len)) w := by
  obtain ⟨_, _, ⟨rfl, rfl, rfl⟩ | ⟨ad, rfl, hc⟩⟩ := h
  · rw [run_convert_bytes_nil w 22 5 Tryz.underlying22 Tryz.underlying5 0 0 9 Tryz.underlying9]
    rfl
  · rw [run_convert_bytes_string w 22 9 5 _ len cap Tryz.underlying22 Tryz.underlying5 Tryz.underlying9]
    have hl : (loadCells ad len).run Tryz.prog w = .ok (((List.range len).map z).map (Value.int .u8)).toArray w := by
      have := run_loadCells_list (P := Tryz.prog) w ad (cellsOf z len) (fun j v hj => by
        obtain ⟨h1, rfl⟩ := cellsOf_get z len j v hj
        exact hc j h1)
      simpa [cellsOf, Function.comp_def] using this
    rw [run_bytesToString w ad len cap _ hl, foldl_push_bytes]
    simp [strZ, strOfNums, ByteArray.empty, ByteArray.emptyWithCapacity]
    rfl

set_option maxHeartbeats 400000 in
theorem same_any (ao ao' : Option Addr) (len cap len' cap' : Nat) (z z' : Nat → Int) (w : World) (h : Came w ao len cap z) (h' : Came w ao' len' cap' z') :
    Calls Tryz.prog 8 #[.slice ao len cap, .slice ao' len' cap'] w fun e w' => e = .returned (.bool ((strZ z len).toList == (strZ z' len').toList)) ∧ w' = w := by
  have c1 := conv_any ao len cap z w h
  have c2 := conv_any ao' len' cap' z' w h'
  clear h h'
  go_enter Tryz.func8, Tryz.ntmps8
  go_wp2
  go_ret
  exact ⟨rfl, rfl⟩
end Go.Proofs.YtkjeneklkdekoaaGreatDoor.Rm
namespace Go.Proofs.YtkjeneklkdekoaaGreatDoor.Rm
open Go.RowKit
set_option linter.unusedSimpArgs false
set_option linter.unusedVariables false

theorem plain_add (b off j : Nat) : (⟨b, off, none⟩ : Addr).add j = ⟨b, off + j, none⟩ := by
  unfold Addr.add
  split <;> simp_all

theorem came_byt {w : World} {ao : Option Addr} {len cap : Nat} {z : Nat → Int} (h : Came w ao len cap z) : Byt w ao len cap z := by
  obtain ⟨h1, h2, ⟨rfl, rfl, rfl⟩ | ⟨ad, rfl, hc⟩⟩ := h
  · exact ⟨h1, h2, .inl rfl⟩
  · refine ⟨h1, h2, ?_⟩
    by_cases h0 : len = 0
    · exact .inl h0
    · right
      obtain ⟨b, off, spot⟩ := ad
      have q := hc 0 (by omega)
      have hspot : spot = none := by simpa [Addr.add] using World.cell?_spot q
      subst hspot
      exact ⟨b, off, rfl, fun i hi => by have h := hc i hi; rw [plain_add] at h; exact h⟩

theorem came_below {w w' : World} {B : Nat} {ao : Option Addr} {len cap : Nat} {z : Nat → Int} (h : Came w ao len cap z) (hb : Below w.heap.size w w') : Came w' ao len cap z := by
  obtain ⟨h1, h2, h3 | ⟨ad, rfl, hc⟩⟩ := h
  · exact ⟨h1, h2, .inl h3⟩
  · exact ⟨h1, h2, .inr ⟨ad, rfl, fun i hi => cell_later hb (hc i hi)⟩⟩

/-- A room's fields, all without lists. -/
def nil28 : Array Value := #[.slice none 0 0, .slice none 0 0, .slice none 0 0, .slice none 0 0, .slice none 0 0, .slice none 0 0, .slice none 0 0, .slice none 0 0, .slice none 0 0, .slice none 0 0, .slice none 0 0, .slice none 0 0, .slice none 0 0, .slice none 0 0, .slice none 0 0, .slice none 0 0, .slice none 0 0, .slice none 0 0, .slice none 0 0, .slice none 0 0, .slice none 0 0, .slice none 0 0, .slice none 0 0, .slice none 0 0, .slice none 0 0, .slice none 0 0, .slice none 0 0, .slice none 0 0]
theorem nil28_at : ∀ i, i < 28 → nil28[i]? = some (.slice none 0 0) := by
  intro i hi
  match i, hi with
  | 0, _ => rfl
  | 1, _ => rfl
  | 2, _ => rfl
  | 3, _ => rfl
  | 4, _ => rfl
  | 5, _ => rfl
  | 6, _ => rfl
  | 7, _ => rfl
  | 8, _ => rfl
  | 9, _ => rfl
  | 10, _ => rfl
  | 11, _ => rfl
  | 12, _ => rfl
  | 13, _ => rfl
  | 14, _ => rfl
  | 15, _ => rfl
  | 16, _ => rfl
  | 17, _ => rfl
  | 18, _ => rfl
  | 19, _ => rfl
  | 20, _ => rfl
  | 21, _ => rfl
  | 22, _ => rfl
  | 23, _ => rfl
  | 24, _ => rfl
  | 25, _ => rfl
  | 26, _ => rfl
  | 27, _ => rfl
  | n + 28, h => omega

set_option maxHeartbeats 400000 in
theorem bytes_wrap (R : Nat) (ao : Option Addr) (len cap : Nat) (w : World) (Q : Ending → World → Prop)
    (h : Calls Tryz.prog 16 #[.pointer (some ⟨R, 0, none⟩), .slice ao len cap, .int .i64 600] w fun e w' => ∃ g n c, e = .returned (.slice (some ⟨g, 0, none⟩) n c) ∧ Q e w') :
    Calls Tryz.prog 6 #[.pointer (some ⟨R, 0, none⟩), .slice ao len cap] w Q := by
  have H : Hid (Calls Tryz.prog 16 #[.pointer (some ⟨R, 0, none⟩), .slice ao len cap, .int .i64 600] w fun e w' => ∃ g n c, e = .returned (.slice (some ⟨g, 0, none⟩) n c) ∧ Q e w') := h
  clear h
  go_enter Tryz.func6, Tryz.ntmps6
  go_wp2_with (go_at_call 16; refine H.out.mono ?_; rintro e w' ⟨g, n, c, rfl, hq⟩)
  assumption

end Go.Proofs.YtkjeneklkdekoaaGreatDoor.Rm
namespace Go.Proofs.YtkjeneklkdekoaaGreatDoor.Rm
open Go.RowKit
open Go
set_option linter.unusedSimpArgs false
set_option linter.unusedVariables false

/-- A room with so many lists of bytes, by its blocks. -/
structure Rq (w : World) (R base m : Nat) (cs : Array Value) (vb va : Value) (xsb xsa : List Value) : Prop where
  at_ : w.heap[R]? = some (.cells cs 40 (0, 0))
  c0 : cs[0]? = some vb
  c1 : cs[1]? = some va
  nil : ∀ i, 2 ≤ i → i < 28 → cs[i]? = some (.slice none 0 0)
  bs : base ≤ R
  ob : w.ownsRow base 22 1 vb m xsb
  oa : w.ownsRow base 3 1 va m xsa
  lists : ∀ i, i < m → ∃ g n cp cur, xsb[i]? = some (.slice (some ⟨g, 0, none⟩) (n + 600) cp) ∧ xsa[i]? = some (.int .i64 (n : Nat)) ∧ n ≤ 140000 ∧ n + 600 ≤ cp ∧ w.heap[g]? = some (.cells cur 5 (0, 0)) ∧ ∀ k, k < 600 → w.cell? ⟨g, n + k, none⟩ = some (.int .u8 (mark k))
theorem Rq.start (w : World) : Rq (w.alloc (.cells nil28 40)) w.heap.size w.heap.size 0 nil28 (.slice none 0 0) (.slice none 0 0) [] [] :=
  ⟨heap_alloc_new w _, nil28_at 0 (by decide), nil28_at 1 (by decide), fun i _ h => nil28_at i h, Nat.le_refl _, World.ownsRow_nil _ _ _ _, World.ownsRow_nil _ _ _ _, fun i hi => by omega⟩
theorem Rq.lay {w : World} {R base m : Nat} {cs : Array Value} {vb va : Value} {xsb xsa : List Value} (h : Rq w R base m cs vb va xsb xsa) (hm1 : m ≤ 900) (ao : Option Addr) (len cap : Nat) (z : Nat → Int) (hm : len ≤ 140000) (hc : Came w ao len cap z) :
    Calls Tryz.prog 6 #[.pointer (some ⟨R, 0, none⟩), .slice ao len cap] w fun e w' => ∃ g cs' vb' va' xsb' xsa', e = .returned (.slice (some ⟨g, 0, none⟩) len (len + 600)) ∧ w.heap.size ≤ g ∧
      Rq w' R base (m + 1) cs' vb' va' xsb' xsa' ∧ Came w' (some ⟨g, 0, none⟩) len (len + 600) z ∧ BelF base w w' := by
  refine bytes_wrap _ _ _ _ _ _ ((lay_any R base m cs vb va xsb xsa ao len cap z w hm (by omega) hc h.at_ h.c0 h.c1 h.bs h.ob h.oa).mono ?_)
  rintro e w' ⟨g, cp, cur, vb', va', rfl, hg, hh, hs, hl, ht, hR, ob, oa, hb⟩
  have cell : ∀ j, j < len + 600 → w'.cell? ⟨g, j, none⟩ = (cellsOf z len ++ cellsOf mark 600)[j]? := by
    intro j hj
    rw [← ht, List.getElem?_take_of_lt hj]
    have hj' : j < cur.size := by omega
    simp [World.cell?, hh]
  have s0 : 0 < cs.size := (Array.getElem?_eq_some_iff.1 h.c0).1
  have s1 : 1 < cs.size := (Array.getElem?_eq_some_iff.1 h.c1).1
  have lb : xsb.length = m := by simpa using h.ob.1
  have la : xsa.length = m := by simpa using h.oa.1
  refine ⟨g, len, len + 600, rfl, g, _, vb', va', _, _, rfl, hg, ⟨hR, ?_, ?_, fun i h2 h28 => ?_, h.bs, ob, oa, fun i hi => ?_⟩, ⟨by omega, hc.2.1, .inr ⟨_, rfl, ?_⟩⟩, hb⟩
  · simp [Array.getElem?_setIfInBounds, s0, s1]
  · simp [Array.getElem?_setIfInBounds, s0, s1]
  · simp [Array.getElem?_setIfInBounds, show ¬ 1 = i by omega, show ¬ 0 = i by omega, h.nil i h2 h28]
  · by_cases q : i < m
    · obtain ⟨g', n, cp', cur', e1, e2, e3, e4, e5, e6⟩ := h.lists i q
      refine ⟨g', n, cp', cur', by rw [List.getElem?_append_left (by omega)]; exact e1, by rw [List.getElem?_append_left (by omega)]; exact e2, e3, e4, (hb.2 g' cur' 5 (.inl rfl) e5).trans e5, fun k hk => ?_⟩
      rw [← e6 k hk]
      unfold World.cell?
      rw [show (⟨g', n + k, none⟩ : Addr).block = g' from rfl, hb.2 g' cur' 5 (.inl rfl) e5]
    · obtain rfl : i = m := by omega
      refine ⟨g, len, cp, cur, by rw [List.getElem?_append_right (by omega)]; simp [lb], by rw [List.getElem?_append_right (by omega)]; simp [la], hm, hl, hh, fun k hk => ?_⟩
      rw [cell (len + k) (by omega), List.getElem?_append_right (by rw [cellsOf_length]; omega), cellsOf_length, Nat.add_sub_cancel_left, cellsOf_at mark 600 k hk]
  · intro i hi
    rw [plain_add, Nat.zero_add, cell i (by omega), List.getElem?_append_left (by rw [cellsOf_length]; omega), cellsOf_at z len i hi]
theorem Rq.hold {w : World} {R base m : Nat} {cs : Array Value} {vb va : Value} {xsb xsa : List Value} (h : Rq w R base m cs vb va xsb xsa) (hm : m ≤ 1000) (h0 : 0 < m) :
    Calls Tryz.prog 9 #[.pointer (some ⟨R, 0, none⟩)] w fun e w' => e = .returned (.bool true) ∧ w' = w := by
  have hl : ∀ i : Nat, ∃ p : Nat × Nat × Nat, p.2.1 ≤ 140000 ∧ p.2.1 + 600 ≤ p.2.2 ∧ (i < m → xsb[i]? = some (.slice (some ⟨p.1, 0, none⟩) (p.2.1 + 600) p.2.2) ∧ xsa[i]? = some (.int .i64 (p.2.1 : Nat)) ∧ ∀ k, k < 600 → w.cell? ⟨p.1, p.2.1 + k, none⟩ = some (.int .u8 (mark k))) := fun i => by
    by_cases q : i < m
    · obtain ⟨g, n, cp, cur, e1, e2, e3, e4, e5, e6⟩ := h.lists i q
      exact ⟨(g, n, cp), e3, e4, fun _ => ⟨e1, e2, e6⟩⟩
    · exact ⟨(0, 0, 600), by decide, by decide, fun q' => absurd q' q⟩
  obtain ⟨ob1, k | ⟨gb, cb, curb, rfl, _, hhb, _⟩⟩ := h.ob
  · exact absurd k.2 (by omega)
  obtain ⟨oa1, k | ⟨ga, ca, cura, rfl, _, hha, _⟩⟩ := h.oa
  · exact absurd k.2 (by omega)
  refine hold_any R m gb cb ga ca (fun i => (hl i).choose.1) (fun i => (hl i).choose.2.1) (fun i => (hl i).choose.2.2) w ⟨hm, fun i => ⟨(hl i).choose_spec.1, (hl i).choose_spec.2.1⟩, ?_, ?_, fun i hi => ?_, fun i hi => ?_, fun i hi k hk => ((hl i).choose_spec.2.2 hi).2.2 k hk, fun i h2 h28 => ?_⟩
  · have := h.c0; simp [World.cell?, h.at_, this]
  · have := h.c1; simp [World.cell?, h.at_, this]
  · exact (h.ob.cellAt i (by omega)).trans ((hl i).choose_spec.2.2 hi).1
  · exact (h.oa.cellAt i (by omega)).trans ((hl i).choose_spec.2.2 hi).2.1
  · have := h.nil i h2 h28; simp [World.cell?, h.at_, this]
end Go.Proofs.YtkjeneklkdekoaaGreatDoor.Rm
namespace Go.Proofs.YtkjeneklkdekoaaGreatDoor
open Go Go.RowKit
set_option linter.unusedSimpArgs false
set_option linter.unusedVariables false

/-- A region that draws its order, in a deferred call that may recover. -/
theorem wpS_region_draw {P : Program} {Q : Exit → Act → List Frame → World → Prop} {a : Act} {cs : List Frame} {w : World} {id : Nat} {ops : Array Oper}
    (h : ∀ t, wpOpsS P ops Q (Region.schedule (P.follows .mixedOrders) ops t) a cs { w with drawn := w.drawn + 1 }) : (Code.region id ops true).wpS P Q a cs w :=
  fun b k hb hr => let ⟨e, a', cs', w', q, r⟩ := wp_opsS _ a cs _ (h _) b k hb hr; ⟨e, a', cs', w', q, .of_steps (.one step_region_draw) r⟩

/-- Something holds of every order in which a region's operations may come. -/
def AnyOrder (md : Region.Mode) (ops : Array Oper) : Nat → Array Bool → (List Nat → Prop) → Prop
  | 0, listed, F => Region.ready md ops listed = [] ∧ F []
  | fuel + 1, listed, F => (Region.ready md ops listed = [] → F []) ∧ ∀ i ∈ Region.ready md ops listed, AnyOrder md ops fuel (listed.setIfInBounds i true) fun l => F (i :: l)

theorem anyOrder_sound (md : Region.Mode) (ops : Array Oper) : ∀ (fuel t : Nat) (listed : Array Bool) (F : List Nat → Prop), AnyOrder md ops fuel listed F → F (Region.linearise.go md ops fuel t listed []) := by
  intro fuel
  induction fuel with
  | zero => intro t listed F h; simpa [Region.linearise.go] using h.2
  | succ fuel ih =>
    intro t listed F h
    obtain ⟨h₀, h₁⟩ := h
    simp only [Region.linearise.go]
    change F (match (Region.ready md ops listed)[t % (Region.ready md ops listed).length]? with
      | some i => Region.linearise.go md ops fuel (t / (Region.ready md ops listed).length) (listed.setIfInBounds i true) [i]
      | none => [].reverse)
    cases hi : (Region.ready md ops listed)[t % (Region.ready md ops listed).length]? with
    | none =>
      have hnil : Region.ready md ops listed = [] := by
        cases hr : Region.ready md ops listed with
        | nil => rfl
        | cons x xs =>
          rw [hr] at hi
          have hlt : t % (x :: xs).length < (x :: xs).length := Nat.mod_lt _ (by simp)
          simp at hi
          simp at hlt
          omega
      exact h₀ hnil
    | some i =>
      simp only []
      rw [linearise_go_acc, List.reverse_singleton, List.singleton_append]
      exact ih _ _ _ (h₁ i (List.mem_of_getElem? hi))

theorem wpS_region_any {P : Program} {Q : Exit → Act → List Frame → World → Prop} {a : Act} {cs : List Frame} {w : World} {id : Nat} {ops : Array Oper} (hm : P.follows .mixedOrders = true)
    (h : AnyOrder .any ops ops.size (Array.replicate ops.size false) fun l => wpOpsS P ops Q l a cs { w with drawn := w.drawn + 1 }) : (Code.region id ops true).wpS P Q a cs w :=
  wpS_region_draw fun t => by
    simp only [Region.schedule, hm, Bool.true_or, if_true]
    exact anyOrder_sound .any ops ops.size t _ _ h

/-! Worlds that part in one block alone. -/
theorem gb_refl (w : World) (r : Option Nat) : w.grownBy w r := ⟨rfl, rfl, rfl, Nat.le_refl _, fun _ _ _ => rfl⟩
theorem gb_trans {w w1 w2 : World} {r : Option Nat} (h : w.grownBy w1 r) (h' : w1.grownBy w2 r) : w.grownBy w2 r :=
  ⟨h'.os.trans h.os, h'.tape.trans h.tape, h'.output.trans h.output, Nat.le_trans h.size h'.size, fun k hk hn => (h'.block k (Nat.lt_of_lt_of_le hk h.size) hn).trans (h.block k hk hn)⟩
theorem gb_alloc {w w1 : World} {r : Option Nat} (h : w.grownBy w1 r) (o : Obj) : w.grownBy (w1.alloc o) r :=
  gb_trans h ⟨rfl, rfl, rfl, by simp, fun k hk _ => Below.heap_alloc w1 o k hk⟩
theorem gb_set {w w1 : World} {r : Nat} (h : w.grownBy w1 (some r)) (i : Nat) (v : Value) : w.grownBy (w1.setCell ⟨r, i, none⟩ v) (some r) :=
  gb_trans h ⟨rfl, rfl, rfl, by simp [World.setCell], fun k _ hn => Below.heap_setCell w1 _ v k (fun e => hn (by rw [e]))⟩
theorem gb_drew {w w1 : World} {r : Option Nat} (h : w.grownBy w1 r) : w.grownBy w1.drew r := gb_trans h ⟨rfl, rfl, rfl, Nat.le_refl _, fun _ _ _ => rfl⟩
end Go.Proofs.YtkjeneklkdekoaaGreatDoor
namespace Go.Proofs.YtkjeneklkdekoaaGreatDoor
open Go Go.RowKit
set_option linter.unusedSimpArgs false
set_option linter.unusedVariables false

/-- A reader as it lies in memory. -/
def RdAt (w : World) (rb : Nat) (bv : Value) (at0 p0 q0 : Int) : Prop := w.heap[rb]? = some (.cells #[bv, .int .i64 at0, .int .i64 p0, .int .i64 q0] 81 (0, 0))

theorem RdAt.facts {w : World} {rb : Nat} {bv : Value} {at0 p0 q0 : Int} (h : RdAt w rb bv at0 p0 q0) : rb < w.heap.size ∧ w.cell? ⟨rb, 0, none⟩ = some bv ∧ w.cell? ⟨rb, 1, none⟩ = some (.int .i64 at0) ∧ w.cell? ⟨rb, 2, none⟩ = some (.int .i64 p0) ∧ w.cell? ⟨rb, 3, none⟩ = some (.int .i64 q0) ∧
    w.frozen? ⟨rb, 1, none⟩ = false ∧ w.frozen? ⟨rb, 2, none⟩ = false ∧ w.frozen? ⟨rb, 3, none⟩ = false := by
  unfold RdAt at h
  refine ⟨lt_of_block h, ?_, ?_, ?_, ?_, ?_, ?_, ?_⟩
  all_goals simp [World.cell?, World.frozen?, h]

theorem heap_set {w : World} {R i t : Nat} {cs : Array Value} (h : w.heap[R]? = some (.cells cs t (0, 0))) (v : Value) : (w.setCell ⟨R, i, none⟩ v).heap[R]? = some (.cells (cs.setIfInBounds i v) t (0, 0)) := by
  simp [World.setCell, Array.getElem?_modify, h]
theorem RdAt.three {w : World} {rb : Nat} {bv : Value} {at0 p0 q0 : Int} (h : RdAt w rb bv at0 p0 q0) (f p q : Int) (o : Obj) :
    RdAt ((((w.setCell ⟨rb, 1, none⟩ (.int .i64 f)).setCell ⟨rb, 2, none⟩ (.int .i64 p)).setCell ⟨rb, 3, none⟩ (.int .i64 q)).alloc o).drew rb bv f p q := by
  have h3 := heap_set (i := 3) (heap_set (i := 2) (heap_set (i := 1) h (.int .i64 f)) (.int .i64 p)) (.int .i64 q)
  have e := Below.heap_alloc _ o rb (lt_of_block h3)
  exact (e.trans h3)

theorem ta_hit (v : Value) (w : World) : (Instr.typeAssert (.iface 79 v) 20 79 true).run Tryz.prog w = .ok (.tuple #[v, .bool true]) w := by kernel_rfl
theorem ta_nil (w : World) : (Instr.typeAssert .nilIface 20 79 true).run Tryz.prog w = .ok (.tuple #[.agg #[.int .i64 0, .int .i64 0], .bool false]) w := by kernel_rfl

set_option maxRecDepth 100000 in
set_option maxHeartbeats 1000000 in
theorem settle_hit (rb : Nat) (bv : Value) (at0 p0 q0 f p q : Int) (w : World) (hR : RdAt w rb bv at0 p0 q0) :
    Calls Tryz.prog 107 #[.pointer (some ⟨rb, 0, none⟩), .int .i64 f, .iface 79 (.agg #[.int .i64 p, .int .i64 q])] w fun e w' => e = .returned (.tuple #[]) ∧ RdAt w' rb bv f p q ∧ w.grownBy w' (some rb) := by
  obtain ⟨hlt, c0, c1, c2, c3, f1, f2, f3⟩ := hR.facts
  have HR : Hid (RdAt w rb bv at0 p0 q0) := hR
  clear hR
  have ta := ta_hit
  go_enter Tryz.func107, Tryz.ntmps107
  go_wp2
  go_region
  all_goals (try go_wp2)
  all_goals go_end0
  exact ⟨rfl, HR.out.three f p q _, gb_drew (gb_alloc (gb_set (gb_set (gb_set (gb_refl _ _) _ _) _ _) _ _) _)⟩

set_option maxRecDepth 100000 in
set_option maxHeartbeats 1000000 in
theorem settle_idle (rb : Nat) (f : Int) (w : World) :
    Calls Tryz.prog 107 #[.pointer (some ⟨rb, 0, none⟩), .int .i64 f, .nilIface] w fun e w' => e = .returned (.tuple #[]) ∧ Below w.heap.size w w' := by
  have ta := ta_nil
  go_enter Tryz.func107, Tryz.ntmps107
  go_wp2
  go_end0
  exact ⟨rfl, (Below.refl _ _).alloc (Nat.le_refl _) _⟩

theorem mixed : Tryz.prog.follows .mixedOrders = true := by kernel_rfl

/-- The operations of each deferred function of the reader's methods. -/
def cops (s : String) : Array Oper :=
  #[{ dst := some 3, op := Op.load 55 (Operand.tmp 1), type := 55, pos := s, after := #[], guard := .none },
    { dst := some 4, op := Op.move (Operand.tmp 0), type := 3, pos := s, after := #[], guard := .none },
    { dst := some 5, op := Op.call { callee := Callee.builtin Builtin.recover, args := #[], argTypes := #[] }, type := 20, pos := s, after := #[], guard := .none },
    { dst := some 6, op := Op.call { callee := Callee.value (Operand.func 107), args := #[Operand.tmp 3, Operand.tmp 4, Operand.tmp 5], argTypes := #[55, 3, 20] }, type := 0, pos := s,
      after := #[{ on := 0, ground := Ground.data }, { on := 1, ground := Ground.data }, { on := 2, ground := Ground.data }, { on := 2, ground := Ground.chain }], guard := .none }]

theorem corders (s : String) (F : List Nat → Prop) (h1 : F [0, 1, 2, 3]) (h2 : F [0, 2, 1, 3]) (h3 : F [1, 0, 2, 3]) (h4 : F [1, 2, 0, 3]) (h5 : F [2, 0, 1, 3]) (h6 : F [2, 1, 0, 3]) :
    AnyOrder .any (cops s) 4 (Array.replicate 4 false) F := by
  have r0 : Region.ready .any (cops s) (Array.replicate 4 false) = [0, 1, 2] := by kernel_rfl
  have a0 : Region.ready .any (cops s) #[true, false, false, false] = [1, 2] := by kernel_rfl
  have a1 : Region.ready .any (cops s) #[false, true, false, false] = [0, 2] := by kernel_rfl
  have a2 : Region.ready .any (cops s) #[false, false, true, false] = [0, 1] := by kernel_rfl
  have b0 : Region.ready .any (cops s) #[false, true, true, false] = [0] := by kernel_rfl
  have b1 : Region.ready .any (cops s) #[true, false, true, false] = [1] := by kernel_rfl
  have b2 : Region.ready .any (cops s) #[true, true, false, false] = [2] := by kernel_rfl
  have c0 : Region.ready .any (cops s) #[true, true, true, false] = [3] := by kernel_rfl
  have d0 : Region.ready .any (cops s) #[true, true, true, true] = [] := by kernel_rfl
  have fin : ∀ G : List Nat → Prop, G [3] → AnyOrder .any (cops s) 1 #[true, true, true, false] G := fun G g => by
    refine ⟨fun h => (by rw [c0] at h; cases h), fun i hi => ?_⟩
    rw [c0] at hi
    obtain rfl := List.mem_singleton.1 hi
    exact ⟨d0, g⟩
  refine ⟨fun h => (by rw [r0] at h; cases h), fun i hi => ?_⟩
  rw [r0] at hi
  simp only [List.mem_cons, List.not_mem_nil, or_false] at hi
  rcases hi with rfl | rfl | rfl
  · refine ⟨fun h => (by have h : Region.ready .any (cops s) #[true, false, false, false] = [] := h; rw [a0] at h; cases h), fun i hi => ?_⟩
    have hi : i ∈ Region.ready .any (cops s) #[true, false, false, false] := hi
    rw [a0] at hi
    simp only [List.mem_cons, List.not_mem_nil, or_false] at hi
    rcases hi with rfl | rfl
    · refine ⟨fun h => (by have h : Region.ready .any (cops s) #[true, true, false, false] = [] := h; rw [b2] at h; cases h), fun i hi => ?_⟩
      have hi : i ∈ Region.ready .any (cops s) #[true, true, false, false] := hi
      rw [b2] at hi
      obtain rfl := List.mem_singleton.1 hi
      exact fin _ h1
    · refine ⟨fun h => (by have h : Region.ready .any (cops s) #[true, false, true, false] = [] := h; rw [b1] at h; cases h), fun i hi => ?_⟩
      have hi : i ∈ Region.ready .any (cops s) #[true, false, true, false] := hi
      rw [b1] at hi
      obtain rfl := List.mem_singleton.1 hi
      exact fin _ h2
  · refine ⟨fun h => (by have h : Region.ready .any (cops s) #[false, true, false, false] = [] := h; rw [a1] at h; cases h), fun i hi => ?_⟩
    have hi : i ∈ Region.ready .any (cops s) #[false, true, false, false] := hi
    rw [a1] at hi
    simp only [List.mem_cons, List.not_mem_nil, or_false] at hi
    rcases hi with rfl | rfl
    · refine ⟨fun h => (by have h : Region.ready .any (cops s) #[true, true, false, false] = [] := h; rw [b2] at h; cases h), fun i hi => ?_⟩
      have hi : i ∈ Region.ready .any (cops s) #[true, true, false, false] := hi
      rw [b2] at hi
      obtain rfl := List.mem_singleton.1 hi
      exact fin _ h3
    · refine ⟨fun h => (by have h : Region.ready .any (cops s) #[false, true, true, false] = [] := h; rw [b0] at h; cases h), fun i hi => ?_⟩
      have hi : i ∈ Region.ready .any (cops s) #[false, true, true, false] := hi
      rw [b0] at hi
      obtain rfl := List.mem_singleton.1 hi
      exact fin _ h4
  · refine ⟨fun h => (by have h : Region.ready .any (cops s) #[false, false, true, false] = [] := h; rw [a2] at h; cases h), fun i hi => ?_⟩
    have hi : i ∈ Region.ready .any (cops s) #[false, false, true, false] := hi
    rw [a2] at hi
    simp only [List.mem_cons, List.not_mem_nil, or_false] at hi
    rcases hi with rfl | rfl
    · refine ⟨fun h => (by have h : Region.ready .any (cops s) #[true, false, true, false] = [] := h; rw [b1] at h; cases h), fun i hi => ?_⟩
      have hi : i ∈ Region.ready .any (cops s) #[true, false, true, false] := hi
      rw [b1] at hi
      obtain rfl := List.mem_singleton.1 hi
      exact fin _ h5
    · refine ⟨fun h => (by have h : Region.ready .any (cops s) #[false, true, true, false] = [] := h; rw [b0] at h; cases h), fun i hi => ?_⟩
      have hi : i ∈ Region.ready .any (cops s) #[false, true, true, false] := hi
      rw [b0] at hi
      obtain rfl := List.mem_singleton.1 hi
      exact fin _ h6

set_option maxRecDepth 100000 in
theorem clo_hit (s : String) (fn : Func) (hres : ∀ tmps (w : World), (results fn tmps).run Tryz.prog w = .ok (.tuple #[]) w) (rb : Nat) (pc : Addr) (bv : Value) (at0 p0 q0 f p q : Int) (older : List PanicEntry) (w : World) (hR : RdAt w rb bv at0 p0 q0) (hp : w.cell? pc = some (.pointer (some ⟨rb, 0, none⟩)))
    (c₀ : Frame) (cs : List Frame) (hu : c₀.mode = .panicking ({ v := .iface 79 (.agg #[.int .i64 p, .int .i64 q]), recovered := false } :: older)) :
    (Code.region 0 (cops s) true).wpS Tryz.prog (bodyPostS Tryz.prog fn c₀ cs fun e u' w' => e = .returned (.tuple #[]) ∧ u' = .panicking ({ v := .iface 79 (.agg #[.int .i64 p, .int .i64 q]), recovered := true } :: older) ∧ RdAt w' rb bv f p q ∧ w.grownBy w' (some rb))
      { tmps := #[.int .i64 f, .pointer (some pc), undef, undef, undef, undef, undef], defers := [] } (c₀ :: cs) w := by
  apply wpS_region_any mixed
  have key := settle_hit rb bv at0 p0 q0 f p q w.drew hR
  refine corders s _ ?_ ?_ ?_ ?_ ?_ ?_
  all_goals
    simp [wpOpsS, cops, go_sem, recoverD, hu, hp]
    refine key.mono ?_
    rintro e w' ⟨rfl, h1, h2⟩
    exact ⟨rfl, _, rfl, _, hres _ _, rfl, rfl, h1, gb_trans (gb_drew (gb_refl _ _)) h2⟩

set_option maxRecDepth 100000 in
theorem clo_idle (s : String) (fn : Func) (hres : ∀ tmps (w : World), (results fn tmps).run Tryz.prog w = .ok (.tuple #[]) w) (rb : Nat) (pc : Addr) (f : Int) (w : World) (hp : w.cell? pc = some (.pointer (some ⟨rb, 0, none⟩)))
    (c₀ : Frame) (cs : List Frame) (hu : c₀.mode = .returning) :
    (Code.region 0 (cops s) true).wpS Tryz.prog (bodyPostS Tryz.prog fn c₀ cs fun e u' w' => e = .returned (.tuple #[]) ∧ u' = .returning ∧ Below w.heap.size w w')
      { tmps := #[.int .i64 f, .pointer (some pc), undef, undef, undef, undef, undef], defers := [] } (c₀ :: cs) w := by
  apply wpS_region_any mixed
  have key := settle_idle rb f w.drew
  have hc : { c₀ with mode := .returning } = c₀ := by cases c₀; simp_all
  refine corders s _ ?_ ?_ ?_ ?_ ?_ ?_
  all_goals
    simp [wpOpsS, cops, go_sem, recoverD, hu, hp]
    refine key.mono ?_
    rintro e w' ⟨rfl, h1⟩
    exact ⟨rfl, .returning, by rw [hc], _, hres _ _, rfl, rfl, (Below.refl _ _).drew.trans h1⟩

theorem clo41_idle (rb : Nat) (pc : Addr) (f : Int) (w : World) (hp : w.cell? pc = some (.pointer (some ⟨rb, 0, none⟩))) :
    CallsD Tryz.prog 119 #[.int .i64 f, .pointer (some pc)] .returning w fun e u' w' => e = .returned (.tuple #[]) ∧ u' = .returning ∧ Below w.heap.size w w' :=
  callsD_of_wpS Tryz.func119 rfl fun c₀ cs hu => clo_idle "reader.go:55" Tryz.f119 (fun tmps w => results_none rfl _ _ _) rb pc f w hp c₀ cs hu

theorem clo43_hit (rb : Nat) (pc : Addr) (bv : Value) (at0 p0 q0 f p q : Int) (older : List PanicEntry) (w : World) (hR : RdAt w rb bv at0 p0 q0) (hp : w.cell? pc = some (.pointer (some ⟨rb, 0, none⟩))) :
    CallsD Tryz.prog 122 #[.int .i64 f, .pointer (some pc)] (.panicking ({ v := .iface 79 (.agg #[.int .i64 p, .int .i64 q]), recovered := false } :: older)) w fun e u' w' =>
      e = .returned (.tuple #[]) ∧ u' = .panicking ({ v := .iface 79 (.agg #[.int .i64 p, .int .i64 q]), recovered := true } :: older) ∧ RdAt w' rb bv f p q ∧ w.grownBy w' (some rb) :=
  callsD_of_wpS Tryz.func122 rfl fun c₀ cs hu => clo_hit "reader.go:79" Tryz.f122 (fun tmps w => results_none rfl _ _ _) rb pc bv at0 p0 q0 f p q older w hR hp c₀ cs hu

end Go.Proofs.YtkjeneklkdekoaaGreatDoor
