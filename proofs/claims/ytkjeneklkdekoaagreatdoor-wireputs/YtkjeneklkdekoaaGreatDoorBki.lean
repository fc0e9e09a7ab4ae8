import Derived.Deep.QuietTactic
import Derived.BigQuiet
import Derived.Test.YtkjeneklkdekoaaGreatDoorBkh
namespace Go.Proofs.YtkjeneklkdekoaaGreatDoor
open Go Go.RowKit
set_option linter.unusedSimpArgs false
set_option linter.unusedVariables false

/-- A row of things in memory. -/
def RowAt (w : World) (v : Value) (n : Nat) (xs : List Value) : Prop :=
  xs.length = n ∧ ((v = .slice none 0 0 ∧ n = 0) ∨ ∃ g cp, v = .slice (some ⟨g, 0, none⟩) n cp ∧ n ≤ cp ∧ ∀ i, i < n → w.cell? ⟨g, i, none⟩ = xs[i]?)
/-- Lists of bytes, each with one that tells what it must hold. -/
def Pairs (w : World) (xs ys : List Value) (n : Nat) : Prop :=
  ∀ i, i < n → ∃ a b l c c' z, xs[i]? = some (.slice a l c) ∧ ys[i]? = some (.slice b l c') ∧ l ≤ 1000000 ∧ Came w a l c z ∧ Came w b l c' z

set_option maxRecDepth 100000 in
set_option maxHeartbeats 1000000 in
theorem holdBytes_any (bb n m : Nat) (cs : Array Value) (vo vt vw vn : Value) (xo xt xw xn : List Value) (w : World) (hB : BkAt w bb cs) (c4 : cs[4]? = some vo) (c5 : cs[5]? = some vt) (c6 : cs[6]? = some vw) (c7 : cs[7]? = some vn)
    (hn : n ≤ 1000000) (hm : m ≤ 1000000) (r4 : RowAt w vo n xo) (r5 : RowAt w vt n xt) (r6 : RowAt w vw m xw) (r7 : RowAt w vn m xn) (p1 : Pairs w xo xt n) (p2 : Pairs w xw xn m) :
    Calls Tryz.prog 43 #[.pointer (some ⟨bb, 0, none⟩)] w fun e w1 => e = .returned (.bool true) ∧ Below w.heap.size w w1 := by
  have x4 := (bk_cell hB c4).1
  have x5 := (bk_cell hB c5).1
  have x6 := (bk_cell hB c6).1
  have x7 := (bk_cell hB c7).1
  have L4 : ∃ a c, vo = .slice a n c := by
    obtain ⟨_, ⟨h, h'⟩ | ⟨g, c, h, _⟩⟩ := r4
    · subst h'; exact ⟨_, _, h⟩
    · exact ⟨_, _, h⟩
  have L6 : ∃ a c, vw = .slice a m c := by
    obtain ⟨_, ⟨h, h'⟩ | ⟨g, c, h, _⟩⟩ := r6
    · subst h'; exact ⟨_, _, h⟩
    · exact ⟨_, _, h⟩
  have row : ∀ v k xs i, RowAt w v k xs → i < k → ∃ g c, v = .slice (some ⟨g, 0, none⟩) k c ∧ k ≤ c ∧ w.cell? ⟨g, i, none⟩ = xs[i]? := by
    intro v k xs i h hi
    obtain ⟨_, ⟨h, h'⟩ | ⟨g, c, h, h2, h3⟩⟩ := h
    · omega
    · exact ⟨g, c, h, h2, h3 i hi⟩
  have P1 : Hid (∀ w', Below w.heap.size w w' → ∀ i, i < n → ∃ g c g' c' a b l k k' , vo = .slice (some ⟨g, 0, none⟩) n c ∧ n ≤ c ∧ vt = .slice (some ⟨g', 0, none⟩) n c' ∧ n ≤ c' ∧ w'.cell? ⟨g, i, none⟩ = some (.slice a l k) ∧ w'.cell? ⟨g', i, none⟩ = some (.slice b l k') ∧ ∀ w, Below w'.heap.size w' w → Calls Tryz.prog 89 #[.slice a l k, .slice b l k'] w fun e w' => e = .returned (.bool true) ∧ w' = w) := by
    intro w' bw i hi
    obtain ⟨a, b, l, k, k', z, e1, e2, hl, q1, q2⟩ := p1 i hi
    obtain ⟨g, c, h1, h2, h3⟩ := row _ _ _ i r4 hi
    obtain ⟨g', c', h1', h2', h3'⟩ := row _ _ _ i r5 hi
    exact ⟨g, c, g', c', a, b, l, k, k', h1, h2, h1', h2', cell_later bw (h3.trans e1), cell_later bw (h3'.trans e2), fun w2 b2 => sameBytes_any a b l k k' z w2 (came_below (B := 0) (came_below (B := 0) q1 bw) b2) (came_below (B := 0) (came_below (B := 0) q2 bw) b2) hl⟩
  have P2 : Hid (∀ w', Below w.heap.size w w' → ∀ i, i < m → ∃ g c g' c' a b l k k' , vw = .slice (some ⟨g, 0, none⟩) m c ∧ m ≤ c ∧ vn = .slice (some ⟨g', 0, none⟩) m c' ∧ m ≤ c' ∧ w'.cell? ⟨g, i, none⟩ = some (.slice a l k) ∧ w'.cell? ⟨g', i, none⟩ = some (.slice b l k') ∧ ∀ w, Below w'.heap.size w' w → Calls Tryz.prog 89 #[.slice a l k, .slice b l k'] w fun e w' => e = .returned (.bool true) ∧ w' = w) := by
    intro w' bw i hi
    obtain ⟨a, b, l, k, k', z, e1, e2, hl, q1, q2⟩ := p2 i hi
    obtain ⟨g, c, h1, h2, h3⟩ := row _ _ _ i r6 hi
    obtain ⟨g', c', h1', h2', h3'⟩ := row _ _ _ i r7 hi
    exact ⟨g, c, g', c', a, b, l, k, k', h1, h2, h1', h2', cell_later bw (h3.trans e1), cell_later bw (h3'.trans e2), fun w2 b2 => sameBytes_any a b l k k' z w2 (came_below (B := 0) (came_below (B := 0) q1 bw) b2) (came_below (B := 0) (came_below (B := 0) q2 bw) b2) hl⟩
  obtain ⟨a4, k4, e4⟩ := L4
  obtain ⟨a6, k6, e6⟩ := L6
  rw [e4] at x4 P1
  rw [e6] at x6 P2
  clear row p1 p2 r4 r5 r6 r7 hB c4 c5 c6 c7 e4 e6
  have X : Hid (∀ w', Below w.heap.size w w' → w'.cell? ⟨bb, 4, none⟩ = some (.slice a4 n k4) ∧ w'.cell? ⟨bb, 5, none⟩ = some vt ∧ w'.cell? ⟨bb, 6, none⟩ = some (.slice a6 m k6) ∧ w'.cell? ⟨bb, 7, none⟩ = some vn) := fun w' hb => ⟨cell_later hb x4, cell_later hb x5, cell_later hb x6, cell_later hb x7⟩
  clear x4 x5 x6 x7
  go_enter Tryz.func43, Tryz.ntmps43
  go_wp2
  go_loopw [3] (fun i wr => ∃ k : Nat, i = .int .i64 k ∧ k ≤ n ∧ Below w.heap.size w wr) (fun i _ => n - (intOf i).toNat)
  case atStart => exact ⟨0, rfl, by omega, Below.refl _ _⟩
  case round =>
    obtain ⟨k, rfl, hk, hbel⟩ := hrel
    obtain ⟨x4, x5, x6, x7⟩ := X.out _ hbel
    have HB : Hid (Below w.heap.size w wr) := hbel
    by_cases hlt : k < n
    · obtain ⟨g, c, g', c', a, b, l, q, q', h1, h2, h3, h4, h5, h6, h7⟩ := P1.out _ hbel k hlt
      have H7 : Hid (∀ N, Calls Tryz.prog 89 #[.slice a l q, .slice b l q'] (wr.drewN N) fun e w' => e = .returned (.bool true) ∧ w' = wr.drewN N) := fun N => h7 _ (below_drewN (Below.refl _ _) N)
      clear h7 hbel
      rw [h1] at x4
      rw [h3] at x5
      clear h1 h3
      have hk' : (k : Int) < n := by omega
      go_wp2
      go_quiet ((go_at_call 89; exact Calls.quiet_of_same (H7.out _)))
      go_wp2
      go_roundw
      case rel => exact ⟨k + 1, by simp, by omega, below_drewN HB.out _⟩
      case measure => simp [intOf]; omega
    · have hk' : ¬ (k : Int) < n := by omega
      clear hbel
      have HBX : Hid (Below w.heap.size w wr) := HB.out
      go_wp2
      go_loopw [4] (fun i wr => ∃ k : Nat, i = .int .i64 k ∧ k ≤ m ∧ Below w.heap.size w wr) (fun i _ => m - (intOf i).toNat)
      case atStart => exact ⟨0, rfl, by omega, HBX.out⟩
      case round =>
        obtain ⟨k, rfl, hk, hbel⟩ := hrel
        obtain ⟨x4, x5, x6, x7⟩ := X.out _ hbel
        have HB : Hid (Below w.heap.size w wr) := hbel
        by_cases hlt : k < m
        · obtain ⟨g, c, g', c', a, b, l, q, q', h1, h2, h3, h4, h5, h6, h7⟩ := P2.out _ hbel k hlt
          have H7 : Hid (∀ N, Calls Tryz.prog 89 #[.slice a l q, .slice b l q'] (wr.drewN N) fun e w' => e = .returned (.bool true) ∧ w' = wr.drewN N) := fun N => h7 _ (below_drewN (Below.refl _ _) N)
          clear h7 hbel
          rw [h1] at x6
          rw [h3] at x7
          clear h1 h3
          have hk' : (k : Int) < m := by omega
          go_wp2
          go_quiet ((go_at_call 89; exact Calls.quiet_of_same (H7.out _)))
          go_wp2
          go_roundw
          case rel => exact ⟨k + 1, by simp, by omega, below_drewN HB.out _⟩
          case measure => simp [intOf]; omega
        · have hk' : ¬ (k : Int) < m := by omega
          clear hbel
          go_wp2
          go_ret
          exact ⟨rfl, HB.out⟩

set_option maxRecDepth 100000 in
set_option maxHeartbeats 1000000 in
theorem due_any (bb : Nat) (cs : Array Value) (n t : Nat) (w : World) (hn : n ≤ 1000000) (ht : t ≤ 1000000) (hB : BkAt w bb cs) (c0 : cs[0]? = some (.bool false)) (c2 : cs[2]? = some (.int .i64 t)) :
    Calls Tryz.prog 86 #[.pointer (some ⟨bb, 0, none⟩), .int .i64 n] w fun e w1 => (∃ d : Nat, e = .returned (.int .i64 d) ∧ t ≤ d ∧ d ≤ t + 8) ∧ w1 = w := by
  have x0 := (bk_cell hB c0).1
  have x2 := (bk_cell hB c2).1
  clear hB c0 c2
  go_enter Tryz.func86, Tryz.ntmps86
  go_wp2
  · go_ret
    exact ⟨⟨t, rfl, by omega, by omega⟩, rfl⟩
  · go_ret
    exact ⟨⟨t + 1 + n / 3 % 8, by simp, by omega, by omega⟩, rfl⟩
  · go_ret
    exact ⟨⟨t + 1, by simp, by omega, by omega⟩, rfl⟩

end Go.Proofs.YtkjeneklkdekoaaGreatDoor
