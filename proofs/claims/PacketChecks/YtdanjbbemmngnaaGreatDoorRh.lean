import Derived.Test.YtdanjbbemmngnaaGreatDoorRfA
import Derived.Deep.LoopGhost
namespace Go.Proofs.YtdanjbbemmngnaaGreatDoor
open Go Go.RowKit Go.Sort
set_option linter.unusedSimpArgs false
set_option linter.unusedVariables false

theorem isEmpty_dec (t : ByteArray) : t.toList.isEmpty = decide (t.size = 0) := by
  have h := isEmpty_size t
  by_cases h0 : t.size = 0
  · rw [h0] at h; rw [decide_eq_true h0]; revert h; cases t.toList.isEmpty <;> simp
  · rw [decide_eq_false h0]; revert h; cases t.toList.isEmpty <;> simp [h0]
theorem zmsg_iff (t : ByteArray) (n : Nat) (q : Int) (r : Bool) : zmsg t n q r = true ↔ t.size = 0 ∧ q = 0 ∧ r = false ∧ n = 0 := by
  simp only [zmsg, Bool.and_eq_true, decide_eq_true_eq, Bool.not_eq_true']
  constructor
  · rintro ⟨⟨⟨a, b⟩, c⟩, d⟩; exact ⟨a, c, d, b⟩
  · rintro ⟨a, c, d, b⟩; exact ⟨⟨⟨a, b⟩, c⟩, d⟩

/-- No field is set that the kind hasn't. -/
theorem forB_own (p : Pk) : forB p = false ↔ Own p := by
  have hA : fA p = false ↔ (p.kind ≠ 1 → p.level = 0 ∧ p.clean = false ∧ p.keep = 0 ∧ p.client.size = 0 ∧ p.hasWill = false ∧ p.hasUser = false ∧ p.hasPass = false) := by
    unfold fA
    rw [isEmpty_dec]
    by_cases h : p.kind = 1
    · simp [h]
    · simp [h]
      constructor
      · rintro ⟨⟨⟨⟨⟨⟨a, b⟩, c⟩, d⟩, e⟩, f⟩, g⟩; exact ⟨a, b, c, d, e, f, g⟩
      · rintro ⟨a, b, c, d, e, f, g⟩; exact ⟨⟨⟨⟨⟨⟨a, b⟩, c⟩, d⟩, e⟩, f⟩, g⟩
  have hB : fB p = false ↔ ((¬ (p.kind = 1 ∧ p.hasWill = true) → zmsg p.wT p.wP.n p.wQ p.wR = true) ∧ (¬ (p.kind = 1 ∧ p.hasUser = true) → p.user.size = 0) ∧ (¬ (p.kind = 1 ∧ p.hasPass = true) → p.pass.n = 0)) := by
    unfold fB
    rw [isEmpty_dec]
    cases zmsg p.wT p.wP.n p.wQ p.wR <;> cases p.hasWill <;> cases p.hasUser <;> cases p.hasPass <;> by_cases h : p.kind = 1 <;> by_cases hu : p.user.size = 0 <;> by_cases hp : p.pass.n = 0 <;> simp [h, hu, hp] <;> omega
  have hC : fC p = false ↔ (p.kind ≠ 2 → p.present = false ∧ p.code = 0) := by
    unfold fC
    by_cases h : p.kind = 2
    · simp [h]
    · simp [h]
  have hD : fD p = false ↔ (p.kind ≠ 3 → p.dup = false ∧ zmsg p.mT p.mP.n p.mQ p.mR = true) := by
    unfold fD
    by_cases h : p.kind = 3
    · simp [h]
    · simp [h]
  have hE : fE p = false ↔ ((hasID p = false → p.id = 0) ∧ (p.kind ≠ 8 → p.asks.n = 0) ∧ (p.kind ≠ 9 → p.codes.n = 0) ∧ (p.kind ≠ 10 → p.filters.n = 0)) := by
    unfold fE
    cases hasID p <;> by_cases h8 : p.kind = 8 <;> by_cases h9 : p.kind = 9 <;> by_cases h10 : p.kind = 10 <;> by_cases a : p.id = 0 <;> by_cases b : p.asks.n = 0 <;> by_cases c : p.codes.n = 0 <;> by_cases d : p.filters.n = 0 <;> simp [h8, h9, h10, a, b, c, d] <;> omega
  have e : forB p = false ↔ (fA p = false ∧ fB p = false ∧ fC p = false ∧ fD p = false ∧ fE p = false) := by
    unfold forB
    simp only [Bool.or_eq_false_iff]
    constructor
    · rintro ⟨⟨⟨⟨a, b⟩, c⟩, d⟩, e⟩; exact ⟨a, b, c, d, e⟩
    · rintro ⟨a, b, c, d, e⟩; exact ⟨⟨⟨⟨a, b⟩, c⟩, d⟩, e⟩
  rw [e, hA, hB, hC, hD, hE]
  constructor
  · rintro ⟨a, ⟨b1, b2, b3⟩, c, d, e1, e2, e3, e4⟩
    exact { level := fun h => (a h).1, clean := fun h => (a h).2.1, keep := fun h => (a h).2.2.1, client := fun h => (a h).2.2.2.1, hasWill := fun h => (a h).2.2.2.2.1, will := fun h => (zmsg_iff _ _ _ _).1 (b1 h), hasUser := fun h => (a h).2.2.2.2.2.1, user := b2, hasPass := fun h => (a h).2.2.2.2.2.2, pass := b3, present := fun h => (c h).1, code := fun h => (c h).2, dup := fun h => (d h).1, msg := fun h => (zmsg_iff _ _ _ _).1 (d h).2, id := e1, asks := e2, codes := e3, filters := e4 }
  · intro h
    exact ⟨fun k => ⟨h.level k, h.clean k, h.keep k, h.client k, h.hasWill k, h.hasUser k, h.hasPass k⟩, ⟨fun k => (zmsg_iff _ _ _ _).2 (h.will k), h.user, h.pass⟩, fun k => ⟨h.present k, h.code k⟩, fun k => ⟨h.dup k, (zmsg_iff _ _ _ _).2 (h.msg k)⟩, h.id, h.asks, h.codes, h.filters⟩
/-- The document's look at the fields is the program's. -/
theorem bad1_for (p : Pk) (h1 : 1 ≤ p.kind) (h2 : p.kind ≤ 14) : bad1 p = (forB p || !bnd p) := by
  unfold bad1
  congr 1
  have h := own_is p h1 h2
  have g := forB_own p
  cases hf : forB p
  · have := h.2 (g.1 hf); simp [this]
  · have : ¬ gv p &&& (18446744073709551615 - fl p) = 0 := fun hh => by
      have := g.2 (h.1 hh); rw [hf] at this; cases this
    simpa using this
end Go.Proofs.YtdanjbbemmngnaaGreatDoor
namespace Go.Proofs.YtdanjbbemmngnaaGreatDoor
open Go Go.RowKit Go.Sort
set_option linter.unusedSimpArgs false
set_option linter.unusedVariables false

def qA (p : Pk) : Bool := (p.kind == 1 && p.hasWill && !isQ p.wQ) || (p.kind == 3 && !isQ p.mQ)
/-- What the document's look at qualities tells. -/
def rqls (p : Pk) (c : Cn) : Bool := !qA p && allN p.asks.n (fun i => isQ (c.aq i)) && allN p.codes.n (fun i => isC (c.cs i))
theorem within_q (q : Int) (w : World) : Calls Tryz.prog 95 #[.int .i64 q, .int .i64 2] w fun e w' => e = .returned (.bool (isQ q)) ∧ w' = w := within_any q 2 w

set_option maxHeartbeats 4000000 in
set_option maxRecDepth 100000 in
theorem rqualities_any (p : Pk) (c : Cn) (w : World) (hin : In w p c) (ha : p.asks.n ≤ 1000000) (hd : p.codes.n ≤ 1000000) : Calls Tryz.prog 99 #[p.v] w fun e w' => e = .returned (.bool (rqls p c)) ∧ Below w.heap.size w w' := by
  obtain ⟨x, hx⟩ : ∃ x, x = rqls p c := ⟨_, rfl⟩
  rw [← hx]
  have HX : Hid (x = rqls p c) := hx
  clear hx
  obtain ⟨P, hP⟩ : ∃ P, P = pkCells p := ⟨_, rfl⟩
  obtain ⟨W, hW⟩ : ∃ W, W = w.alloc (.cells P 29) := ⟨_, rfl⟩
  have b0 : Hid (Below w.heap.size w W) := box_below hW
  have FA : Hid (∀ k v, (pkCells p)[k]? = some v → W.cell? ⟨w.heap.size, k, none⟩ = some v) := fun k v h => by rw [hW]; exact box_cell w P 29 k v (by rw [hP]; exact h)
  rw [show p.v = .agg P by rw [hP]; rfl]
  clear hP
  have HA : Hid (As W p.asks c.af c.aq) := hin.asks.below b0.out
  have HS : Hid (Is W p.codes c.cs) := hin.codes.below b0.out
  have LA : Hid (p.asks.n ≤ 1000000) := ha
  have LC : Hid (p.codes.n ≤ 1000000) := hd
  clear hin ha hd
  obtain ⟨b1, h1⟩ : ∃ b, (p.kind == 1) = b := ⟨_, rfl⟩
  obtain ⟨b3, h3⟩ : ∃ b, (p.kind == 3) = b := ⟨_, rfl⟩
  go_enter Tryz.func99, Tryz.ntmps99
  go_upto_region 1 with fail
  rw [← hW]
  clear hW
  go_cut [30] from 5 (fun s30 wx => s30 = .bool (qA p) ∧ Hid (wx = W))
  case first =>
    have c0 := FA.out 0 (.int .i64 p.kind) rfl
    have c5 := FA.out 5 (.bool p.hasWill) rfl
    have c8 := FA.out 8 (.int .i64 p.wQ) rfl
    have c19 := FA.out 19 (.int .i64 p.mQ) rfl
    cases b1
    case false =>
      cases b3
      case false =>
        go_wp2_with fail
        go_meet
        case rel => exact ⟨by simp [qA, h1, h3], rfl⟩
      cases hmq : isQ p.mQ
      case false =>
        go_wp2_with (go_at_call 95; refine (within_q p.mQ _).mono ?_; rintro e w' ⟨rfl, hee⟩; obtain rfl := hee.symm; clear hee; rw [hmq])
        go_meet
        case rel => exact ⟨by simp [qA, h1, h3, hmq], rfl⟩
      go_wp2_with (go_at_call 95; refine (within_q p.mQ _).mono ?_; rintro e w' ⟨rfl, hee⟩; obtain rfl := hee.symm; clear hee; rw [hmq])
      go_meet
      case rel => exact ⟨by simp [qA, h1, h3, hmq], rfl⟩
    cases hw : p.hasWill
    case false =>
      rw [hw] at c5
      cases b3
      case false =>
        go_wp2_with fail
        go_meet
        case rel => exact ⟨by simp [qA, h1, hw, h3], rfl⟩
      cases hmq : isQ p.mQ
      case false =>
        go_wp2_with (go_at_call 95; refine (within_q p.mQ _).mono ?_; rintro e w' ⟨rfl, hee⟩; obtain rfl := hee.symm; clear hee; rw [hmq])
        go_meet
        case rel => exact ⟨by simp [qA, h1, hw, h3, hmq], rfl⟩
      go_wp2_with (go_at_call 95; refine (within_q p.mQ _).mono ?_; rintro e w' ⟨rfl, hee⟩; obtain rfl := hee.symm; clear hee; rw [hmq])
      go_meet
      case rel => exact ⟨by simp [qA, h1, hw, h3, hmq], rfl⟩
    rw [hw] at c5
    cases hwq : isQ p.wQ
    case false =>
      go_wp2_with (go_at_call 95; refine (within_q p.wQ _).mono ?_; rintro e w' ⟨rfl, hee⟩; obtain rfl := hee.symm; clear hee; rw [hwq])
      go_meet
      case rel => exact ⟨by simp [qA, h1, hw, hwq], rfl⟩
    cases b3
    case false =>
      go_wp2_with (go_at_call 95; refine (within_q p.wQ _).mono ?_; rintro e w' ⟨rfl, hee⟩; obtain rfl := hee.symm; clear hee; rw [hwq])
      go_meet
      case rel => exact ⟨by simp [qA, h1, hw, hwq, h3], rfl⟩
    cases hmq : isQ p.mQ
    case false =>
      go_wp2_with (go_at_call 95; refine (within_q _ _).mono ?_; rintro e w' ⟨rfl, hee⟩; obtain rfl := hee.symm; clear hee; first | rw [hwq] | rw [hmq])
      go_meet
      case rel => exact ⟨by simp [qA, h1, hw, hwq, h3, hmq], rfl⟩
    go_wp2_with (go_at_call 95; refine (within_q _ _).mono ?_; rintro e w' ⟨rfl, hee⟩; obtain rfl := hee.symm; clear hee; first | rw [hwq] | rw [hmq])
    go_meet
    case rel => exact ⟨by simp [qA, h1, hw, hwq, h3, hmq], rfl⟩
  case rest =>
  obtain ⟨rfl, hw1⟩ := hcut
  obtain rfl := hw1.out.symm
  clear hw1 h1 h3
  cases tA : qA p
  case true =>
    go_wp2
    go_ret
    exact ⟨by rw [HX.out, rqls, tA]; rfl, b0.out⟩
  have HQ : Hid (qA p = false) := tA
  clear tA
  have c22 := FA.out 22 (.slice p.asks.a p.asks.n p.asks.c) rfl
  have c23 := FA.out 23 (.slice p.codes.a p.codes.n p.codes.c) rfl
  go_wp2_with fail
  go_loopg [3] p.asks.n (fun g s3 wx => wx = W ∧ ∃ k : Nat, s3 = .int .i64 k ∧ k + g = p.asks.n ∧ Hid (∀ j, j < k → isQ (c.aq j) = true))
  case atStart => exact ⟨rfl, 0, rfl, by omega, fun j hj => absurd hj (Nat.not_lt_zero _)⟩
  case round =>
    obtain ⟨hw0, k, rfl, hkg, HD⟩ := hrel
    obtain rfl := hw0.symm
    clear hw0
    by_cases hk : k < p.asks.n
    · have hk' : (k : Int) < p.asks.n := by omega
      obtain ⟨b, off, he, hc⟩ : ∃ b off, p.asks.a = some ⟨b, off, none⟩ ∧ ∀ i, i < p.asks.n → (W.cell? ⟨b, off + i * 2, none⟩ = some (.string (c.af i)) ∧ W.cell? ⟨b, off + i * 2 + 1, none⟩ = some (.int .i64 (c.aq i))) := by
        rcases HA.out.2 with h | h
        · omega
        · exact h
      have hac : p.asks.n ≤ p.asks.c := HA.out.1
      rw [he] at c22
      have d1 := (hc k hk).2
      have hw : IntKind.i64.wrap ((k : Int) + 1) = (k : Int) + 1 := by rw [IntKind.wrap_i64]; have := LA.out; omega
      clear hc he
      cases hq : isQ (c.aq k)
      case false =>
        have HR : Hid (x = false) := by show _ = _; rw [HX.out, rqls, allN_false k hk hq]; simp
        go_wp2_with (go_at_call 95; refine (within_q _ _).mono ?_; rintro e w' ⟨rfl, hee⟩; obtain rfl := hee.symm; clear hee; rw [hq])
        go_ret
        exact ⟨by rw [HR.out]; rfl, b0.out⟩
      have HN : Hid (∀ j, j < k + 1 → isQ (c.aq j) = true) := fun j hj => by
        rcases Nat.lt_or_ge j k with h | h
        · exact HD.out j h
        · obtain rfl : j = k := by omega
          exact hq
      go_wp2_with (go_at_call 95; refine (within_q _ _).mono ?_; rintro e w' ⟨rfl, hee⟩; obtain rfl := hee.symm; clear hee; rw [hq])
      go_roundg (p.asks.n - (k + 1))
      case measure => omega
      case rel => exact ⟨rfl, k + 1, by first | rfl | simp, by omega, HN⟩
    · obtain rfl : k = p.asks.n := by omega
      have hk' : ¬ (p.asks.n : Int) < p.asks.n := by omega
      have AL : Hid (allN p.asks.n (fun i => isQ (c.aq i)) = true) := (allN_iff _ _).2 HD.out
      go_wp2_with fail
      clear hk'
      go_loopg [4] p.codes.n (fun g s4 wx => wx = W ∧ ∃ k : Nat, s4 = .int .i64 k ∧ k + g = p.codes.n ∧ Hid (∀ j, j < k → isC (c.cs j) = true))
      case atStart => exact ⟨rfl, 0, rfl, by omega, fun j hj => absurd hj (Nat.not_lt_zero _)⟩
      case round =>
        obtain ⟨hw0, j, rfl, hjg, HC⟩ := hrel
        obtain rfl := hw0.symm
        clear hw0
        by_cases hj : j < p.codes.n
        · have hj' : (j : Int) < p.codes.n := by omega
          obtain ⟨b, off, he, hc⟩ : ∃ b off, p.codes.a = some ⟨b, off, none⟩ ∧ ∀ i, i < p.codes.n → W.cell? ⟨b, off + i, none⟩ = some (.int .i64 (c.cs i)) := by
            rcases HS.out.2 with h | h
            · omega
            · exact h
          have hac : p.codes.n ≤ p.codes.c := HS.out.1
          rw [he] at c23
          have d1 := hc j hj
          have hw : IntKind.i64.wrap ((j : Int) + 1) = (j : Int) + 1 := by rw [IntKind.wrap_i64]; have := LC.out; omega
          clear hc he
          cases hq : isQ (c.cs j)
          case false =>
            by_cases h128 : c.cs j = 128
            · have h128' : (c.cs j != 128) = false := by simp [h128]
              have HN : Hid (∀ i, i < j + 1 → isC (c.cs i) = true) := fun i hi => by
                rcases Nat.lt_or_ge i j with h | h
                · exact HC.out i h
                · obtain rfl : i = j := by omega
                  simp [isC, h128]
              clear h128
              go_wp2_with (go_at_call 95; refine (within_q _ _).mono ?_; rintro e w' ⟨rfl, hee⟩; obtain rfl := hee.symm; clear hee; rw [hq])
              go_roundg (p.codes.n - (j + 1))
              case measure => omega
              case rel => exact ⟨rfl, j + 1, by first | rfl | simp, by omega, HN⟩
            · have h128' : (c.cs j != 128) = true := by simp [h128]
              have HR : Hid (x = false) := by show _ = _; rw [HX.out, rqls, allN_false (f := fun i => isC (c.cs i)) j hj (by simp [isC, hq, h128])]; simp
              clear h128
              go_wp2_with (go_at_call 95; refine (within_q _ _).mono ?_; rintro e w' ⟨rfl, hee⟩; obtain rfl := hee.symm; clear hee; rw [hq])
              go_ret
              exact ⟨by rw [HR.out]; rfl, b0.out⟩
          have HN : Hid (∀ i, i < j + 1 → isC (c.cs i) = true) := fun i hi => by
            rcases Nat.lt_or_ge i j with h | h
            · exact HC.out i h
            · obtain rfl : i = j := by omega
              simp [isC, hq]
          go_wp2_with (go_at_call 95; refine (within_q _ _).mono ?_; rintro e w' ⟨rfl, hee⟩; obtain rfl := hee.symm; clear hee; rw [hq])
          go_roundg (p.codes.n - (j + 1))
          case measure => omega
          case rel => exact ⟨rfl, j + 1, by first | rfl | simp, by omega, HN⟩
        · obtain rfl : j = p.codes.n := by omega
          have hj' : ¬ (p.codes.n : Int) < p.codes.n := by omega
          have CL : Hid (allN p.codes.n (fun i => isC (c.cs i)) = true) := (allN_iff _ _).2 HC.out
          have HR : Hid (x = true) := by show _ = _; rw [HX.out, rqls, HQ.out, AL.out, CL.out]; rfl
          go_wp2
          go_ret
          exact ⟨by rw [HR.out]; rfl, b0.out⟩
end Go.Proofs.YtdanjbbemmngnaaGreatDoor
