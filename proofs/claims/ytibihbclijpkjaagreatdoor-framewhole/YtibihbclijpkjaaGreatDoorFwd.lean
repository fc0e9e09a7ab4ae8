import Derived.Test.YtibihbclijpkjaaGreatDoorFwc
import Derived.Test.YtibihbclijpkjaaGreatDoorPOp
namespace Go.Proofs.YtibihbclijpkjaaGreatDoor
open Go Go.RowKit Go.ChangeShapes Go.WideShapes
open Pkt (Pk Cn Sl In By Is Ss As pkCells Fit trod_field cells22 cells24 cells25 cells26 cells27)
set_option linter.unusedSimpArgs false
set_option linter.unusedVariables false
set_option maxRecDepth 100000

section
variable {H : Type} {enc : TypeId × Value → H} {W : World} {base : Nat} {held : Bool}

/-! ### Packets in a list that comes in -/
theorem plain_cell {x : Addr} {v : Value} (h : W.cell? (x.add 0) = some v) : ∃ b off, x = ⟨b, off, none⟩ := by
  obtain ⟨b, off, spot⟩ := x
  cases spot with
  | none => exact ⟨b, off, rfl⟩
  | some s =>
    unfold World.cell? Addr.add at h
    simp at h
    split at h <;> simp at h
theorem sby {v : Value} {n : Nat} {y : DataW H × List MemPlace} (h : DataW.trod enc Tryz.prog W base (fun _ => true) held n 22 [v] = some y) : ∃ s z, v = Sl.v s ∧ By W s z ∧ s.n ≤ 9223372036854775807 := by
  rcases open_ints Tryz.underlying22 Tryz.underlying5 (by kernel_rfl) h with ⟨hcs, _⟩ | ⟨x, l, c, zs, hcs, _, hl, hm, hz, _, hcell, hwz⟩
  · simp only [List.cons.injEq, and_true] at hcs
    exact ⟨⟨none, 0, 0⟩, fun _ => 0, hcs, ⟨Nat.le_refl _, fun _ => ⟨Int.le_refl 0, by show (0 : Int) ≤ 255; decide⟩, .inl rfl⟩, by decide⟩
  · simp only [List.cons.injEq, and_true] at hcs
    simp at hz
    refine ⟨⟨some x, l, c⟩, fun i => zs.getD i 0, hcs, ⟨hl, fun i => ?_, ?_⟩, by unfold maxLen at hm; show l ≤ _; omega⟩
    · by_cases hi : i < zs.length
      · have := hwz (zs.getD i 0) (by simp [List.getD, hi])
        simp only [Lit.wf, Bool.and_eq_true, decide_eq_true_eq] at this
        have e1 : IntKind.u8.min = 0 := by decide
        have e2 : IntKind.u8.max = 255 := by decide
        rw [e1, e2] at this
        exact this
      · simp [List.getD, hi]
    · by_cases h0 : l = 0
      · exact .inl h0
      · obtain ⟨b, off, rfl⟩ := plain_cell (hcell 0 (by omega))
        refine .inr ⟨b, off, rfl, fun i hi => ?_⟩
        have hi' : i < l := hi
        have := hcell i (by omega)
        rw [plain_add] at this
        exact this
theorem sis {v : Value} {n : Nat} {y : DataW H × List MemPlace} (h : DataW.trod enc Tryz.prog W base (fun _ => true) held n 26 [v] = some y) : ∃ s z, v = Sl.v s ∧ Is W s z ∧ s.n ≤ 9223372036854775807 := by
  rcases open_ints Tryz.underlying26 Tryz.underlying3 (by kernel_rfl) h with ⟨hcs, _⟩ | ⟨x, l, c, zs, hcs, _, hl, hm, hz, _, hcell, hwz⟩
  · simp only [List.cons.injEq, and_true] at hcs
    exact ⟨⟨none, 0, 0⟩, fun _ => 0, hcs, ⟨Nat.le_refl _, .inl rfl⟩, by decide⟩
  · simp only [List.cons.injEq, and_true] at hcs
    simp at hz
    refine ⟨⟨some x, l, c⟩, fun i => zs.getD i 0, hcs, ⟨hl, ?_⟩, by unfold maxLen at hm; show l ≤ _; omega⟩
    by_cases h0 : l = 0
    · exact .inl h0
    · obtain ⟨b, off, rfl⟩ := plain_cell (hcell 0 (by omega))
      refine .inr ⟨b, off, rfl, fun i hi => ?_⟩
      have hi' : i < l := hi
      have := hcell i (by omega)
      rw [plain_add] at this
      exact this
theorem sss {v : Value} {n : Nat} {y : DataW H × List MemPlace} (h : DataW.trod enc Tryz.prog W base (fun _ => true) held n 27 [v] = some y) : ∃ s z, v = Sl.v s ∧ Ss W s z ∧ s.n ≤ 9223372036854775807 ∧ ∀ i, i < s.n → (z i).size ≤ 9223372036854775807 := by
  rcases Go.Deep.open_strs Tryz.underlying27 Tryz.underlying9 (by kernel_rfl) h with ⟨hcs, _⟩ | ⟨x, l, c, m, zs, hcs, _, hl, hm, hz, _, hcell⟩
  · simp only [List.cons.injEq, and_true] at hcs
    exact ⟨⟨none, 0, 0⟩, fun _ => ByteArray.empty, hcs, ⟨Nat.le_refl _, .inl rfl⟩, by decide, fun i hi => absurd hi (Nat.not_lt_zero i)⟩
  · simp only [List.cons.injEq, and_true] at hcs
    simp at hz
    refine ⟨⟨some x, l, c⟩, zs, hcs, ⟨hl, ?_⟩, by unfold maxLen at hm; show l ≤ _; omega, fun i hi => ?_⟩
    · by_cases h0 : l = 0
      · exact .inl h0
      · obtain ⟨b, off, rfl⟩ := plain_cell (hcell 0 (by omega)).1
        refine .inr ⟨b, off, rfl, fun i hi => ?_⟩
        have hi' : i < l := hi
        have := (hcell i (by omega)).1
        rw [plain_add] at this
        exact this
    · have hi' : i < l := hi
      have := (hcell i (by omega)).2; unfold maxLen at this; omega
theorem sas {v : Value} {n : Nat} {y : DataW H × List MemPlace} (h : DataW.trod enc Tryz.prog W base (fun _ => true) held n 25 [v] = some y) : ∃ s f q, v = Sl.v s ∧ As W s f q ∧ s.n ≤ 9223372036854775807 ∧ ∀ i, i < s.n → (f i).size ≤ 9223372036854775807 := by
  rcases Go.Deep.open_slice_pairs Tryz.underlying25 Tryz.underlying84 (by kernel_rfl) rfl rfl (by kernel_rfl) (by kernel_rfl) h with ⟨hcs, _⟩ | ⟨x, l, c, m, k, V0, V1, D0, D1, P0, P1, hcs, _, hl, hm, hz, _, hcell⟩
  · simp only [List.cons.injEq, and_true] at hcs
    exact ⟨⟨none, 0, 0⟩, fun _ => ByteArray.empty, fun _ => 0, hcs, ⟨Nat.le_refl _, .inl rfl⟩, by decide, fun i hi => absurd hi (Nat.not_lt_zero i)⟩
  · simp only [List.cons.injEq, and_true] at hcs
    simp at hz
    have each : ∀ i, i < l → ∃ z : ByteArray × Int, V0 i = .string z.1 ∧ V1 i = .int .i64 z.2 ∧ z.1.size ≤ 9223372036854775807 := fun i hi => by
      obtain ⟨_, _, h0, h1⟩ := hcell i (by omega)
      obtain ⟨a, ha, _, hsz⟩ := DataW.trod_string Tryz.underlying9 h0
      obtain ⟨b, hb, _⟩ := DataW.trod_int Tryz.underlying3 h1
      exact ⟨(a, b), by simpa using ha, by simpa using hb, by unfold maxLen at hsz; simp only; omega⟩
    obtain ⟨z, hz'⟩ := Go.Deep.choose_lt each
    refine ⟨⟨some x, l, c⟩, fun i => (z i).1, fun i => (z i).2, hcs, ⟨hl, ?_⟩, by unfold maxLen at hm; show l ≤ _; omega, fun i hi => (hz' i hi).2.2⟩
    by_cases h0 : l = 0
    · exact .inl h0
    · have hc0 := (hcell 0 (by omega)).1
      rw [Nat.zero_mul] at hc0
      obtain ⟨b, off, rfl⟩ := plain_cell hc0
      refine .inr ⟨b, off, rfl, fun i hi => ?_⟩
      have hi' : i < l := hi
      obtain ⟨g0, g1, _, _⟩ := hcell i (by omega)
      rw [plain_add, (hz' i hi).1] at g0
      rw [plain_add, (hz' i hi).2.1] at g1
      exact ⟨g0, by rw [show off + i * 2 + 1 = off + (i * 2 + 1) by omega]; exact g1⟩
theorem cells3 : Tryz.prog.cellsOf 3 = 1 := by kernel_rfl
theorem cells4 : Tryz.prog.cellsOf 4 = 1 := by kernel_rfl
theorem cells9 : Tryz.prog.cellsOf 9 = 1 := by kernel_rfl
theorem open_elem {cs : List Value} (hl : cs.length = 25) {n : Nat} {y : DataW H × List MemPlace} (h : DataW.trod enc Tryz.prog W base (fun _ => true) held n 29 cs = some y) : ∃ (p : Pk) (c : Cn), cs = (pkCells p).toList ∧ In W p c ∧ Fit p c := by
  match cs, hl with
  | [c0, c1, c2, c3, c4, c5, c6, c7, c8, c9, c10, c11, c12, c13, c14, c15, c16, c17, c18, c19, c20, c21, c22, c23, c24], _ =>
    obtain ⟨n0, y_0, t0⟩ := trod_field Tryz.underlying29 h 0 3 0 _ ⟨_, rfl, rfl, rfl⟩ cells3
    obtain ⟨n1, y_1, t1⟩ := trod_field Tryz.underlying29 h 1 3 1 _ ⟨_, rfl, rfl, rfl⟩ cells3
    obtain ⟨n2, y_2, t2⟩ := trod_field Tryz.underlying29 h 2 4 2 _ ⟨_, rfl, rfl, rfl⟩ cells4
    obtain ⟨n3, y_3, t3⟩ := trod_field Tryz.underlying29 h 3 3 3 _ ⟨_, rfl, rfl, rfl⟩ cells3
    obtain ⟨n4, y_4, t4⟩ := trod_field Tryz.underlying29 h 4 9 4 _ ⟨_, rfl, rfl, rfl⟩ cells9
    obtain ⟨n5, y_5, t5⟩ := trod_field Tryz.underlying29 h 5 4 5 _ ⟨_, rfl, rfl, rfl⟩ cells4
    obtain ⟨n6, y_6, t6⟩ := trod_field Tryz.underlying29 h 6 24 6 _ ⟨_, rfl, rfl, rfl⟩ cells24
    obtain ⟨n6_0, y_6_0, t6_0⟩ := trod_field Tryz.underlying24 t6 0 9 0 _ ⟨_, rfl, rfl, rfl⟩ cells9
    obtain ⟨n6_1, y_6_1, t6_1⟩ := trod_field Tryz.underlying24 t6 1 22 1 _ ⟨_, rfl, rfl, rfl⟩ cells22
    obtain ⟨n6_2, y_6_2, t6_2⟩ := trod_field Tryz.underlying24 t6 2 3 2 _ ⟨_, rfl, rfl, rfl⟩ cells3
    obtain ⟨n6_3, y_6_3, t6_3⟩ := trod_field Tryz.underlying24 t6 3 4 3 _ ⟨_, rfl, rfl, rfl⟩ cells4
    obtain ⟨n7, y_7, t7⟩ := trod_field Tryz.underlying29 h 7 4 10 _ ⟨_, rfl, rfl, rfl⟩ cells4
    obtain ⟨n8, y_8, t8⟩ := trod_field Tryz.underlying29 h 8 9 11 _ ⟨_, rfl, rfl, rfl⟩ cells9
    obtain ⟨n9, y_9, t9⟩ := trod_field Tryz.underlying29 h 9 4 12 _ ⟨_, rfl, rfl, rfl⟩ cells4
    obtain ⟨n10, y_10, t10⟩ := trod_field Tryz.underlying29 h 10 22 13 _ ⟨_, rfl, rfl, rfl⟩ cells22
    obtain ⟨n11, y_11, t11⟩ := trod_field Tryz.underlying29 h 11 4 14 _ ⟨_, rfl, rfl, rfl⟩ cells4
    obtain ⟨n12, y_12, t12⟩ := trod_field Tryz.underlying29 h 12 3 15 _ ⟨_, rfl, rfl, rfl⟩ cells3
    obtain ⟨n13, y_13, t13⟩ := trod_field Tryz.underlying29 h 13 4 16 _ ⟨_, rfl, rfl, rfl⟩ cells4
    obtain ⟨n14, y_14, t14⟩ := trod_field Tryz.underlying29 h 14 24 17 _ ⟨_, rfl, rfl, rfl⟩ cells24
    obtain ⟨n14_0, y_14_0, t14_0⟩ := trod_field Tryz.underlying24 t14 0 9 0 _ ⟨_, rfl, rfl, rfl⟩ cells9
    obtain ⟨n14_1, y_14_1, t14_1⟩ := trod_field Tryz.underlying24 t14 1 22 1 _ ⟨_, rfl, rfl, rfl⟩ cells22
    obtain ⟨n14_2, y_14_2, t14_2⟩ := trod_field Tryz.underlying24 t14 2 3 2 _ ⟨_, rfl, rfl, rfl⟩ cells3
    obtain ⟨n14_3, y_14_3, t14_3⟩ := trod_field Tryz.underlying24 t14 3 4 3 _ ⟨_, rfl, rfl, rfl⟩ cells4
    obtain ⟨n15, y_15, t15⟩ := trod_field Tryz.underlying29 h 15 3 21 _ ⟨_, rfl, rfl, rfl⟩ cells3
    obtain ⟨n16, y_16, t16⟩ := trod_field Tryz.underlying29 h 16 25 22 _ ⟨_, rfl, rfl, rfl⟩ cells25
    obtain ⟨n17, y_17, t17⟩ := trod_field Tryz.underlying29 h 17 26 23 _ ⟨_, rfl, rfl, rfl⟩ cells26
    obtain ⟨n18, y_18, t18⟩ := trod_field Tryz.underlying29 h 18 27 24 _ ⟨_, rfl, rfl, rfl⟩ cells27
    obtain ⟨x0, e0, _⟩ := DataW.trod_int Tryz.underlying3 (show DataW.trod enc Tryz.prog W base (fun _ => true) held _ 3 [c0] = _ from t0)
    obtain rfl : c0 = .int .i64 x0 := by simpa using e0
    obtain ⟨x1, e1, _⟩ := DataW.trod_int Tryz.underlying3 (show DataW.trod enc Tryz.prog W base (fun _ => true) held _ 3 [c1] = _ from t1)
    obtain rfl : c1 = .int .i64 x1 := by simpa using e1
    obtain ⟨x2, e2, _⟩ := DataW.trod_bool Tryz.underlying4 (show DataW.trod enc Tryz.prog W base (fun _ => true) held _ 4 [c2] = _ from t2)
    obtain rfl : c2 = .bool x2 := by simpa using e2
    obtain ⟨x3, e3, _⟩ := DataW.trod_int Tryz.underlying3 (show DataW.trod enc Tryz.prog W base (fun _ => true) held _ 3 [c3] = _ from t3)
    obtain rfl : c3 = .int .i64 x3 := by simpa using e3
    obtain ⟨x4, e4, _, s4⟩ := DataW.trod_string Tryz.underlying9 (show DataW.trod enc Tryz.prog W base (fun _ => true) held _ 9 [c4] = _ from t4)
    obtain rfl : c4 = .string x4 := by simpa using e4
    obtain ⟨x5, e5, _⟩ := DataW.trod_bool Tryz.underlying4 (show DataW.trod enc Tryz.prog W base (fun _ => true) held _ 4 [c5] = _ from t5)
    obtain rfl : c5 = .bool x5 := by simpa using e5
    obtain ⟨x6, e6, _, s6⟩ := DataW.trod_string Tryz.underlying9 (show DataW.trod enc Tryz.prog W base (fun _ => true) held _ 9 [c6] = _ from t6_0)
    obtain rfl : c6 = .string x6 := by simpa using e6
    obtain ⟨x7, z7, e7, b7, s7⟩ := sby (show DataW.trod enc Tryz.prog W base (fun _ => true) held _ 22 [c7] = _ from t6_1)
    subst e7
    obtain ⟨x8, e8, _⟩ := DataW.trod_int Tryz.underlying3 (show DataW.trod enc Tryz.prog W base (fun _ => true) held _ 3 [c8] = _ from t6_2)
    obtain rfl : c8 = .int .i64 x8 := by simpa using e8
    obtain ⟨x9, e9, _⟩ := DataW.trod_bool Tryz.underlying4 (show DataW.trod enc Tryz.prog W base (fun _ => true) held _ 4 [c9] = _ from t6_3)
    obtain rfl : c9 = .bool x9 := by simpa using e9
    obtain ⟨x10, e10, _⟩ := DataW.trod_bool Tryz.underlying4 (show DataW.trod enc Tryz.prog W base (fun _ => true) held _ 4 [c10] = _ from t7)
    obtain rfl : c10 = .bool x10 := by simpa using e10
    obtain ⟨x11, e11, _, s11⟩ := DataW.trod_string Tryz.underlying9 (show DataW.trod enc Tryz.prog W base (fun _ => true) held _ 9 [c11] = _ from t8)
    obtain rfl : c11 = .string x11 := by simpa using e11
    obtain ⟨x12, e12, _⟩ := DataW.trod_bool Tryz.underlying4 (show DataW.trod enc Tryz.prog W base (fun _ => true) held _ 4 [c12] = _ from t9)
    obtain rfl : c12 = .bool x12 := by simpa using e12
    obtain ⟨x13, z13, e13, b13, s13⟩ := sby (show DataW.trod enc Tryz.prog W base (fun _ => true) held _ 22 [c13] = _ from t10)
    subst e13
    obtain ⟨x14, e14, _⟩ := DataW.trod_bool Tryz.underlying4 (show DataW.trod enc Tryz.prog W base (fun _ => true) held _ 4 [c14] = _ from t11)
    obtain rfl : c14 = .bool x14 := by simpa using e14
    obtain ⟨x15, e15, _⟩ := DataW.trod_int Tryz.underlying3 (show DataW.trod enc Tryz.prog W base (fun _ => true) held _ 3 [c15] = _ from t12)
    obtain rfl : c15 = .int .i64 x15 := by simpa using e15
    obtain ⟨x16, e16, _⟩ := DataW.trod_bool Tryz.underlying4 (show DataW.trod enc Tryz.prog W base (fun _ => true) held _ 4 [c16] = _ from t13)
    obtain rfl : c16 = .bool x16 := by simpa using e16
    obtain ⟨x17, e17, _, s17⟩ := DataW.trod_string Tryz.underlying9 (show DataW.trod enc Tryz.prog W base (fun _ => true) held _ 9 [c17] = _ from t14_0)
    obtain rfl : c17 = .string x17 := by simpa using e17
    obtain ⟨x18, z18, e18, b18, s18⟩ := sby (show DataW.trod enc Tryz.prog W base (fun _ => true) held _ 22 [c18] = _ from t14_1)
    subst e18
    obtain ⟨x19, e19, _⟩ := DataW.trod_int Tryz.underlying3 (show DataW.trod enc Tryz.prog W base (fun _ => true) held _ 3 [c19] = _ from t14_2)
    obtain rfl : c19 = .int .i64 x19 := by simpa using e19
    obtain ⟨x20, e20, _⟩ := DataW.trod_bool Tryz.underlying4 (show DataW.trod enc Tryz.prog W base (fun _ => true) held _ 4 [c20] = _ from t14_3)
    obtain rfl : c20 = .bool x20 := by simpa using e20
    obtain ⟨x21, e21, _⟩ := DataW.trod_int Tryz.underlying3 (show DataW.trod enc Tryz.prog W base (fun _ => true) held _ 3 [c21] = _ from t15)
    obtain rfl : c21 = .int .i64 x21 := by simpa using e21
    obtain ⟨x22, z22, y22, e22, b22, s22, l22⟩ := sas (show DataW.trod enc Tryz.prog W base (fun _ => true) held _ 25 [c22] = _ from t16)
    subst e22
    obtain ⟨x23, z23, e23, b23, s23⟩ := sis (show DataW.trod enc Tryz.prog W base (fun _ => true) held _ 26 [c23] = _ from t17)
    subst e23
    obtain ⟨x24, z24, e24, b24, s24, l24⟩ := sss (show DataW.trod enc Tryz.prog W base (fun _ => true) held _ 27 [c24] = _ from t18)
    subst e24
    have mx : maxLen ≤ 9223372036854775807 := by unfold maxLen; omega
    exact ⟨⟨x0, x1, x2, x3, x4, x5, x6, x7, x8, x9, x10, x11, x12, x13, x14, x15, x16, x17, x18, x19, x20, x21, x22, x23, x24⟩, { wz := z7, pz := z13, mz := z18, af := z22, aq := y22, cs := z23, fs := z24 }, rfl, ⟨b7, b13, b18, b22, b23, b24⟩, ⟨by show x4.size ≤ _; omega, by show x11.size ≤ _; omega, by show x6.size ≤ _; omega, by show x17.size ≤ _; omega, s7, s13, s18, s22, s23, s24, l22, l24⟩⟩
theorem open_packets {a : Option Addr} {len cap : Nat} {d : DataW H} {p : List MemPlace} (hp : Plain a) (h : DataW.Trod enc Tryz.prog W base (fun _ => true) held 55 (.slice a len cap) d p) : ∃ ps cs, Pl W ⟨a, len, cap⟩ ps cs ∧ len ≤ 9223372036854775807 := by
  obtain ⟨fuel, hf⟩ := h
  have hf' : DataW.trod enc Tryz.prog W base (fun _ => true) held fuel 55 [.slice a len cap] = some (d, p) := hf
  rcases Go.Deep.open_slice Tryz.underlying55 hf' with ⟨hcs, _⟩ | ⟨x, l, c, m, n, D, Q, hcs, _, hl, hm, hmm, _, hx⟩
  · simp only [List.cons.injEq, Value.slice.injEq, and_true] at hcs
    obtain ⟨rfl, rfl, rfl⟩ := hcs
    exact ⟨fun _ => blank 0, fun _ => noCn, .inl rfl, by decide⟩
  · simp only [List.cons.injEq, Value.slice.injEq, and_true] at hcs
    obtain ⟨rfl, rfl, rfl⟩ := hcs
    simp at hmm
    obtain ⟨b, off, rfl⟩ := hp x rfl
    have each : ∀ i, i < m → ∃ z : Pk × Cn, W.rangeAt b (off + i * 25) (pkCells z.1).toList ∧ In W z.1 z.2 ∧ Fit z.1 z.2 := fun i hi => by
      obtain ⟨cs', h1, h2⟩ := hx i hi
      rw [show Tryz.prog.cellsOf 29 = 25 by kernel_rfl, plain_add] at h1
      obtain ⟨_, hlen, hcell⟩ := World.cells?_some h1
      obtain ⟨q, c, e, hin, hfit⟩ := open_elem hlen h2
      refine ⟨(q, c), fun j v hv => ?_, hin, hfit⟩
      have hv' : cs'[j]? = some v := by rw [e]; exact hv
      have hj : j < 25 := by have := (List.getElem?_eq_some_iff.1 hv').1; omega
      have h3 := hcell j hj
      rw [plain_add] at h3
      rw [h3, hv']
    haveI : Inhabited (Pk × Cn) := ⟨(blank 0, noCn)⟩
    obtain ⟨z, hz⟩ := Go.Deep.choose_lt each
    exact ⟨fun i => (z i).1, fun i => (z i).2, .inr ⟨b, off, rfl, fun i hi => by have hi' : i < len := hi; exact hz i (by omega)⟩, by unfold maxLen at hm; omega⟩
end
end Go.Proofs.YtibihbclijpkjaaGreatDoor
