import Derived.Test.YtibihbclijpkjaaGreatDoorGg
import Derived.Test.YtibihbclijpkjaaGreatDoorFdu
namespace Go.Proofs.YtibihbclijpkjaaGreatDoor
open Go Go.RowKit
open Pkt (Pk Cn Sl In By Is Ss As pkCells Gd)
set_option linter.unusedSimpArgs false
set_option linter.unusedVariables false

theorem run_append_empty {P : Program} {w : World} (base : Nat) (t ty e : TypeId) (i : TypeInfo) (size : Nat) (ht : P.underlying t = some (.slice e)) (hi : P.info? e = some i)
    (v : Value) (n : Nat) (xs : List Value) (hown : w.ownsRow base e size v n xs) (hv : v ≠ .slice none 0 0) (a : Option Addr) (c : Nat) :
    (Builtin.append_ #[t, t] ty #[v, .slice a 0 c]).run P w = .ok v w := by
  rcases hown.2 with ⟨rfl, rfl⟩ | ⟨g, cap, cur, rfl, _, _, hnc, _⟩
  · exact absurd rfl hv
  · cases a with
    | none => simp [Builtin.append_, run_underlying ht, sizeOf, typeInfo, hi, Builtin.lenOf, Builtin.firstCells, hnc, storeCells]
    | some a =>
      have hf := run_firstCells_some (P := P) w i.size 0 a 0 c [] (by simp) (by intro j v h; simp at h)
      simp [Builtin.append_, run_underlying ht, sizeOf, typeInfo, hi, Builtin.lenOf, hf, hnc, storeCells]

/-- Bytes of any slice, laid behind a row. -/
theorem wpList_push_by {w : World} {ops : Array Oper} {rest : List Oper} {o : Oper} {a : Act} {Q : Exit → Act → World → Prop} (hgd : o.guard = none) (s x : Operand)
    (ho : o.op = .call { callee := .builtin .append, args := #[s, x], argTypes := #[22, 22] }) (B n : Nat) (v : Value) (xs : List Value) (hs : a.eval s = v) (hown : w.ownsRow B 5 1 v n xs) (hv : v ≠ .slice none 0 0)
    (l : Sl) (z : Nat → Int) (hx : a.eval x = .slice l.a l.n l.c) (hl : By w l z) (hn : n ≤ 400000) (hln : l.n ≤ 400000) (hB : B ≤ w.heap.size)
    (h : ∀ v' w', Adds B v w w' (.returned v') (n + l.n) (xs ++ cellsOf z l.n) → wpList Tryz.prog ops Q rest (a.put o.dst v') w') : wpList Tryz.prog ops Q (o :: rest) a w := by
  obtain ⟨i0, hi, hz0, hz1, hz2⟩ := info_parts Tryz.info5
  by_cases h0 : l.n = 0
  · refine wpList_plain hgd fun K hK => ?_
    have hrun := run_append_empty (P := Tryz.prog) B 22 o.type 5 i0 1 Tryz.underlying22 hi v n xs hown hv l.a l.c
    rw [h0] at hx
    unfold Oper.wp
    simp [execOp, ho, resolve, invoke, builtin, hs, hx, hrun, Result.andThen]
    refine hK _ _ (h v w ⟨v, rfl, ?_, hv, World.grownBy.refl _ _, fun k e => .inl e⟩)
    rw [h0]; simpa [cellsOf_zero] using hown
  · obtain ⟨b, off, ha, hc⟩ := hl.2.2.resolve_left h0
    rw [ha] at hx
    refine wpList_push hgd s x 22 ho B 5 i0 (.int .u8 0) 1 1 Tryz.underlying22 hi hz0 hz1 hz2 rfl (by decide) v n xs hs hown ⟨b, off, none⟩ l.n l.c (cellsOf z l.n) hx (by omega) (by rw [cellsOf_length, Nat.mul_one]) (fun j u hu => ?_) (fun u hu => cellsOf_one _ _ _ hu) (by unfold maxLen; omega) (by omega) hB ?_
    · obtain ⟨hj, rfl⟩ := cellsOf_get _ _ _ _ hu
      rw [plain_add]; exact hc j hj
    · intro v' w' o1 g1 n1 wh
      refine h v' w' ⟨v', rfl, o1, n1, g1, fun k e => ?_⟩
      rcases wh with h | h
      · exact .inl (h ▸ e)
      · rw [h] at e; cases e; exact .inr (Nat.le_refl _)

/-- A row that is laid on, since a world. -/
structure Lay (B : Nat) (v0 : Value) (W w : World) (v : Value) (n : Nat) (xs : List Value) : Prop where
  own : w.ownsRow B 5 1 v n xs
  ne : v ≠ .slice none 0 0
  gb : W.grownBy w v0.ownBlock
  at_ : ∀ k, v.ownBlock = some k → v0.ownBlock = some k ∨ W.heap.size ≤ k
theorem Lay.start {B : Nat} {v : Value} {W : World} {n : Nat} {xs : List Value} (h : W.ownsRow B 5 1 v n xs) (hv : v ≠ .slice none 0 0) : Lay B v W W v n xs := ⟨h, hv, World.grownBy.refl _ _, fun k e => .inl e⟩
theorem Lay.add {B : Nat} {v0 v v' : Value} {W w w' : World} {n m : Nat} {xs ys : List Value} (h : Lay B v0 W w v n xs) (ha : Adds B v w w' (.returned v') m ys) : Lay B v0 W w' v' m ys := by
  obtain ⟨v2, e, o, ne, g, a⟩ := ha
  cases e
  exact ⟨o, ne, grown_on h.gb h.at_ g, own_on h.gb.size h.at_ a⟩
theorem Lay.below {B : Nat} {v0 v : Value} {W w w' : World} {n : Nat} {xs : List Value} (h : Lay B v0 W w v n xs) (hb : Below w.heap.size w w') : Lay B v0 W w' v n xs :=
  ⟨own_below h.own hb, h.ne, grown_on (v1 := v0) h.gb (fun k e => .inl e) (below_gb hb), h.at_⟩
theorem Lay.block {B : Nat} {v0 v : Value} {W w : World} {n : Nat} {xs : List Value} (h : Lay B v0 W w v n xs) {g : Nat} {o : Obj} (hg : W.heap[g]? = some o) (hv : v0.ownBlock ≠ some g) : w.heap[g]? = some o := gb_block h.gb hg hv
theorem Lay.size {B : Nat} {v0 v : Value} {W w : World} {n : Nat} {xs : List Value} (h : Lay B v0 W w v n xs) : W.heap.size ≤ w.heap.size := h.gb.size
theorem Lay.old {B : Nat} {v0 v : Value} {W w : World} {n : Nat} {xs : List Value} (h : Lay B v0 W w v n xs) (hB : B ≤ W.heap.size) (h0 : ∀ k, v0.ownBlock = some k → B ≤ k) : Below B W w := gb_below2 h.gb hB h0
theorem Lay.done {B : Nat} {v0 v : Value} {w W w' : World} {n : Nat} {xs : List Value} (hb : Below w.heap.size w W) (h : Lay B v0 W w' v n xs) : Adds B v0 w w' (.returned v) n xs :=
  ⟨v, rfl, h.own, h.ne, grown_on (v1 := v0) (below_gb hb) (fun k e => .inl e) h.gb, fun k e => (h.at_ k e).elim .inl (fun q => .inr (Nat.le_trans hb.size q))⟩

set_option maxRecDepth 100000 in
set_option maxHeartbeats 1000000 in
theorem putData_ok (l : Sl) (z : Nat → Int) (w : World) (h : By w l z) (hl : l.n ≤ 65535) :
    Calls Tryz.prog 112 #[.slice none 0 0, .slice l.a l.n l.c] w fun e w' => ∃ v, e = .returned (.tuple #[v, .int .i64 0]) ∧ w'.ownsRow w.heap.size 5 1 v (2 + l.n) (cellsOf (numZ l.n) 2 ++ cellsOf z l.n) ∧ v ≠ .slice none 0 0 ∧ Below w.heap.size w w' := by
  have HP : Hid (Calls Tryz.prog 91 #[.slice none 0 0, .int .i64 l.n] w fun e w' => Made w w' e (0 + 2) (cellsOf (fun _ => 0) 0 ++ cellsOf (numZ l.n) 2)) := putNumber_any none 0 0 (fun _ => 0) l.n w (nil_came w) (by decide)
  have HL : Hid (l.n ≤ 65535) := hl
  have HY : Hid (By w l z) := h
  have q : ¬ (65535 : Int) < l.n := by omega
  clear h hl
  go_enter Tryz.func112, Tryz.ntmps112
  go_wp2_with fail
  go_must (go_at_call 91)
  refine HP.out.mono ?_
  rintro e w1 ⟨g, cp, rfl, ho, hb⟩
  have HO : Hid (w1.ownsRow w.heap.size 5 1 (.slice (some ⟨g, 0, none⟩) 2 cp) 2 (cellsOf (numZ l.n) 2)) := ho
  have B1 : Hid (Below w.heap.size w w1) := hb
  have Y1 : Hid (By w1 l z) := HY.out.below hb
  clear ho hb
  go_wp2_with (at_builtin; refine wpList_push_by rfl (.tmp 12) (.tmp 13) rfl w.heap.size 2 _ _ rfl HO.out (fun e => by cases e) l z rfl Y1.out (by decide) (Nat.le_trans HL.out (by decide)) B1.out.size ?_)
  rintro v2 w2 ⟨v3, e3, o3, n3, g3, a3⟩
  cases e3
  have O2 : Hid (w2.ownsRow w.heap.size 5 1 v2 (2 + l.n) (cellsOf (numZ l.n) 2 ++ cellsOf z l.n)) := o3
  have N2 : Hid (v2 ≠ .slice none 0 0) := n3
  have B2 : Hid (Below w.heap.size w w2) := B1.out.trans (gb_below2 g3 B1.out.size (fun k e => (HO.out.lt k e).1))
  clear o3 n3 g3 a3
  go_wp2_with fail
  go_ret2
  exact ⟨v2, rfl, O2.out, N2.out, B2.out⟩
set_option maxRecDepth 100000 in
set_option maxHeartbeats 1000000 in
theorem wData_any (B n : Nat) (v : Value) (xs : List Value) (l : Sl) (z : Nat → Int) (w : World) (h : w.ownsRow B 5 1 v n xs) (hv : v ≠ .slice none 0 0) (hB : B ≤ w.heap.size) (hn : n ≤ 300000) (hy : By w l z) (hl : l.n ≤ 65535) :
    Calls Tryz.prog 90 #[v, .slice l.a l.n l.c] w fun e w' => Adds B v w w' e (n + (2 + l.n)) (xs ++ (cellsOf (numZ l.n) 2 ++ cellsOf z l.n)) := by
  have HO : Hid (w.ownsRow B 5 1 v n xs) := h
  have HV : Hid (v ≠ .slice none 0 0) := hv
  have HL : Hid (l.n ≤ 65535) := hl
  have HP : Hid (Calls Tryz.prog 112 #[.slice none 0 0, .slice l.a l.n l.c] w fun e w' => ∃ v, e = .returned (.tuple #[v, .int .i64 0]) ∧ w'.ownsRow w.heap.size 5 1 v (2 + l.n) (cellsOf (numZ l.n) 2 ++ cellsOf z l.n) ∧ v ≠ .slice none 0 0 ∧ Below w.heap.size w w') := putData_ok l z w hy hl
  have hzb := hy.2.1
  have HZB : Hid (∀ i, 0 ≤ cat (numZ l.n) 2 z i ∧ cat (numZ l.n) 2 z i ≤ 255) := fun i => by unfold cat; split; exact numZ_bd _ _; exact hzb _
  clear h hl hy hv hzb
  go_enter Tryz.func90, Tryz.ntmps90
  go_wp2_with fail
  go_must (go_at_call 112)
  refine HP.out.mono ?_
  rintro e w1 ⟨v1, rfl, ho, hv1, hb⟩
  have HO1 : Hid (w1.ownsRow B 5 1 v n xs) := own_below HO.out hb
  have B1 : Hid (Below w.heap.size w w1) := hb
  have HB1 : Hid (B ≤ w1.heap.size) := Nat.le_trans hB hb.size
  rw [cells_cat] at ho
  obtain ⟨g, cp, rfl, hcame⟩ := adds_slice ho hv1 _ HZB.out rfl
  have Y1 : Hid (By w1 ⟨some ⟨g, 0, none⟩, 2 + l.n, cp⟩ (cat (numZ l.n) 2 z)) := ⟨hcame.1, HZB.out, .inr ⟨g, 0, rfl, fun i hi => by
    rcases hcame.2.2 with h | ⟨ad, e, h⟩
    · cases h.1
    · cases e
      have := h i hi
      rw [plain_add] at this; exact this⟩⟩
  clear ho hv1 hcame hb
  go_wp2_with (at_builtin; refine wpList_push_by rfl (.tmp 12) (.tmp 13) rfl B n _ _ rfl HO1.out HV.out ⟨some ⟨g, 0, none⟩, 2 + l.n, cp⟩ _ rfl Y1.out (Nat.le_trans hn (by decide)) (by have := HL.out; show 2 + l.n ≤ 400000; omega) HB1.out ?_)
  intro v2 w2 ad2
  have A2 : Hid (Adds B v w w2 (.returned v2) (n + (2 + l.n)) (xs ++ (cellsOf (numZ l.n) 2 ++ cellsOf z l.n))) := by
    obtain ⟨v3, e3, o3, n3, g3, a3⟩ := ad2
    cases e3
    refine ⟨v2, rfl, ?_, n3, grown_on (v1 := v) (below_gb B1.out) (fun k e => .inl e) g3, fun k e => (a3 k e).elim .inl (fun q => .inr (Nat.le_trans B1.out.size q))⟩
    rw [cells_cat]; exact o3
  clear ad2
  go_wp2_with fail
  go_ret
  exact A2.out
end Go.Proofs.YtibihbclijpkjaaGreatDoor
