import Derived.Test.YtphofgnehdlafaaGreatDoorPUd
import Derived.Lib.AppendZerosOnto
import Derived.Test.YtphofgnehdlafaaGreatDoorPRt
import Derived.Test.YtphofgnehdlafaaGreatDoorFdz
namespace Go.Proofs.YtphofgnehdlafaaGreatDoor
open Go Go.RowKit
set_option linter.unusedSimpArgs false
set_option linter.unusedVariables false
set_option maxRecDepth 100000
set_option maxHeartbeats 1000000
theorem own_below {w w' : World} {B n : Nat} {v : Value} {xs : List Value} (h : w.ownsRow B 5 1 v n xs) (hb : Below w.heap.size w w') : w'.ownsRow B 5 1 v n xs := by
 refine ⟨h.1, ?_⟩
 rcases h.2 with h2 | ⟨g, cap, cur, rfl, h3, hg, h4⟩
 ·
  exact .inl h2
 ·
  exact .inr ⟨g, cap, cur, rfl, h3, by rw [hb.block g (lt_of_block hg)]; exact hg, h4⟩
def Adds (B : Nat) (v0 : Value) (w w' : World) (e : Ending) (n : Nat) (xs : List Value) : Prop := ∃ v, e = .returned v ∧ w'.ownsRow B 5 1 v n xs ∧ v ≠ .slice none 0 0 ∧ w.grownBy w' v0.ownBlock ∧ (∀ k, v.ownBlock = some k → v0.ownBlock = some k ∨ w.heap.size ≤ k)
theorem grown_on {w w1 w2 : World} {v0 v1 : Value} (h1 : w.grownBy w1 v0.ownBlock) (hv : ∀ k, v1.ownBlock = some k → v0.ownBlock = some k ∨ w.heap.size ≤ k) (h2 : w1.grownBy w2 v1.ownBlock) : w.grownBy w2 v0.ownBlock :=
 ⟨h2.os.trans h1.os, h2.tape.trans h1.tape, h2.output.trans h1.output, Nat.le_trans h1.size h2.size, fun k hk hne => by
  rw [h2.block k (Nat.lt_of_lt_of_le hk h1.size) (fun e => by
   rcases hv k e.symm with h | h
   ·
    exact hne h.symm
   ·
    omega)]
  exact h1.block k hk hne⟩
theorem own_on {w w1 : World} {v0 v1 v2 : Value} (hs : w.heap.size ≤ w1.heap.size) (h1 : ∀ k, v1.ownBlock = some k → v0.ownBlock = some k ∨ w.heap.size ≤ k) (h2 : ∀ k, v2.ownBlock = some k → v1.ownBlock = some k ∨ w1.heap.size ≤ k) : ∀ k, v2.ownBlock = some k → v0.ownBlock = some k ∨ w.heap.size ≤ k := fun k e => by
 rcases h2 k e with h | h
 ·
  exact h1 k h
 ·
  exact .inr (Nat.le_trans hs h)
theorem below_gb {w w' : World} {r : Option Nat} (h : Below w.heap.size w w') : w.grownBy w' r := ⟨h.os, h.tape, h.output, h.size, fun k hk _ => h.block k hk⟩
theorem gb_below2 {B : Nat} {w w' : World} {v : Value} (h : w.grownBy w' v.ownBlock) (hB : B ≤ w.heap.size) (hv : ∀ k, v.ownBlock = some k → B ≤ k) : Below B w w' :=
 ⟨h.os, h.tape, h.output, h.size, fun k hk => h.block k (Nat.lt_of_lt_of_le hk hB) (fun e => by have := hv k e.symm; omega)⟩
theorem own_somb {w : World} {B n : Nat} {v : Value} {xs : List Value} (h : w.ownsRow B 5 1 v n xs) (hv : v ≠ .slice none 0 0) : ∃ g cap cur, v = .slice (some ⟨g, 0, none⟩) n cap ∧ B ≤ g ∧ w.heap[g]? = some (.cells cur 5 (0, 0)) ∧ n ≤ cap ∧ cap ≤ maxLen ∧ cur.size = cap ∧ cur.toList.take n = xs := by
 rcases h.2 with h2 | ⟨g, cap, cur, rfl, h3, hg, h4, h5, h6, h7⟩
 ·
  exact absurd h2.1 hv
 ·
  exact ⟨g, cap, cur, rfl, h3, hg, h4, h5, by simpa using h6, by simpa using h7⟩
theorem grow_own (B n k : Nat) (v : Value) (xs : List Value) (w : World) (h : w.ownsRow B 5 1 v n xs) (hv : v ≠ .slice none 0 0) (hB : B ≤ w.heap.size) (hn : n ≤ 1400000) (hk : k ≤ 1400000) :
    Calls Tryz.prog 144 #[v, .int .i64 k] w fun e w' => Adds B v w w' e n xs := by
  obtain ⟨i0, hi, hz0, hz1, hz2⟩ := info_parts Tryz.info5
  obtain ⟨g, cap, cur, rfl, hg, hcur, hnc, hcm, hcs, htk⟩ := own_somb h hv
  have hcm' : cap ≤ 9223372036854775807 := by unfold maxLen at hcm; omega
  have hn0 : ¬ (k : Int) < 0 := by omega
  have w1 : IntKind.i64.wrap ((cap : Int) - n) = (cap : Int) - n := by rw [IntKind.wrap_i64]; omega
  have w2 : IntKind.i64.wrap ((k : Int) - ((cap : Int) - n)) = (k : Int) - ((cap : Int) - n) := by rw [IntKind.wrap_i64]; omega
  by_cases hroom : n + k ≤ cap
  · have hr : ¬ (0 : Int) < (k : Int) - ((cap : Int) - n) := by omega
    have HO : Hid (w.ownsRow B 5 1 (.slice (some ⟨g, 0, none⟩) n cap) n xs) := h
    clear h hcur htk hcs
    go_enter Tryz.func144, Tryz.ntmps144
    go_wp2_with fail
    go_ret
    exact ⟨_, rfl, HO.out, by simp, World.grownBy.refl _ _, fun k e => .inl e⟩
  · obtain ⟨q, hq⟩ : ∃ q : Nat, (k : Int) - ((cap : Int) - n) = q := ⟨n + k - cap, by omega⟩
    have hq0 : 0 < q := by omega
    have hqle : q ≤ 1400000 := by omega
    have hcap4 : cap ≤ 2800000 := by omega
    have hr : (0 : Int) < (q : Int) := by omega
    have hap : ∀ ty, (Builtin.append_ #[22, 3] ty #[.slice (some ⟨g, 0, none⟩) cap cap, .int .i64 q]).run Tryz.prog w = _ := fun ty => Lib.run_append_grow_zeros w 22 3 ty 5 i0 (.int .u8 0) .i64 .i64 Tryz.underlying22 Tryz.underlying3 hi hz0 (some ⟨g, 0, none⟩) cap cap cur.toList (by
      rw [hz1]
      refine run_firstCells_some _ 1 cap ⟨g, 0, none⟩ cap cap cur.toList (by simp [hcs]) (fun j u hu => ?_)
      rw [plain_add, Nat.zero_add]
      show w.cell? _ = _
      simp only [World.cell?, hcur]
      simpa using hu) q hq0 (by rw [hz1]; decide) (by omega) (by omega) (by rw [hz2]; omega) (by
        rw [hz2]
        have := growslice_fits (need := cap + q) (old := cap) (bytes := 1) (by omega) (by omega)
        simpa using this)
    have hcapi : (cap : Int) ≤ cap := Int.le_refl _
    have hnn : (n : Int) ≤ grownCap w (cap + q) cap 5 := by have := grownCap_ge w (cap + q) cap 5; omega
    have HF : Hid (cap ≤ cap ∧ n ≤ cap ∧ cur.size = cap ∧ cur.toList.take n = xs) := ⟨Nat.le_refl _, hnc, hcs, htk⟩
    clear h hcur htk hcs
    go_enter Tryz.func144, Tryz.ntmps144
    go_wp2_with (at_builtin; refine Lib.wpList_append_run _ rfl (.tmp 20) (.tmp 21) 22 3 rfl _ _ rfl rfl _ _ (hap _) ?_)
    clear hap
    go_ret
    have hge := grownCap_ge w (cap + q) cap 5
    have hcm2 : grownCap w (cap + q) cap 5 ≤ maxLen := grownCap_le_maxLen w (cap + q) cap 5 (by unfold maxLen; omega)
    obtain ⟨_, f2, f3, f4⟩ := HF.out
    refine ⟨_, rfl, World.ownsRow.drew ⟨?_, .inr ⟨w.heap.size, _, _, rfl, hB, heap_alloc_new w _, by omega, hcm2, ?_, ?_⟩⟩, by simp, below_gb (((Below.refl _ _).alloc (Nat.le_refl _) _).drew), fun k e => .inr (by cases e; exact Nat.le_refl _)⟩
    · rw [← f4, List.length_take, Array.length_toList, f3]; omega
    · simp only [Array.size_append, size_zeroCells, f3]
      simp
      omega
    · rw [Nat.mul_one, Array.toList_append, List.take_append_of_le_length (by rw [Array.length_toList, f3]; exact f2), f4]
theorem nil_came (w : World) : Came w none 0 0 (fun _ => 0) := ⟨Nat.le_refl _, fun _ => ⟨Int.le_refl 0, by show (0 : Int) ≤ 255; decide⟩, .inl ⟨rfl, rfl, rfl⟩⟩
theorem adds_slice {w : World} {B n : Nat} {v : Value} {xs : List Value} (h : w.ownsRow B 5 1 v n xs) (hv : v ≠ .slice none 0 0) (z : Nat → Int) (hz : ∀ i, 0 ≤ z i ∧ z i ≤ 255) (hx : xs = cellsOf z n) : ∃ g cap, v = .slice (some ⟨g, 0, none⟩) n cap ∧ Came w (some ⟨g, 0, none⟩) n cap z := by
 obtain ⟨g, cap, cur, rfl, _⟩ := own_somb h hv
 subst hx
 exact ⟨g, cap, rfl, made_came (w := w) h hz⟩
theorem wNumber_any (B n : Nat) (v : Value) (xs : List Value) (m : Int) (w : World) (h : w.ownsRow B 5 1 v n xs) (hB : B ≤ w.heap.size) (hn : n ≤ 1400000) :
    Calls Tryz.prog 225 #[v, .int .i64 m] w fun e w' => Adds B v w w' e (n + 2) (xs ++ cellsOf (numZ m) 2) := by
  obtain ⟨i0, hi, hz0, hz1, hz2⟩ := info_parts Tryz.info5
  have HO : Hid (w.ownsRow B 5 1 v n xs) := h
  have HP : Hid (Calls Tryz.prog 262 #[.slice none 0 0, .int .i64 m] w fun e w' => Made w w' e (0 + 2) (cellsOf (fun _ => 0) 0 ++ cellsOf (numZ m) 2)) := putNumber_any none 0 0 (fun _ => 0) m w (nil_came w) (by decide)
  clear h
  go_enter Tryz.func225, Tryz.ntmps225
  go_wp2_with fail
  go_must (go_at_call 262)
  refine HP.out.mono ?_
  rintro e w1 ⟨g, cp, rfl, ho, hb⟩
  have HO1 : Hid (w1.ownsRow B 5 1 v n xs) := own_below HO.out hb
  have HR : Hid (w1.ownsRow w.heap.size 5 1 (.slice (some ⟨g, 0, none⟩) 2 cp) 2 (cellsOf (numZ m) 2)) := ho
  have B1 : Hid (Below w.heap.size w w1) := hb
  have HB1 : Hid (B ≤ w1.heap.size) := Nat.le_trans hB hb.size
  clear ho hb
  go_wp2_with (at_builtin; refine wpList_push rfl (.tmp 5) (.tmp 7) 22 rfl B 5 i0 (.int .u8 0) 1 1 Tryz.underlying22 hi hz0 hz1 hz2 rfl (by decide) _ _ _ rfl HO1.out ⟨g, 0, none⟩ 2 cp (cellsOf (numZ m) 2) rfl (by decide) rfl ?d1 ?d2 ?d3 ?d4 ?d5 ?_)
  case d1 =>
    intro j u hu
    have hj := (cellsOf_get _ _ _ _ hu).1
    rw [plain_add, Nat.zero_add, HR.out.cellAt j (by omega)]; exact hu
  case d2 => exact fun u hu => cellsOf_one _ _ _ hu
  case d3 => unfold maxLen; omega
  case d4 => omega
  case d5 => exact HB1.out
  intro v2 w2 hown2 hgrow2 hnil2 hwh2
  have hb2 : w.grownBy w2 v.ownBlock := grown_on (v1 := v) (below_gb B1.out) (fun k e => .inl e) hgrow2
  have HWH : Hid (∀ k, v2.ownBlock = some k → v.ownBlock = some k ∨ w.heap.size ≤ k) := fun k e => by
    rcases hwh2 with h | h
    · exact .inl (h ▸ e)
    · rw [h] at e; cases e; exact .inr B1.out.size
  have HO2 : Hid (w2.ownsRow B 5 1 v2 (n + 2) (xs ++ cellsOf (numZ m) 2)) := hown2
  have HNN : Hid (v2 ≠ .slice none 0 0) := hnil2
  have HB2 : Hid (w.grownBy w2 v.ownBlock) := hb2
  clear hown2 hgrow2 hnil2 hb2 hwh2
  go_wp2_with fail
  go_ret
  exact ⟨v2, rfl, HO2.out, HNN.out, HB2.out, HWH.out⟩
theorem wText_any (B n : Nat) (v : Value) (xs : List Value) (s : ByteArray) (w : World) (h : w.ownsRow B 5 1 v n xs) (hB : B ≤ w.heap.size) (hn : n ≤ 1300000) (hs : s.size ≤ 65535) (hc : (chk s).2 = 0) :
    Calls Tryz.prog 259 #[v, .string s] w fun e w' => Adds B v w w' e (n + (2 + s.size)) (xs ++ (cellsOf (numZ s.size) 2 ++ Lib.strCells s)) := by
  obtain ⟨i0, hi, hz0, hz1, hz2⟩ := info_parts Tryz.info5
  have HO : Hid (w.ownsRow B 5 1 v n xs) := h
  have HS : Hid (s.size ≤ 65535) := hs
  have hT := putText_ok none 0 0 (fun _ => 0) s w (nil_came w) (by decide) hs hc
  have HP : Hid (Calls Tryz.prog 292 #[.slice none 0 0, .string s] w fun e w' => ∃ g cp, e = .returned (.tuple #[.slice (some ⟨g, 0, none⟩) (2 + s.size) cp, .int .i64 0]) ∧ w'.ownsRow w.heap.size 5 1 (.slice (some ⟨g, 0, none⟩) (2 + s.size) cp) (2 + s.size) (cellsOf (numZ s.size) 2 ++ Lib.strCells s) ∧ Below w.heap.size w w') := by
    show Calls _ _ _ _ _
    simpa [cellsOf_zero] using hT
  clear h hT hc hs
  go_enter Tryz.func259, Tryz.ntmps259
  go_wp2_with fail
  go_must (go_at_call 292)
  refine HP.out.mono ?_
  rintro e w1 ⟨g, cp, rfl, ho, hb⟩
  have HO1 : Hid (w1.ownsRow B 5 1 v n xs) := own_below HO.out hb
  have HR : Hid (w1.ownsRow w.heap.size 5 1 (.slice (some ⟨g, 0, none⟩) (2 + s.size) cp) (2 + s.size) (cellsOf (numZ s.size) 2 ++ Lib.strCells s)) := ho
  have B1 : Hid (Below w.heap.size w w1) := hb
  have HB1 : Hid (B ≤ w1.heap.size) := Nat.le_trans hB hb.size
  clear ho hb
  go_wp2_with (at_builtin; refine wpList_push rfl (.tmp 12) (.tmp 13) 22 rfl B 5 i0 (.int .u8 0) 1 1 Tryz.underlying22 hi hz0 hz1 hz2 rfl (by decide) _ _ _ rfl HO1.out ⟨g, 0, none⟩ (2 + s.size) cp (cellsOf (numZ s.size) 2 ++ Lib.strCells s) rfl (by omega) ?d0 ?d1 ?d2 ?d3 ?d4 ?d5 ?_)
  case d0 => have := HR.out.1; exact this
  case d1 =>
    intro j u hu
    have hl := HR.out.1
    have hj : j < (cellsOf (numZ s.size) 2 ++ Lib.strCells s).length := by
      rcases Nat.lt_or_ge j (cellsOf (numZ s.size) 2 ++ Lib.strCells s).length with h | h
      · exact h
      · rw [List.getElem?_eq_none h] at hu; cases hu
    rw [plain_add, Nat.zero_add, HR.out.cellAt j (by omega)]; exact hu
  case d2 =>
    intro u hu
    rcases List.mem_append.1 hu with hu | hu
    · exact cellsOf_one _ _ _ hu
    · simp only [Lib.strCells, List.mem_map] at hu
      obtain ⟨_, _, rfl⟩ := hu
      rfl
  case d3 => have := HS.out; unfold maxLen; omega
  case d4 => have := HS.out; omega
  case d5 => exact HB1.out
  intro v2 w2 hown2 hgrow2 hnil2 hwh2
  have hb2 : w.grownBy w2 v.ownBlock := grown_on (v1 := v) (below_gb B1.out) (fun k e => .inl e) hgrow2
  have HWH : Hid (∀ k, v2.ownBlock = some k → v.ownBlock = some k ∨ w.heap.size ≤ k) := fun k e => by
    rcases hwh2 with h | h
    · exact .inl (h ▸ e)
    · rw [h] at e; cases e; exact .inr B1.out.size
  have HO2 : Hid (w2.ownsRow B 5 1 v2 (n + (2 + s.size)) (xs ++ (cellsOf (numZ s.size) 2 ++ Lib.strCells s))) := hown2
  have HNN : Hid (v2 ≠ .slice none 0 0) := hnil2
  have HB2 : Hid (w.grownBy w2 v.ownBlock) := hb2
  clear hown2 hgrow2 hnil2 hb2 hwh2
  go_wp2_with fail
  go_ret
  exact ⟨v2, rfl, HO2.out, HNN.out, HB2.out, HWH.out⟩
open Pkt (Pk Cn Sl In By Is Ss As pkCells Gd wpList_load_wanted box_below)
theorem box_cells {w : World} {g t : Nat} {cs : Array Value} (h : w.heap[g]? = some (.cells cs t (0, 0))) (k : Nat) (v : Value) (hk : cs[k]? = some v) : w.cell? ⟨g, k, none⟩ = some v := by
 simp only [World.cell?, h]; simpa using hk
theorem heap_in {w : World} {g : Nat} {o : Obj} (h : w.heap[g]? = some o) : g < w.heap.size := by
 rcases Nat.lt_or_ge g w.heap.size with h1 | h1
 ·
  exact h1
 ·
  rw [Array.getElem?_eq_none h1] at h; cases h
theorem gb_block {w w' : World} {v : Value} {g : Nat} {o : Obj} (hg : w.grownBy w' v.ownBlock) (h : w.heap[g]? = some o) (hv : v.ownBlock ≠ some g) : w'.heap[g]? = some o := by
 rw [hg.block g (heap_in h) (fun e => hv e.symm)]; exact h
open Go Go.RowKit Go.Sort
open Pkt (Pk Cn Sl In By Is Ss As pkCells Gd wpList_load_wanted quiet_load box_below Small ck TT sz fg Right ck_right check_any length_any flags_any)
theorem own_base {w : World} {B D n : Nat} {v : Value} {xs : List Value} (h : w.ownsRow D 5 1 v n xs) (hB : B ≤ D) : w.ownsRow B 5 1 v n xs := by
 refine ⟨h.1, ?_⟩
 rcases h.2 with h2 | ⟨g, cap, cur, rfl, h3, h4⟩
 ·
  exact .inl h2
 ·
  exact .inr ⟨g, cap, cur, rfl, Nat.le_trans hB h3, h4⟩
def oneZ (x : Int) : Nat → Int := fun i => if i = 0 then x else 0
open Pkt (Pk Cn Sl In By Is Ss As pkCells Gd)
theorem run_append_empty {P : Program} {w : World} (base : Nat) (t ty e : TypeId) (i : TypeInfo) (size : Nat) (ht : P.underlying t = some (.slice e)) (hi : P.info? e = some i)
    (v : Value) (n : Nat) (xs : List Value) (hown : w.ownsRow base e size v n xs) (hv : v ≠ .slice none 0 0) (a : Option Addr) (c : Nat) :
    (Builtin.append_ #[t, t] ty #[v, .slice a 0 c]).run P w = .ok v w := by
  rcases hown.2 with ⟨rfl, rfl⟩ | ⟨g, cap, cur, rfl, _, _, hnc, _⟩
  · exact absurd rfl hv
  · cases a with
    | none => simp [Builtin.append_, run_underlying ht, sizeOf, typeInfo, hi, Builtin.lenOf, Builtin.firstCells, hnc, storeCells]
    | some a =>
      have hf := run_firstCells_some (P := P) w i.size 0 a 0 c [] (by simp) (by intro j v h; simp at h)
      simp [Builtin.append_, run_underlying ht, sizeOf, typeInfo, hi, Builtin.lenOf, hf, hnc, storeCells]
theorem wpList_push_by {w : World} {ops : Array Oper} {rest : List Oper} {o : Oper} {a : Act} {Q : Exit → Act → World → Prop} (hgd : o.guard = none) (s x : Operand)
    (ho : o.op = .call { callee := .builtin .append, args := #[s, x], argTypes := #[22, 22] }) (B n : Nat) (v : Value) (xs : List Value) (hs : a.eval s = v) (hown : w.ownsRow B 5 1 v n xs) (hv : v ≠ .slice none 0 0)
    (l : Sl) (z : Nat → Int) (hx : a.eval x = .slice l.a l.n l.c) (hl : By w l z) (hn : n ≤ 1400000) (hln : l.n ≤ 1400000) (hB : B ≤ w.heap.size)
    (h : ∀ v' w', Adds B v w w' (.returned v') (n + l.n) (xs ++ cellsOf z l.n) → wpList Tryz.prog ops Q rest (a.put o.dst v') w') : wpList Tryz.prog ops Q (o :: rest) a w := by
  obtain ⟨i0, hi, hz0, hz1, hz2⟩ := info_parts Tryz.info5
  by_cases h0 : l.n = 0
  · refine wpList_plain hgd fun K hK => ?_
    have hrun := run_append_empty (P := Tryz.prog) B 22 o.type 5 i0 1 Tryz.underlying22 hi v n xs hown hv l.a l.c
    rw [h0] at hx
    unfold Oper.wp
    simp [execOp, ho, resolve, invoke, builtin, hs, hx, hrun, Result.andThen]
    refine hK _ _ (h v w ⟨v, rfl, ?_, hv, World.grownBy.refl _ _, fun k e => .inl e⟩)
    rw [h0]; simpa [cellsOf_zero] using hown
  · obtain ⟨b, off, ha, hc⟩ := hl.2.2.resolve_left h0
    rw [ha] at hx
    refine wpList_push hgd s x 22 ho B 5 i0 (.int .u8 0) 1 1 Tryz.underlying22 hi hz0 hz1 hz2 rfl (by decide) v n xs hs hown ⟨b, off, none⟩ l.n l.c (cellsOf z l.n) hx (by omega) (by rw [cellsOf_length, Nat.mul_one]) (fun j u hu => ?_) (fun u hu => cellsOf_one _ _ _ hu) (by unfold maxLen; omega) (by omega) hB ?_
    · obtain ⟨hj, rfl⟩ := cellsOf_get _ _ _ _ hu
      rw [plain_add]; exact hc j hj
    · intro v' w' o1 g1 n1 wh
      refine h v' w' ⟨v', rfl, o1, n1, g1, fun k e => ?_⟩
      rcases wh with h | h
      · exact .inl (h ▸ e)
      · rw [h] at e; cases e; exact .inr (Nat.le_refl _)
structure Lay (B : Nat) (v0 : Value) (W w : World) (v : Value) (n : Nat) (xs : List Value) : Prop where
 own : w.ownsRow B 5 1 v n xs
 ne : v ≠ .slice none 0 0
 gb : W.grownBy w v0.ownBlock
 at_ : ∀ k, v.ownBlock = some k → v0.ownBlock = some k ∨ W.heap.size ≤ k
theorem Lay.start {B : Nat} {v : Value} {W : World} {n : Nat} {xs : List Value} (h : W.ownsRow B 5 1 v n xs) (hv : v ≠ .slice none 0 0) : Lay B v W W v n xs := ⟨h, hv, World.grownBy.refl _ _, fun k e => .inl e⟩
theorem Lay.add {B : Nat} {v0 v v' : Value} {W w w' : World} {n m : Nat} {xs ys : List Value} (h : Lay B v0 W w v n xs) (ha : Adds B v w w' (.returned v') m ys) : Lay B v0 W w' v' m ys := by
 obtain ⟨v2, e, o, ne, g, a⟩ := ha
 cases e
 exact ⟨o, ne, grown_on h.gb h.at_ g, own_on h.gb.size h.at_ a⟩
theorem Lay.below {B : Nat} {v0 v : Value} {W w w' : World} {n : Nat} {xs : List Value} (h : Lay B v0 W w v n xs) (hb : Below w.heap.size w w') : Lay B v0 W w' v n xs :=
 ⟨own_below h.own hb, h.ne, grown_on (v1 := v0) h.gb (fun k e => .inl e) (below_gb hb), h.at_⟩
theorem Lay.block {B : Nat} {v0 v : Value} {W w : World} {n : Nat} {xs : List Value} (h : Lay B v0 W w v n xs) {g : Nat} {o : Obj} (hg : W.heap[g]? = some o) (hv : v0.ownBlock ≠ some g) : w.heap[g]? = some o := gb_block h.gb hg hv
theorem Lay.size {B : Nat} {v0 v : Value} {W w : World} {n : Nat} {xs : List Value} (h : Lay B v0 W w v n xs) : W.heap.size ≤ w.heap.size := h.gb.size
theorem Lay.old {B : Nat} {v0 v : Value} {W w : World} {n : Nat} {xs : List Value} (h : Lay B v0 W w v n xs) (hB : B ≤ W.heap.size) (h0 : ∀ k, v0.ownBlock = some k → B ≤ k) : Below B W w := gb_below2 h.gb hB h0
theorem Lay.done {B : Nat} {v0 v : Value} {w W w' : World} {n : Nat} {xs : List Value} (hb : Below w.heap.size w W) (h : Lay B v0 W w' v n xs) : Adds B v0 w w' (.returned v) n xs :=
 ⟨v, rfl, h.own, h.ne, grown_on (v1 := v0) (below_gb hb) (fun k e => .inl e) h.gb, fun k e => (h.at_ k e).elim .inl (fun q => .inr (Nat.le_trans hb.size q))⟩
theorem putData_ok (l : Sl) (z : Nat → Int) (w : World) (h : By w l z) (hl : l.n ≤ 65535) :
    Calls Tryz.prog 293 #[.slice none 0 0, .slice l.a l.n l.c] w fun e w' => ∃ v, e = .returned (.tuple #[v, .int .i64 0]) ∧ w'.ownsRow w.heap.size 5 1 v (2 + l.n) (cellsOf (numZ l.n) 2 ++ cellsOf z l.n) ∧ v ≠ .slice none 0 0 ∧ Below w.heap.size w w' := by
  have HP : Hid (Calls Tryz.prog 262 #[.slice none 0 0, .int .i64 l.n] w fun e w' => Made w w' e (0 + 2) (cellsOf (fun _ => 0) 0 ++ cellsOf (numZ l.n) 2)) := putNumber_any none 0 0 (fun _ => 0) l.n w (nil_came w) (by decide)
  have HL : Hid (l.n ≤ 65535) := hl
  have HY : Hid (By w l z) := h
  have q : ¬ (65535 : Int) < l.n := by omega
  clear h hl
  go_enter Tryz.func293, Tryz.ntmps293
  go_wp2_with fail
  go_must (go_at_call 262)
  refine HP.out.mono ?_
  rintro e w1 ⟨g, cp, rfl, ho, hb⟩
  have HO : Hid (w1.ownsRow w.heap.size 5 1 (.slice (some ⟨g, 0, none⟩) 2 cp) 2 (cellsOf (numZ l.n) 2)) := ho
  have B1 : Hid (Below w.heap.size w w1) := hb
  have Y1 : Hid (By w1 l z) := HY.out.below hb
  clear ho hb
  go_wp2_with (at_builtin; refine wpList_push_by rfl (.tmp 12) (.tmp 13) rfl w.heap.size 2 _ _ rfl HO.out (fun e => by cases e) l z rfl Y1.out (by decide) (Nat.le_trans HL.out (by decide)) B1.out.size ?_)
  rintro v2 w2 ⟨v3, e3, o3, n3, g3, a3⟩
  cases e3
  have O2 : Hid (w2.ownsRow w.heap.size 5 1 v2 (2 + l.n) (cellsOf (numZ l.n) 2 ++ cellsOf z l.n)) := o3
  have N2 : Hid (v2 ≠ .slice none 0 0) := n3
  have B2 : Hid (Below w.heap.size w w2) := B1.out.trans (gb_below2 g3 B1.out.size (fun k e => (HO.out.lt k e).1))
  clear o3 n3 g3 a3
  go_wp2_with fail
  go_ret2
  exact ⟨v2, rfl, O2.out, N2.out, B2.out⟩
theorem wData_any (B n : Nat) (v : Value) (xs : List Value) (l : Sl) (z : Nat → Int) (w : World) (h : w.ownsRow B 5 1 v n xs) (hv : v ≠ .slice none 0 0) (hB : B ≤ w.heap.size) (hn : n ≤ 1300000) (hy : By w l z) (hl : l.n ≤ 65535) :
    Calls Tryz.prog 261 #[v, .slice l.a l.n l.c] w fun e w' => Adds B v w w' e (n + (2 + l.n)) (xs ++ (cellsOf (numZ l.n) 2 ++ cellsOf z l.n)) := by
  have HO : Hid (w.ownsRow B 5 1 v n xs) := h
  have HV : Hid (v ≠ .slice none 0 0) := hv
  have HL : Hid (l.n ≤ 65535) := hl
  have HP : Hid (Calls Tryz.prog 293 #[.slice none 0 0, .slice l.a l.n l.c] w fun e w' => ∃ v, e = .returned (.tuple #[v, .int .i64 0]) ∧ w'.ownsRow w.heap.size 5 1 v (2 + l.n) (cellsOf (numZ l.n) 2 ++ cellsOf z l.n) ∧ v ≠ .slice none 0 0 ∧ Below w.heap.size w w') := putData_ok l z w hy hl
  have hzb := hy.2.1
  have HZB : Hid (∀ i, 0 ≤ cat (numZ l.n) 2 z i ∧ cat (numZ l.n) 2 z i ≤ 255) := fun i => by unfold cat; split; exact numZ_bd _ _; exact hzb _
  clear h hl hy hv hzb
  go_enter Tryz.func261, Tryz.ntmps261
  go_wp2_with fail
  go_must (go_at_call 293)
  refine HP.out.mono ?_
  rintro e w1 ⟨v1, rfl, ho, hv1, hb⟩
  have HO1 : Hid (w1.ownsRow B 5 1 v n xs) := own_below HO.out hb
  have B1 : Hid (Below w.heap.size w w1) := hb
  have HB1 : Hid (B ≤ w1.heap.size) := Nat.le_trans hB hb.size
  rw [cells_cat] at ho
  obtain ⟨g, cp, rfl, hcame⟩ := adds_slice ho hv1 _ HZB.out rfl
  have Y1 : Hid (By w1 ⟨some ⟨g, 0, none⟩, 2 + l.n, cp⟩ (cat (numZ l.n) 2 z)) := ⟨hcame.1, HZB.out, .inr ⟨g, 0, rfl, fun i hi => by
    rcases hcame.2.2 with h | ⟨ad, e, h⟩
    · cases h.1
    · cases e
      have := h i hi
      rw [plain_add] at this; exact this⟩⟩
  clear ho hv1 hcame hb
  go_wp2_with (at_builtin; refine wpList_push_by rfl (.tmp 12) (.tmp 13) rfl B n _ _ rfl HO1.out HV.out ⟨some ⟨g, 0, none⟩, 2 + l.n, cp⟩ _ rfl Y1.out (Nat.le_trans hn (by decide)) (by have := HL.out; show 2 + l.n ≤ 1400000; omega) HB1.out ?_)
  intro v2 w2 ad2
  have A2 : Hid (Adds B v w w2 (.returned v2) (n + (2 + l.n)) (xs ++ (cellsOf (numZ l.n) 2 ++ cellsOf z l.n))) := by
    obtain ⟨v3, e3, o3, n3, g3, a3⟩ := ad2
    cases e3
    refine ⟨v2, rfl, ?_, n3, grown_on (v1 := v) (below_gb B1.out) (fun k e => .inl e) g3, fun k e => (a3 k e).elim .inl (fun q => .inr (Nat.le_trans B1.out.size q))⟩
    rw [cells_cat]; exact o3
  clear ad2
  go_wp2_with fail
  go_ret
  exact A2.out
end Go.Proofs.YtphofgnehdlafaaGreatDoor
