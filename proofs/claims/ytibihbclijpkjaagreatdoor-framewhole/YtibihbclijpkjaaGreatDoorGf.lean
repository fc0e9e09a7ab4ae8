import Derived.Test.YtibihbclijpkjaaGreatDoorFdk
import Derived.Lib.AppendZerosOnto
namespace Go.Proofs.YtibihbclijpkjaaGreatDoor
open Go Go.RowKit
set_option linter.unusedSimpArgs false
set_option linter.unusedVariables false

theorem own_below {w w' : World} {B n : Nat} {v : Value} {xs : List Value} (h : w.ownsRow B 5 1 v n xs) (hb : Below w.heap.size w w') : w'.ownsRow B 5 1 v n xs := by
  refine ⟨h.1, ?_⟩
  rcases h.2 with h2 | ⟨g, cap, cur, rfl, h3, hg, h4⟩
  · exact .inl h2
  · exact .inr ⟨g, cap, cur, rfl, h3, by rw [hb.block g (lt_of_block hg)]; exact hg, h4⟩
/-- What is laid behind a row that is ours. -/
def Adds (B : Nat) (v0 : Value) (w w' : World) (e : Ending) (n : Nat) (xs : List Value) : Prop := ∃ v, e = .returned v ∧ w'.ownsRow B 5 1 v n xs ∧ v ≠ .slice none 0 0 ∧ w.grownBy w' v0.ownBlock ∧ (∀ k, v.ownBlock = some k → v0.ownBlock = some k ∨ w.heap.size ≤ k)
/-- One laying behind the other. -/
theorem grown_on {w w1 w2 : World} {v0 v1 : Value} (h1 : w.grownBy w1 v0.ownBlock) (hv : ∀ k, v1.ownBlock = some k → v0.ownBlock = some k ∨ w.heap.size ≤ k) (h2 : w1.grownBy w2 v1.ownBlock) : w.grownBy w2 v0.ownBlock :=
  ⟨h2.os.trans h1.os, h2.tape.trans h1.tape, h2.output.trans h1.output, Nat.le_trans h1.size h2.size, fun k hk hne => by
    rw [h2.block k (Nat.lt_of_lt_of_le hk h1.size) (fun e => by
      rcases hv k e.symm with h | h
      · exact hne h.symm
      · omega)]
    exact h1.block k hk hne⟩
theorem own_on {w w1 : World} {v0 v1 v2 : Value} (hs : w.heap.size ≤ w1.heap.size) (h1 : ∀ k, v1.ownBlock = some k → v0.ownBlock = some k ∨ w.heap.size ≤ k) (h2 : ∀ k, v2.ownBlock = some k → v1.ownBlock = some k ∨ w1.heap.size ≤ k) : ∀ k, v2.ownBlock = some k → v0.ownBlock = some k ∨ w.heap.size ≤ k := fun k e => by
  rcases h2 k e with h | h
  · exact h1 k h
  · exact .inr (Nat.le_trans hs h)
theorem below_gb {w w' : World} {r : Option Nat} (h : Below w.heap.size w w') : w.grownBy w' r := ⟨h.os, h.tape, h.output, h.size, fun k hk _ => h.block k hk⟩
theorem gb_below2 {B : Nat} {w w' : World} {v : Value} (h : w.grownBy w' v.ownBlock) (hB : B ≤ w.heap.size) (hv : ∀ k, v.ownBlock = some k → B ≤ k) : Below B w w' :=
  ⟨h.os, h.tape, h.output, h.size, fun k hk => h.block k (Nat.lt_of_lt_of_le hk hB) (fun e => by have := hv k e.symm; omega)⟩
theorem own_somb {w : World} {B n : Nat} {v : Value} {xs : List Value} (h : w.ownsRow B 5 1 v n xs) (hv : v ≠ .slice none 0 0) : ∃ g cap cur, v = .slice (some ⟨g, 0, none⟩) n cap ∧ B ≤ g ∧ w.heap[g]? = some (.cells cur 5 (0, 0)) ∧ n ≤ cap ∧ cap ≤ maxLen ∧ cur.size = cap ∧ cur.toList.take n = xs := by
  rcases h.2 with h2 | ⟨g, cap, cur, rfl, h3, hg, h4, h5, h6, h7⟩
  · exact absurd h2.1 hv
  · exact ⟨g, cap, cur, rfl, h3, hg, h4, h5, by simpa using h6, by simpa using h7⟩

set_option maxRecDepth 100000 in
set_option maxHeartbeats 1000000 in
theorem grow_own (B n k : Nat) (v : Value) (xs : List Value) (w : World) (h : w.ownsRow B 5 1 v n xs) (hv : v ≠ .slice none 0 0) (hB : B ≤ w.heap.size) (hn : n ≤ 400000) (hk : k ≤ 400000) :
    Calls Tryz.prog 41 #[v, .int .i64 k] w fun e w' => Adds B v w w' e n xs := by
  obtain ⟨i0, hi, hz0, hz1, hz2⟩ := info_parts Tryz.info5
  obtain ⟨g, cap, cur, rfl, hg, hcur, hnc, hcm, hcs, htk⟩ := own_somb h hv
  have hcm' : cap ≤ 9223372036854775807 := by unfold maxLen at hcm; omega
  have hn0 : ¬ (k : Int) < 0 := by omega
  have w1 : IntKind.i64.wrap ((cap : Int) - n) = (cap : Int) - n := by rw [IntKind.wrap_i64]; omega
  have w2 : IntKind.i64.wrap ((k : Int) - ((cap : Int) - n)) = (k : Int) - ((cap : Int) - n) := by rw [IntKind.wrap_i64]; omega
  by_cases hroom : n + k ≤ cap
  · have hr : ¬ (0 : Int) < (k : Int) - ((cap : Int) - n) := by omega
    have HO : Hid (w.ownsRow B 5 1 (.slice (some ⟨g, 0, none⟩) n cap) n xs) := h
    clear h hcur htk hcs
    go_enter Tryz.func41, Tryz.ntmps41
    go_wp2_with fail
    go_ret
    exact ⟨_, rfl, HO.out, by simp, World.grownBy.refl _ _, fun k e => .inl e⟩
  · obtain ⟨q, hq⟩ : ∃ q : Nat, (k : Int) - ((cap : Int) - n) = q := ⟨n + k - cap, by omega⟩
    have hq0 : 0 < q := by omega
    have hqle : q ≤ 400000 := by omega
    have hcap4 : cap ≤ 800000 := by omega
    have hr : (0 : Int) < (q : Int) := by omega
    have hap : ∀ ty, (Builtin.append_ #[22, 3] ty #[.slice (some ⟨g, 0, none⟩) cap cap, .int .i64 q]).run Tryz.prog w = _ := fun ty => Lib.run_append_grow_zeros w 22 3 ty 5 i0 (.int .u8 0) .i64 .i64 Tryz.underlying22 Tryz.underlying3 hi hz0 (some ⟨g, 0, none⟩) cap cap cur.toList (by
      rw [hz1]
      refine run_firstCells_some _ 1 cap ⟨g, 0, none⟩ cap cap cur.toList (by simp [hcs]) (fun j u hu => ?_)
      rw [plain_add, Nat.zero_add]
      show w.cell? _ = _
      simp only [World.cell?, hcur]
      simpa using hu) q hq0 (by rw [hz1]; decide) (by omega) (by omega) (by rw [hz2]; omega) (by
        rw [hz2]
        have := growslice_fits (need := cap + q) (old := cap) (bytes := 1) (by omega) (by omega)
        simpa using this)
    have hcapi : (cap : Int) ≤ cap := Int.le_refl _
    have hnn : (n : Int) ≤ grownCap w (cap + q) cap 5 := by have := grownCap_ge w (cap + q) cap 5; omega
    have HF : Hid (cap ≤ cap ∧ n ≤ cap ∧ cur.size = cap ∧ cur.toList.take n = xs) := ⟨Nat.le_refl _, hnc, hcs, htk⟩
    clear h hcur htk hcs
    go_enter Tryz.func41, Tryz.ntmps41
    go_wp2_with (at_builtin; refine Lib.wpList_append_run _ rfl (.tmp 20) (.tmp 21) 22 3 rfl _ _ rfl rfl _ _ (hap _) ?_)
    clear hap
    go_ret
    have hge := grownCap_ge w (cap + q) cap 5
    have hcm2 : grownCap w (cap + q) cap 5 ≤ maxLen := grownCap_le_maxLen w (cap + q) cap 5 (by unfold maxLen; omega)
    obtain ⟨_, f2, f3, f4⟩ := HF.out
    refine ⟨_, rfl, World.ownsRow.drew ⟨?_, .inr ⟨w.heap.size, _, _, rfl, hB, heap_alloc_new w _, by omega, hcm2, ?_, ?_⟩⟩, by simp, below_gb (((Below.refl _ _).alloc (Nat.le_refl _) _).drew), fun k e => .inr (by cases e; exact Nat.le_refl _)⟩
    · rw [← f4, List.length_take, Array.length_toList, f3]; omega
    · simp only [Array.size_append, size_zeroCells, f3]
      simp
      omega
    · rw [Nat.mul_one, Array.toList_append, List.take_append_of_le_length (by rw [Array.length_toList, f3]; exact f2), f4]

theorem nil_came (w : World) : Came w none 0 0 (fun _ => 0) := ⟨Nat.le_refl _, fun _ => ⟨Int.le_refl 0, by show (0 : Int) ≤ 255; decide⟩, .inl ⟨rfl, rfl, rfl⟩⟩
theorem adds_slice {w : World} {B n : Nat} {v : Value} {xs : List Value} (h : w.ownsRow B 5 1 v n xs) (hv : v ≠ .slice none 0 0) (z : Nat → Int) (hz : ∀ i, 0 ≤ z i ∧ z i ≤ 255) (hx : xs = cellsOf z n) : ∃ g cap, v = .slice (some ⟨g, 0, none⟩) n cap ∧ Came w (some ⟨g, 0, none⟩) n cap z := by
  obtain ⟨g, cap, cur, rfl, _⟩ := own_somb h hv
  subst hx
  exact ⟨g, cap, rfl, made_came (w := w) h hz⟩
set_option maxRecDepth 100000 in
set_option maxHeartbeats 1000000 in
theorem wNumber_any (B n : Nat) (v : Value) (xs : List Value) (m : Int) (w : World) (h : w.ownsRow B 5 1 v n xs) (hB : B ≤ w.heap.size) (hn : n ≤ 400000) :
    Calls Tryz.prog 70 #[v, .int .i64 m] w fun e w' => Adds B v w w' e (n + 2) (xs ++ cellsOf (numZ m) 2) := by
  obtain ⟨i0, hi, hz0, hz1, hz2⟩ := info_parts Tryz.info5
  have HO : Hid (w.ownsRow B 5 1 v n xs) := h
  have HP : Hid (Calls Tryz.prog 91 #[.slice none 0 0, .int .i64 m] w fun e w' => Made w w' e (0 + 2) (cellsOf (fun _ => 0) 0 ++ cellsOf (numZ m) 2)) := putNumber_any none 0 0 (fun _ => 0) m w (nil_came w) (by decide)
  clear h
  go_enter Tryz.func70, Tryz.ntmps70
  go_wp2_with fail
  go_must (go_at_call 91)
  refine HP.out.mono ?_
  rintro e w1 ⟨g, cp, rfl, ho, hb⟩
  have HO1 : Hid (w1.ownsRow B 5 1 v n xs) := own_below HO.out hb
  have HR : Hid (w1.ownsRow w.heap.size 5 1 (.slice (some ⟨g, 0, none⟩) 2 cp) 2 (cellsOf (numZ m) 2)) := ho
  have B1 : Hid (Below w.heap.size w w1) := hb
  have HB1 : Hid (B ≤ w1.heap.size) := Nat.le_trans hB hb.size
  clear ho hb
  go_wp2_with (at_builtin; refine wpList_push rfl (.tmp 5) (.tmp 7) 22 rfl B 5 i0 (.int .u8 0) 1 1 Tryz.underlying22 hi hz0 hz1 hz2 rfl (by decide) _ _ _ rfl HO1.out ⟨g, 0, none⟩ 2 cp (cellsOf (numZ m) 2) rfl (by decide) rfl ?d1 ?d2 ?d3 ?d4 ?d5 ?_)
  case d1 =>
    intro j u hu
    have hj := (cellsOf_get _ _ _ _ hu).1
    rw [plain_add, Nat.zero_add, HR.out.cellAt j (by omega)]; exact hu
  case d2 => exact fun u hu => cellsOf_one _ _ _ hu
  case d3 => unfold maxLen; omega
  case d4 => omega
  case d5 => exact HB1.out
  intro v2 w2 hown2 hgrow2 hnil2 hwh2
  have hb2 : w.grownBy w2 v.ownBlock := grown_on (v1 := v) (below_gb B1.out) (fun k e => .inl e) hgrow2
  have HWH : Hid (∀ k, v2.ownBlock = some k → v.ownBlock = some k ∨ w.heap.size ≤ k) := fun k e => by
    rcases hwh2 with h | h
    · exact .inl (h ▸ e)
    · rw [h] at e; cases e; exact .inr B1.out.size
  have HO2 : Hid (w2.ownsRow B 5 1 v2 (n + 2) (xs ++ cellsOf (numZ m) 2)) := hown2
  have HNN : Hid (v2 ≠ .slice none 0 0) := hnil2
  have HB2 : Hid (w.grownBy w2 v.ownBlock) := hb2
  clear hown2 hgrow2 hnil2 hb2 hwh2
  go_wp2_with fail
  go_ret
  exact ⟨v2, rfl, HO2.out, HNN.out, HB2.out, HWH.out⟩
set_option maxRecDepth 100000 in
set_option maxHeartbeats 1000000 in
theorem wText_any (B n : Nat) (v : Value) (xs : List Value) (s : ByteArray) (w : World) (h : w.ownsRow B 5 1 v n xs) (hB : B ≤ w.heap.size) (hn : n ≤ 300000) (hs : s.size ≤ 65535) (hc : (chk s).2 = 0) :
    Calls Tryz.prog 88 #[v, .string s] w fun e w' => Adds B v w w' e (n + (2 + s.size)) (xs ++ (cellsOf (numZ s.size) 2 ++ Lib.strCells s)) := by
  obtain ⟨i0, hi, hz0, hz1, hz2⟩ := info_parts Tryz.info5
  have HO : Hid (w.ownsRow B 5 1 v n xs) := h
  have HS : Hid (s.size ≤ 65535) := hs
  have hT := putText_ok none 0 0 (fun _ => 0) s w (nil_came w) (by decide) hs hc
  have HP : Hid (Calls Tryz.prog 111 #[.slice none 0 0, .string s] w fun e w' => ∃ g cp, e = .returned (.tuple #[.slice (some ⟨g, 0, none⟩) (2 + s.size) cp, .int .i64 0]) ∧ w'.ownsRow w.heap.size 5 1 (.slice (some ⟨g, 0, none⟩) (2 + s.size) cp) (2 + s.size) (cellsOf (numZ s.size) 2 ++ Lib.strCells s) ∧ Below w.heap.size w w') := by
    show Calls _ _ _ _ _
    simpa [cellsOf_zero] using hT
  clear h hT hc hs
  go_enter Tryz.func88, Tryz.ntmps88
  go_wp2_with fail
  go_must (go_at_call 111)
  refine HP.out.mono ?_
  rintro e w1 ⟨g, cp, rfl, ho, hb⟩
  have HO1 : Hid (w1.ownsRow B 5 1 v n xs) := own_below HO.out hb
  have HR : Hid (w1.ownsRow w.heap.size 5 1 (.slice (some ⟨g, 0, none⟩) (2 + s.size) cp) (2 + s.size) (cellsOf (numZ s.size) 2 ++ Lib.strCells s)) := ho
  have B1 : Hid (Below w.heap.size w w1) := hb
  have HB1 : Hid (B ≤ w1.heap.size) := Nat.le_trans hB hb.size
  clear ho hb
  go_wp2_with (at_builtin; refine wpList_push rfl (.tmp 12) (.tmp 13) 22 rfl B 5 i0 (.int .u8 0) 1 1 Tryz.underlying22 hi hz0 hz1 hz2 rfl (by decide) _ _ _ rfl HO1.out ⟨g, 0, none⟩ (2 + s.size) cp (cellsOf (numZ s.size) 2 ++ Lib.strCells s) rfl (by omega) ?d0 ?d1 ?d2 ?d3 ?d4 ?d5 ?_)
  case d0 => have := HR.out.1; exact this
  case d1 =>
    intro j u hu
    have hl := HR.out.1
    have hj : j < (cellsOf (numZ s.size) 2 ++ Lib.strCells s).length := by
      rcases Nat.lt_or_ge j (cellsOf (numZ s.size) 2 ++ Lib.strCells s).length with h | h
      · exact h
      · rw [List.getElem?_eq_none h] at hu; cases hu
    rw [plain_add, Nat.zero_add, HR.out.cellAt j (by omega)]; exact hu
  case d2 =>
    intro u hu
    rcases List.mem_append.1 hu with hu | hu
    · exact cellsOf_one _ _ _ hu
    · simp only [Lib.strCells, List.mem_map] at hu
      obtain ⟨_, _, rfl⟩ := hu
      rfl
  case d3 => have := HS.out; unfold maxLen; omega
  case d4 => have := HS.out; omega
  case d5 => exact HB1.out
  intro v2 w2 hown2 hgrow2 hnil2 hwh2
  have hb2 : w.grownBy w2 v.ownBlock := grown_on (v1 := v) (below_gb B1.out) (fun k e => .inl e) hgrow2
  have HWH : Hid (∀ k, v2.ownBlock = some k → v.ownBlock = some k ∨ w.heap.size ≤ k) := fun k e => by
    rcases hwh2 with h | h
    · exact .inl (h ▸ e)
    · rw [h] at e; cases e; exact .inr B1.out.size
  have HO2 : Hid (w2.ownsRow B 5 1 v2 (n + (2 + s.size)) (xs ++ (cellsOf (numZ s.size) 2 ++ Lib.strCells s))) := hown2
  have HNN : Hid (v2 ≠ .slice none 0 0) := hnil2
  have HB2 : Hid (w.grownBy w2 v.ownBlock) := hb2
  clear hown2 hgrow2 hnil2 hb2 hwh2
  go_wp2_with fail
  go_ret
  exact ⟨v2, rfl, HO2.out, HNN.out, HB2.out, HWH.out⟩
end Go.Proofs.YtibihbclijpkjaaGreatDoor
namespace Go.Proofs.YtibihbclijpkjaaGreatDoor
open Go Go.RowKit
open Pkt (Pk Cn Sl In By Is Ss As pkCells Gd wpList_load_wanted box_below)
set_option linter.unusedSimpArgs false
set_option linter.unusedVariables false

theorem box_cells {w : World} {g t : Nat} {cs : Array Value} (h : w.heap[g]? = some (.cells cs t (0, 0))) (k : Nat) (v : Value) (hk : cs[k]? = some v) : w.cell? ⟨g, k, none⟩ = some v := by
  simp only [World.cell?, h]; simpa using hk
theorem heap_in {w : World} {g : Nat} {o : Obj} (h : w.heap[g]? = some o) : g < w.heap.size := by
  rcases Nat.lt_or_ge g w.heap.size with h1 | h1
  · exact h1
  · rw [Array.getElem?_eq_none h1] at h; cases h
/-- A block of another's stays while a row is laid on. -/
theorem gb_block {w w' : World} {v : Value} {g : Nat} {o : Obj} (hg : w.grownBy w' v.ownBlock) (h : w.heap[g]? = some o) (hv : v.ownBlock ≠ some g) : w'.heap[g]? = some o := by
  rw [hg.block g (heap_in h) (fun e => hv e.symm)]; exact h

set_option maxRecDepth 100000 in
set_option maxHeartbeats 2000000 in
theorem wPublish_any (w0 w : World) (p : Pk) (z : Nat → Int) (v : Value) (n : Nat) (xs : List Value) (h : w.ownsRow w0.heap.size 5 1 v n xs) (hb0 : Below w0.heap.size w0 w) (hp : By w0 p.mP z) (hn : n ≤ 100000) (hm : p.mP.n ≤ 150000) (hm1 : 0 < p.mP.n) (hs : p.mT.size ≤ 65535) (hc : (chk p.mT).2 = 0) (hq : 0 < p.mQ) :
    Calls Tryz.prog 68 #[v, .agg (pkCells p)] w fun e w' => Adds w0.heap.size v w w' e (n + (2 + p.mT.size) + 2 + p.mP.n) (xs ++ (cellsOf (numZ p.mT.size) 2 ++ Lib.strCells p.mT) ++ cellsOf (numZ p.id) 2 ++ cellsOf z p.mP.n) := by
  obtain ⟨i0, hi, hz0, hz1, hz2⟩ := info_parts Tryz.info5
  have HO : Hid (w.ownsRow w0.heap.size 5 1 v n xs) := h
  have HB0 : Hid (Below w0.heap.size w0 w) := hb0
  have HP : Hid (By w0 p.mP z) := hp
  have HN : Hid (n ≤ 100000 ∧ p.mP.n ≤ 150000 ∧ 0 < p.mP.n ∧ p.mT.size ≤ 65535 ∧ (chk p.mT).2 = 0) := ⟨hn, hm, hm1, hs, hc⟩
  obtain ⟨cs, hcs⟩ : ∃ cs, cs = pkCells p := ⟨_, rfl⟩
  have k17 : Hid (cs[17]? = some (.string p.mT)) := by show _ = _; rw [hcs]; rfl
  have k18 : Hid (cs[18]? = some (.slice p.mP.a p.mP.n p.mP.c)) := by show _ = _; rw [hcs]; rfl
  have k19 : Hid (cs[19]? = some (.int .i64 p.mQ)) := by show _ = _; rw [hcs]; rfl
  have k21 : Hid (cs[21]? = some (.int .i64 p.id)) := by show _ = _; rw [hcs]; rfl
  rw [← hcs]
  clear hcs h hb0 hp hn hm hm1 hs hc
  obtain ⟨W, hW⟩ : ∃ W, W = w.alloc (.cells cs 29) := ⟨_, rfl⟩
  have b0 : Hid (Below w.heap.size w W) := box_below hW
  have g0 : Hid (W.heap[w.heap.size]? = some (.cells cs 29)) := by show _ = _; rw [hW]; exact heap_alloc_new w _
  have HOW : Hid (W.ownsRow w0.heap.size 5 1 v n xs) := own_below HO.out b0.out
  have HSZ : Hid (w0.heap.size ≤ w.heap.size) := HB0.out.size
  have HV : Hid (v.ownBlock ≠ some w.heap.size) := fun e => by have := (HO.out.lt _ e).2; omega
  have c17 := box_cells g0.out 17 _ k17.out
  go_enter Tryz.func68, Tryz.ntmps68
  go_upto_region 1 with fail
  rw [← hW]
  clear hW
  go_wp2_with fail
  go_must (go_at_call 88)
  refine (wText_any w0.heap.size n v xs p.mT W HOW.out (Nat.le_trans HSZ.out b0.out.size) (by have := HN.out; omega) HN.out.2.2.2.1 HN.out.2.2.2.2).mono ?_
  rintro e w1 ⟨v1, rfl, o1, n1, gb1, ow1⟩
  have O1 : Hid (w1.ownsRow w0.heap.size 5 1 v1 (n + (2 + p.mT.size)) (xs ++ (cellsOf (numZ p.mT.size) 2 ++ Lib.strCells p.mT))) := o1
  have G1 : Hid (W.grownBy w1 v.ownBlock) := gb1
  have W1 : Hid (∀ k, v1.ownBlock = some k → v.ownBlock = some k ∨ W.heap.size ≤ k) := ow1
  have g1 : Hid (w1.heap[w.heap.size]? = some (.cells cs 29)) := gb_block gb1 g0.out HV.out
  have V1 : Hid (v1.ownBlock ≠ some w.heap.size) := fun e => by
    rcases W1.out _ e with h | h
    · exact HV.out h
    · have := heap_in g0.out; omega
  have S1 : Hid (w0.heap.size ≤ w1.heap.size) := Nat.le_trans HSZ.out (Nat.le_trans b0.out.size gb1.size)
  have c19 := box_cells g1.out 19 _ k19.out
  have c21 := box_cells g1.out 21 _ k21.out
  clear o1 n1 gb1 ow1 c17
  go_wp2_with fail
  go_must (go_at_call 70)
  refine (wNumber_any w0.heap.size (n + (2 + p.mT.size)) v1 _ p.id w1 O1.out S1.out (by have := HN.out; omega)).mono ?_
  rintro e w2 ⟨v2, rfl, o2, n2, gb2, ow2⟩
  have O2 : Hid (w2.ownsRow w0.heap.size 5 1 v2 (n + (2 + p.mT.size) + 2) (xs ++ (cellsOf (numZ p.mT.size) 2 ++ Lib.strCells p.mT) ++ cellsOf (numZ p.id) 2)) := o2
  have G2 : Hid (W.grownBy w2 v.ownBlock) := grown_on G1.out W1.out gb2
  have W2 : Hid (∀ k, v2.ownBlock = some k → v.ownBlock = some k ∨ W.heap.size ≤ k) := own_on G1.out.size W1.out ow2
  have g2 : Hid (w2.heap[w.heap.size]? = some (.cells cs 29)) := gb_block gb2 g1.out V1.out
  have S2 : Hid (w0.heap.size ≤ w2.heap.size) := Nat.le_trans S1.out gb2.size
  have BB : Hid (Below w0.heap.size w0 w2) := by
    have h1 : Below w0.heap.size w0 W := HB0.out.trans (b0.out.mono HSZ.out)
    exact h1.trans (gb_below2 G2.out h1.size (fun k e => (HOW.out.lt k e).1))
  have PB : Hid (By w2 p.mP z) := HP.out.below BB.out
  have c18 := box_cells g2.out 18 _ k18.out
  obtain ⟨pb, po, ha, hcell⟩ : ∃ b off, p.mP.a = some ⟨b, off, none⟩ ∧ ∀ i, i < p.mP.n → w2.cell? ⟨b, off + i, none⟩ = some (.int .u8 (z i)) := by
    rcases PB.out.2.2 with h | h
    · have := HN.out; omega
    · exact h
  have HC : Hid (∀ i, i < p.mP.n → w2.cell? ⟨pb, po + i, none⟩ = some (.int .u8 (z i))) := hcell
  rw [ha] at c18
  clear o2 n2 gb2 ow2 hcell c19 c21
  go_wp2_with (at_builtin; refine wpList_push rfl (.tmp 18) (.tmp 21) 22 rfl w0.heap.size 5 i0 (.int .u8 0) 1 1 Tryz.underlying22 hi hz0 hz1 hz2 rfl (by decide) _ _ _ rfl O2.out ⟨pb, po, none⟩ p.mP.n p.mP.c (cellsOf z p.mP.n) rfl HN.out.2.2.1 ?d0 ?d1 ?d2 ?d3 ?d4 ?d5 ?_)
  case d0 => rw [cellsOf_length, Nat.mul_one]
  case d1 =>
    intro j u hu
    obtain ⟨hj, rfl⟩ := cellsOf_get _ _ _ _ hu
    rw [plain_add]; exact HC.out j hj
  case d2 => exact fun u hu => cellsOf_one _ _ _ hu
  case d3 => have := HN.out; unfold maxLen; omega
  case d4 => have := HN.out; omega
  case d5 => exact S2.out
  intro v3 w3 o3 gb3 n3 wh3
  have O3 : Hid (w3.ownsRow w0.heap.size 5 1 v3 (n + (2 + p.mT.size) + 2 + p.mP.n) (xs ++ (cellsOf (numZ p.mT.size) 2 ++ Lib.strCells p.mT) ++ cellsOf (numZ p.id) 2 ++ cellsOf z p.mP.n)) := by show World.ownsRow _ _ _ _ _ _ _; simpa [List.append_assoc] using o3
  have G3 : Hid (W.grownBy w3 v.ownBlock) := grown_on G2.out W2.out gb3
  have W3 : Hid (∀ k, v3.ownBlock = some k → v.ownBlock = some k ∨ W.heap.size ≤ k) := own_on G2.out.size W2.out (fun k e => by
    rcases wh3 with h | h
    · exact .inl (h ▸ e)
    · rw [h] at e; cases e; exact .inr (Nat.le_refl _))
  have N3 : Hid (v3 ≠ .slice none 0 0) := n3
  have GW : Hid (w.grownBy w3 v.ownBlock) := grown_on (v1 := v) (below_gb b0.out) (fun k e => .inl e) G3.out
  have WW : Hid (∀ k, v3.ownBlock = some k → v.ownBlock = some k ∨ w.heap.size ≤ k) := fun k e => (W3.out k e).elim .inl (fun h => .inr (Nat.le_trans b0.out.size h))
  clear o3 gb3 n3 wh3 c18
  go_wp2_with fail
  go_ret
  exact ⟨v3, rfl, O3.out, N3.out, GW.out, WW.out⟩

set_option maxRecDepth 100000 in
set_option maxHeartbeats 2000000 in
theorem wFields_pub (w0 w : World) (p : Pk) (z : Nat → Int) (v : Value) (n : Nat) (xs : List Value) (hk : p.kind = 3) (h : w.ownsRow w0.heap.size 5 1 v n xs) (hb0 : Below w0.heap.size w0 w) (hp : By w0 p.mP z) (hn : n ≤ 100000) (hm : p.mP.n ≤ 150000) (hm1 : 0 < p.mP.n) (hs : p.mT.size ≤ 65535) (hc : (chk p.mT).2 = 0) (hq : 0 < p.mQ) :
    Calls Tryz.prog 43 #[v, .agg (pkCells p)] w fun e w' => Adds w0.heap.size v w w' e (n + (2 + p.mT.size) + 2 + p.mP.n) (xs ++ (cellsOf (numZ p.mT.size) 2 ++ Lib.strCells p.mT) ++ cellsOf (numZ p.id) 2 ++ cellsOf z p.mP.n) := by
  obtain ⟨W, hW⟩ : ∃ W, W = w.alloc (.cells (pkCells p) 29) := ⟨_, rfl⟩
  have b0 : Hid (Below w.heap.size w W) := box_below hW
  have g0 : Hid (W.heap[w.heap.size]? = some (.cells (pkCells p) 29)) := by show _ = _; rw [hW]; exact heap_alloc_new w _
  have k0 : W.cell? ⟨w.heap.size, 0, none⟩ = some (.int .i64 3) := box_cells g0.out 0 _ (by rw [← hk]; rfl)
  have HC : Hid (Calls Tryz.prog 68 #[v, .agg (pkCells p)] W fun e w' => Adds w0.heap.size v W w' e (n + (2 + p.mT.size) + 2 + p.mP.n) (xs ++ (cellsOf (numZ p.mT.size) 2 ++ Lib.strCells p.mT) ++ cellsOf (numZ p.id) 2 ++ cellsOf z p.mP.n)) :=
    wPublish_any w0 W p z v n xs (own_below h b0.out) (hb0.trans (b0.out.mono hb0.size)) hp hn hm hm1 hs hc hq
  obtain ⟨R, hR⟩ : ∃ R, R = (xs ++ (cellsOf (numZ p.mT.size) 2 ++ Lib.strCells p.mT) ++ cellsOf (numZ p.id) 2 ++ cellsOf z p.mP.n) := ⟨_, rfl⟩
  rw [← hR] at HC ⊢
  obtain ⟨m, hmm⟩ : ∃ m, m = (n + (2 + p.mT.size) + 2 + p.mP.n) := ⟨_, rfl⟩
  rw [← hmm] at HC ⊢
  obtain ⟨cs, hcs⟩ : ∃ cs, cs = pkCells p := ⟨_, rfl⟩
  have hsz : Hid (cs.size = 25) := by show _ = _; rw [hcs]; rfl
  rw [← hcs] at HC g0 ⊢
  rw [← hcs] at hW
  clear hcs hR hmm h hb0 hp hn hm hm1 hs hc hq hk
  go_enter Tryz.func43, Tryz.ntmps43
  go_upto_region 1 with fail
  rw [← hW]
  clear hW
  go_wp2_with (first | (refine wpList_load_wanted rfl _ rfl w.heap.size rfl _ (0, 0) g0.out hsz.out ?_) | fail)
  go_must (go_at_call 68)
  refine HC.out.mono ?_
  rintro e w1 ⟨v1, rfl, o1, n1, gb1, ow1⟩
  have O1 : Hid (w1.ownsRow w0.heap.size 5 1 v1 m R) := o1
  have N1 : Hid (v1 ≠ .slice none 0 0) := n1
  have GW : Hid (w.grownBy w1 v.ownBlock) := grown_on (v1 := v) (below_gb b0.out) (fun k e => .inl e) gb1
  have WW : Hid (∀ k, v1.ownBlock = some k → v.ownBlock = some k ∨ w.heap.size ≤ k) := fun k e => (ow1 k e).elim .inl (fun h => .inr (Nat.le_trans b0.out.size h))
  clear o1 n1 gb1 ow1 k0
  go_wp2_with fail
  go_ret
  exact ⟨v1, rfl, O1.out, N1.out, GW.out, WW.out⟩
end Go.Proofs.YtibihbclijpkjaaGreatDoor
