import Derived.Test.YtdibmmagnkjapaaGreatDoorTeb
import Derived.Test.YtdibmmagnkjapaaGreatDoorRTa
import Derived.Test.YtdibmmagnkjapaaGreatDoorCj
import Derived.Deep.RegionHeldLaw
import Derived.Laws.OwnMore
namespace Go.Proofs.YtdibmmagnkjapaaGreatDoor
open Go Go.RowKit
set_option linter.unusedSimpArgs false
set_option linter.unusedVariables false

/-! ### The document's Sorted -/
def cmpB (a b : ByteArray) : Int := cmpL (unB a) (unB b)
/-- Where a text goes in, looked for from so far on. -/
def place (S : List ByteArray) (x : ByteArray) : Nat → Nat
  | 0 => 0
  | k + 1 => if 0 < cmpB (S.getD k x) x then place S x k else k + 1
def ins (S : List ByteArray) (x : ByteArray) : List ByteArray := S.take (place S x S.length) ++ x :: S.drop (place S x S.length)
def isort (xs : List ByteArray) : List ByteArray := xs.foldl ins []
theorem ins_len (S : List ByteArray) (x : ByteArray) : (ins S x).length = S.length + 1 := by
  unfold ins
  simp
  omega
theorem isort_snoc (l : List ByteArray) (x : ByteArray) : isort (l ++ [x]) = ins (isort l) x := by simp [isort]
theorem fold_len : ∀ (l S : List ByteArray), (l.foldl ins S).length = S.length + l.length
  | [], S => by simp
  | x :: r, S => by simp only [List.foldl_cons, fold_len r, ins_len, List.length_cons]; omega
theorem isort_len (l : List ByteArray) : (isort l).length = l.length := by simp [isort, fold_len]
theorem ins_mem {S : List ByteArray} {x y : ByteArray} (h : y ∈ ins S x) : y = x ∨ y ∈ S := by
  unfold ins at h
  simp only [List.mem_append, List.mem_cons] at h
  rcases h with h | h | h
  · exact .inr (List.mem_of_mem_take h)
  · exact .inl h
  · exact .inr (List.mem_of_mem_drop h)
theorem fold_mem : ∀ (l S : List ByteArray) (y : ByteArray), y ∈ l.foldl ins S → y ∈ l ∨ y ∈ S
  | [], S, y, h => .inr h
  | x :: r, S, y, h => by
    rcases fold_mem r _ y h with q | q
    · exact .inl (List.mem_cons_of_mem _ q)
    · rcases ins_mem q with q | q
      · exact .inl (by simp [q])
      · exact .inr q
theorem isort_mem {l : List ByteArray} {y : ByteArray} (h : y ∈ isort l) : y ∈ l := by
  rcases fold_mem l [] y h with q | q
  · exact q
  · simp at q
theorem take_next {xs : List ByteArray} {i : Nat} (h : i < xs.length) : xs.take (i + 1) = xs.take i ++ [xs[i]] := by
  rw [List.take_succ_eq_append_getElem h]
/-- A list with a place free. -/
def gap (S : List ByteArray) (k : Nat) (z : ByteArray) : List Value := (S.take k ++ z :: S.drop k).map Value.string
theorem gap_set {S : List ByteArray} {k : Nat} (hk : k ≤ S.length) (z x : ByteArray) : (gap S k z).set k (.string x) = gap S k x := by
  unfold gap
  rw [List.map_append, List.map_append, List.set_append_right _ _ (by simp [hk])]
  simp [hk, Nat.min_eq_left hk]
theorem gap_down {S : List ByteArray} {j : Nat} (hj : j < S.length) (x : ByteArray) : gap S (j + 1) S[j] = gap S j S[j] := by
  unfold gap
  rw [List.take_succ_eq_append_getElem hj, List.drop_eq_getElem_cons hj, List.append_assoc]
  rfl
theorem gap_at {S : List ByteArray} {j : Nat} (hj : j < S.length) (z : ByteArray) : (gap S (j + 1) z)[j]? = some (.string S[j]) := by
  unfold gap
  rw [List.map_append, List.getElem?_append_left (by simp; omega)]
  simp [List.getElem?_take, hj]
theorem gap_here {S : List ByteArray} {k : Nat} (hk : k ≤ S.length) (z : ByteArray) : (gap S k z)[k]? = some (.string z) := by
  unfold gap
  rw [List.map_append, List.getElem?_append_right (by simp; omega)]
  simp [Nat.min_eq_left hk]
theorem gap_end (S : List ByteArray) (x : ByteArray) : (S ++ [x]).map Value.string = gap S S.length x := by simp [gap]
theorem place_pos {S : List ByteArray} {x : ByteArray} {j : Nat} (hj : j < S.length) (h : 0 < cmpB S[j] x) : place S x (j + 1) = place S x j := by
  rw [place, if_pos (by simpa [List.getD, hj] using h)]
theorem place_neg {S : List ByteArray} {x : ByteArray} {j : Nat} (hj : j < S.length) (h : ¬ 0 < cmpB S[j] x) : place S x (j + 1) = j + 1 := by
  rw [place, if_neg (by simpa [List.getD, hj] using h)]
set_option maxRecDepth 100000 in
set_option maxHeartbeats 4000000 in
theorem rsorted_any (xs : List ByteArray) (v : Value) (w : World) (R : Row w v xs) (hn : xs.length ≤ 100000) (hs : ∀ x ∈ xs, x.size ≤ 1000000) : Calls Tryz.prog 21 #[v] w fun e w' => ∃ v', e = .returned v' ∧ w'.ownsRow w.heap.size 9 1 v' xs.length ((isort xs).map Value.string) ∧ Below w.heap.size w w' := by
  obtain ⟨i0, hi0, hz0, hz1, hz2⟩ : ∃ i0, Tryz.prog.info? 9 = some i0 ∧ i0.zero = some (.string ⟨#[]⟩) ∧ i0.size = 1 ∧ i0.bytes = 16 := ⟨_, rfl, rfl, rfl, rfl⟩
  obtain ⟨a, cap, rfl, hcap⟩ := R.len
  have HX : Hid (∀ W, Below w.heap.size w W → ∀ i (hi : i < xs.length), ∃ g o, a = some ⟨g, o, none⟩ ∧ W.cell? ⟨g, o + i, none⟩ = some (.string xs[i])) := fun W hW i hi => (R.later hW).cell hi
  obtain ⟨n, hnl⟩ : ∃ n, xs.length = n := ⟨_, rfl⟩
  have HN : Hid (xs.length = n ∧ n ≤ 100000 ∧ (∀ x ∈ xs, x.size ≤ 1000000)) := ⟨hnl, by omega, hs⟩
  have HG : Hid (∀ i, i < n → ∃ x, xs[i]? = some x ∧ x.size ≤ 1000000 ∧ isort (xs.take (i + 1)) = ins (isort (xs.take i)) x ∧ (∀ y ∈ isort (xs.take i), y.size ≤ 1000000) ∧ (isort (xs.take i)).length = i) := fun i hi => by
    have hi' : i < xs.length := by omega
    refine ⟨xs[i], List.getElem?_eq_getElem hi', hs _ (List.getElem_mem hi'), by rw [take_next hi', isort_snoc], fun y hy => hs y (List.mem_of_mem_take (isort_mem hy)), ?_⟩
    rw [isort_len]
    simp
    omega
  have HO0 : Hid (w.ownsRow w.heap.size 9 1 (.slice none 0 0) 0 ((isort (xs.take 0)).map Value.string)) := World.ownsRow_nil _ _ _ _
  have HB0 : Hid (Below w.heap.size w w) := Below.refl _ _
  have HE : Hid (xs.take n = xs) := by show _ = _; rw [← hnl]; simp
  rw [hnl] at hcap ⊢
  clear R hs hn hnl
  go_enter Tryz.func21, Tryz.ntmps21
  go_wp2_with fail
  go_loopg [3, 4, 5] n (fun gk s3 s4 s5 wx => ∃ i : Nat, i + gk = n ∧ s4 = .int .i64 i ∧ Hid (wx.ownsRow w.heap.size 9 1 s3 i ((isort (xs.take i)).map Value.string)) ∧ Hid (Below w.heap.size w wx))
  case atStart => exact ⟨0, by omega, rfl, HO0, HB0⟩
  case round =>
    obtain ⟨i, hi, rfl, HO, HB⟩ := hrel
    clear HO0 HB0
    cases gk with
    | zero =>
      obtain rfl : i = n := by omega
      have hz : ¬ (i : Int) < (i : Int) := by omega
      have hO := HO.out
      rw [HE.out] at hO
      have Z : Hid (wr.ownsRow w.heap.size 9 1 u3 i ((isort xs).map Value.string) ∧ Below w.heap.size w wr) := ⟨hO, HB.out⟩
      clear hO HO HB
      go_wp2_with fail
      go_ret
      exact ⟨_, rfl, Z.out⟩
    | succ gt =>
      have hz : (i : Int) < (n : Int) := by omega
      have hzp : (0 : Int) ≤ (i : Int) := by omega
      have hwi : IntKind.i64.wrap ((i : Int) + 1) = (i : Int) + 1 := by rw [IntKind.wrap_i64]; have := HN.out; omega
      obtain ⟨x, hx, hxs, hsn, hsm, hsl⟩ := HG.out i (by omega)
      obtain ⟨S, hS⟩ : ∃ S, isort (xs.take i) = S := ⟨_, rfl⟩
      rw [hS] at hsn hsm hsl HO
      obtain ⟨ao, co, ho⟩ := own_sl HO.out
      subst ho
      have hx2 := hx
      obtain ⟨hi2, hxe⟩ := List.getElem?_eq_some_iff.1 hx2
      obtain ⟨gl, ol, ea, ce⟩ := HX.out _ HB.out i hi2
      subst ea
      rw [hxe] at ce
      have HC : Hid (∀ W, Below w.heap.size w W → W.cell? ⟨gl, ol + i, none⟩ = some (.string x)) := fun W hW => by
        obtain ⟨g', o', e', c'⟩ := HX.out W hW i hi2
        injection e' with e'
        injection e' with e1 e2 _
        subst e1 e2
        rw [hxe] at c'
        exact c'
      have HS : Hid (x.size ≤ 1000000 ∧ isort (xs.take (i + 1)) = ins S x ∧ (∀ y ∈ S, y.size ≤ 1000000) ∧ S.length = i) := ⟨hxs, hsn, hsm, hsl⟩
      clear hx hx2 hxs hsn hsm hsl hS hi2 hxe
      go_wp2_with (at_builtin; refine wpList_append_own _ rfl (.tmp 14) (.tmp 19) 22 rfl w.heap.size 9 i0 (.string ⟨#[]⟩) 1 16 Tryz.underlying22 hi0 hz0 hz1 hz2 rfl (by decide) _ _ _ rfl (HO.out.alloc _) ⟨_, 0, none⟩ 1 1 [.string x] rfl rfl ?d1 ?d2 ?d3 ?d4 ?d5 ?_)
      case d1 => exact cell_one_new _ _ _
      case d2 => intro u hu; simp at hu; subst hu; rfl
      case d3 => have := HN.out; unfold maxLen; omega
      case d4 => have := HN.out; omega
      case d5 => have := HB.out.size; simp; omega
      intro v2 w2 hown2 hgrow2 hnil2
      have hb2 := (HB.out.alloc HB.out.size _).grown hgrow2 (by have := HB.out.size; simp; omega) (by intro q hq; exact (HO.out.lt _ hq).1)
      obtain ⟨g, cp, hv2⟩ := Rm.own_shape hown2 hnil2
      subst hv2
      have HO2 : Hid (∃ z, w2.ownsRow w.heap.size 9 1 (.slice (some ⟨g, 0, none⟩) (i + 1) cp) (i + 1) (gap S i z)) := ⟨x, by have h1 := HS.out.2.2.2; have h2 := gap_end S x; rw [h1] at h2; rw [← h2, List.map_append]; exact hown2⟩
      have HB2 : Hid (Below w.heap.size w w2) := hb2
      have hgB : w.heap.size ≤ g := (hown2.lt g rfl).1
      clear hown2 hgrow2 hnil2 hb2 HO HB ce
      go_wp2_with fail
      go_loopg [5] i (fun gk s5 wx => gk ≤ i ∧ s5 = .int .i64 gk ∧ Hid (∃ z, wx.ownsRow w.heap.size 9 1 (.slice (some ⟨g, 0, none⟩) (i + 1) cp) (i + 1) (gap S gk z)) ∧ Hid (Below w.heap.size w wx) ∧ Hid (place S x i = place S x gk))
      case atStart => exact ⟨Nat.le_refl _, rfl, HO2, HB2, hidi rfl⟩
      case round =>
        obtain ⟨hk, rfl, HO, HB, HP⟩ := hrel
        clear HO2 HB2
        cases gk with
        | zero =>
          go_wp2_with fail
          go_quiet (fail)
          have hb3 := below_drewN HB.out nq
          have ce := HC.out _ hb3
          obtain ⟨z, hO⟩ := HO.out
          have hO3 : (wr.drewN nq).ownsRow w.heap.size 9 1 (.slice (some ⟨g, 0, none⟩) (i + 1) cp) (i + 1) (gap S 0 z) := own_keep hO (fun _ _ => rfl)
          have cg : (wr.drewN nq).cell? ⟨g, 0, none⟩ = some (.string z) := (hO3.cellAt 0 (by omega)).trans (gap_here (Nat.zero_le _) z)
          have fg := hO3.frozenAt 0
          have HZ : Hid (((wr.drewN nq).setCell ⟨g, 0, none⟩ (.string x)).ownsRow w.heap.size 9 1 (.slice (some ⟨g, 0, none⟩) (i + 1) cp) (i + 1) ((isort (xs.take (i + 1))).map Value.string)) := by
            have h1 := (hO3.stored 0 (.string x)).1
            rw [gap_set (Nat.zero_le _)] at h1
            have h2 := HP.out
            have h3 := HS.out
            rw [h3.2.1, ins, h3.2.2.2, h2]
            exact h1
          have HB3 : Hid (Below w.heap.size w ((wr.drewN nq).setCell ⟨g, 0, none⟩ (.string x))) := hb3.setCell hgB _
          clear hb3 hO hO3 HO HB HP
          go_wp2_with fail
          go_roundg gt
          case measure => omega
          case rel => exact ⟨i + 1, by omega, by simp, HZ, HB3⟩
        | succ j =>
          have hj : j < S.length := by have := HS.out; omega
          obtain ⟨y, hy⟩ : ∃ y, S[j] = y := ⟨_, rfl⟩
          have HY : Hid (y.size ≤ 1000000) := HS.out.2.2.1 y (hy ▸ List.getElem_mem hj)
          have HK : Hid (j < S.length ∧ ∀ (h : j < S.length), S[j] = y) := ⟨hj, fun _ => hy⟩
          obtain ⟨z, hO⟩ := HO.out
          have hb3 : Below w.heap.size w wr.drew := HB.out.drew
          have hO3 : wr.drew.ownsRow w.heap.size 9 1 (.slice (some ⟨g, 0, none⟩) (i + 1) cp) (i + 1) (gap S (j + 1) z) := own_keep hO (fun _ _ => rfl)
          have c1 : wr.drew.cell? ⟨g, j, none⟩ = some (.string y) := by rw [hO3.cellAt j (by omega), gap_at hj, hy]
          have c2 := HC.out _ hb3
          have HO3 := hidi hO3
          have HB3 := hidi hb3
          have HCC := hidi (rcompare_any y x HY.out HS.out.1 wr.drew)
          have h01 : (0 : Int) < ((j + 1 : Nat) : Int) := by omega
          have hsub : IntKind.i64.wrap (((j + 1 : Nat) : Int) - 1) = (j : Int) := by rw [IntKind.wrap_i64]; have := HN.out; omega
          have hji : (j : Int) < ((i + 1 : Nat) : Int) := by omega
          have hj0 : (0 : Int) ≤ (j : Int) := by omega
          have hwj : IntKind.i64.wrap (j : Int) = (j : Int) := by rw [IntKind.wrap_i64]; have := HN.out; omega
          have hji2 : ¬ ((i : Int) + 1 ≤ (j : Int)) := by omega
          have hji3 : ¬ ((i : Int) + 1 ≤ (j : Int) + 1) := by omega
          have hji4 : (j : Int) + 1 < (i : Int) + 1 := by omega
          have hji5 : (j : Int) < (i : Int) + 1 := by omega
          have hji6 : (j : Int) < (i : Int) := by omega
          clear hO hO3 hb3 HO HB hy hj
          go_wp2_with fail
          refine wp_region_held_drew (S := fun w' => w'.cell? ⟨g, j, none⟩ = some (.string y) ∧ w'.cell? ⟨gl, ol + i, none⟩ = some (.string x)) (by kernel_rfl) ⟨c1, c2⟩ (fun hHeld => ?_)
          change wpAnyH _ _ _ _ _ 15 #[false, false, false, false, false, false, false, false, false, false, false, false, false, false, false] _ (World.drew _)
          refine wpAnyH_take (i := 0) (oi := { dst := some 21, op := Go.Op.move (Go.Operand.tmp 5), type := 3, pos := "crierref5.go:153", after := #[], guard := none }) (v := .int .i64 ((j + 1 : Nat) : Int)) rfl (by kernel_rfl) (by kernel_rfl) (by kernel_rfl) (fun _ _ _ h => h) (Or.inl ⟨by kernel_rfl, by intro wq hSw; (try dsimp only at hSw); clear hHeld; go_simp⟩) hHeld ?_
          simp only [Act.put, List.setIfInBounds_toArray, List.set_cons_zero, List.set_cons_succ]
          refine wpAnyH_take (i := 1) (oi := { dst := some 22, op := Go.Op.binOp Go.BinOp.gtr 3 (Go.Operand.tmp 21) (Go.Operand.const (Go.Value.int Go.IntKind.i64 0)) 3, type := 4, pos := "crierref5.go:153", after := #[{ on := 0, ground := Go.Ground.data }], guard := none }) (v := .bool true) rfl (by kernel_rfl) (by kernel_rfl) (by kernel_rfl) (fun _ _ _ h => h) (Or.inl ⟨by kernel_rfl, by intro wq hSw; (try dsimp only at hSw); clear hHeld; go_simp⟩) hHeld ?_
          simp only [Act.put, List.setIfInBounds_toArray, List.set_cons_zero, List.set_cons_succ]
          refine wpAnyH_take (i := 2) (oi := { dst := some 23, op := Go.Op.move (Go.Operand.tmp 22), type := 4, pos := "crierref5.go:153", after := #[{ on := 1, ground := Go.Ground.data }], guard := none }) (v := .bool true) rfl (by kernel_rfl) (by kernel_rfl) (by kernel_rfl) (fun _ _ _ h => h) (Or.inl ⟨by kernel_rfl, by intro wq hSw; (try dsimp only at hSw); clear hHeld; go_simp⟩) hHeld ?_
          simp only [Act.put, List.setIfInBounds_toArray, List.set_cons_zero, List.set_cons_succ]
          refine wpAnyH_take (i := 3) (oi := { dst := some 24, op := Go.Op.move (Go.Operand.tmp 3), type := 22, pos := "crierref5.go:153", after := #[{ on := 2, ground := Go.Ground.guard }], guard := some (2, true) }) (v := .slice (some ⟨g, 0, none⟩) (i + 1) cp) rfl (by kernel_rfl) (by kernel_rfl) (by kernel_rfl) (fun _ _ _ h => h) (Or.inl ⟨by kernel_rfl, by intro wq hSw; (try dsimp only at hSw); clear hHeld; go_simp⟩) hHeld ?_
          simp only [Act.put, List.setIfInBounds_toArray, List.set_cons_zero, List.set_cons_succ]
          refine wpAnyH_take (i := 4) (oi := { dst := some 25, op := Go.Op.move (Go.Operand.tmp 5), type := 3, pos := "crierref5.go:153", after := #[{ on := 2, ground := Go.Ground.guard }], guard := some (2, true) }) (v := .int .i64 ((j + 1 : Nat) : Int)) rfl (by kernel_rfl) (by kernel_rfl) (by kernel_rfl) (fun _ _ _ h => h) (Or.inl ⟨by kernel_rfl, by intro wq hSw; (try dsimp only at hSw); clear hHeld; go_simp⟩) hHeld ?_
          simp only [Act.put, List.setIfInBounds_toArray, List.set_cons_zero, List.set_cons_succ]
          refine wpAnyH_take (i := 5) (oi := { dst := some 26, op := Go.Op.binOp Go.BinOp.sub 3 (Go.Operand.tmp 25) (Go.Operand.const (Go.Value.int Go.IntKind.i64 1)) 3, type := 3, pos := "crierref5.go:153", after := #[{ on := 4, ground := Go.Ground.data }, { on := 2, ground := Go.Ground.guard }], guard := some (2, true) }) (v := .int .i64 (j : Int)) rfl (by kernel_rfl) (by kernel_rfl) (by kernel_rfl) (fun _ _ _ h => h) (Or.inl ⟨by kernel_rfl, by intro wq hSw; (try dsimp only at hSw); clear hHeld; go_simp⟩) hHeld ?_
          simp only [Act.put, List.setIfInBounds_toArray, List.set_cons_zero, List.set_cons_succ]
          refine wpAnyH_take (i := 6) (oi := { dst := some 27, op := Go.Op.indexAddr 22 (Go.Operand.tmp 24) (Go.Operand.tmp 26), type := 0, pos := "crierref5.go:153", after := #[{ on := 3, ground := Go.Ground.data }, { on := 5, ground := Go.Ground.data }, { on := 2, ground := Go.Ground.guard }], guard := some (2, true) }) (v := .pointer (some ⟨g, j, none⟩)) rfl (by kernel_rfl) (by kernel_rfl) (by kernel_rfl) (fun _ _ _ h => h) (Or.inl ⟨by kernel_rfl, by intro wq hSw; (try dsimp only at hSw); clear hHeld; go_simp⟩) hHeld ?_
          simp only [Act.put, List.setIfInBounds_toArray, List.set_cons_zero, List.set_cons_succ]
          refine wpAnyH_take (i := 7) (oi := { dst := some 28, op := Go.Op.load 9 (Go.Operand.tmp 27), type := 9, pos := "crierref5.go:153", after := #[{ on := 6, ground := Go.Ground.data }, { on := 2, ground := Go.Ground.guard }], guard := some (2, true) }) (v := .string y) rfl (by kernel_rfl) (by kernel_rfl) (by kernel_rfl) (fun _ _ _ h => h) (Or.inl ⟨by kernel_rfl, by intro wq hSw; (try dsimp only at hSw); clear hHeld; go_simp⟩) hHeld ?_
          simp only [Act.put, List.setIfInBounds_toArray, List.set_cons_zero, List.set_cons_succ]
          refine wpAnyH_take (i := 8) (oi := { dst := some 29, op := Go.Op.move (Go.Operand.tmp 0), type := 22, pos := "crierref5.go:153", after := #[{ on := 2, ground := Go.Ground.guard }], guard := some (2, true) }) (v := .slice (some ⟨gl, ol, none⟩) n cap) rfl (by kernel_rfl) (by kernel_rfl) (by kernel_rfl) (fun _ _ _ h => h) (Or.inl ⟨by kernel_rfl, by intro wq hSw; (try dsimp only at hSw); clear hHeld; go_simp⟩) hHeld ?_
          simp only [Act.put, List.setIfInBounds_toArray, List.set_cons_zero, List.set_cons_succ]
          refine wpAnyH_take (i := 9) (oi := { dst := some 30, op := Go.Op.move (Go.Operand.tmp 4), type := 3, pos := "crierref5.go:153", after := #[{ on := 2, ground := Go.Ground.guard }], guard := some (2, true) }) (v := .int .i64 (i : Int)) rfl (by kernel_rfl) (by kernel_rfl) (by kernel_rfl) (fun _ _ _ h => h) (Or.inl ⟨by kernel_rfl, by intro wq hSw; (try dsimp only at hSw); clear hHeld; go_simp⟩) hHeld ?_
          simp only [Act.put, List.setIfInBounds_toArray, List.set_cons_zero, List.set_cons_succ]
          refine wpAnyH_take (i := 10) (oi := { dst := some 31, op := Go.Op.indexAddr 22 (Go.Operand.tmp 29) (Go.Operand.tmp 30), type := 0, pos := "crierref5.go:153", after := #[{ on := 8, ground := Go.Ground.data }, { on := 9, ground := Go.Ground.data }, { on := 2, ground := Go.Ground.guard }], guard := some (2, true) }) (v := .pointer (some ⟨gl, ol + i, none⟩)) rfl (by kernel_rfl) (by kernel_rfl) (by kernel_rfl) (fun _ _ _ h => h) (Or.inl ⟨by kernel_rfl, by intro wq hSw; (try dsimp only at hSw); clear hHeld; go_simp⟩) hHeld ?_
          simp only [Act.put, List.setIfInBounds_toArray, List.set_cons_zero, List.set_cons_succ]
          refine wpAnyH_take (i := 11) (oi := { dst := some 32, op := Go.Op.load 9 (Go.Operand.tmp 31), type := 9, pos := "crierref5.go:153", after := #[{ on := 10, ground := Go.Ground.data }, { on := 2, ground := Go.Ground.guard }], guard := some (2, true) }) (v := .string x) rfl (by kernel_rfl) (by kernel_rfl) (by kernel_rfl) (fun _ _ _ h => h) (Or.inl ⟨by kernel_rfl, by intro wq hSw; (try dsimp only at hSw); clear hHeld; go_simp⟩) hHeld ?_
          simp only [Act.put, List.setIfInBounds_toArray, List.set_cons_zero, List.set_cons_succ]
          refine wpAnyH_ready (rs := [12]) (by kernel_rfl) (by simp) ?_
          refine AllReadyH.cons (o := { dst := some 33, op := Go.Op.call { callee := Go.Callee.value (Go.Operand.func 54), args := #[Go.Operand.tmp 28, Go.Operand.tmp 32], argTypes := #[9, 9] }, type := 3, pos := "crierref5.go:153", after := #[{ on := 7, ground := Go.Ground.data }, { on := 11, ground := Go.Ground.data }, { on := 2, ground := Go.Ground.chain }, { on := 2, ground := Go.Ground.guard }], guard := some (2, true) }) (by rfl) (fun K hK => ?_) AllReadyH.nil
          go_simp
          go_wp2_with (go_at_call 54; refine (HCC.out).mono ?_; rintro e w4 ⟨rfl, hb4⟩)
          have hO4 : w4.ownsRow w.heap.size 9 1 (.slice (some ⟨g, 0, none⟩) (i + 1) cp) (i + 1) (gap S (j + 1) z) := own_keep HO3.out (fun k q => hb4.block k (HO3.out.lt k q).2)
          have hb5 : Below w.heap.size w w4 := HB3.out.trans (hb4.mono HB3.out.size)
          have x1 : w4.cell? ⟨g, j, none⟩ = some (.string y) := by rw [hO4.cellAt j (by omega), gap_at HK.out.1, HK.out.2]
          have x2 := HC.out _ hb5
          have HO4 := hidi hO4
          have HB4 := hidi hb5
          clear hO4 hb5 hb4 HO3 HB3 HCC
          refine hK.out _ _ ⟨x1, x2⟩ (fun hHeld => ?_)
          clear hK K
          (try simp only [Act.put, List.setIfInBounds_toArray, List.set_cons_zero, List.set_cons_succ])
          obtain ⟨cc, hcc⟩ : ∃ cc, cmpL (unB y) (unB x) = cc := ⟨_, rfl⟩
          have HCV : Hid (cmpB y x = cc) := hcc
          rw [hcc]
          clear hcc
          by_cases hc : 0 < cc
          · have hc' : (decide (0 < cc)) = true := decide_eq_true hc
            refine wpAnyH_take (i := 13) (oi := { dst := some 34, op := Go.Op.binOp Go.BinOp.gtr 3 (Go.Operand.tmp 33) (Go.Operand.const (Go.Value.int Go.IntKind.i64 0)) 3, type := 4, pos := "crierref5.go:153", after := #[{ on := 12, ground := Go.Ground.data }, { on := 2, ground := Go.Ground.guard }], guard := some (2, true) }) (v := .bool true) rfl (by kernel_rfl) (by kernel_rfl) (by kernel_rfl) (fun _ _ _ h => h) (Or.inl ⟨by kernel_rfl, by intro wq hSw; (try dsimp only at hSw); clear hHeld; go_simp⟩) hHeld ?_
            simp only [Act.put, List.setIfInBounds_toArray, List.set_cons_zero, List.set_cons_succ]
            refine wpAnyH_take (i := 14) (oi := { dst := some 35, op := Go.Op.pick (Go.Operand.tmp 23) (Go.Operand.tmp 34) (Go.Operand.const (Go.Value.bool false)), type := 4, pos := "crierref5.go:153", after := #[{ on := 2, ground := Go.Ground.data }, { on := 13, ground := Go.Ground.data }], guard := none }) (v := .bool true) rfl (by kernel_rfl) (by kernel_rfl) (by kernel_rfl) (fun _ _ _ h => h) (Or.inl ⟨by kernel_rfl, by intro wq hSw; (try dsimp only at hSw); clear hHeld; go_simp⟩) hHeld ?_
            simp only [Act.put, List.setIfInBounds_toArray, List.set_cons_zero, List.set_cons_succ]
            refine wpAnyH_done (by kernel_rfl) ?_ _
            clear hHeld
            have cg : w4.cell? ⟨g, j + 1, none⟩ = some (.string z) := (HO4.out.cellAt (j + 1) (by omega)).trans (gap_here HK.out.1 z)
            have fg := HO4.out.frozenAt (j + 1)
            have hki : ((j + 1 : Nat) : Int) < ((i + 1 : Nat) : Int) := by omega
            have hk0 : (0 : Int) ≤ ((j + 1 : Nat) : Int) := by omega
            have HZ : Hid (∃ z, (w4.setCell ⟨g, j + 1, none⟩ (.string y)).ownsRow w.heap.size 9 1 (.slice (some ⟨g, 0, none⟩) (i + 1) cp) (i + 1) (gap S j z)) := ⟨y, by have h1 := (HO4.out.stored (j + 1) (.string y)).1; rw [gap_set HK.out.1] at h1; have h2 := gap_down HK.out.1 x; rw [HK.out.2] at h2; rw [← h2]; exact h1⟩
            have HB5 : Hid (Below w.heap.size w (w4.setCell ⟨g, j + 1, none⟩ (.string y))) := HB4.out.setCell hgB _
            have HP5 : Hid (place S x i = place S x j) := by show _ = _; rw [HP.out, place_pos HK.out.1 (by rw [HK.out.2, HCV.out]; exact hc)]
            clear HO4 HB4 HP HCV
            go_wp2_with fail
            go_roundg j
            case measure => omega
            case rel => exact ⟨by omega, by first | rfl | simp, HZ, HB5, HP5⟩
          · have hc' : (decide (0 < cc)) = false := decide_eq_false hc
            refine wpAnyH_take (i := 13) (oi := { dst := some 34, op := Go.Op.binOp Go.BinOp.gtr 3 (Go.Operand.tmp 33) (Go.Operand.const (Go.Value.int Go.IntKind.i64 0)) 3, type := 4, pos := "crierref5.go:153", after := #[{ on := 12, ground := Go.Ground.data }, { on := 2, ground := Go.Ground.guard }], guard := some (2, true) }) (v := .bool false) rfl (by kernel_rfl) (by kernel_rfl) (by kernel_rfl) (fun _ _ _ h => h) (Or.inl ⟨by kernel_rfl, by intro wq hSw; (try dsimp only at hSw); clear hHeld; go_simp⟩) hHeld ?_
            simp only [Act.put, List.setIfInBounds_toArray, List.set_cons_zero, List.set_cons_succ]
            refine wpAnyH_take (i := 14) (oi := { dst := some 35, op := Go.Op.pick (Go.Operand.tmp 23) (Go.Operand.tmp 34) (Go.Operand.const (Go.Value.bool false)), type := 4, pos := "crierref5.go:153", after := #[{ on := 2, ground := Go.Ground.data }, { on := 13, ground := Go.Ground.data }], guard := none }) (v := .bool false) rfl (by kernel_rfl) (by kernel_rfl) (by kernel_rfl) (fun _ _ _ h => h) (Or.inl ⟨by kernel_rfl, by intro wq hSw; (try dsimp only at hSw); clear hHeld; go_simp⟩) hHeld ?_
            simp only [Act.put, List.setIfInBounds_toArray, List.set_cons_zero, List.set_cons_succ]
            refine wpAnyH_done (by kernel_rfl) ?_ _
            clear hHeld
            have cg : w4.cell? ⟨g, j + 1, none⟩ = some (.string z) := (HO4.out.cellAt (j + 1) (by omega)).trans (gap_here HK.out.1 z)
            have fg := HO4.out.frozenAt (j + 1)
            have hki : ((j + 1 : Nat) : Int) < ((i + 1 : Nat) : Int) := by omega
            have hk0 : (0 : Int) ≤ ((j + 1 : Nat) : Int) := by omega
            have HZ : Hid ((w4.setCell ⟨g, j + 1, none⟩ (.string x)).ownsRow w.heap.size 9 1 (.slice (some ⟨g, 0, none⟩) (i + 1) cp) (i + 1) ((isort (xs.take (i + 1))).map Value.string)) := by
              have h1 := (HO4.out.stored (j + 1) (.string x)).1
              rw [gap_set HK.out.1] at h1
              have h2 := HP.out
              have h3 := HS.out
              rw [h3.2.1, ins, h3.2.2.2, h2, place_neg HK.out.1 (by rw [HK.out.2, HCV.out]; exact hc)]
              exact h1
            have HB5 : Hid (Below w.heap.size w (w4.setCell ⟨g, j + 1, none⟩ (.string x))) := HB4.out.setCell hgB _
            clear HO4 HB4 HP HCV
            go_wp2_with fail
            go_roundg gt
            case measure => omega
            case rel => exact ⟨i + 1, by omega, by simp, HZ, HB5⟩
end Go.Proofs.YtdibmmagnkjapaaGreatDoor
namespace Go.Proofs.YtdibmmagnkjapaaGreatDoor
open Go Go.RowKit
set_option linter.unusedSimpArgs false
set_option linter.unusedVariables false

/-! ### What the document's Sorted answers: purely -/
theorem cmpB_flip (a b : ByteArray) : cmpB b a = - cmpB a b := cmpL_flip _ _
theorem cmpB_zero {a b : ByteArray} (h : cmpB a b = 0) : a = b := by
  have := (cmpL_zero _ _).1 h
  rw [← mk_un a, ← mk_un b, this]
theorem cmpB_trans {a b c : ByteArray} (h : cmpB a b ≤ 0) (k : cmpB b c ≤ 0) : cmpB a c ≤ 0 := cmpL_trans _ _ _ h k
/-- In order. -/
def Sd (l : List ByteArray) : Prop := l.Pairwise fun a b => cmpB a b ≤ 0
theorem ins_perm (S : List ByteArray) (x : ByteArray) : (ins S x).Perm (x :: S) := by
  unfold ins
  have h := List.perm_middle (a := x) (l₁ := S.take (place S x S.length)) (l₂ := S.drop (place S x S.length))
  rw [List.take_append_drop] at h
  exact h
theorem fold_perm : ∀ (l S : List ByteArray), (l.foldl ins S).Perm (l ++ S)
  | [], S => List.Perm.refl _
  | x :: r, S => (fold_perm r (ins S x)).trans (((ins_perm S x).append_left r).trans List.perm_middle)
theorem isort_perm (l : List ByteArray) : (isort l).Perm l := by
  have := fold_perm l []
  rw [List.append_nil] at this
  exact this
theorem place_le (S : List ByteArray) (x : ByteArray) : ∀ n, place S x n ≤ n
  | 0 => Nat.le_refl _
  | n + 1 => by
    unfold place
    split
    · exact Nat.le_succ_of_le (place_le S x n)
    · exact Nat.le_refl _
theorem place_above (S : List ByteArray) (x : ByteArray) : ∀ n j, place S x n ≤ j → j < n → 0 < cmpB (S.getD j x) x
  | 0, j, _, h => by omega
  | n + 1, j, h1, h2 => by
    unfold place at h1
    split at h1
    · rename_i hp
      by_cases e : j = n
      · exact e ▸ hp
      · exact place_above S x n j h1 (by omega)
    · omega
theorem place_under (S : List ByteArray) (x : ByteArray) : ∀ n, place S x n = 0 ∨ ¬ 0 < cmpB (S.getD (place S x n - 1) x) x
  | 0 => .inl rfl
  | n + 1 => by
    unfold place
    split
    · exact place_under S x n
    · rename_i hp
      exact .inr hp
theorem ins_sd {S : List ByteArray} (h : Sd S) (x : ByteArray) : Sd (ins S x) := by
  unfold Sd ins at *
  have hle := place_le S x S.length
  have hab := place_above S x S.length
  have hun := place_under S x S.length
  generalize place S x S.length = p at hle hab hun ⊢
  have h' := h
  rw [← List.take_append_drop p S, List.pairwise_append] at h'
  obtain ⟨h1, h2, h3⟩ := h'
  have low : ∀ a ∈ S.take p, cmpB a x ≤ 0 := fun a ha => by
    obtain ⟨i, hi, rfl⟩ := List.mem_iff_getElem.1 ha
    have hi' : i < p := by simp at hi; omega
    have hp : p - 1 < S.length := by omega
    rcases hun with q | q
    · omega
    · have q' : cmpB S[p - 1] x ≤ 0 := by
        have e : S.getD (p - 1) x = S[p - 1] := by simp [List.getD, hp]
        rw [e] at q
        omega
      rw [List.getElem_take]
      by_cases e : i = p - 1
      · subst e
        exact q'
      · exact cmpB_trans ((List.pairwise_iff_getElem.1 h) i (p - 1) (by omega) hp (by omega)) q'
  have high : ∀ b ∈ S.drop p, cmpB x b ≤ 0 := fun b hb => by
    obtain ⟨i, hi, rfl⟩ := List.mem_iff_getElem.1 hb
    have hi' : p + i < S.length := by simp at hi; omega
    have := hab (p + i) (by omega) hi'
    have e : S.getD (p + i) x = S[p + i] := by simp [List.getD, hi']
    rw [e] at this
    rw [List.getElem_drop, cmpB_flip]
    omega
  rw [List.pairwise_append]
  refine ⟨h1, List.pairwise_cons.2 ⟨high, h2⟩, fun a ha b hb => ?_⟩
  rcases List.mem_cons.1 hb with rfl | hb
  · exact low a ha
  · exact h3 a ha b hb
theorem fold_sd : ∀ (l S : List ByteArray), Sd S → Sd (l.foldl ins S)
  | [], S, h => h
  | x :: r, S, h => fold_sd r _ (ins_sd h x)
theorem isort_sd (l : List ByteArray) : Sd (isort l) := fold_sd l [] List.Pairwise.nil
/-- There is but one order. -/
theorem sd_one : ∀ (l m : List ByteArray), l.Perm m → Sd l → Sd m → l = m
  | [], m, h, _, _ => (List.nil_perm.1 h).symm
  | a :: l, [], h, _, _ => absurd h.length_eq (by simp)
  | a :: l, b :: m, h, h1, h2 => by
    have e : a = b := by
      have ha : a ∈ b :: m := h.mem_iff.1 (by simp)
      have hb : b ∈ a :: l := h.mem_iff.2 (by simp)
      rcases List.mem_cons.1 ha with q | q
      · exact q
      · rcases List.mem_cons.1 hb with q' | q'
        · exact q'.symm
        · have c1 := (List.pairwise_cons.1 h1).1 b q'
          have c2 := (List.pairwise_cons.1 h2).1 a q
          rw [cmpB_flip] at c2
          exact cmpB_zero (by omega)
    subst e
    rw [sd_one l m ((List.perm_cons a).1 h) (List.pairwise_cons.1 h1).2 (List.pairwise_cons.1 h2).2]
/-- So whatever is in order and of the same texts is what the document answers. -/
theorem isort_of {l m : List ByteArray} (h : m.Perm l) (hs : Sd m) : m = isort l := sd_one _ _ (h.trans (isort_perm l).symm) hs (isort_sd l)
end Go.Proofs.YtdibmmagnkjapaaGreatDoor
namespace Go.Proofs.YtdibmmagnkjapaaGreatDoor
open Go Go.RowKit
set_option linter.unusedSimpArgs false
set_option linter.unusedVariables false

/-! ### topic.Compare: it draws, and does nothing else to the world -/
def Dr (w w' : World) : Prop := ∃ q, w' = w.drewN q
theorem Dr.refl (w : World) : Dr w w := ⟨0, rfl⟩
theorem dr_drewN {w w' : World} (h : Dr w w') (n : Nat) : Dr w (w'.drewN n) := by
  obtain ⟨q, rfl⟩ := h
  exact ⟨q + n, by simp [World.drewN, Nat.add_assoc]⟩
set_option maxRecDepth 100000 in
set_option maxHeartbeats 1000000 in
theorem compare_le_dr (a b : ByteArray) (ha : a.size ≤ 1000000) (hb : b.size ≤ 1000000) (hm : ¬ b.size < a.size) (w : World) : Calls Tryz.prog 53 #[.string a, .string b] w fun e w' => e = .returned (.int .i64 (cmpL (unB a) (unB b))) ∧ Dr w w' := by
  have HA : Hid (a.size ≤ 1000000) := ha
  have HB : Hid (b.size ≤ 1000000) := hb
  obtain ⟨x, hx⟩ : ∃ x, x = cmpL (unB a) (unB b) := ⟨_, rfl⟩
  rw [← hx]
  have HX : Hid (x = cmpL (unB a) (unB b)) := hx
  have HM : Hid (a.size ≤ a.size ∧ a.size ≤ b.size ∧ a.size = min a.size b.size) := ⟨by omega, by omega, by omega⟩
  clear hx ha hb
  go_enter Tryz.func53, Tryz.ntmps53
  go_wp2_with fail
  clear hm
  go_loopg [11] a.size (fun g s11 wx => ∃ k : Nat, k ≤ a.size ∧ g = a.size - k ∧ s11 = .int .i64 k ∧ Hid (Dr w wx) ∧ Hid (∀ i, i < k → (unB a)[i]? = (unB b)[i]?))
  case atStart => exact ⟨0, Nat.zero_le _, rfl, rfl, Dr.refl _, fun i hi => absurd hi (Nat.not_lt_zero i)⟩
  case round =>
    obtain ⟨k, hk, rfl, rfl, B, HE⟩ := hrel
    by_cases hlt : k < a.size
    · have hlt' : (k : Int) < a.size := by omega
      have la : k < a.size := by have := HM.out; omega
      have lb : k < b.size := by have := HM.out; omega
      have la' : (k : Int) < a.size := by omega
      have lb' : (k : Int) < b.size := by omega
      have hw : IntKind.i64.wrap ((k : Int) + 1) = (k : Int) + 1 := by rw [IntKind.wrap_i64]; have := HA.out; omega
      obtain ⟨p, hp⟩ : ∃ p, a[k]'la = p := ⟨_, rfl⟩
      obtain ⟨q, hq⟩ : ∃ q, b[k]'lb = q := ⟨_, rfl⟩
      have HP : Hid ((unB a)[k]? = some p) := by show _ = _; rw [un_get a k la, hp]
      have HQ : Hid ((unB b)[k]? = some q) := by show _ = _; rw [un_get b k lb, hq]
      by_cases hpq : p = q
      · subst hpq
        have HE2 : Hid (∀ i, i < k + 1 → (unB a)[i]? = (unB b)[i]?) := fun i hi => by
          by_cases e : i = k
          · subst e; rw [HP.out, HQ.out]
          · exact HE.out i (by omega)
        have hne : ((p.toNat : Int) != (p.toNat : Int)) = false := by simp
        go_wp2
        go_quiet (fail)
        have hb1 : Dr w (wr.drewN nq) := dr_drewN B.out nq
        have B1 : Hid (Dr w (wr.drewN nq)) := hb1
        clear hb1
        go_wp2
        go_roundg (a.size - (k + 1))
        case measure => omega
        case rel => exact ⟨k + 1, by omega, by omega, by first | rfl | simp, B1, HE2⟩
      · have hne : ((p.toNat : Int) != (q.toNat : Int)) = true := by
          have : ¬ p.toNat = q.toNat := fun e => hpq (UInt8.toNat_inj.1 e)
          simp; omega
        have HR : Hid (x = sg (rk p) (rk q)) := by show _ = _; rw [HX.out]; exact cmpL_part _ _ k p q HE.out HP.out HQ.out hpq
        clear hpq
        go_wp2
        go_quiet (fail)
        obtain ⟨w1, hw1⟩ : ∃ w1, w1 = wr.drewN nq := ⟨_, rfl⟩
        have hb1 : Dr w (wr.drewN nq) := dr_drewN B.out nq
        rw [← hw1] at hb1 ⊢
        have B1 : Hid (Dr w w1) := hb1
        clear hw1 hb1 B
        go_wp2
        go_quiet (first | (go_at_call 103; exact Calls.quiet_of_same (rank_any _ _)) | (go_at_call 102; exact Calls.quiet_of_same (cmpInt_any _ _ _)))
        have hb2 : Dr w (w1.drewN nq) := dr_drewN B1.out nq
        have B2 : Hid (Dr w (w1.drewN nq)) := hb2
        clear hb2
        go_wp2
        go_ret
        exact ⟨by rw [HR.out]; rfl, B2.out⟩
    · obtain rfl : k = a.size := by omega
      have hlt' : ¬ (a.size : Int) < a.size := by omega
      have HR : Hid (x = sg a.size b.size) := by
        show _ = _
        have h1 := HM.out
        rw [HX.out, cmpL_len _ _ (fun i hi => HE.out i (by rw [un_size, un_size] at hi; omega)), un_size, un_size]
      go_wp2_with (go_at_call 102; refine (cmpInt_any _ _ _).mono ?_; rintro e w' ⟨rfl, hee⟩; obtain rfl := hee.symm; clear hee)
      go_ret
      exact ⟨by rw [HR.out]; rfl, B.out⟩
set_option maxRecDepth 100000 in
set_option maxHeartbeats 1000000 in
theorem compare_gt_dr (a b : ByteArray) (ha : a.size ≤ 1000000) (hb : b.size ≤ 1000000) (hm : b.size < a.size) (w : World) : Calls Tryz.prog 53 #[.string a, .string b] w fun e w' => e = .returned (.int .i64 (cmpL (unB a) (unB b))) ∧ Dr w w' := by
  have HA : Hid (a.size ≤ 1000000) := ha
  have HB : Hid (b.size ≤ 1000000) := hb
  obtain ⟨x, hx⟩ : ∃ x, x = cmpL (unB a) (unB b) := ⟨_, rfl⟩
  rw [← hx]
  have HX : Hid (x = cmpL (unB a) (unB b)) := hx
  have HM : Hid (b.size ≤ a.size ∧ b.size ≤ b.size ∧ b.size = min a.size b.size) := ⟨by omega, by omega, by omega⟩
  clear hx ha hb
  go_enter Tryz.func53, Tryz.ntmps53
  go_wp2_with fail
  clear hm
  go_loopg [11] b.size (fun g s11 wx => ∃ k : Nat, k ≤ b.size ∧ g = b.size - k ∧ s11 = .int .i64 k ∧ Hid (Dr w wx) ∧ Hid (∀ i, i < k → (unB a)[i]? = (unB b)[i]?))
  case atStart => exact ⟨0, Nat.zero_le _, rfl, rfl, Dr.refl _, fun i hi => absurd hi (Nat.not_lt_zero i)⟩
  case round =>
    obtain ⟨k, hk, rfl, rfl, B, HE⟩ := hrel
    by_cases hlt : k < b.size
    · have hlt' : (k : Int) < b.size := by omega
      have la : k < a.size := by have := HM.out; omega
      have lb : k < b.size := by have := HM.out; omega
      have la' : (k : Int) < a.size := by omega
      have lb' : (k : Int) < b.size := by omega
      have hw : IntKind.i64.wrap ((k : Int) + 1) = (k : Int) + 1 := by rw [IntKind.wrap_i64]; have := HA.out; omega
      obtain ⟨p, hp⟩ : ∃ p, a[k]'la = p := ⟨_, rfl⟩
      obtain ⟨q, hq⟩ : ∃ q, b[k]'lb = q := ⟨_, rfl⟩
      have HP : Hid ((unB a)[k]? = some p) := by show _ = _; rw [un_get a k la, hp]
      have HQ : Hid ((unB b)[k]? = some q) := by show _ = _; rw [un_get b k lb, hq]
      by_cases hpq : p = q
      · subst hpq
        have HE2 : Hid (∀ i, i < k + 1 → (unB a)[i]? = (unB b)[i]?) := fun i hi => by
          by_cases e : i = k
          · subst e; rw [HP.out, HQ.out]
          · exact HE.out i (by omega)
        have hne : ((p.toNat : Int) != (p.toNat : Int)) = false := by simp
        go_wp2
        go_quiet (fail)
        have hb1 : Dr w (wr.drewN nq) := dr_drewN B.out nq
        have B1 : Hid (Dr w (wr.drewN nq)) := hb1
        clear hb1
        go_wp2
        go_roundg (b.size - (k + 1))
        case measure => omega
        case rel => exact ⟨k + 1, by omega, by omega, by first | rfl | simp, B1, HE2⟩
      · have hne : ((p.toNat : Int) != (q.toNat : Int)) = true := by
          have : ¬ p.toNat = q.toNat := fun e => hpq (UInt8.toNat_inj.1 e)
          simp; omega
        have HR : Hid (x = sg (rk p) (rk q)) := by show _ = _; rw [HX.out]; exact cmpL_part _ _ k p q HE.out HP.out HQ.out hpq
        clear hpq
        go_wp2
        go_quiet (fail)
        obtain ⟨w1, hw1⟩ : ∃ w1, w1 = wr.drewN nq := ⟨_, rfl⟩
        have hb1 : Dr w (wr.drewN nq) := dr_drewN B.out nq
        rw [← hw1] at hb1 ⊢
        have B1 : Hid (Dr w w1) := hb1
        clear hw1 hb1 B
        go_wp2
        go_quiet (first | (go_at_call 103; exact Calls.quiet_of_same (rank_any _ _)) | (go_at_call 102; exact Calls.quiet_of_same (cmpInt_any _ _ _)))
        have hb2 : Dr w (w1.drewN nq) := dr_drewN B1.out nq
        have B2 : Hid (Dr w (w1.drewN nq)) := hb2
        clear hb2
        go_wp2
        go_ret
        exact ⟨by rw [HR.out]; rfl, B2.out⟩
    · obtain rfl : k = b.size := by omega
      have hlt' : ¬ (b.size : Int) < b.size := by omega
      have HR : Hid (x = sg a.size b.size) := by
        show _ = _
        have h1 := HM.out
        rw [HX.out, cmpL_len _ _ (fun i hi => HE.out i (by rw [un_size, un_size] at hi; omega)), un_size, un_size]
      go_wp2_with (go_at_call 102; refine (cmpInt_any _ _ _).mono ?_; rintro e w' ⟨rfl, hee⟩; obtain rfl := hee.symm; clear hee)
      go_ret
      exact ⟨by rw [HR.out]; rfl, B.out⟩

theorem compare_dr (a b : ByteArray) (ha : a.size ≤ 1000000) (hb : b.size ≤ 1000000) (w : World) : Calls Tryz.prog 53 #[.string a, .string b] w fun e w' => e = .returned (.int .i64 (cmpL (unB a) (unB b))) ∧ Dr w w' := by
  by_cases h : b.size < a.size
  · exact compare_gt_dr a b ha hb h w
  · exact compare_le_dr a b ha hb h w
end Go.Proofs.YtdibmmagnkjapaaGreatDoor
