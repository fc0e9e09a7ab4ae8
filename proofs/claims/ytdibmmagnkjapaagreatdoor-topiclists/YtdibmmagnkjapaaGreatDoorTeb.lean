import Derived.Test.YtdibmmagnkjapaaGreatDoorTea
import Derived.Lib.SlBytesRow
import Derived.Lib.AppendStr
namespace Go.Proofs.YtdibmmagnkjapaaGreatDoor
open Go Go.RowKit
set_option linter.unusedSimpArgs false
set_option linter.unusedVariables false

/-- Bytes as cells. -/
theorem mk_size (l : Bs) : (mkB l).size = l.length := by simp [mkB, ByteArray.size]
def jc (l : Bs) : List Value := l.map fun b => Value.int .u8 b.toNat
theorem jc_app (a b : Bs) : jc (a ++ b) = jc a ++ jc b := by simp [jc]
theorem join_snoc : ∀ (l : List Bs) (x : Bs), l ≠ [] → joinL (l ++ [x]) = joinL l ++ 47 :: x
  | [], x, h => absurd rfl h
  | [a], x, _ => by simp [joinL]
  | a :: b :: r, x, _ => by
    have := join_snoc (b :: r) x (by simp)
    simp only [List.cons_append, joinL] at this ⊢
    rw [this]
    simp
theorem take_snoc {α : Type} (l : List α) (i : Nat) (x : α) (h : l[i]? = some x) : l.take (i + 1) = l.take i ++ [x] := by
  obtain ⟨h1, h2⟩ := List.getElem?_eq_some_iff.1 h
  rw [List.take_succ_eq_append_getElem h1, h2]
theorem join_mono : ∀ (l m : List Bs), (joinL l).length ≤ (joinL (l ++ m)).length
  | [], m => by simp [joinL]
  | [a], [] => by simp
  | [a], b :: m => by simp only [List.cons_append, List.nil_append, joinL, List.length_append, List.length_cons]; omega
  | a :: b :: r, m => by
    have := join_mono (b :: r) m
    simp only [List.cons_append, joinL, List.length_append, List.length_cons] at this ⊢; omega
theorem bytes_own {w : World} {B g n cap : Nat} {s : ByteArray} (h : w.ownsRow B 5 1 (.slice (some ⟨g, 0, none⟩) n cap) n (jc (unB s))) : Lib.Bytes w g 0 s := by
  intro i hi
  have hi' : i < (unB s).length := by rw [un_size]; exact hi
  have hc := h.cells (g := g) rfl i (.int .u8 ((unB s)[i]).toNat) (by simp [jc, hi'])
  have e : ((⟨g, 0, none⟩ : Addr).add i) = ⟨g, 0 + i, none⟩ := by
    cases i with
    | zero => rfl
    | succ i => simp [Addr.add]
  rw [← e, hc]
  rfl
set_option maxRecDepth 100000 in
set_option maxHeartbeats 2000000 in
theorem rjoin_any (xs : List ByteArray) (v : Value) (w : World) (R : Row w v xs) (hl : (joinL (xs.map unB)).length ≤ 1000000) (hn : xs.length ≤ 1000000) : Calls Tryz.prog 20 #[v] w fun e w' => e = .returned (.string (mkB (joinL (xs.map unB)))) ∧ Below w.heap.size w w' := by
  obtain ⟨i0, hi, hz0, hz1, hz2⟩ : ∃ i0, Tryz.prog.info? 5 = some i0 ∧ i0.zero = some (.int .u8 0) ∧ i0.size = 1 ∧ i0.bytes = 1 := ⟨_, rfl, rfl, rfl, rfl⟩
  obtain ⟨a, n, cap, rfl, hnn, hc, hx⟩ := R
  have HC : Hid (∀ w1, Below w.heap.size w w1 → ∀ j x, xs[j]? = some x → ∃ g o, a = some ⟨g, o, none⟩ ∧ w1.cell? ⟨g, o + j, none⟩ = some (.string x)) := by
    intro w1 hb j x hj
    obtain ⟨g, o, h1, h2, h3⟩ := hx (by intro h; rw [h] at hj; simp at hj)
    exact ⟨g, o, h1, (hb.cell (p := ⟨g, o + j, none⟩) h2).trans (h3 j x hj)⟩
  obtain ⟨L, hL⟩ : ∃ L, xs.map unB = L := ⟨_, rfl⟩
  rw [hL] at hl ⊢
  have HL : Hid (L.length = n ∧ n ≤ 1000000 ∧ (joinL L).length ≤ 1000000 ∧ True ∧ n = xs.length) := ⟨by rw [← hL, hnn]; simp, by omega, hl, trivial, hnn⟩
  have HLX : Hid (∀ j x, xs[j]? = some x → L[j]? = some (unB x)) := fun j x h => by rw [← hL, List.getElem?_map, h]; rfl
  have B0 : Hid (Below w.heap.size w w) := Below.refl _ _
  have O0 : Hid (w.ownsRow w.heap.size 5 1 (.slice none 0 0) (joinL (L.take 0)).length (jc (joinL (L.take 0)))) := World.ownsRow_nil _ _ _ _
  obtain ⟨J, hJ⟩ : ∃ J, joinL L = J := ⟨_, rfl⟩
  have HJ : Hid (joinL L = J) := hJ
  rw [hJ]
  clear hx hnn hc hL hl hn hJ
  go_enter Tryz.func20, Tryz.ntmps20
  go_wp2_with fail
  go_loopg [3, 4] n (fun gk s3 s4 wx => ∃ i : Nat, i + gk = n ∧ s4 = .int .i64 i ∧ Hid (wx.ownsRow w.heap.size 5 1 s3 (joinL (L.take i)).length (jc (joinL (L.take i)))) ∧ Hid (Below w.heap.size w wx))
  case atStart => exact ⟨0, by omega, rfl, O0, B0⟩
  case round =>
    obtain ⟨i, hi2, rfl, HO, HB⟩ := hrel
    cases gk with
    | zero =>
      have hiz : ¬ (i : Int) < (n : Int) := by omega
      have hO := HO.out
      rw [List.take_of_length_le (by have := HL.out; omega)] at hO
      rw [HJ.out] at hO
      rcases hO.2 with ⟨h1, h0⟩ | ⟨g, cp, _, h1, _⟩
      · subst h1
        obtain rfl : J = [] := List.eq_nil_of_length_eq_zero h0
        have hcv : (convert 74 9 (.slice none 0 0)).run Tryz.prog wr = .ok (.string (mkB [])) wr := by
          rw [run_convert_bytes_nil wr 74 5 Tryz.underlying74 Tryz.underlying5 0 0 9 Tryz.underlying9]
          rfl
        clear hO HO h0
        go_wp2_with fail
        go_ret
        exact ⟨rfl, HB.out⟩
      · subst h1
        have hcv : (convert 74 9 (.slice (some ⟨g, 0, none⟩) J.length cp)).run Tryz.prog wr = .ok (.string (mkB J)) wr := by
          have hb := bytes_own (s := mkB J) (by rw [un_mk]; exact hO)
          have := Lib.run_convert_whole (P := Tryz.prog) wr 74 5 9 Tryz.underlying74 Tryz.underlying5 Tryz.underlying9 g 0 (mkB J) hb cp
          rw [mk_size] at this
          exact this
        clear hO HO
        go_wp2_with fail
        go_ret
        exact ⟨rfl, HB.out⟩
    | succ gk =>
      have hiz : (i : Int) < (n : Int) := by omega
      have hi0 : (0 : Int) ≤ (i : Int) := by omega
      have hwi : IntKind.i64.wrap ((i : Int) + 1) = (i : Int) + 1 := by rw [IntKind.wrap_i64]; have := HL.out; omega
      obtain ⟨x, hx⟩ : ∃ x, xs[i]? = some x := ⟨_, List.getElem?_eq_getElem (by have := HL.out; omega)⟩
      have HLi : Hid (L[i]? = some (unB x)) := HLX.out i x hx
      have HX : Hid (xs[i]? = some x) := hx
      clear hx
      have HTK : Hid ((joinL (L.take (i + 1))).length ≤ 1000000) := by
        have h1 := join_mono (L.take (i + 1)) (L.drop (i + 1))
        rw [List.take_append_drop] at h1
        have h2 := HL.out
        show _ ≤ _
        omega
      by_cases h0 : i = 0
      · subst h0
        have HT : Hid (joinL (L.take (0 + 1)) = unB x) := by
          show _ = _
          rw [take_snoc L 0 (unB x) HLi.out]
          simp [joinL]
        obtain ⟨g, o, rfl, hcell⟩ := HC.out wr HB.out 0 x HX.out
        rw [Nat.add_zero] at hcell
        have hsz : x.size ≤ 1000000 := by have := HTK.out; rw [HT.out, un_size] at this; exact this
        have HSZ : Hid (x.size ≤ 1000000) := hsz
        clear hsz
        have HOz : Hid (wr.ownsRow w.heap.size 5 1 u3 0 []) := by
          show World.ownsRow _ _ _ _ _ _ _
          have h9 := HO.out
          simpa [joinL, jc] using h9
        clear HO
        go_wp2_with (at_builtin; refine Lib.wpList_append_own_string _ rfl (.tmp 16) (.tmp 20) 74 9 rfl w.heap.size 5 i0 Tryz.underlying74 Tryz.underlying9 hi hz0 hz1 hz2 u3 0 [] rfl HOz.out x rfl (by have := HSZ.out; unfold maxLen; omega) (by have := HSZ.out; omega) (HB.out.size) ?_)
        intro v3 w3 hown3 hgrow3 hnil3
        have hb3 := HB.out.grown hgrow3 HB.out.size (fun q hq => (HOz.out.lt q hq).1)
        have HO3 : Hid (w3.ownsRow w.heap.size 5 1 v3 (joinL (L.take (0 + 1))).length (jc (joinL (L.take (0 + 1))))) := by
          show World.ownsRow _ _ _ _ _ _ _
          rw [HT.out, un_size]
          simpa [joinL, jc, Lib.strCells, unB] using hown3
        have HB3 : Hid (Below w.heap.size w w3) := hb3
        clear hown3 hgrow3 hnil3 hb3
        go_wp2_with fail
        go_roundg gk
        case measure => omega
        case rel => exact ⟨0 + 1, by omega, by first | rfl | simp, HO3, HB3⟩
      · have HT : Hid (joinL (L.take (i + 1)) = joinL (L.take i) ++ [47] ++ unB x) := by
          show _ = _
          rw [take_snoc L i (unB x) HLi.out, join_snoc _ _ (by intro e; have h9 := congrArg List.length e; rw [List.length_take] at h9; simp only [List.length_nil] at h9; have := HL.out; omega)]
          simp
        have hpos : (0 : Int) < (i : Int) := by omega
        obtain ⟨Q, hQ⟩ : ∃ Q, joinL (L.take i) = Q := ⟨_, rfl⟩
        rw [hQ] at HO HT
        have HSZ : Hid (Q.length + 1 + x.size ≤ 1000000) := by
          have := HTK.out
          rw [HT.out] at this
          simp [un_size] at this
          show _ ≤ _
          omega
        have HCW : Hid (∀ w1, Below w.heap.size w w1 → ∃ g o, a = some ⟨g, o, none⟩ ∧ w1.cell? ⟨g, o + i, none⟩ = some (.string x)) := fun w1 hb => HC.out w1 hb i x HX.out
        obtain ⟨g, o, hag, hcell⟩ := HC.out wr HB.out i x HX.out
        clear hcell hQ h0
        subst hag
        go_wp2_with (at_builtin; refine wpList_append_own _ rfl (.tmp 13) (.tmp 14) 74 rfl w.heap.size 5 i0 (.int .u8 0) 1 1 Tryz.underlying74 hi hz0 hz1 hz2 rfl (by decide) _ _ _ rfl (HO.out.alloc _) ⟨_, 0, none⟩ 1 1 [.int .u8 47] rfl rfl (cell_one_new _ _ _) (by intro u hu; simp at hu; subst hu; rfl) (by have := HSZ.out; unfold maxLen; omega) (by have := HSZ.out; omega) (by have := HB.out.size; simp; omega) ?_)
        intro v2 w2 hown2 hgrow2 hnil2
        have hb2 := (HB.out.alloc HB.out.size _).grown hgrow2 (by have := HB.out.size; simp; omega) (by intro q hq; exact (HO.out.lt _ hq).1)
        have HO2 : Hid (w2.ownsRow w.heap.size 5 1 v2 (Q.length + 1) (jc (Q ++ [47]))) := by
          show World.ownsRow _ _ _ _ _ _ _
          simpa [jc] using hown2
        have HB2 : Hid (Below w.heap.size w w2) := hb2
        clear hown2 hgrow2 hnil2 hb2
        obtain ⟨g', o', hag', hcell⟩ := HCW.out w2 HB2.out
        simp only [Option.some.injEq, Addr.mk.injEq] at hag'
        obtain ⟨rfl, rfl, -⟩ := hag'
        go_wp2_with (at_builtin; refine Lib.wpList_append_own_string _ rfl (.tmp 16) (.tmp 20) 74 9 rfl w.heap.size 5 i0 Tryz.underlying74 Tryz.underlying9 hi hz0 hz1 hz2 _ _ _ rfl HO2.out x rfl (by have := HSZ.out; unfold maxLen; omega) (by have := HSZ.out; omega) (HB2.out.size) ?_)
        intro v3 w3 hown3 hgrow3 hnil3
        have hb3 := HB2.out.grown hgrow3 HB2.out.size (fun q hq => (HO2.out.lt q hq).1)
        have HO3 : Hid (w3.ownsRow w.heap.size 5 1 v3 (joinL (L.take (i + 1))).length (jc (joinL (L.take (i + 1))))) := by
          show World.ownsRow _ _ _ _ _ _ _
          rw [HT.out]
          have e1 : (Q ++ [47] ++ unB x).length = Q.length + 1 + x.size := by simp [un_size]; omega
          rw [e1, jc_app]
          exact hown3
        have HB3 : Hid (Below w.heap.size w w3) := hb3
        clear hown3 hgrow3 hnil3 hb3
        go_wp2_with fail
        go_roundg gk
        case measure => omega
        case rel => exact ⟨i + 1, by omega, by first | rfl | simp, HO3, HB3⟩
end Go.Proofs.YtdibmmagnkjapaaGreatDoor

