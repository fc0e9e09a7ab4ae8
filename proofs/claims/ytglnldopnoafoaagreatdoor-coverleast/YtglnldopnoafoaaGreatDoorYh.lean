import Derived.Test.YtglnldopnoafoaaGreatDoorYb
import Derived.Lib.SlBytesRow
import Derived.Lib.AppendStr
import Derived.Lib.MinMax
namespace Go.Proofs.YtglnldopnoafoaaGreatDoor
open Go Go.RowKit
set_option linter.unusedSimpArgs false
set_option linter.unusedVariables false

/-- Bytes as cells. -/
def jc (l : Bs) : List Value := l.map fun b => Value.int .u8 b.toNat
theorem jc_app (a b : Bs) : jc (a ++ b) = jc a ++ jc b := by simp [jc]
theorem join_snoc : ∀ (l : List Bs) (x : Bs), l ≠ [] → joinL (l ++ [x]) = joinL l ++ 47 :: x
  | [], x, h => absurd rfl h
  | [a], x, _ => by simp [joinL]
  | a :: b :: r, x, _ => by
    have := join_snoc (b :: r) x (by simp)
    simp only [List.cons_append, joinL] at this ⊢
    rw [this]
    simp
theorem take_snoc {α : Type} (l : List α) (i : Nat) (x : α) (h : l[i]? = some x) : l.take (i + 1) = l.take i ++ [x] := by
  obtain ⟨h1, h2⟩ := List.getElem?_eq_some_iff.1 h
  rw [List.take_succ_eq_append_getElem h1, h2]
theorem join_mono : ∀ (l m : List Bs), (joinL l).length ≤ (joinL (l ++ m)).length
  | [], m => by simp [joinL]
  | [a], [] => by simp
  | [a], b :: m => by simp only [List.cons_append, List.nil_append, joinL, List.length_append, List.length_cons]; omega
  | a :: b :: r, m => by
    have := join_mono (b :: r) m
    simp only [List.cons_append, joinL, List.length_append, List.length_cons] at this ⊢; omega
theorem bytes_own {w : World} {B g n cap : Nat} {s : ByteArray} (h : w.ownsRow B 5 1 (.slice (some ⟨g, 0, none⟩) n cap) n (jc (unB s))) : Lib.Bytes w g 0 s := by
  intro i hi
  have hi' : i < (unB s).length := by rw [un_size]; exact hi
  have hc := h.cells (g := g) rfl i (.int .u8 ((unB s)[i]).toNat) (by simp [jc, hi'])
  have e : ((⟨g, 0, none⟩ : Addr).add i) = ⟨g, 0 + i, none⟩ := by
    cases i with
    | zero => rfl
    | succ i => simp [Addr.add]
  rw [← e, hc]
  rfl
set_option maxRecDepth 100000 in
set_option maxHeartbeats 2000000 in
theorem rjoin_any (xs : List ByteArray) (v : Value) (w : World) (R : Row w v xs) (hj : joinL (xs.map unB) ≠ []) (hl : (joinL (xs.map unB)).length ≤ 1000000) (hn : xs.length ≤ 1000000) : Calls Tryz.prog 156 #[v] w fun e w' => e = .returned (.string (mkB (joinL (xs.map unB)))) ∧ Below w.heap.size w w' := by
  obtain ⟨i0, hi, hz0, hz1, hz2⟩ : ∃ i0, Tryz.prog.info? 5 = some i0 ∧ i0.zero = some (.int .u8 0) ∧ i0.size = 1 ∧ i0.bytes = 1 := ⟨_, rfl, rfl, rfl, rfl⟩
  obtain ⟨a, n, cap, rfl, hnn, hc, hx⟩ := R
  have HC : Hid (∀ w1, Below w.heap.size w w1 → ∀ j x, xs[j]? = some x → ∃ g o, a = some ⟨g, o, none⟩ ∧ w1.cell? ⟨g, o + j, none⟩ = some (.string x)) := by
    intro w1 hb j x hj
    obtain ⟨g, o, h1, h2, h3⟩ := hx (by intro h; rw [h] at hj; simp at hj)
    exact ⟨g, o, h1, (hb.cell (p := ⟨g, o + j, none⟩) h2).trans (h3 j x hj)⟩
  obtain ⟨L, hL⟩ : ∃ L, xs.map unB = L := ⟨_, rfl⟩
  rw [hL] at hj hl ⊢
  have HL : Hid (L.length = n ∧ n ≤ 1000000 ∧ (joinL L).length ≤ 1000000 ∧ joinL L ≠ [] ∧ n = xs.length) := ⟨by rw [← hL, hnn]; simp, by omega, hl, hj, hnn⟩
  have HLX : Hid (∀ j x, xs[j]? = some x → L[j]? = some (unB x)) := fun j x h => by rw [← hL, List.getElem?_map, h]; rfl
  have B0 : Hid (Below w.heap.size w w) := Below.refl _ _
  have O0 : Hid (w.ownsRow w.heap.size 5 1 (.slice none 0 0) (joinL (L.take 0)).length (jc (joinL (L.take 0)))) := World.ownsRow_nil _ _ _ _
  obtain ⟨J, hJ⟩ : ∃ J, joinL L = J := ⟨_, rfl⟩
  have HJ : Hid (joinL L = J) := hJ
  rw [hJ]
  clear hx hnn hc hL hj hl hn hJ
  go_enter Tryz.func156, Tryz.ntmps156
  go_wp2_with fail
  go_loopg [3, 4] n (fun gk s3 s4 wx => ∃ i : Nat, i + gk = n ∧ s4 = .int .i64 i ∧ Hid (wx.ownsRow w.heap.size 5 1 s3 (joinL (L.take i)).length (jc (joinL (L.take i)))) ∧ Hid (Below w.heap.size w wx))
  case atStart => exact ⟨0, by omega, rfl, O0, B0⟩
  case round =>
    obtain ⟨i, hi2, rfl, HO, HB⟩ := hrel
    cases gk with
    | zero =>
      have hiz : ¬ (i : Int) < (n : Int) := by omega
      have hO := HO.out
      rw [List.take_of_length_le (by have := HL.out; omega)] at hO
      rw [HJ.out] at hO
      have hJl : 0 < J.length := by have := HL.out.2.2.2.1; rw [HJ.out] at this; exact List.length_pos_iff.2 this
      obtain ⟨g, cp, hv⟩ : ∃ g cp, u3 = .slice (some ⟨g, 0, none⟩) J.length cp := by
        rcases hO.2 with ⟨_, h0⟩ | ⟨g, cp, _, h1, _⟩
        · omega
        · exact ⟨g, cp, h1⟩
      subst hv
      have hcv : (convert 76 9 (.slice (some ⟨g, 0, none⟩) J.length cp)).run Tryz.prog wr = .ok (.string (mkB J)) wr := by
        have hb := bytes_own (s := mkB J) (by rw [un_mk]; exact hO)
        have := Lib.run_convert_whole (P := Tryz.prog) wr 76 5 9 Tryz.underlying76 Tryz.underlying5 Tryz.underlying9 g 0 (mkB J) hb cp
        rw [mk_size] at this
        exact this
      clear hO hJl HO
      go_wp2_with fail
      go_ret
      exact ⟨rfl, HB.out⟩
    | succ gk =>
      have hiz : (i : Int) < (n : Int) := by omega
      have hi0 : (0 : Int) ≤ (i : Int) := by omega
      have hwi : IntKind.i64.wrap ((i : Int) + 1) = (i : Int) + 1 := by rw [IntKind.wrap_i64]; have := HL.out; omega
      obtain ⟨x, hx⟩ : ∃ x, xs[i]? = some x := ⟨_, List.getElem?_eq_getElem (by have := HL.out; omega)⟩
      have HLi : Hid (L[i]? = some (unB x)) := HLX.out i x hx
      have HX : Hid (xs[i]? = some x) := hx
      clear hx
      have HTK : Hid ((joinL (L.take (i + 1))).length ≤ 1000000) := by
        have h1 := join_mono (L.take (i + 1)) (L.drop (i + 1))
        rw [List.take_append_drop] at h1
        have h2 := HL.out
        show _ ≤ _
        omega
      by_cases h0 : i = 0
      · subst h0
        have HT : Hid (joinL (L.take (0 + 1)) = unB x) := by
          show _ = _
          rw [take_snoc L 0 (unB x) HLi.out]
          simp [joinL]
        obtain ⟨g, o, rfl, hcell⟩ := HC.out wr HB.out 0 x HX.out
        rw [Nat.add_zero] at hcell
        have hsz : x.size ≤ 1000000 := by have := HTK.out; rw [HT.out, un_size] at this; exact this
        have HSZ : Hid (x.size ≤ 1000000) := hsz
        clear hsz
        have HOz : Hid (wr.ownsRow w.heap.size 5 1 u3 0 []) := by
          show World.ownsRow _ _ _ _ _ _ _
          have h9 := HO.out
          simpa [joinL, jc] using h9
        clear HO
        go_wp2_with (at_builtin; refine Lib.wpList_append_own_string _ rfl (.tmp 16) (.tmp 20) 76 9 rfl w.heap.size 5 i0 Tryz.underlying76 Tryz.underlying9 hi hz0 hz1 hz2 u3 0 [] rfl HOz.out x rfl (by have := HSZ.out; unfold maxLen; omega) (by have := HSZ.out; omega) (HB.out.size) ?_)
        intro v3 w3 hown3 hgrow3 hnil3
        have hb3 := HB.out.grown hgrow3 HB.out.size (fun q hq => (HOz.out.lt q hq).1)
        have HO3 : Hid (w3.ownsRow w.heap.size 5 1 v3 (joinL (L.take (0 + 1))).length (jc (joinL (L.take (0 + 1))))) := by
          show World.ownsRow _ _ _ _ _ _ _
          rw [HT.out, un_size]
          simpa [joinL, jc, Lib.strCells, unB] using hown3
        have HB3 : Hid (Below w.heap.size w w3) := hb3
        clear hown3 hgrow3 hnil3 hb3
        go_wp2_with fail
        go_roundg gk
        case measure => omega
        case rel => exact ⟨0 + 1, by omega, by first | rfl | simp, HO3, HB3⟩
      · have HT : Hid (joinL (L.take (i + 1)) = joinL (L.take i) ++ [47] ++ unB x) := by
          show _ = _
          rw [take_snoc L i (unB x) HLi.out, join_snoc _ _ (by intro e; have h9 := congrArg List.length e; rw [List.length_take] at h9; simp only [List.length_nil] at h9; have := HL.out; omega)]
          simp
        have hpos : (0 : Int) < (i : Int) := by omega
        obtain ⟨Q, hQ⟩ : ∃ Q, joinL (L.take i) = Q := ⟨_, rfl⟩
        rw [hQ] at HO HT
        have HSZ : Hid (Q.length + 1 + x.size ≤ 1000000) := by
          have := HTK.out
          rw [HT.out] at this
          simp [un_size] at this
          show _ ≤ _
          omega
        have HCW : Hid (∀ w1, Below w.heap.size w w1 → ∃ g o, a = some ⟨g, o, none⟩ ∧ w1.cell? ⟨g, o + i, none⟩ = some (.string x)) := fun w1 hb => HC.out w1 hb i x HX.out
        obtain ⟨g, o, hag, hcell⟩ := HC.out wr HB.out i x HX.out
        clear hcell hQ h0
        subst hag
        go_wp2_with (at_builtin; refine wpList_append_own _ rfl (.tmp 13) (.tmp 14) 76 rfl w.heap.size 5 i0 (.int .u8 0) 1 1 Tryz.underlying76 hi hz0 hz1 hz2 rfl (by decide) _ _ _ rfl (HO.out.alloc _) ⟨_, 0, none⟩ 1 1 [.int .u8 47] rfl rfl (cell_one_new _ _ _) (by intro u hu; simp at hu; subst hu; rfl) (by have := HSZ.out; unfold maxLen; omega) (by have := HSZ.out; omega) (by have := HB.out.size; simp; omega) ?_)
        intro v2 w2 hown2 hgrow2 hnil2
        have hb2 := (HB.out.alloc HB.out.size _).grown hgrow2 (by have := HB.out.size; simp; omega) (by intro q hq; exact (HO.out.lt _ hq).1)
        have HO2 : Hid (w2.ownsRow w.heap.size 5 1 v2 (Q.length + 1) (jc (Q ++ [47]))) := by
          show World.ownsRow _ _ _ _ _ _ _
          simpa [jc] using hown2
        have HB2 : Hid (Below w.heap.size w w2) := hb2
        clear hown2 hgrow2 hnil2 hb2
        obtain ⟨g', o', hag', hcell⟩ := HCW.out w2 HB2.out
        simp only [Option.some.injEq, Addr.mk.injEq] at hag'
        obtain ⟨rfl, rfl, -⟩ := hag'
        go_wp2_with (at_builtin; refine Lib.wpList_append_own_string _ rfl (.tmp 16) (.tmp 20) 76 9 rfl w.heap.size 5 i0 Tryz.underlying76 Tryz.underlying9 hi hz0 hz1 hz2 _ _ _ rfl HO2.out x rfl (by have := HSZ.out; unfold maxLen; omega) (by have := HSZ.out; omega) (HB2.out.size) ?_)
        intro v3 w3 hown3 hgrow3 hnil3
        have hb3 := HB2.out.grown hgrow3 HB2.out.size (fun q hq => (HO2.out.lt q hq).1)
        have HO3 : Hid (w3.ownsRow w.heap.size 5 1 v3 (joinL (L.take (i + 1))).length (jc (joinL (L.take (i + 1))))) := by
          show World.ownsRow _ _ _ _ _ _ _
          rw [HT.out]
          have e1 : (Q ++ [47] ++ unB x).length = Q.length + 1 + x.size := by simp [un_size]; omega
          rw [e1, jc_app]
          exact hown3
        have HB3 : Hid (Below w.heap.size w w3) := hb3
        clear hown3 hgrow3 hnil3 hb3
        go_wp2_with fail
        go_roundg gk
        case measure => omega
        case rel => exact ⟨i + 1, by omega, by first | rfl | simp, HO3, HB3⟩
end Go.Proofs.YtglnldopnoafoaaGreatDoor

namespace Go.Proofs.YtglnldopnoafoaaGreatDoor
open Go Go.RowKit
set_option linter.unusedSimpArgs false
set_option linter.unusedVariables false

theorem join_len : ∀ (l : List Bs), l ≠ [] → tot l = (joinL l).length + 1
  | [], h => absurd rfl h
  | [x], _ => by simp [joinL, tot]
  | x :: y :: r, _ => by
    have := join_len (y :: r) (by simp)
    simp only [joinL, tot, List.length_append, List.length_cons] at *; omega
theorem tot_snoc : ∀ (l : List Bs) (x : Bs), tot (l ++ [x]) = tot l + x.length + 1
  | [], x => by simp [tot]
  | a :: r, x => by simp only [List.cons_append, tot, tot_snoc r x]; omega
theorem tot_take : ∀ (l : List Bs) (i : Nat), tot (l.take i) ≤ tot l
  | [], i => by simp [tot]
  | a :: r, 0 => by simp [tot]
  | a :: r, i + 1 => by simp only [List.take_succ_cons, tot]; have := tot_take r i; omega
theorem len_tot : ∀ l : List Bs, l.length ≤ tot l
  | [] => by simp
  | a :: r => by simp only [tot, List.length_cons]; have := len_tot r; omega
set_option maxRecDepth 100000 in
set_option maxHeartbeats 2000000 in
theorem right_any (xs : List ByteArray) (v : Value) (w : World) (R : Row w v xs) (hl : tot (xs.map unB) ≤ 1000000) : Calls Tryz.prog 148 #[v] w fun e w' => (∃ s, e = .returned (.tuple #[.string s, .bool (fitB (xs.map unB))]) ∧ (fitB (xs.map unB) = true → s = mkB (joinL (xs.map unB)))) ∧ Below w.heap.size w w' := by
  have RR : Hid (Row w v xs) := R
  obtain ⟨a, n, cap, rfl, hnn, hc, hx⟩ := R
  have HC : Hid (∀ j x, xs[j]? = some x → ∃ g o, a = some ⟨g, o, none⟩ ∧ w.cell? ⟨g, o + j, none⟩ = some (.string x)) := by
    intro j x hj
    obtain ⟨g, o, h1, h2, h3⟩ := hx (by intro h; rw [h] at hj; simp at hj)
    exact ⟨g, o, h1, h3 j x hj⟩
  obtain ⟨L, hL⟩ : ∃ L, xs.map unB = L := ⟨_, rfl⟩
  have JJ : Hid (joinL L ≠ [] → Calls Tryz.prog 156 #[.slice a n cap] w fun e w' => e = .returned (.string (mkB (joinL L))) ∧ Below w.heap.size w w') := by
    intro hj
    have h1 := join_tot L
    have h2 := len_tot L
    rw [hL] at hl
    have := rjoin_any xs _ w RR.out (by rw [hL]; exact hj) (by rw [hL]; omega) (by have := congrArg List.length hL; simp at this; omega)
    rw [hL] at this
    exact this
  rw [hL] at hl ⊢
  have hlen : L.length = xs.length := by rw [← hL]; simp
  have HL : Hid (L.length = n ∧ tot L ≤ 1000000 ∧ n ≤ 1000000 ∧ n = xs.length) := ⟨by omega, hl, by have := len_tot L; omega, hnn⟩
  have HLX : Hid (∀ j x, xs[j]? = some x → L[j]? = some (unB x)) := fun j x h => by rw [← hL, List.getElem?_map, h]; rfl
  obtain ⟨ft, hft⟩ : ∃ ft, fitB L = ft := ⟨_, rfl⟩
  have HF : Hid (fitB L = ft) := hft
  rw [hft]
  have B0 : Hid (Below w.heap.size w w) := Below.refl _ _
  have hw0 : IntKind.i64.wrap ((n : Int) - 1) = (n : Int) - 1 := by rw [IntKind.wrap_i64]; have := HL.out; omega
  clear hx hnn hc hL hl hlen hft RR
  go_enter Tryz.func148, Tryz.ntmps148
  go_wp2_with fail
  go_loopg [4, 5] n (fun gk s4 s5 wx => ∃ i : Nat, i + gk = n ∧ s4 = .int .i64 ((n : Int) - 1 + (tot (L.take i) : Int) - (i : Int)) ∧ s5 = .int .i64 i ∧ w = wx)
  case atStart => exact ⟨0, by omega, by simp [tot], rfl, rfl⟩
  case round =>
    obtain ⟨i, hi2, rfl, rfl, rfl⟩ := hrel
    cases gk with
    | zero =>
      have hiz : ¬ (i : Int) < (n : Int) := by omega
      have ei : (n : Int) - 1 + (tot (L.take i) : Int) - (i : Int) = (tot L : Int) - 1 := by
        rw [List.take_of_length_le (by have := HL.out; omega)]; omega
      rw [ei]
      by_cases hnil : L = []
      · have h1 : tot L = 0 := by rw [hnil]; rfl
        have p1 : (tot L : Int) - 1 < 1 := by omega
        have HZ : Hid (ft = false) := by show _ = _; rw [← HF.out, hnil]; rfl
        clear h1 hnil
        go_wp2_with fail
        go_ret2
        rw [HZ.out]
        exact ⟨⟨_, rfl, fun h => by cases h⟩, B0.out⟩
      · have hj := join_len L hnil
        by_cases h1 : joinL L = []
        · have p1 : (tot L : Int) - 1 < 1 := by rw [hj, h1]; simp
          have HZ : Hid (ft = false) := by
            show _ = _
            rw [← HF.out]
            apply Bool.eq_false_iff.2
            intro h; exact ((fitB_iff L).1 h).1 h1
          clear h1 hnil hj
          go_wp2_with fail
          go_ret2
          rw [HZ.out]
          exact ⟨⟨_, rfl, fun h => by cases h⟩, B0.out⟩
        · have hpos : 0 < (joinL L).length := List.length_pos_iff.2 h1
          have p1 : ¬ (tot L : Int) - 1 < 1 := by omega
          by_cases h2 : 65535 < (joinL L).length
          · have p2 : (65535 : Int) < (tot L : Int) - 1 := by omega
            have HZ : Hid (ft = false) := by
              show _ = _
              rw [← HF.out]
              apply Bool.eq_false_iff.2
              intro h; have := ((fitB_iff L).1 h).2; omega
            clear h1 hnil hj hpos h2
            go_wp2_with fail
            go_ret2
            rw [HZ.out]
            exact ⟨⟨_, rfl, fun h => by cases h⟩, B0.out⟩
          · have p2 : ¬ (65535 : Int) < (tot L : Int) - 1 := by omega
            have HZ : Hid (ft = true) := by
              show _ = _
              rw [← HF.out, fitB_iff]; exact ⟨h1, by omega⟩
            have JJ2 := JJ.out h1
            have JJ3 : Hid (Calls Tryz.prog 156 #[.slice a n cap] w fun e w' => e = .returned (.string (mkB (joinL L))) ∧ Below w.heap.size w w') := JJ2
            clear h1 hnil hj hpos h2 JJ2
            go_wp2_with fail
            go_must (go_at_call 156)
            refine JJ3.out.mono ?_
            rintro e w1 ⟨rfl, hb⟩
            have B1 : Hid (Below w.heap.size w w1) := hb
            clear hb
            go_wp2_with fail
            go_ret2
            rw [HZ.out]
            exact ⟨⟨_, rfl, fun _ => rfl⟩, B1.out⟩
    | succ gk =>
      have hiz : (i : Int) < (n : Int) := by omega
      have hi0 : (0 : Int) ≤ (i : Int) := by omega
      have hwi : IntKind.i64.wrap ((i : Int) + 1) = (i : Int) + 1 := by rw [IntKind.wrap_i64]; have := HL.out; omega
      obtain ⟨x, hx⟩ : ∃ x, xs[i]? = some x := ⟨_, List.getElem?_eq_getElem (by have := HL.out; omega)⟩
      obtain ⟨g, o, rfl, hcell⟩ := HC.out i x hx
      have HT : Hid (tot (L.take (i + 1)) = tot (L.take i) + x.size + 1 ∧ tot (L.take (i + 1)) ≤ 1000000) := by
        have h1 : tot (L.take (i + 1)) = tot (L.take i) + x.size + 1 := by
          rw [take_snoc L i (unB x) (HLX.out i x hx), tot_snoc, un_size]
        have := tot_take L (i + 1)
        have := HL.out
        exact ⟨h1, by omega⟩
      obtain ⟨q, hq⟩ : ∃ q : Int, (n : Int) - 1 + (tot (L.take i) : Int) - (i : Int) = q := ⟨_, rfl⟩
      have HQ : Hid ((n : Int) - 1 + (tot (L.take i) : Int) - (i : Int) = q) := hq
      have hwq : IntKind.i64.wrap (q + (x.size : Int)) = q + (x.size : Int) := by
        rw [IntKind.wrap_i64]
        have h1 := HT.out
        have h2 := HL.out
        rw [← hq]
        omega
      rw [hq]
      clear hq hx
      go_wp2_with fail
      go_roundg gk
      case measure => omega
      case rel => exact ⟨i + 1, by omega, by first | (have h1 := HT.out; have h2 := HQ.out; congr 1; push_cast; omega) | (have h1 := HT.out; have h2 := HQ.out; simp; omega), by first | rfl | simp, rfl⟩
end Go.Proofs.YtglnldopnoafoaaGreatDoor

namespace Go.Proofs.YtglnldopnoafoaaGreatDoor
open Go Go.RowKit
set_option linter.unusedSimpArgs false
set_option linter.unusedVariables false

set_option maxRecDepth 100000 in
set_option maxHeartbeats 1000000 in
theorem alive_any (xs : List ByteArray) (v : Value) (b : Bool) (w : World) (R : Row w v xs) : Calls Tryz.prog 93 #[v, .string (if b then ⟨#[97]⟩ else ⟨#[]⟩)] w fun e w' => (∃ v', e = .returned v' ∧ Row w' v' ((aliveR (xs.map unB) b).map mkB)) ∧ Below w.heap.size w w' := by
  have RR : Hid (Row w v xs) := R
  have MB : Hid ((xs.map unB).map mkB = xs) := by
    show _ = _
    rw [List.map_map]
    conv => rhs; rw [← List.map_id xs]
    exact List.map_congr_left fun x _ => mk_un x
  have B0 : Hid (Below w.heap.size w w) := Below.refl _ _
  by_cases h1 : xs.length = 1
  · obtain ⟨x, hx⟩ : ∃ x, xs = [x] := by
      cases xs with
      | nil => simp at h1
      | cons a r =>
        simp at h1
        subst h1
        exact ⟨a, rfl⟩
    subst hx
    obtain ⟨g, o, n, cap, rfl, hn, hc, hg, c0, hk⟩ := Row.cons R
    simp at hn
    subst hn
    by_cases h2 : unB x = []
    · have q1 : (x.toList == []) = true := by rw [un_list, h2]; rfl
      have e0 : aliveR ([x].map unB) b = if b then [[98]] else [[97]] := by simp [aliveR, h2]
      rw [e0]
      have R1 : Hid (∀ c : UInt8, Row (w.alloc (.cells #[.string ⟨#[c]⟩] 9)) (.slice (some ⟨w.heap.size, 0, none⟩) 1 1) ([[c]].map mkB)) := fun c => row_lit w #[.string ⟨#[c]⟩] [⟨#[c]⟩] rfl
      have B1 : Hid (∀ c : UInt8, Below w.heap.size w (w.alloc (.cells #[.string ⟨#[c]⟩] 9))) := fun c => (Below.refl _ _).alloc (Nat.le_refl _) _
      clear R hk hg hc h1 h2 e0
      cases b with
      | true =>
        go_enter Tryz.func93, Tryz.ntmps93
        go_wp2_with fail
        go_ret
        exact ⟨⟨_, rfl, R1.out 98⟩, B1.out 98⟩
      | false =>
        go_enter Tryz.func93, Tryz.ntmps93
        go_wp2_with fail
        go_ret
        exact ⟨⟨_, rfl, R1.out 97⟩, B1.out 97⟩
    · have q1 : (x.toList == []) = false := by rw [un_list]; simp [h2]
      have e0 : aliveR ([x].map unB) b = [x].map unB := by simp [aliveR, h2]
      rw [e0, MB.out]
      obtain ⟨nt, hnt⟩ : ∃ nt : ByteArray, (if b then ⟨#[97]⟩ else ⟨#[]⟩) = nt := ⟨_, rfl⟩
      rw [hnt]
      clear R hk hg hc h1 h2 e0 hnt
      go_enter Tryz.func93, Tryz.ntmps93
      go_wp2_with fail
      go_ret
      exact ⟨⟨_, rfl, RR.out⟩, B0.out⟩
  · have e0 : aliveR (xs.map unB) b = xs.map unB := by
      unfold aliveR
      rw [if_neg]
      intro e
      apply h1
      have := congrArg List.length e
      simpa using this
    rw [e0, MB.out]
    obtain ⟨nt, hnt⟩ : ∃ nt : ByteArray, (if b then ⟨#[97]⟩ else ⟨#[]⟩) = nt := ⟨_, rfl⟩
    rw [hnt]
    obtain ⟨a, n, cap, rfl, hn, -⟩ := R
    have q0 : ((n : Int) == 1) = false := by rw [beq_eq_false_iff_ne]; omega
    clear hn h1 e0 hnt
    go_enter Tryz.func93, Tryz.ntmps93
    go_wp2_with fail
    go_ret
    exact ⟨⟨_, rfl, RR.out⟩, B0.out⟩
theorem rlev_row (f : ByteArray) (hz : f.size ≤ 1000000) (w : World) : Calls Tryz.prog 146 #[.string f] w fun e w' => ∃ v, e = .returned v ∧ Row w' v ((split (unB f)).map mkB) ∧ Below w.heap.size w w' := by
  have := rlevels_row f hz w
  rw [levels_mk] at this
  exact this
set_option maxRecDepth 100000 in
set_option maxHeartbeats 1000000 in
theorem open_any (f : ByteArray) (hf : rfc f = 0) (x : List Bs) (o : Bool) (h : Op f x o) (w : World) : Calls Tryz.prog 91 #[.string f] w fun e w' => (∃ v, e = .returned (.tuple #[v, .bool o]) ∧ Row w' v (x.map mkB)) ∧ Below w.heap.size w w' := by
  have hz := (rfc_zero hf).1
  have LV : Hid (Calls Tryz.prog 146 #[.string f] w fun e w' => ∃ v, e = .returned v ∧ Row w' v ((x ++ tl o).map mkB) ∧ Below w.heap.size w w') := by
    have := rlev_row f (by omega) w
    rw [h.sp] at this
    exact this
  have hlen : (x ++ tl o).length ≤ 65536 := by
    rw [← h.sp, split_count]
    have h2 : (unB f).count 47 ≤ (unB f).length := List.count_le_length
    rw [un_size] at h2
    omega
  have hpos : 0 < (x ++ tl o).length := by rw [← h.sp]; exact List.length_pos_iff.2 (split_ne _)
  have HN : Hid ((x ++ tl o).length ≤ 65536 ∧ 0 < (x ++ tl o).length) := ⟨hlen, hpos⟩
  have HNO : Hid (∀ a ∈ x, ¬ a = [35]) := h.no
  clear hz hlen hpos h
  go_enter Tryz.func91, Tryz.ntmps91
  go_wp2_with fail
  go_must (go_at_call 146)
  refine LV.out.mono ?_
  rintro e w1 ⟨v, rfl, hr, hb⟩
  have B1 : Hid (Below w.heap.size w w1) := hb
  have RV : Hid (Row w1 v ((x ++ tl o).map mkB)) := hr
  obtain ⟨a, n, cap, rfl, hn, hc, hx⟩ := hr
  simp only [List.length_map] at hn
  obtain ⟨g, og, rfl, hg, hk⟩ := hx (by intro e; have := congrArg List.length e; simp only [List.length_map, List.length_nil] at this; have := HN.out; omega)
  have hnp : 0 < n := by have := HN.out; omega
  have hwn : IntKind.i64.wrap ((n : Int) - 1) = ((n - 1 : Nat) : Int) := by rw [IntKind.wrap_i64]; have := HN.out; omega
  have p1 : (((n - 1 : Nat) : Int)) < (n : Int) := by omega
  have p2 : (0 : Int) ≤ ((n - 1 : Nat) : Int) := by omega
  have p3 : (((n - 1 : Nat) : Int)) ≤ (cap : Int) := by omega
  cases o with
  | true =>
    have hcell : w1.cell? ⟨g, og + (n - 1), none⟩ = some (.string ⟨#[35]⟩) := by
      refine hk (n - 1) ⟨#[35]⟩ ?_
      have e : n - 1 = x.length := by simp [tl] at hn; omega
      rw [e, List.map_append, List.getElem?_append_right (by simp)]
      simp [tl]
      rfl
    have RX : Hid (Row w1 (.slice (some ⟨g, og, none⟩) (n - 1) cap) (x.map mkB)) := by
      refine ⟨_, _, _, rfl, by simp [tl] at hn ⊢; omega, by omega, fun _ => ⟨g, og, rfl, hg, fun k y hy => hk k y ?_⟩⟩
      rw [List.map_append, List.getElem?_append_left (List.getElem?_eq_some_iff.1 hy).1]
      exact hy
    clear hk hx hg hn hb hnp hc RV
    go_wp2_with fail
    all_goals go_ret2
    all_goals exact ⟨⟨_, rfl, RX.out⟩, B1.out⟩
  | false =>
    have hxn : n = x.length := by simpa [tl] using hn
    obtain ⟨lst, hlst⟩ : ∃ c, x[n - 1]? = some c := ⟨_, List.getElem?_eq_getElem (by omega)⟩
    have hne := HNO.out lst (List.mem_of_getElem? hlst)
    have hcell : w1.cell? ⟨g, og + (n - 1), none⟩ = some (.string (mkB lst)) := by
      refine hk (n - 1) (mkB lst) ?_
      simp [tl, hlst]
    have q1 : ((mkB lst).toList == [35]) = false := by rw [un_list, un_mk]; simp [hne]
    have RX : Hid (Row w1 (.slice (some ⟨g, og, none⟩) n cap) (x.map mkB)) := by
      show Row _ _ _
      have := RV.out
      simpa [tl] using this
    clear hk hx hg hn hb hnp hc RV hlst hne hxn
    go_wp2_with fail
    go_ret2
    exact ⟨⟨_, rfl, RX.out⟩, B1.out⟩
end Go.Proofs.YtglnldopnoafoaaGreatDoor

namespace Go.Proofs.YtglnldopnoafoaaGreatDoor
open Go Go.RowKit
set_option linter.unusedSimpArgs false
set_option linter.unusedVariables false

def sv (l : List Bs) : List Value := (l.map mkB).map Value.string
theorem sv_app (a b : List Bs) : sv (a ++ b) = sv a ++ sv b := by simp [sv]
set_option maxRecDepth 100000 in
set_option maxHeartbeats 2000000 in
theorem fillR_any (xs : List ByteArray) (more : Nat) (v : Value) (w : World) (R : Row w v xs) (hn : xs.length ≤ 200000) (hm : more ≤ 200000) : Calls Tryz.prog 94 #[v, .int .i64 more] w fun e w' => ∃ v', e = .returned v' ∧ w'.ownsRow w.heap.size 9 1 v' (fillR (xs.map unB) more).length (sv (fillR (xs.map unB) more)) ∧ Below w.heap.size w w' := by
  obtain ⟨i0, hi, hz0, hz1, hz2⟩ : ∃ i0, Tryz.prog.info? 9 = some i0 ∧ i0.zero = some (.string ⟨#[]⟩) ∧ i0.size = 1 ∧ i0.bytes = 16 := ⟨_, rfl, rfl, rfl, rfl⟩
  obtain ⟨a, n, cap, rfl, hnn, hc, hx⟩ := R
  have HC : Hid (∀ w1, Below w.heap.size w w1 → ∀ j x, xs[j]? = some x → ∃ g o, a = some ⟨g, o, none⟩ ∧ w1.cell? ⟨g, o + j, none⟩ = some (.string x)) := by
    intro w1 hb j x hj
    obtain ⟨g, o, h1, h2, h3⟩ := hx (by intro h; rw [h] at hj; simp at hj)
    exact ⟨g, o, h1, (hb.cell (p := ⟨g, o + j, none⟩) h2).trans (h3 j x hj)⟩
  obtain ⟨L, hL⟩ : ∃ L, xs.map unB = L := ⟨_, rfl⟩
  rw [hL]
  have HL : Hid (L.length = n ∧ n ≤ 200000 ∧ more ≤ 200000 ∧ n = xs.length) := ⟨by rw [← hL, hnn]; simp, by omega, hm, hnn⟩
  have HLX : Hid (∀ j x, xs[j]? = some x → L[j]? = some (unB x)) := fun j x h => by rw [← hL, List.getElem?_map, h]; rfl
  obtain ⟨FR, hFR⟩ : ∃ FR, fillR L more = FR := ⟨_, rfl⟩
  have HFR : Hid (fillR L more = FR) := hFR
  rw [hFR]
  have B0 : Hid (Below w.heap.size w w) := Below.refl _ _
  have O0 : Hid (w.ownsRow w.heap.size 9 1 (.slice none 0 0) 0 (sv ((L.take 0).map fz))) := World.ownsRow_nil _ _ _ _
  clear hx hnn hc hL hn hm hFR
  go_enter Tryz.func94, Tryz.ntmps94
  go_wp2_with fail
  go_loopg [5, 6] n (fun gk s5 s6 wx => ∃ i : Nat, i + gk = n ∧ s6 = .int .i64 i ∧ Hid (wx.ownsRow w.heap.size 9 1 s5 i (sv ((L.take i).map fz))) ∧ Hid (Below w.heap.size w wx))
  case atStart => exact ⟨0, by omega, rfl, O0, B0⟩
  case round =>
    obtain ⟨i, hi2, rfl, HO, HB⟩ := hrel
    cases gk with
    | succ gk =>
      have hiz : (i : Int) < (n : Int) := by omega
      have hi0 : (0 : Int) ≤ (i : Int) := by omega
      have hwi : IntKind.i64.wrap ((i : Int) + 1) = (i : Int) + 1 := by rw [IntKind.wrap_i64]; have := HL.out; omega
      obtain ⟨x, hx⟩ : ∃ x, xs[i]? = some x := ⟨_, List.getElem?_eq_getElem (by have := HL.out; omega)⟩
      obtain ⟨g, o, rfl, hcell⟩ := HC.out wr HB.out i x hx
      have HT : Hid ((L.take (i + 1)).map fz = (L.take i).map fz ++ [fz (unB x)]) := by
        show _ = _
        rw [take_snoc L i (unB x) (HLX.out i x hx)]
        simp
      clear hx
      by_cases h43 : unB x = [43]
      · have q1 : (x.toList == [43]) = true := by rw [eq_one']; simp [h43]
        have HT2 : Hid ((L.take (i + 1)).map fz = (L.take i).map fz ++ [[]]) := by show _ = _; rw [HT.out]; simp [fz, h43]
        clear h43 HT
        go_wp2_with (at_builtin; refine wpList_append_own _ rfl (.tmp 18) (.tmp 19) 22 rfl w.heap.size 9 i0 (.string ⟨#[]⟩) 1 16 Tryz.underlying22 hi hz0 hz1 hz2 rfl (by decide) _ _ _ rfl (HO.out.alloc _) ⟨_, 0, none⟩ 1 1 [.string ⟨#[]⟩] rfl rfl (cell_one_new _ _ _) (by intro u hu; simp at hu; subst hu; rfl) (by have := HL.out; unfold maxLen; omega) (by have := HL.out; omega) (by have := HB.out.size; simp; omega) ?_)
        intro v2 w2 hown2 hgrow2 hnil2
        have hb2 := (HB.out.alloc HB.out.size _).grown hgrow2 (by have := HB.out.size; simp; omega) (by intro q hq; exact (HO.out.lt _ hq).1)
        have HO2 : Hid (w2.ownsRow w.heap.size 9 1 v2 (i + 1) (sv ((L.take (i + 1)).map fz))) := by
          show World.ownsRow _ _ _ _ _ _ _
          rw [HT2.out, sv_app, show sv (List.map fz (List.take i L)) = sv (List.take i (List.map fz L)) by rw [List.map_take]]
          exact hown2
        have HB2 : Hid (Below w.heap.size w w2) := hb2
        clear hown2 hgrow2 hnil2 hb2
        go_wp2_with fail
        go_roundg gk
        case measure => omega
        case rel => exact ⟨i + 1, by omega, by first | rfl | simp, HO2, HB2⟩
      · have q1 : (x.toList == [43]) = false := by rw [eq_one']; simp [h43]
        have HT2 : Hid ((L.take (i + 1)).map fz = (L.take i).map fz ++ [unB x]) := by show _ = _; rw [HT.out]; simp [fz, h43]
        clear h43 HT
        go_wp2_with (at_builtin; refine wpList_append_own _ rfl (.tmp 21) (.tmp 26) 22 rfl w.heap.size 9 i0 (.string ⟨#[]⟩) 1 16 Tryz.underlying22 hi hz0 hz1 hz2 rfl (by decide) _ _ _ rfl (HO.out.alloc _) ⟨_, 0, none⟩ 1 1 [.string x] rfl rfl (cell_one_new _ _ _) (by intro u hu; simp at hu; subst hu; rfl) (by have := HL.out; unfold maxLen; omega) (by have := HL.out; omega) (by have := HB.out.size; simp; omega) ?_)
        intro v2 w2 hown2 hgrow2 hnil2
        have hb2 := (HB.out.alloc HB.out.size _).grown hgrow2 (by have := HB.out.size; simp; omega) (by intro q hq; exact (HO.out.lt _ hq).1)
        have HO2 : Hid (w2.ownsRow w.heap.size 9 1 v2 (i + 1) (sv ((L.take (i + 1)).map fz))) := by
          show World.ownsRow _ _ _ _ _ _ _
          rw [HT2.out, sv_app, show sv [unB x] = [.string x] by simp [sv, mk_un], show sv (List.map fz (List.take i L)) = sv (List.take i (List.map fz L)) by rw [List.map_take]]
          exact hown2
        have HB2 : Hid (Below w.heap.size w w2) := hb2
        clear hown2 hgrow2 hnil2 hb2
        go_wp2_with fail
        go_roundg gk
        case measure => omega
        case rel => exact ⟨i + 1, by omega, by first | rfl | simp, HO2, HB2⟩
    | zero =>
      have hiz : ¬ (i : Int) < (n : Int) := by omega
      have HO1 : Hid (wr.ownsRow w.heap.size 9 1 u5 (n + 0) (sv (L.map fz ++ List.replicate 0 []))) := by
        show World.ownsRow _ _ _ _ _ _ _
        have h9 := HO.out
        rw [List.take_of_length_le (by have := HL.out; omega), show i = n by omega] at h9
        simpa using h9
      obtain ⟨v5, hv5⟩ : ∃ v5, v5 = u5 := ⟨_, rfl⟩
      rw [← hv5] at HO1 ⊢
      clear HO hv5 hi2
      go_wp2_with fail
      go_loopg [5] (more - n) (fun gk s5 wx => ∃ k : Nat, (k + gk = more - n) ∧ Hid (wx.ownsRow w.heap.size 9 1 s5 (n + k) (sv (L.map fz ++ List.replicate k []))) ∧ Hid (Below w.heap.size w wx))
      case atStart => exact ⟨0, by omega, HO1, HB⟩
      case round =>
        obtain ⟨k, hk, HO, HB⟩ := hrel
        obtain ⟨gv, cv, lv, hlv⟩ : ∃ (av : Option Addr) (cv lv : Nat), u5 = .slice av lv cv ∧ lv = n + k := by
          rcases HO.out.2 with ⟨h1, h2⟩ | ⟨g, cp, _, h1, _⟩
          · exact ⟨none, 0, 0, h1, by omega⟩
          · exact ⟨_, _, _, h1, rfl⟩
        obtain ⟨hv, hlv2⟩ := hlv
        subst hv
        subst hlv2
        cases gk with
        | zero =>
          have hz3 : ¬ ((n + k : Nat) : Int) < (more : Int) := by omega
          have HO2 : Hid (wr.ownsRow w.heap.size 9 1 (.slice gv (n + k) cv) FR.length (sv FR)) := by
            have h9 := HO.out
            have e : L.map fz ++ List.replicate k [] = FR := by
              rw [← HFR.out, fillR, show more - L.length = k by have := HL.out; omega]
            rw [e] at h9
            have e2 : FR.length = n + k := by rw [← e]; simp; exact HL.out.1
            show World.ownsRow _ _ _ _ _ _ _
            rw [e2]
            exact h9
          clear HO
          go_wp2_with fail
          go_ret
          exact ⟨_, rfl, HO2.out, HB.out⟩
        | succ gk =>
          have hz3 : ((n + k : Nat) : Int) < (more : Int) := by omega
          go_wp2_with (at_builtin; refine wpList_append_own _ rfl (.tmp 32) (.tmp 33) 22 rfl w.heap.size 9 i0 (.string ⟨#[]⟩) 1 16 Tryz.underlying22 hi hz0 hz1 hz2 rfl (by decide) _ _ _ rfl (HO.out.alloc _) ⟨_, 0, none⟩ 1 1 [.string ⟨#[]⟩] rfl rfl (cell_one_new _ _ _) (by intro u hu; simp at hu; subst hu; rfl) (by have := HL.out; unfold maxLen; omega) (by have := HL.out; omega) (by have := HB.out.size; simp; omega) ?_)
          intro v2 w2 hown2 hgrow2 hnil2
          have hb2 := (HB.out.alloc HB.out.size _).grown hgrow2 (by have := HB.out.size; simp; omega) (by intro q hq; exact (HO.out.lt _ hq).1)
          have HO2 : Hid (w2.ownsRow w.heap.size 9 1 v2 (n + (k + 1)) (sv (L.map fz ++ List.replicate (k + 1) []))) := by
            show World.ownsRow _ _ _ _ _ _ _
            rw [List.replicate_succ', ← List.append_assoc, sv_app]
            exact hown2
          have HB2 : Hid (Below w.heap.size w w2) := hb2
          clear hown2 hgrow2 hnil2 hb2
          go_wp2_with fail
          go_roundg gk
          case measure => omega
          case rel => exact ⟨k + 1, by omega, HO2, HB2⟩
theorem rows_sv {w : World} {B : Nat} {v : Value} {l : List Bs} (h : w.ownsRow B 9 1 v l.length (sv l)) : Row w v (l.map mkB) := by
  refine row_of (B := B) ?_
  simpa [sv] using h
set_option maxRecDepth 100000 in
set_option maxHeartbeats 1000000 in
theorem shows_ref (l : List Bs) (f g : ByteArray) (v : Value) (w : World) (R : Row w v (l.map mkB)) (hl : tot l ≤ 1000000) : Calls Tryz.prog 92 #[v, .string f, .string g] w fun e w' => (∃ s, e = .returned (.tuple #[.string s, .bool (shoB l f g)])) ∧ Below w.heap.size w w' := by
  have RI : Hid (Calls Tryz.prog 148 #[v] w fun e w' => (∃ s, e = .returned (.tuple #[.string s, .bool (fitB l)]) ∧ (fitB l = true → s = mkB (joinL l))) ∧ Below w.heap.size w w') := by
    have := right_any (l.map mkB) v w R (by rw [map_un_mk]; exact hl)
    rw [map_un_mk] at this
    exact this
  obtain ⟨ft, hft⟩ : ∃ b, fitB l = b := ⟨_, rfl⟩
  obtain ⟨b1, hb1⟩ : ∃ b, mch f (mkB (joinL l)) = b := ⟨_, rfl⟩
  obtain ⟨b2, hb2⟩ : ∃ b, mch g (mkB (joinL l)) = b := ⟨_, rfl⟩
  have e0 : shoB l f g = (ft && b1 && !b2) := by unfold shoB; rw [hft, hb1, hb2]
  rw [e0]
  rw [hft] at RI
  have HF : Hid (mch f (mkB (joinL l)) = b1) := hb1
  have HG : Hid (mch g (mkB (joinL l)) = b2) := hb2
  obtain ⟨a, n, cap, rfl, -⟩ := R
  clear e0 hft hb1 hb2 hl
  go_enter Tryz.func92, Tryz.ntmps92
  go_wp2_with fail
  go_must (go_at_call 148)
  refine RI.out.mono ?_
  rintro e w1 ⟨⟨s, rfl, hs⟩, hb⟩
  have B1 : Hid (Below w.heap.size w w1) := hb
  have HS : Hid (ft = true → s = mkB (joinL l)) := hs
  clear hb hs
  cases ft with
  | false =>
    go_wp2_with fail
    go_ret2
    exact ⟨⟨_, rfl⟩, B1.out⟩
  | true =>
    have hse : s = mkB (joinL l) := HS.out (by first | rfl | trivial)
    have HSE : Hid (s = mkB (joinL l)) := hse
    clear hse HS
    go_wp2_with fail
    go_must (go_at_call 149)
    refine (rmatch_any f s w1).mono ?_
    rintro e w2 ⟨rfl, hb⟩
    replace B1 : Hid (Below w.heap.size w w2) := B1.out.trans (hb.mono B1.out.size)
    clear hb
    rw [HSE.out, HF.out]
    cases b1 with
    | false =>
      go_wp2_with fail
      go_ret2
      exact ⟨⟨_, rfl⟩, B1.out⟩
    | true =>
      go_wp2_with fail
      go_must (go_at_call 149)
      refine (rmatch_any g _ w2).mono ?_
      rintro e w3 ⟨rfl, hb⟩
      replace B1 : Hid (Below w.heap.size w w3) := B1.out.trans (hb.mono B1.out.size)
      clear hb
      rw [HG.out]
      cases b2 <;> (go_wp2_with fail; go_ret2; exact ⟨⟨_, rfl⟩, B1.out⟩)
end Go.Proofs.YtglnldopnoafoaaGreatDoor

namespace Go.Proofs.YtglnldopnoafoaaGreatDoor
open Go Go.RowKit
set_option linter.unusedSimpArgs false
set_option linter.unusedVariables false

theorem tot_app : ∀ (a b : List Bs), tot (a ++ b) = tot a + tot b
  | [], b => by simp [tot]
  | x :: a, b => by simp only [List.cons_append, tot, tot_app a b]; omega
theorem tot_rep : ∀ n, tot (List.replicate n []) = n
  | 0 => rfl
  | n + 1 => by simp only [List.replicate_succ, tot, tot_rep n, List.length_nil]; omega
theorem tot_fz : ∀ l : List Bs, tot (l.map fz) ≤ tot l
  | [] => by simp
  | a :: r => by
    have h1 := tot_fz r
    have h2 := fz_len a
    simp only [List.map_cons, tot]; omega
theorem tot_fill (l : List Bs) (m : Nat) : tot (fillR l m) ≤ tot l + m := by
  unfold fillR
  rw [tot_app, tot_rep]
  have := tot_fz l
  omega
theorem tot_alive (l : List Bs) (b : Bool) : tot (aliveR l b) ≤ tot l + 2 := by
  unfold aliveR
  split
  · cases b <;> simp [tot]
  · omega
theorem tot_set : ∀ (l : List Bs) (i : Nat), tot (l.set i [97]) ≤ tot l + 1
  | [], i => by simp [tot]
  | a :: r, 0 => by simp only [List.set_cons_zero, tot, List.length_cons, List.length_nil]; omega
  | a :: r, i + 1 => by
    have := tot_set r i
    simp only [List.set_cons_succ, tot]; omega
theorem op_tot {f : ByteArray} {x : List Bs} {o : Bool} (hf : rfc f = 0) (h : Op f x o) : tot x ≤ 65536 ∧ x.length ≤ 65536 := by
  have h1 := join_len (split (unB f)) (split_ne _)
  rw [join_split, un_size] at h1
  have h2 := (rfc_zero hf).1
  rw [h.sp, tot_app] at h1
  have h3 := len_tot x
  exact ⟨by omega, by omega⟩
end Go.Proofs.YtglnldopnoafoaaGreatDoor

namespace Go.Proofs.YtglnldopnoafoaaGreatDoor
open Go Go.RowKit
set_option linter.unusedSimpArgs false
set_option linter.unusedVariables false

end Go.Proofs.YtglnldopnoafoaaGreatDoor

