import Derived.Test.YtglnldopnoafoaaGreatDoorAa
import Derived.Laws.AppendOwn
import Derived.Laws.OwnMore
import Derived.Deep.LoopGhost
import Derived.OwnWalk
namespace Go.Proofs.YtglnldopnoafoaaGreatDoor
open Go Go.RowKit
set_option linter.unusedSimpArgs false
set_option linter.unusedVariables false

/-- The levels from a place on, the first of which began earlier. -/
def lvs (s : ByteArray) : Nat → Nat → Nat → List ByteArray
  | 0, f, _ => [s.extract f s.size]
  | b + 1, f, i => if i < s.size then (if atB s i = 47 then s.extract f i :: lvs s b (i + 1) (i + 1) else lvs s b f (i + 1)) else [s.extract f s.size]
def levels (s : ByteArray) : List ByteArray := lvs s s.size 0 0
theorem lvs_end (s : ByteArray) (b f i : Nat) (h : ¬ i < s.size) : lvs s b f i = [s.extract f s.size] := by
  cases b with
  | zero => rfl
  | succ b => simp [lvs, h]
theorem lvs_cut (s : ByteArray) (b f i : Nat) (h : i < s.size) (hb : s.size ≤ i + b) (hc : atB s i = 47) : ∃ b', lvs s b f i = s.extract f i :: lvs s b' (i + 1) (i + 1) ∧ s.size ≤ i + 1 + b' := by
  cases b with
  | zero => omega
  | succ b => exact ⟨b, by simp [lvs, h, hc], by omega⟩
theorem lvs_on (s : ByteArray) (b f i : Nat) (h : i < s.size) (hb : s.size ≤ i + b) (hc : ¬ atB s i = 47) : ∃ b', lvs s b f i = lvs s b' f (i + 1) ∧ s.size ≤ i + 1 + b' := by
  cases b with
  | zero => omega
  | succ b => exact ⟨b, by simp [lvs, h, hc], by omega⟩

set_option maxRecDepth 100000 in
set_option maxHeartbeats 2000000 in
theorem levels_any (s : ByteArray) (hs : s.size ≤ 1000000) (w : World) : Calls Tryz.prog 146 #[.string s] w fun e w' => ∃ v, e = .returned v ∧ w'.ownsRow w.heap.size 9 1 v (levels s).length ((levels s).map Value.string) ∧ Below w.heap.size w w' := by
  obtain ⟨i0, hi, hz0, hz1, hz2⟩ : ∃ i0, Tryz.prog.info? 9 = some i0 ∧ i0.zero = some (.string ⟨#[]⟩) ∧ i0.size = 1 ∧ i0.bytes = 16 := ⟨_, rfl, rfl, rfl, rfl⟩
  have HS : Hid (s.size ≤ 1000000) := hs
  have HT : Hid (levels s = [] ++ lvs s s.size 0 0) := rfl
  clear hs
  go_enter Tryz.func146, Tryz.ntmps146
  go_wp2_with fail
  go_loopg [3, 4, 5] s.size (fun g s3 s4 s5 wx => ∃ (f i b : Nat) (xs : List ByteArray), f ≤ i ∧ i ≤ s.size ∧ g = s.size - i ∧ s4 = .int .i64 f ∧ s5 = .int .i64 i ∧ Hid (wx.ownsRow w.heap.size 9 1 s3 xs.length (xs.map Value.string)) ∧ Hid (Below w.heap.size w wx) ∧ Hid (levels s = xs ++ lvs s b f i) ∧ Hid (s.size ≤ i + b) ∧ Hid (xs.length ≤ i))
  case atStart => exact ⟨0, 0, s.size, [], Nat.le_refl _, Nat.zero_le _, rfl, rfl, rfl, World.ownsRow_nil _ _ _ _, Below.refl _ _, HT, by show _ ≤ _; omega, Nat.le_refl _⟩
  case round =>
    obtain ⟨f, i, b, xs, hfi, hisz, rfl, rfl, rfl, HO, HB, HL, HF, HN⟩ := hrel
    by_cases hlt : i < s.size
    · have hlt' : (i : Int) < s.size := by omega
      have HA : Hid (atB s i = (s[i]'hlt).toNat) := atB_in s i hlt
      have hw : IntKind.i64.wrap ((i : Int) + 1) = (i : Int) + 1 := by rw [IntKind.wrap_i64]; have := HS.out; omega
      by_cases h47 : (s[i]'hlt).toNat = 47
      · have h47' : (((s[i]'hlt).toNat : Int) == 47) = true := by simp [h47]
        have HC : Hid (atB s i = 47) := by show _ = _; rw [HA.out]; exact h47
        have hfi' : (f : Int) ≤ i := by omega
        have hisz' : (i : Int) ≤ s.size := by omega
        clear h47
        go_wp2_with (at_builtin; refine wpList_append_own _ rfl (.tmp 16) (.tmp 21) 22 rfl w.heap.size 9 i0 (.string ⟨#[]⟩) 1 16 Tryz.underlying22 hi hz0 hz1 hz2 rfl (by decide) _ _ _ rfl (HO.out.alloc _) ⟨_, 0, none⟩ 1 1 [.string (s.extract f i)] rfl rfl ?d1 ?d2 ?d3 ?d4 ?d5 ?_)
        case d1 => exact cell_one_new _ _ _
        case d2 => intro u hu; simp at hu; subst hu; rfl
        case d3 => have := HN.out; have := HS.out; unfold maxLen; omega
        case d4 => have := HN.out; have := HS.out; omega
        case d5 => have := HB.out.size; simp; omega
        intro v2 w2 hown2 hgrow2 hnil2
        have hb2 := (HB.out.alloc HB.out.size _).grown hgrow2 (by have := HB.out.size; simp; omega) (by intro q hq; exact (HO.out.lt _ hq).1)
        obtain ⟨b', e1, e2⟩ := lvs_cut s b f i hlt HF.out HC.out
        have HO2 : Hid (w2.ownsRow w.heap.size 9 1 v2 (xs ++ [s.extract f i]).length ((xs ++ [s.extract f i]).map Value.string)) := by show World.ownsRow _ _ _ _ _ _ _; simpa using hown2
        have HB2 : Hid (Below w.heap.size w w2) := hb2
        have HL2 : Hid (levels s = (xs ++ [s.extract f i]) ++ lvs s b' (i + 1) (i + 1)) := by show _ = _; rw [HL.out, e1]; simp
        have HF2 : Hid (s.size ≤ i + 1 + b') := e2
        have HN2 : Hid ((xs ++ [s.extract f i]).length ≤ i + 1) := by show _ ≤ _; have := HN.out; simp; omega
        clear hown2 hgrow2 hnil2 hb2 e1 e2
        go_wp2
        go_roundg (s.size - (i + 1))
        case measure => omega
        case rel => exact ⟨i + 1, i + 1, b', xs ++ [s.extract f i], Nat.le_refl _, by omega, by omega, by first | rfl | simp, by first | rfl | simp, HO2, HB2, HL2, HF2, HN2⟩
      · have h47' : (((s[i]'hlt).toNat : Int) == 47) = false := by simp; omega
        obtain ⟨b', e1, e2⟩ := lvs_on s b f i hlt HF.out (by rw [HA.out]; exact h47)
        have HL2 : Hid (levels s = xs ++ lvs s b' f (i + 1)) := by show _ = _; rw [HL.out, e1]
        have HF2 : Hid (s.size ≤ i + 1 + b') := e2
        have HN2 : Hid (xs.length ≤ i + 1) := Nat.le_succ_of_le HN.out
        clear h47 e1 e2
        go_wp2
        go_roundg (s.size - (i + 1))
        case measure => omega
        case rel => exact ⟨f, i + 1, b', xs, by omega, by omega, by omega, rfl, by first | rfl | simp, HO, HB, HL2, HF2, HN2⟩
    · obtain rfl : i = s.size := by omega
      have hlt' : ¬ (s.size : Int) < s.size := by omega
      have hfi' : (f : Int) ≤ s.size := by omega
      have HE : Hid (levels s = xs ++ [s.extract f s.size]) := by show _ = _; rw [HL.out, lvs_end s b f _ hlt]
      go_wp2_with (at_builtin; refine wpList_append_own _ rfl (.tmp 25) (.tmp 29) 22 rfl w.heap.size 9 i0 (.string ⟨#[]⟩) 1 16 Tryz.underlying22 hi hz0 hz1 hz2 rfl (by decide) _ _ _ rfl (HO.out.alloc _) ⟨_, 0, none⟩ 1 1 [.string (s.extract f s.size)] rfl rfl (cell_one_new _ _ _) ?x2 ?x3 ?x4 ?x5 ?_)
      any_goals first | rfl | (intro u hu; simp at hu; subst hu; rfl; done) | (have := HN.out; have := HS.out; unfold maxLen; omega; done) | (have := HN.out; have := HS.out; omega; done) | (have := HB.out.size; simp; omega; done)
      intro v2 w2 hown2 hgrow2 hnil2
      have hb2 := (HB.out.alloc HB.out.size _).grown hgrow2 (by have := HB.out.size; simp; omega) (by intro q hq; exact (HO.out.lt _ hq).1)
      have HO2 : Hid (w2.ownsRow w.heap.size 9 1 v2 (levels s).length ((levels s).map Value.string)) := by show World.ownsRow _ _ _ _ _ _ _; rw [HE.out]; simpa using hown2
      have HB2 : Hid (Below w.heap.size w w2) := hb2
      clear hown2 hgrow2 hnil2 hb2
      go_wp2
      go_ret
      exact ⟨v2, rfl, HO2.out, HB2.out⟩
end Go.Proofs.YtglnldopnoafoaaGreatDoor

namespace Go.Proofs.YtglnldopnoafoaaGreatDoor
open Go
set_option linter.unusedSimpArgs false
set_option linter.unusedVariables false

abbrev Bs := List UInt8
/-- A text's levels, xa lists. -/
def split : Bs → List Bs
  | [] => [[]]
  | c :: r => if c = 47 then [] :: split r else
    match split r with
    | [] => [[c]]
    | h :: t => (c :: h) :: t
/-- The text of levels. -/
def joinL : List Bs → Bs
  | [] => []
  | [x] => x
  | x :: y :: r => x ++ 47 :: joinL (y :: r)

theorem split_ne (l : Bs) : split l ≠ [] := by
  cases l with
  | nil => simp [split]
  | cons c r =>
    unfold split
    split
    · simp
    · split <;> simp
theorem split_some (l : Bs) : ∃ h t, split l = h :: t := by
  cases h : split l with
  | nil => exact absurd h (split_ne l)
  | cons a t => exact ⟨a, t, rfl⟩
theorem split_slash (r : Bs) : split (47 :: r) = [] :: split r := by simp [split]
theorem split_plain (c : UInt8) (r h : Bs) (t : List Bs) (hc : ¬ c = 47) (e : split r = h :: t) : split (c :: r) = (c :: h) :: t := by
  simp [split, hc, e]
theorem join_split (l : Bs) : joinL (split l) = l := by
  induction l with
  | nil => rfl
  | cons c r ih =>
    obtain ⟨h, t, e⟩ := split_some r
    by_cases hc : c = 47
    · subst hc
      rw [split_slash, e]
      simp only [joinL, List.nil_append]
      rw [← e, ih]
    · rw [split_plain c r h t hc e]
      rw [e] at ih
      cases t with
      | nil => simp only [joinL] at ih ⊢; rw [ih]
      | cons y u => simp only [joinL] at ih ⊢; rw [List.cons_append, ih]
theorem split_append (a c : Bs) : split (a ++ 47 :: c) = split a ++ split c := by
  induction a with
  | nil => rw [List.nil_append, split_slash]; rfl
  | cons x r ih =>
    rw [List.cons_append]
    by_cases hx : x = 47
    · subst hx; rw [split_slash, split_slash, ih]; rfl
    · obtain ⟨h, t, e⟩ := split_some r
      rw [split_plain x _ h (t ++ split c) hx (by rw [ih, e]; rfl), split_plain x r h t hx e]
      rfl
theorem split_one (l : Bs) (h : 47 ∉ l) : split l = [l] := by
  induction l with
  | nil => rfl
  | cons c r ih =>
    simp only [List.mem_cons, not_or] at h
    rw [split_plain c r r [] (fun e => h.1 e.symm) (ih h.2)]
theorem split_none (l : Bs) : ∀ x ∈ split l, 47 ∉ x := by
  induction l with
  | nil => simp [split]
  | cons c r ih =>
    obtain ⟨h, t, e⟩ := split_some r
    rw [e] at ih
    by_cases hc : c = 47
    · subst hc; rw [split_slash, e]
      intro x hx
      rcases List.mem_cons.1 hx with rfl | hx
      · simp
      · exact ih x hx
    · rw [split_plain c r h t hc e]
      intro x hx
      rcases List.mem_cons.1 hx with rfl | hx
      · simp only [List.mem_cons, not_or]
        exact ⟨fun e => hc e.symm, ih h (by simp)⟩
      · exact ih x (by simp [hx])
theorem split_join : ∀ (l : List Bs), l ≠ [] → (∀ x ∈ l, 47 ∉ x) → split (joinL l) = l
  | [], h, _ => absurd rfl h
  | [x], _, h => split_one x (h x (by simp))
  | x :: y :: r, _, h => by
    simp only [joinL]
    rw [split_append, split_one x (h x (by simp)), split_join (y :: r) (by simp) (fun z hz => h z (by simp at hz ⊢; exact .inr hz))]
    rfl
/-- A text out of a list of its bytes. -/
def mkB (l : Bs) : ByteArray := ⟨l.toArray⟩
def unB (s : ByteArray) : Bs := s.data.toList
theorem un_mk (l : Bs) : unB (mkB l) = l := by simp [unB, mkB]
theorem mk_un (s : ByteArray) : mkB (unB s) = s := by
  obtain ⟨⟨l⟩⟩ := s; rfl
theorem un_inj {a b : ByteArray} (h : unB a = unB b) : a = b := by rw [← mk_un a, ← mk_un b, h]
theorem un_size (s : ByteArray) : (unB s).length = s.size := by simp [unB]
theorem un_extract (s : ByteArray) (i j : Nat) : unB (s.extract i j) = ((unB s).take j).drop i := by
  show (s.extract i j).data.toList = _
  rw [Lib.extract_data]
  simp [unB, List.drop_take]
theorem atB_un (s : ByteArray) (i : Nat) : atB s i = ((unB s)[i]?.getD 0).toNat := atB_list s i

theorem lvs_split (s : ByteArray) : ∀ (b f i : Nat), f ≤ i → i ≤ s.size → s.size ≤ i + b →
    ∃ h t, split ((unB s).drop i) = h :: t ∧ (lvs s b f i).map unB = (((unB s).take i).drop f ++ h) :: t
  | 0, f, i, hf, hi, hb => by
    have e : i = s.size := by omega
    subst e
    refine ⟨[], [], ?_, ?_⟩
    · rw [List.drop_eq_nil_of_le (by rw [un_size]; exact Nat.le_refl _)]; rfl
    · simp only [lvs, List.map_cons, List.map_nil, un_extract, List.append_nil]
  | b + 1, f, i, hf, hi, hb => by
    by_cases hlt : i < s.size
    · have hl : i < (unB s).length := by rw [un_size]; exact hlt
      have hd : (unB s).drop i = (unB s)[i] :: (unB s).drop (i + 1) := List.drop_eq_getElem_cons hl
      have hat : atB s i = ((unB s)[i]).toNat := by rw [atB_un, List.getElem?_eq_getElem hl]; rfl
      have ht : (unB s).take (i + 1) = (unB s).take i ++ [(unB s)[i]] := (List.take_succ_eq_append_getElem hl)
      by_cases hc : atB s i = 47
      · have hc' : (unB s)[i] = 47 := by
          rw [hat] at hc
          exact UInt8.toNat_inj.1 hc
        obtain ⟨h, t, e1, e2⟩ := lvs_split s b (i + 1) (i + 1) (Nat.le_refl _) (by omega) (by omega)
        refine ⟨[], h :: t, ?_, ?_⟩
        · rw [hd, hc', split_slash, e1]
        · simp only [lvs, hlt, hc, if_true, List.map_cons]
          rw [e2, un_extract]
          have : ((unB s).take (i + 1)).drop (i + 1) = [] := List.drop_eq_nil_of_le (by simp; omega)
          rw [this]
          simp
      · have hc' : ¬ (unB s)[i] = 47 := fun h => hc (by rw [hat, h]; rfl)
        obtain ⟨h, t, e1, e2⟩ := lvs_split s b f (i + 1) (by omega) (by omega) (by omega)
        refine ⟨(unB s)[i] :: h, t, ?_, ?_⟩
        · rw [hd]; exact split_plain _ _ _ _ hc' e1
        · simp only [lvs, hlt, hc, if_true, if_false]
          rw [e2, ht, List.drop_append_of_le_length (by simp; omega)]
          simp
    · have e : i = s.size := by omega
      subst e
      refine ⟨[], [], ?_, ?_⟩
      · rw [List.drop_eq_nil_of_le (by rw [un_size]; exact Nat.le_refl _)]; rfl
      · rw [lvs_end s _ f _ hlt]
        simp only [List.map_cons, List.map_nil, un_extract, List.append_nil]
theorem levels_split (s : ByteArray) : (levels s).map unB = split (unB s) := by
  obtain ⟨h, t, e1, e2⟩ := lvs_split s s.size 0 0 (Nat.le_refl _) (Nat.zero_le _) (by omega)
  rw [levels, e2]
  simp at e1 ⊢
  exact e1.symm
theorem levels_mk (s : ByteArray) : levels s = (split (unB s)).map mkB := by
  rw [← levels_split, List.map_map]
  conv => lhs; rw [← List.map_id (levels s)]
  exact List.map_congr_left fun x _ => (mk_un x).symm

end Go.Proofs.YtglnldopnoafoaaGreatDoor

