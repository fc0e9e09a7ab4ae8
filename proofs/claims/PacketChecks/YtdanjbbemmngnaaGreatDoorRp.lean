import Derived.Test.YtdanjbbemmngnaaGreatDoorRn
import Derived.Lib.IndexBytes
namespace Go.Proofs.YtdanjbbemmngnaaGreatDoor
open Go Go.RowKit
set_option linter.unusedSimpArgs false
set_option linter.unusedVariables false

/-- The first sign is there if one is. -/
theorem fsF_iff (s : ByteArray) : ∀ (b k : Nat), s.size ≤ k + b → (fsF s b k ≠ 0 ↔ ∃ i, k ≤ i ∧ i < s.size ∧ (atB s i = 43 ∨ atB s i = 35))
  | 0, k, h => by
    simp only [fsF, ne_eq, not_true_eq_false, false_iff]
    rintro ⟨i, h1, h2, _⟩
    omega
  | b + 1, k, h => by
    by_cases hk : k < s.size
    · have hd := dec_sg (atB s k) (atB s (k + 1)) (atB s (k + 2)) (atB s (k + 3))
      rw [← decode_dec] at hd
      obtain ⟨n1, n4, h1, h2, h3, h4⟩ := hd
      simp only [fsF, hk, if_true]
      by_cases hr : (Utf8.decode s k).1 = 43 ∨ (Utf8.decode s k).1 = 35
      · rw [if_pos hr]
        constructor
        · intro _; exact ⟨k, Nat.le_refl _, hk, h1.1 hr⟩
        · intro _; omega
      · rw [if_neg hr, fsF_iff s b _ (by omega)]
        constructor
        · rintro ⟨i, g1, g2, g3⟩
          exact ⟨i, by omega, g2, g3⟩
        · rintro ⟨i, g1, g2, g3⟩
          refine ⟨i, ?_, g2, g3⟩
          apply Classical.byContradiction
          intro hn
          have hc : i = k ∨ i = k + 1 ∨ i = k + 2 ∨ i = k + 3 := by omega
          rcases hc with e | e | e | e
          · subst e; exact hr (h1.2 g3)
          · subst e; have := h2 (by omega); omega
          · subst e; have := h3 (by omega); omega
          · subst e; have := h4 (by omega); omega
    · simp only [fsF, hk, if_false, ne_eq, not_true_eq_false, false_iff]
      rintro ⟨i, g1, g2, _⟩
      omega
theorem fs_has (s : ByteArray) : decide (fs s ≠ 0) = hasS s := by
  refine Bool.eq_iff_iff.2 ?_
  rw [decide_eq_true_iff]
  unfold fs hasS
  rw [fsF_iff s s.size 0 (by omega), hsN_iff]
  constructor
  · rintro ⟨i, _, h1, h2⟩; exact ⟨i, h1, h2⟩
  · rintro ⟨i, h1, h2⟩; exact ⟨i, Nat.zero_le _, h1, h2⟩
theorem dec_one (c d e f : Nat) (h : c < 128) : dec c d e f = (c, 1) := by unfold dec; rw [if_pos h]
theorem fs_one (s : ByteArray) (h : s.size = 1) : fs s = 35 ↔ atB s 0 = 35 := by
  unfold fs
  rw [h]
  have hd := dec_sg (atB s 0) (atB s 1) (atB s 2) (atB s 3)
  have he := decode_dec s 0
  simp only [Nat.zero_add] at he
  rw [← he] at hd
  show (if 0 < s.size then (if (Utf8.decode s 0).1 = 43 ∨ (Utf8.decode s 0).1 = 35 then (Utf8.decode s 0).1 else fsF s 0 (0 + (Utf8.decode s 0).2)) else 0) = 35 ↔ _
  rw [if_pos (by omega)]
  constructor
  · intro hh
    split at hh
    · rename_i hr
      have h2 := hd.2.2.1.1 hr
      rcases h2 with h2 | h2
      · exfalso
        rw [he, dec_one _ _ _ _ (by omega)] at hh
        simp only at hh; omega
      · exact h2
    · simp [fsF] at hh
  · intro hh
    rw [he, dec_one _ _ _ _ (by omega), hh]
    simp
theorem hash_one (s : ByteArray) : isHash s = (decide (s.size = 1) && decide (atB s 0 = 35)) := by
  unfold isHash
  rw [hash_list, Lib.toList_data, atB_list]
  obtain ⟨⟨l⟩⟩ := s
  match l with
  | [] => rfl
  | [a] =>
    simp [ByteArray.size]
    refine Bool.eq_iff_iff.2 ?_
    simp
    constructor
    · intro e; subst e; rfl
    · intro e; exact UInt8.toNat_inj.1 e
  | a :: b :: r => simp [ByteArray.size]
/-- A level is bad for the program if it is for the document. -/
theorem lvBad_X (t : ByteArray) (more : Bool) : lvBad t more = lvX t more := by
  unfold lvBad lvX
  rw [fs_has, hash_one]
  by_cases h1 : t.size = 1
  · have h2 : ¬ 1 < t.size := by omega
    have hf := fs_one t h1
    have hh : atB t 0 = 35 → hasS t = true := fun e => (hsN_iff t t.size).2 ⟨0, by omega, .inr e⟩
    by_cases e : atB t 0 = 35
    · simp [h1, hh e, e, hf.2 e]
    · have : ¬ fs t = 35 := fun g => e (hf.1 g)
      simp [h1, e, this]
  · by_cases h2 : 1 < t.size
    · simp [h1, h2]
    · have h0 : t.size = 0 := by omega
      have : hasS t = false := by unfold hasS; rw [h0]; rfl
      simp [h1, h2, this]
end Go.Proofs.YtdanjbbemmngnaaGreatDoor
namespace Go.Proofs.YtdanjbbemmngnaaGreatDoor
open Go Go.RowKit
set_option linter.unusedSimpArgs false
set_option linter.unusedVariables false

def ofL (l : List UInt8) : ByteArray := ⟨l.toArray⟩
/-- A text cut at each slash. -/
def spl : List UInt8 → List (List UInt8)
  | [] => [[]]
  | a :: l => if a = 47 then [] :: spl l else match spl l with
    | [] => [[a]]
    | h :: t => (a :: h) :: t
theorem spl_some (l : List UInt8) : ∃ h t, spl l = h :: t := by
  cases l with
  | nil => exact ⟨_, _, rfl⟩
  | cons a l =>
    unfold spl
    split
    · exact ⟨_, _, rfl⟩
    · split <;> exact ⟨_, _, rfl⟩
theorem spl_slash (l : List UInt8) : spl (47 :: l) = [] :: spl l := by simp [spl]
theorem spl_other {a : UInt8} {l : List UInt8} (ha : ¬ a = 47) {h : List UInt8} {t : List (List UInt8)} (e : spl l = h :: t) : spl (a :: l) = (a :: h) :: t := by
  rw [spl, if_neg ha, e]
theorem ib_ge (l : List UInt8) (c : UInt8) : -1 ≤ Lib.indexByte l c := by rw [← Lib.index_one]; exact Lib.index_ge _ _
theorem ib_other {a : UInt8} (l : List UInt8) (ha : ¬ a = 47) : Lib.indexByte (a :: l) 47 = if Lib.indexByte l 47 = -1 then -1 else Lib.indexByte l 47 + 1 := by
  have hb : (a == 47) = false := by simpa using ha
  show (if (a == 47) = true then (0 : Int) else if (Lib.indexByte l 47 == -1) = true then -1 else Lib.indexByte l 47 + 1) = _
  rw [hb]
  simp
theorem ib_slash (l : List UInt8) : Lib.indexByte (47 :: l) 47 = 0 := by
  show (if ((47 : UInt8) == 47) = true then (0 : Int) else _) = 0
  rw [if_pos (by decide)]
theorem spl_none (l : List UInt8) (h : Lib.indexByte l 47 = -1) : spl l = [l] := by
  induction l with
  | nil => rfl
  | cons a l ih =>
    by_cases ha : a = 47
    · subst ha; rw [ib_slash] at h; omega
    · rw [ib_other l ha] at h
      have hg := ib_ge l 47
      refine spl_other ha (ih ?_)
      split at h
      · assumption
      · omega
theorem spl_at (l : List UInt8) : ∀ (i : Nat), Lib.indexByte l 47 = (i : Int) → spl l = l.take i :: spl (l.drop (i + 1)) := by
  induction l with
  | nil => intro i h; have : Lib.indexByte [] 47 = -1 := rfl; omega
  | cons a l ih =>
    intro i h
    by_cases ha : a = 47
    · subst ha
      rw [ib_slash] at h
      obtain rfl : i = 0 := by omega
      rw [spl_slash]; simp
    · rw [ib_other l ha] at h
      split at h
      · omega
      · obtain ⟨j, rfl⟩ : ∃ j, i = j + 1 := ⟨i - 1, by have := ib_ge l 47; omega⟩
        rw [spl_other ha (ih j (by omega))]
        simp

theorem misp_spl : ∀ (b : Nat) (t : List UInt8), t.length < b → mispF b (ofL t) = lvAny ((spl t).map ofL)
  | 0, t, h => by omega
  | b + 1, t, h => by
    unfold mispF
    have e : cutS (ofL t) = Lib.cut t [47] := rfl
    rw [e, lvBad_X]
    unfold Lib.cut
    rw [Lib.index_one]
    by_cases h0 : 0 ≤ Lib.indexByte t 47
    · obtain ⟨i, hi⟩ : ∃ i : Nat, Lib.indexByte t 47 = i := ⟨(Lib.indexByte t 47).toNat, by omega⟩
      rw [if_pos h0, hi, spl_at t i hi]
      simp only [Int.toNat_natCast, List.length_singleton, if_true]
      have hl : (t.drop (i + 1)).length < b := by
        have : t ≠ [] := fun e => by subst e; have : Lib.indexByte [] 47 = -1 := rfl; omega
        have : 0 < t.length := List.length_pos_iff.2 this
        simp; omega
      have ih := misp_spl b (t.drop (i + 1)) hl
      obtain ⟨hh, tt, hs⟩ := spl_some (t.drop (i + 1))
      have em : (List.map ofL (spl (t.drop (i + 1)))).isEmpty = false := by rw [hs]; rfl
      show (if lvX (ofL (t.take i)) true = true then true else mispF b (ofL (t.drop (i + 1)))) = (lvX (ofL (t.take i)) (!(List.map ofL (spl (t.drop (i + 1)))).isEmpty) || lvAny (List.map ofL (spl (t.drop (i + 1)))))
      rw [em, ih, Bool.not_false]
      cases lvX (ofL (t.take i)) true <;> rfl
    · rw [if_neg h0, spl_none t (by have := ib_ge t 47; omega)]
      show (if lvX (ofL t) false = true then true else if false = true then _ else false) = (lvX (ofL t) (!true) || false)
      cases hx : lvX (ofL t) false <;> simp [hx]

theorem extract_ofL (s : ByteArray) (f i : Nat) : s.extract f i = ofL ((s.data.toList.drop f).take (i - f)) := by
  have h : (s.extract f i).data = (ofL ((s.data.toList.drop f).take (i - f))).data := by
    rw [ByteArray.data_extract]
    apply Array.toList_inj.1
    rw [Array.toList_extract]
    simp [ofL, List.extract_eq_take_drop]
  exact ByteArray.ext h
theorem lvs_spl (s : ByteArray) : ∀ (b f i : Nat), f ≤ i → i ≤ s.size → s.size ≤ i + b → ∀ h t, spl (s.data.toList.drop i) = h :: t → lvs s b f i = ofL ((s.data.toList.drop f).take (i - f) ++ h) :: t.map ofL := by
  intro b
  induction b with
  | zero =>
    intro f i hf hi hb h t hs
    have hl : s.data.toList.length = s.size := by rw [Array.length_toList]; rfl
    obtain rfl : i = s.size := by omega
    rw [List.drop_eq_nil_of_le (by omega)] at hs
    simp only [spl, List.cons.injEq] at hs
    obtain ⟨rfl, rfl⟩ := hs
    simp [lvs, extract_ofL]
  | succ b ih =>
    intro f i hf hi hb h t hs
    have hl : s.data.toList.length = s.size := by rw [Array.length_toList]; rfl
    by_cases hlt : i < s.size
    · have hd : s.data.toList.drop i = s.data.toList[i]'(by omega) :: s.data.toList.drop (i + 1) := List.drop_eq_getElem_cons (by omega)
      obtain ⟨x, hx⟩ : ∃ x, x = s.data.toList[i]'(by omega) := ⟨_, rfl⟩
      have ha : atB s i = x.toNat := by rw [atB_list, List.getElem?_eq_getElem (by omega), hx]; rfl
      rw [hd, ← hx] at hs
      obtain ⟨h', t', hs'⟩ := spl_some (s.data.toList.drop (i + 1))
      unfold lvs
      rw [if_pos hlt]
      by_cases h47 : x = 47
      · have : atB s i = 47 := by rw [ha, h47]; rfl
        rw [if_pos this]
        rw [h47, spl_slash] at hs
        simp only [List.cons.injEq] at hs
        obtain ⟨rfl, rfl⟩ := hs
        rw [ih (i + 1) (i + 1) (Nat.le_refl _) (by omega) (by omega) h' t' hs', hs', extract_ofL]
        simp
      · have : ¬ atB s i = 47 := by rw [ha]; intro e; exact h47 (UInt8.toNat_inj.1 e)
        rw [if_neg this]
        rw [spl_other h47 hs'] at hs
        simp only [List.cons.injEq] at hs
        obtain ⟨rfl, rfl⟩ := hs
        rw [ih f (i + 1) (by omega) (by omega) (by omega) h' t' hs']
        congr 2
        have e1 : i + 1 - f = (i - f) + 1 := by omega
        rw [e1, List.take_add_one]
        have e2 : (s.data.toList.drop f)[i - f]? = some x := by
          rw [List.getElem?_drop, show f + (i - f) = i by omega, List.getElem?_eq_getElem (by omega), hx]
        rw [e2]
        simp
    · obtain rfl : i = s.size := by omega
      rw [List.drop_eq_nil_of_le (by omega)] at hs
      simp only [spl, List.cons.injEq] at hs
      obtain ⟨rfl, rfl⟩ := hs
      simp [lvs, extract_ofL]
theorem levels_spl (s : ByteArray) : levels s = (spl s.data.toList).map ofL := by
  obtain ⟨h, t, hs⟩ := spl_some s.data.toList
  unfold levels
  rw [lvs_spl s s.size 0 0 (Nat.le_refl _) (Nat.zero_le _) (by omega) h t (by simpa using hs), hs]
  simp
theorem misp_any (s : ByteArray) : misp s = lvAny (levels s) := by
  unfold misp
  rw [levels_spl]
  have e : s = ofL s.data.toList := by unfold ofL; simp
  have := misp_spl (s.size + 1) s.data.toList (by rw [Array.length_toList]; show s.size < s.size + 1; omega)
  rw [← this, ← e]
/-- The document's CheckFilter is the program's. -/
theorem rfc_fcode (s : ByteArray) : rfc s = fcode s := by
  unfold rfc fcode
  rw [misp_any]
end Go.Proofs.YtdanjbbemmngnaaGreatDoor
