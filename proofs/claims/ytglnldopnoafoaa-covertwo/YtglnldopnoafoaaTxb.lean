import Derived.Test.YtglnldopnoafoaaTxa
namespace Go.Proofs.Ytglnldopnoafoaa
set_option linter.unusedSimpArgs false
set_option linter.unusedVariables false

theorem app_data (a b : ByteArray) : (a ++ b).data.toList = a.data.toList ++ b.data.toList := by
  simp
theorem app_size (a b : ByteArray) : (a ++ b).size = a.size + b.size := by simp
theorem ext_size (s : ByteArray) (i j : Nat) (h : j ≤ s.size) : (s.extract i j).size = j - i := by
  rw [ByteArray.size_extract]
  omega
theorem size_len (s : ByteArray) : s.data.toList.length = s.size := by simp
theorem atB_left (a b : ByteArray) (k : Nat) (h : k < a.size) : atB (a ++ b) k = atB a k := by
  rw [atB_list, atB_list, app_data, List.getElem?_append_left (by rw [size_len]; exact h)]
theorem atB_right (a b : ByteArray) (k : Nat) : atB (a ++ b) (a.size + k) = atB b k := by
  rw [atB_list, atB_list, app_data, List.getElem?_append_right (by rw [size_len]; omega), size_len, Nat.add_sub_cancel_left]
theorem atB_ext (s : ByteArray) (i j k : Nat) (h : i + k < j) : atB (s.extract i j) k = atB s (i + k) := by
  rw [atB_list, atB_list, Lib.extract_data, List.getElem?_take_of_lt (by omega), List.getElem?_drop]

theorem good_join (a b : ByteArray) (hab : a.size + b.size ≤ 65535) (h : good a) : good b ↔ good (a ++ b) := by
  have hs := app_size a b
  rw [good_iff b (by omega), good_iff (a ++ b) (by omega), hs]
  have ra := (good_iff a (by omega)).1 h
  have r1 : run (a ++ b) a.size 0 a.size := by
    have := run_local a (a ++ b) 0 a.size 0 a.size ra fun k _ hk => by rw [Nat.zero_add]; exact atB_left a b k hk
    simpa using this
  constructor
  · intro rb
    have r2 : run (a ++ b) b.size (a.size + 0) (a.size + b.size) := run_local b (a ++ b) a.size b.size 0 b.size rb fun k _ _ => atB_right a b k
    exact run_trans (a ++ b) a.size b.size 0 a.size _ r1 r2
  · intro r
    have r2 := run_split (a ++ b) a.size (a.size + b.size) 0 a.size _ r1 r (by omega)
    have r3 : run b (a.size + b.size) 0 b.size := run_back b (a ++ b) a.size _ 0 b.size r2 fun k _ _ => atB_right a b k
    exact run_few b _ _ _ _ r3 (by omega)

theorem good_cut (a : ByteArray) (ha : a.size ≤ 65535) (c : Nat) (hc : c < a.size) (h : good a) (hl : ¬ (0x80 ≤ atB a c ∧ atB a c ≤ 0xBF)) : good (a.extract 0 c) ∧ good (a.extract c a.size) := by
  have ra := (good_iff a (by omega)).1 h
  obtain ⟨r1, r2⟩ := run_cut a a.size 0 a.size c ra (Nat.zero_le _) (by omega) (fun _ => hl)
  have s1 := ext_size a 0 c (by omega)
  have s2 := ext_size a c a.size (Nat.le_refl _)
  constructor
  · rw [good_iff _ (by omega), s1]
    have r3 : run (a.extract 0 c) a.size 0 c := by
      have := run_local a (a.extract 0 c) 0 a.size 0 c r1 fun k _ hk => by rw [Nat.zero_add, atB_ext a 0 c k (by omega), Nat.zero_add]
      simpa using this
    exact run_few _ _ _ _ _ r3 (by omega)
  · rw [good_iff _ (by omega), s2]
    have r3 : run (a.extract c a.size) a.size 0 (a.size - c) := by
      refine run_back (a.extract c a.size) a c a.size 0 (a.size - c) ?_ fun k _ hk => (atB_ext a c a.size k (by omega)).symm
      rw [Nat.add_zero, Nat.add_sub_cancel' (by omega)]
      exact r2
    exact run_few _ _ _ _ _ r3 (by omega)

theorem good_front (s : ByteArray) (h : s.size ≤ 65535) (hb : ¬ good s) : good (s.extract 0 (chk s).1) := by
  obtain ⟨r, hp, _⟩ := bad_at s h hb
  obtain ⟨p, hq⟩ : ∃ p, (chk s).1 = p := ⟨_, rfl⟩
  rw [hq] at r hp ⊢
  have s1 := ext_size s 0 p (by omega)
  rw [good_iff _ (by omega), s1]
  have r3 : run (s.extract 0 p) s.size 0 p := by
    have := run_local s (s.extract 0 p) 0 s.size 0 p r fun k _ hk => by rw [Nat.zero_add, atB_ext s 0 p k (by omega), Nat.zero_add]
    simpa using this
  exact run_few _ _ _ _ _ r3 (by omega)

theorem bad_behind (s more : ByteArray) (h : s.size ≤ 60000) (hm : more.size ≤ 5000) (hb : ¬ good s) (h4 : (chk s).1 + 4 ≤ s.size) : chk (s.extract 0 ((chk s).1 + 4) ++ more) = chk s := by
  obtain ⟨r, hp, hw⟩ := bad_at s (by omega) hb
  obtain ⟨p, g, hq⟩ : ∃ p g, chk s = (p, g) := ⟨_, _, rfl⟩
  rw [hq] at r hp h4 hw ⊢
  simp only at r hp h4 hw ⊢
  have s1 := ext_size s 0 (p + 4) (by omega)
  have s2 := app_size (s.extract 0 (p + 4)) more
  have ag : ∀ k, k < p + 4 → atB (s.extract 0 (p + 4) ++ more) k = atB s k := fun k hk => by
    rw [atB_left _ _ k (by omega), atB_ext s 0 (p + 4) k (by omega), Nat.zero_add]
  have r2 : run (s.extract 0 (p + 4) ++ more) s.size 0 p := by
    have := run_local s (s.extract 0 (p + 4) ++ more) 0 s.size 0 p r fun k _ hk => by rw [Nat.zero_add]; exact ag k (by omega)
    simpa using this
  have hpt : point (s.extract 0 (p + 4) ++ more) p = point s p := by
    unfold point
    rw [ag p (by omega), ag (p + 1) (by omega), ag (p + 2) (by omega), ag (p + 3) (by omega)]
  have a0 := ag p (by omega)
  rw [chk_bad_of _ (by omega) _ p r2 (by omega) (by rw [a0, hpt]; rcases hw with ⟨x, _⟩ | ⟨_, x, _⟩; exact .inl x; exact .inr x), a0]
  rcases hw with ⟨x, y⟩ | ⟨x, _, y⟩
  · rw [if_pos x, y]
  · rw [if_neg x, y]
end Go.Proofs.Ytglnldopnoafoaa
