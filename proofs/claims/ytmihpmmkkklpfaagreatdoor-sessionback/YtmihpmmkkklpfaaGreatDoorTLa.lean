import Derived.Test.YtmihpmmkkklpfaaGreatDoorBTTe
namespace Go.Proofs.YtmihpmmkkklpfaaGreatDoor.Tq
open Go
set_option linter.unusedSimpArgs false
set_option linter.unusedVariables false

abbrev Bs := List UInt8
/-- A text's levels, xa lists. -/
def split : Bs → List Bs
  | [] => [[]]
  | c :: r => if c = 47 then [] :: split r else
    match split r with
    | [] => [[c]]
    | h :: t => (c :: h) :: t
/-- A text out of a list of its bytes. -/
def mkB (l : Bs) : ByteArray := ⟨l.toArray⟩
def unB (s : ByteArray) : Bs := s.data.toList
theorem mk_un (s : ByteArray) : mkB (unB s) = s := by
  obtain ⟨⟨l⟩⟩ := s; rfl
theorem un_size (s : ByteArray) : (unB s).length = s.size := by simp [unB]
/-- A byte's place in the order. -/
def rk (c : UInt8) : Int := if c = 47 then -1 else (c.toNat : Int)
theorem rk_inj {a b : UInt8} (h : rk a = rk b) : a = b := by
  unfold rk at h
  split at h
  · split at h
    · rename_i h1 h2; rw [h1, h2]
    · have := Int.natCast_nonneg b.toNat; omega
  · split at h
    · have := Int.natCast_nonneg a.toNat; omega
    · exact UInt8.toNat_inj.1 (by omega)
/-- The order of texts, byte by byte. -/
def cmpL : Bs → Bs → Int
  | [], [] => 0
  | [], _ :: _ => -1
  | _ :: _, [] => 1
  | a :: xa, b :: bs => if a = b then cmpL xa bs else if rk a < rk b then -1 else 1
theorem cmpL_flip : ∀ a b, cmpL b a = - cmpL a b
  | [], [] => by simp [cmpL]
  | [], _ :: _ => by simp [cmpL]
  | _ :: _, [] => by simp [cmpL]
  | a :: xa, b :: bs => by
    unfold cmpL
    by_cases h : a = b
    · subst h; simp; exact cmpL_flip xa bs
    · have h' : ¬ b = a := fun e => h e.symm
      have hn : ¬ rk a = rk b := fun e => h (rk_inj e)
      rw [if_neg h, if_neg h']
      by_cases hr : rk a < rk b
      · rw [if_pos hr, if_neg (by omega)]; rfl
      · rw [if_neg hr, if_pos (by omega)]
theorem cmpL_zero : ∀ a b, cmpL a b = 0 ↔ a = b
  | [], [] => by simp [cmpL]
  | [], _ :: _ => by simp [cmpL]
  | _ :: _, [] => by simp [cmpL]
  | a :: xa, b :: bs => by
    unfold cmpL
    by_cases h : a = b
    · subst h; simp; exact cmpL_zero xa bs
    · rw [if_neg h]
      have : ¬ a :: xa = b :: bs := fun e => h (List.cons.inj e).1
      simp only [this, iff_false]
      split <;> simp
theorem cmpL_trans : ∀ a b c, cmpL a b ≤ 0 → cmpL b c ≤ 0 → cmpL a c ≤ 0
  | [], b, [], _, _ => by simp [cmpL]
  | [], b, _ :: _, _, _ => by simp [cmpL]
  | a :: xa, [], c, h, _ => by simp [cmpL] at h
  | a :: xa, b :: bs, [], _, h => by simp [cmpL] at h
  | a :: xa, b :: bs, c :: cs, h1, h2 => by
    unfold cmpL at h1 h2 ⊢
    by_cases e1 : a = b
    · subst e1
      rw [if_pos rfl] at h1
      by_cases e2 : a = c
      · subst e2
        rw [if_pos rfl] at h2 ⊢
        exact cmpL_trans xa bs cs h1 h2
      · rw [if_neg e2] at h2 ⊢
        exact h2
    · rw [if_neg e1] at h1
      by_cases e2 : b = c
      · subst e2
        rw [if_neg e1]; exact h1
      · rw [if_neg e2] at h2
        have r1 : rk a < rk b := by
          apply Classical.byContradiction; intro hn; rw [if_neg hn] at h1; omega
        have r2 : rk b < rk c := by
          apply Classical.byContradiction; intro hn; rw [if_neg hn] at h2; omega
        have e3 : ¬ a = c := fun e => by subst e; omega
        rw [if_neg e3, if_pos (by omega)]; omega
end Go.Proofs.YtmihpmmkkklpfaaGreatDoor.Tq
