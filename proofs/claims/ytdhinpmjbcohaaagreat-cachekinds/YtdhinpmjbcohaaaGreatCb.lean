import Derived.Maps.OwnSet
namespace Go.Proofs.YtdhinpmjbcohaaaGreat
open Go Go.RowKit
set_option linter.unusedSimpArgs false
set_option linter.unusedVariables false

def upd {α : Type} (f : Nat → α) (i : Nat) (x : α) : Nat → α := fun j => if j = i then x else f j
theorem upd_same {α : Type} (f : Nat → α) (i : Nat) (x : α) : upd f i x i = x := by simp [upd]
theorem upd_ne {α : Type} (f : Nat → α) {i j : Nat} (x : α) (h : j ≠ i) : upd f i x j = f j := by simp [upd, h]
def Seg (n o : Nat → Nat) : Nat → List Nat → Nat → Prop
 | a, [], b => o a = b ∧ n b = a
 | a, y :: T, b => o a = y ∧ n y = a ∧ Seg n o y T b
def Ring (n o : Nat → Nat) : List Nat → Prop
 | [] => True
 | x :: T => Seg n o x T x
theorem seg_app {n o : Nat → Nat} {e b : Nat} {B : List Nat} : ∀ (A : List Nat) (a : Nat), Seg n o a (A ++ e :: B) b ↔ Seg n o a A e ∧ Seg n o e B b
 | [], a => by simp [Seg, and_assoc]
 | y :: A, a => by simp only [List.cons_append, Seg, seg_app A y, and_assoc]
theorem ring_rot {n o : Nat → Nat} (A B : List Nat) : Ring n o (A ++ B) ↔ Ring n o (B ++ A) := by
 cases A with
 | nil => simp
 | cons x A =>
  cases B with
  | nil => simp
  | cons e B =>
   show Seg n o x (A ++ e :: B) x ↔ Seg n o e (B ++ x :: A) e
   rw [seg_app, seg_app]
   exact And.comm
theorem seg_last {n o : Nat → Nat} {b : Nat} : ∀ (T : List Nat) (a : Nat), Seg n o a T b → n b ∈ a :: T
 | [], a, h => by simp [Seg] at h; simp [h.2]
 | y :: T, a, h => by
  have := seg_last T y h.2.2
  exact List.mem_cons_of_mem _ this
theorem seg_lastIs {n o : Nat → Nat} {b : Nat} : ∀ (T : List Nat) (a : Nat), Seg n o a T b → (a :: T).getLast? = some (n b)
 | [], a, h => by simp [Seg] at h; simp [h.2]
 | y :: T, a, h => by
  have := seg_lastIs T y h.2.2
  simpa [List.getLast?_cons_cons] using this
theorem ring_last {n o : Nat → Nat} {x : Nat} {T : List Nat} (h : Ring n o (x :: T)) : (x :: T).getLast? = some (n x) := seg_lastIs T x h
theorem seg_congr {n o n' o' : Nat → Nat} {b : Nat} : ∀ (T : List Nat) (a : Nat), (∀ y ∈ a :: T, o' y = o y) → (∀ y ∈ b :: T, n' y = n y) → Seg n o a T b → Seg n' o' a T b
 | [], a, ho, hn, h => ⟨(ho a (by simp)).trans h.1, (hn b (by simp)).trans h.2⟩
 | y :: T, a, ho, hn, h => ⟨(ho a (by simp)).trans h.1, (hn y (by simp)).trans h.2.1, seg_congr T y (fun z hz => ho z (List.mem_cons_of_mem _ hz)) (fun z hz => by
   rcases List.mem_cons.1 hz with rfl | hz
   ·
    exact hn _ (by simp)
   ·
    exact hn _ (by simp [hz])) h.2.2⟩
theorem seg_redirect {n o : Nat → Nat} {e z : Nat} : ∀ (T : List Nat) (y : Nat), (y :: T).Nodup → Seg n o y T e → z ∉ T → Seg (upd n z (n e)) (upd o (n e) z) y T z
 | [], y, _, h, _ => by
  obtain ⟨h1, h2⟩ := h
  refine ⟨?_, ?_⟩
  ·
   rw [h2, upd_same]
  ·
   rw [upd_same, h2]
 | x :: T, y, hd, h, hz => by
  obtain ⟨h1, h2, h3⟩ := h
  have hd' := List.nodup_cons.1 hd
  have hl := seg_last T x h3
  refine ⟨?_, ?_, seg_redirect T x hd'.2 h3 (fun q => hz (by simp [q]))⟩
  ·
   rw [upd_ne _ _ (fun q => hd'.1 (by rw [q]; exact hl)), h1]
  ·
   rw [upd_ne _ _ (fun q => hz (by simp [q])), h2]
theorem ring_out {n o : Nat → Nat} {e : Nat} {M : List Nat} (h : Ring n o (e :: M)) (hd : (e :: M).Nodup) (hM : M ≠ []) : Ring (upd n (o e) (n e)) (upd o (n e) (o e)) M := by
 cases M with
 | nil => exact absurd rfl hM
 | cons y T =>
  obtain ⟨h1, h2, h3⟩ := h
  have hd' := List.nodup_cons.1 hd
  have hy := List.nodup_cons.1 hd'.2
  rw [h1]
  exact seg_redirect T y hd'.2 h3 hy.1
theorem ring_drop {n o : Nat → Nat} {e : Nat} {A B : List Nat} (h : Ring n o (A ++ e :: B)) (hd : (A ++ e :: B).Nodup) (hM : A ++ B ≠ []) : Ring (upd n (o e) (n e)) (upd o (n e) (o e)) (A ++ B) := by
 rw [ring_rot] at h
 have hd2 : (e :: (B ++ A)).Nodup := by
  have := (List.perm_append_comm (l₁ := A) (l₂ := e :: B)).nodup_iff.1 hd
  simpa using this
 have := ring_out (M := B ++ A) h hd2 (by
  intro q
  apply hM
  simp only [List.append_eq_nil_iff] at q ⊢
  exact ⟨q.2, q.1⟩)
 exact (ring_rot B A).1 this
theorem ring_in {n o : Nat → Nat} {e x : Nat} {T : List Nat} (h : Ring n o (x :: T)) (hd : (x :: T).Nodup) (he : e ∉ x :: T) : Ring (upd (upd n e (n x)) x e) (upd (upd o e x) (n x) e) (e :: x :: T) := by
 have hl := seg_last T x h
 have hd' := List.nodup_cons.1 hd
 have hpe : n x ≠ e := fun q => he (q ▸ hl)
 have hxe : x ≠ e := fun q => he (by simp [q])
 refine ⟨?_, ?_, ?_⟩
 ·
  rw [upd_ne _ _ (fun q => hpe q.symm), upd_same]
 ·
  rw [upd_same]
 ·
  have h1 := seg_redirect (z := e) T x hd h (fun q => he (by simp [q]))
  refine seg_congr T x (fun y hy => ?_) (fun y hy => ?_) h1
  ·
   have hye : y ≠ e := fun q => he (q ▸ hy)
   by_cases hp : y = n x
   ·
    rw [hp, upd_same, upd_same]
   ·
    rw [upd_ne _ _ hp, upd_ne _ _ hye, upd_ne _ _ hp]
  ·
   have hyx : y ≠ x := by
    rcases List.mem_cons.1 hy with rfl | hy
    ·
     exact fun q => hxe q.symm
    ·
     exact fun q => hd'.1 (q ▸ hy)
   rw [upd_ne _ _ hyx]
theorem ring_one (n o : Nat → Nat) (e : Nat) : Ring (upd n e e) (upd o e e) [e] := ⟨upd_same _ _ _, upd_same _ _ _⟩
theorem ring_use {n o : Nat → Nat} {e x : Nat} {A B : List Nat} (h : Ring n o (x :: A ++ e :: B)) (hd : (x :: A ++ e :: B).Nodup) :
  Ring (upd (upd (upd n (o e) (n e)) e (upd n (o e) (n e) x)) x e) (upd (upd (upd o (n e) (o e)) e x) (upd n (o e) (n e) x) e) (e :: x :: (A ++ B)) := by
 have h1 := ring_drop (A := x :: A) (B := B) h hd (by simp)
 have hd2 : (e :: (x :: A ++ B)).Nodup := List.perm_middle.nodup_iff.1 hd
 have hd3 := List.nodup_cons.1 hd2
 exact ring_in h1 hd3.2 hd3.1
end Go.Proofs.YtdhinpmjbcohaaaGreat
namespace Go.Proofs.YtdhinpmjbcohaaaGreat
open Go Go.RowKit
set_option linter.unusedSimpArgs false
set_option linter.unusedVariables false

section
variable {K V : Type} [DecidableEq K]
def lget (l : List (K × V)) (k : K) : Option V := (l.find? (fun p => decide (p.1 = k))).map (·.2)
def lout (l : List (K × V)) (k : K) : List (K × V) := l.filter (fun p => !decide (p.1 = k))
def ltop (k : K) (v : V) (l : List (K × V)) : List (K × V) := (k, v) :: lout l k
theorem lget_none {l : List (K × V)} {k : K} (h : lget l k = none) : k ∉ l.map (·.1) := by
 intro q
 obtain ⟨p, hp, rfl⟩ := List.mem_map.1 q
 simp only [lget, Option.map_eq_none_iff, List.find?_eq_none] at h
 exact h p hp (by simp)
theorem lget_of_not {l : List (K × V)} {k : K} (h : k ∉ l.map (·.1)) : lget l k = none := by
 simp only [lget, Option.map_eq_none_iff, List.find?_eq_none]
 intro p hp q
 exact h (List.mem_map.2 ⟨p, hp, by simpa using q⟩)
theorem lget_some {l : List (K × V)} {k : K} {v : V} (h : lget l k = some v) : (k, v) ∈ l := by
 simp only [lget, Option.map_eq_some_iff] at h
 obtain ⟨p, h1, rfl⟩ := h
 have h2 := List.mem_of_find?_eq_some h1
 have h3 := List.find?_some h1
 simp at h3
 subst h3
 exact h2
theorem lget_mid {l1 l2 : List (K × V)} {k : K} {v : V} (h : k ∉ l1.map (·.1)) : lget (l1 ++ (k, v) :: l2) k = some v := by
 have : (l1.find? (fun p => decide (p.1 = k))) = none := by
  rw [List.find?_eq_none]
  intro p hp q
  exact h (List.mem_map.2 ⟨p, hp, by simpa using q⟩)
 simp [lget, List.find?_append, this]
theorem lout_not {l : List (K × V)} {k : K} (h : k ∉ l.map (·.1)) : lout l k = l := by
 refine List.filter_eq_self.2 (fun p hp => ?_)
 simp
 intro q
 exact h (List.mem_map.2 ⟨p, hp, q⟩)
theorem lout_mid {l1 l2 : List (K × V)} {k : K} {v : V} (h1 : k ∉ l1.map (·.1)) (h2 : k ∉ l2.map (·.1)) : lout (l1 ++ (k, v) :: l2) k = l1 ++ l2 := by
 have a := lout_not h1
 have b := lout_not h2
 unfold lout at a b ⊢
 rw [List.filter_append, List.filter_cons, a, b]
 simp
theorem lout_mem {l : List (K × V)} {k : K} {p : K × V} : p ∈ lout l k ↔ p ∈ l ∧ p.1 ≠ k := by simp [lout]
theorem lout_keys {l : List (K × V)} {k k' : K} : k' ∈ (lout l k).map (·.1) ↔ k' ∈ l.map (·.1) ∧ k' ≠ k := by
 constructor
 ·
  intro h
  obtain ⟨p, hp, rfl⟩ := List.mem_map.1 h
  obtain ⟨h1, h2⟩ := lout_mem.1 hp
  exact ⟨List.mem_map.2 ⟨p, h1, rfl⟩, h2⟩
 ·
  rintro ⟨h, hne⟩
  obtain ⟨p, hp, rfl⟩ := List.mem_map.1 h
  exact List.mem_map.2 ⟨p, lout_mem.2 ⟨hp, hne⟩, rfl⟩
end
end Go.Proofs.YtdhinpmjbcohaaaGreat
