import Derived.Test.YtdanjbbemmngnaaDoorLb
import Derived.Test.YtdanjbbemmngnaaDoorKn
namespace Go.Proofs.YtdanjbbemmngnaaDoor
open Go Go.RowKit
set_option linter.unusedSimpArgs false
set_option linter.unusedVariables false

def bEq (z : Nat → Int) (n : Nat) (z' : Nat → Int) (m : Nat) : Bool := (strZ z n).toList == (strZ z' m).toList
def iEq (z : Nat → Int) (n : Nat) (z' : Nat → Int) (m : Nat) : Bool := decide (n = m ∧ ∀ i, i < n → z i = z' i)
def tEq (z : Nat → ByteArray) (n : Nat) (z' : Nat → ByteArray) (m : Nat) : Bool := decide (n = m ∧ ∀ i, i < n → z i = z' i)
def aEq (f : Nat → ByteArray) (q : Nat → Int) (n : Nat) (f' : Nat → ByteArray) (q' : Nat → Int) (m : Nat) : Bool := decide (n = m ∧ ∀ i, i < n → f i = f' i ∧ q i = q' i)
/-- What two headings tell. -/
def hdEq (t t' : ByteArray) (q q' : Int) (r r' : Bool) : Bool := (t.toList == t'.toList) && (q == q') && (r == r')
/-- Two packets but for their lists. -/
def plEq (p q : Pk) : Bool :=
  (p.kind == q.kind) && (p.level == q.level) && (p.keep == q.keep) && (p.code == q.code) && (p.id == q.id) && (p.clean == q.clean) && (p.present == q.present) && (p.dup == q.dup) && (p.hasWill == q.hasWill) && (p.hasUser == q.hasUser) && (p.hasPass == q.hasPass) &&
  (p.client.toList == q.client.toList) && (p.user.toList == q.user.toList) && hdEq p.wT q.wT p.wQ q.wQ p.wR q.wR && hdEq p.mT q.mT p.mQ q.mQ p.mR q.mR
/-- What Same tells. -/
def sm (p : Pk) (c : Cn) (q : Pk) (d : Cn) : Bool :=
  plEq p q && bEq c.wz p.wP.n d.wz q.wP.n && bEq c.pz p.pass.n d.pz q.pass.n && bEq c.mz p.mP.n d.mz q.mP.n && aEq c.af c.aq p.asks.n d.af d.aq q.asks.n && iEq c.cs p.codes.n d.cs q.codes.n && tEq c.fs p.filters.n d.fs q.filters.n

theorem str_eq {a b : ByteArray} (h : (a.toList == b.toList) = true) : a = b := by
  have h := eq_of_beq h
  rw [Lib.toList_data, Lib.toList_data] at h
  obtain ⟨⟨x⟩⟩ := a
  obtain ⟨⟨y⟩⟩ := b
  simp only at h
  rw [h]
theorem str_refl (a : ByteArray) : (a.toList == a.toList) = true := by simp
theorem str_comm (a b : ByteArray) : (a.toList == b.toList) = (b.toList == a.toList) := Bool.eq_iff_iff.2 ⟨fun h => by rw [str_eq h]; simp, fun h => by rw [str_eq h]; simp⟩
theorem beq_comm' {α : Type} [BEq α] [LawfulBEq α] (a b : α) : (a == b) = (b == a) := Bool.eq_iff_iff.2 ⟨fun h => by rw [eq_of_beq h]; simp, fun h => by rw [eq_of_beq h]; simp⟩
theorem bEq_size {z z' : Nat → Int} {n m : Nat} (h : bEq z n z' m = true) : n = m := by
  have := congrArg ByteArray.size (str_eq h)
  rwa [strZ_size, strZ_size] at this
theorem bEq_comm (z z' : Nat → Int) (n m : Nat) : bEq z n z' m = bEq z' m z n := str_comm _ _
theorem bEq_refl (z : Nat → Int) (n : Nat) : bEq z n z n = true := str_refl _
theorem iEq_comm (z z' : Nat → Int) (n m : Nat) : iEq z n z' m = iEq z' m z n := by
  unfold iEq
  refine decide_eq_decide.2 ⟨fun ⟨h, k⟩ => ⟨h.symm, fun i hi => (k i (by omega)).symm⟩, fun ⟨h, k⟩ => ⟨h.symm, fun i hi => (k i (by omega)).symm⟩⟩
theorem tEq_comm (z z' : Nat → ByteArray) (n m : Nat) : tEq z n z' m = tEq z' m z n := by
  unfold tEq
  refine decide_eq_decide.2 ⟨fun ⟨h, k⟩ => ⟨h.symm, fun i hi => (k i (by omega)).symm⟩, fun ⟨h, k⟩ => ⟨h.symm, fun i hi => (k i (by omega)).symm⟩⟩
theorem aEq_comm (f f' : Nat → ByteArray) (q q' : Nat → Int) (n m : Nat) : aEq f q n f' q' m = aEq f' q' m f q n := by
  unfold aEq
  refine decide_eq_decide.2 ⟨fun ⟨h, k⟩ => ⟨h.symm, fun i hi => ⟨(k i (by omega)).1.symm, (k i (by omega)).2.symm⟩⟩, fun ⟨h, k⟩ => ⟨h.symm, fun i hi => ⟨(k i (by omega)).1.symm, (k i (by omega)).2.symm⟩⟩⟩
theorem hdEq_comm (t t' : ByteArray) (q q' : Int) (r r' : Bool) : hdEq t t' q q' r r' = hdEq t' t q' q r' r := by
  unfold hdEq
  rw [str_comm t t', beq_comm' q q', beq_comm' r r']
theorem plEq_comm (p q : Pk) : plEq p q = plEq q p := by
  unfold plEq
  rw [beq_comm' p.kind, beq_comm' p.level, beq_comm' p.keep, beq_comm' p.code, beq_comm' p.id, beq_comm' p.clean, beq_comm' p.present, beq_comm' p.dup, beq_comm' p.hasWill, beq_comm' p.hasUser, beq_comm' p.hasPass, str_comm p.client, str_comm p.user, hdEq_comm p.wT, hdEq_comm p.mT]
theorem sm_comm (p : Pk) (c : Cn) (q : Pk) (d : Cn) : sm p c q d = sm q d p c := by
  unfold sm
  rw [plEq_comm p q, bEq_comm c.wz, bEq_comm c.pz, bEq_comm c.mz, aEq_comm c.af, iEq_comm c.cs, tEq_comm c.fs]
/-- A packet and one with its lists elsewhere. -/
theorem sm_copy (p : Pk) (c : Cn) (s1 s2 s3 s4 s5 s6 : Sl) (h1 : s1.n = p.wP.n) (h2 : s2.n = p.pass.n) (h3 : s3.n = p.mP.n) (h4 : s4.n = p.asks.n) (h5 : s5.n = p.codes.n) (h6 : s6.n = p.filters.n) :
    sm p c { p with wP := s1, pass := s2, mP := s3, asks := s4, codes := s5, filters := s6 } c = true := by
  simp [sm, plEq, hdEq, h1, h2, h3, h4, h5, h6, bEq_refl, iEq, tEq, aEq]

theorem hdEq_out {t t' : ByteArray} {q q' : Int} {r r' : Bool} (h : hdEq t t' q q' r r' = true) : t = t' ∧ q = q' ∧ r = r' := by
  simp only [hdEq, Bool.and_eq_true] at h
  exact ⟨str_eq h.1.1, by simpa using h.1.2, by simpa using h.2⟩
theorem pl_kind {p q : Pk} (h : plEq p q = true) : p.kind = q.kind := by
  simp only [plEq, Bool.and_eq_true, beq_iff_eq] at h
  simp_all
theorem sm_fg {p q : Pk} {c d : Cn} (h : sm p c q d = true) : fg p = fg q := by
  simp only [sm, Bool.and_eq_true] at h
  have h := h.1.1.1.1.1.1
  simp only [plEq, Bool.and_eq_true, beq_iff_eq] at h
  obtain ⟨_, e2, e3⟩ := hdEq_out h.2
  have e0 : p.kind = q.kind := by simp_all
  have e1 : p.dup = q.dup := by simp_all
  unfold fg
  rw [e0, e1, e2, e3]
theorem sm_sz {p q : Pk} {c d : Cn} (h : sm p c q d = true) : sz p c = sz q d := by
  simp only [sm, Bool.and_eq_true] at h
  obtain ⟨⟨⟨⟨⟨⟨h, w1⟩, w2⟩, w3⟩, w4⟩, w5⟩, w6⟩ := h
  have w1 := bEq_size w1
  have w2 := bEq_size w2
  have w3 := bEq_size w3
  simp only [aEq, decide_eq_true_eq] at w4
  simp only [iEq, decide_eq_true_eq] at w5
  simp only [tEq, decide_eq_true_eq] at w6
  simp only [plEq, Bool.and_eq_true] at h
  obtain ⟨⟨⟨⟨⟨⟨⟨⟨⟨⟨⟨⟨⟨⟨e1, _⟩, _⟩, _⟩, _⟩, _⟩, _⟩, _⟩, e9⟩, e10⟩, e11⟩, e12⟩, e13⟩, e14⟩, e15⟩ := h
  have e1 : p.kind = q.kind := by simpa using e1
  have e9 : p.hasWill = q.hasWill := by simpa using e9
  have e10 : p.hasUser = q.hasUser := by simpa using e10
  have e11 : p.hasPass = q.hasPass := by simpa using e11
  have e12 := str_eq e12
  have e13 := str_eq e13
  obtain ⟨e14, _, _⟩ := hdEq_out e14
  obtain ⟨e15, e16, _⟩ := hdEq_out e15
  have s1 : sumN (fun i => 3 + (c.af i).size) p.asks.n = sumN (fun i => 3 + (d.af i).size) q.asks.n := by
    rw [← w4.1]; exact sumN_congr _ _ _ fun i hi => by rw [(w4.2 i hi).1]
  have s2 : sumN (fun i => 2 + (c.fs i).size) p.filters.n = sumN (fun i => 2 + (d.fs i).size) q.filters.n := by
    rw [← w6.1]; exact sumN_congr _ _ _ fun i hi => by rw [w6.2 i hi]
  have s3 : nid p = nid q := by unfold nid hasID; rw [e1, e16]
  unfold sz szc
  rw [s1, s2, s3, e1, e9, e10, e11, e12, e13, e14, e15, w1, w2, w3, w5.1]

/-! ### first bytes of right packets -/
theorem may_fg {T : Tx} {p : Pk} {c : Cn} (h : Right T p c) : may p.kind (fg p) = true := by
  have k1 := h.k1
  have k2 := h.k2
  by_cases k3 : p.kind = 3
  · have hq := h.q2
    have hm := h.m2
    unfold fg
    rw [k3]
    rcases hq with e | e | e <;> cases hd : p.dup <;> cases hr : p.mR <;> first | exact absurd e (hm hd) | (rw [e]; show may _ _ = true; kernel_rfl)
  · have e1 := h.own.dup k3
    obtain ⟨_, e2, e3, _⟩ := h.own.msg k3
    unfold fg
    rw [e1, e2, e3]
    rcases kinds14' k1 k2 with e | e | e | e | e | e | e | e | e | e | e | e | e | e <;> first | exact absurd e k3 | (rw [e]; show may _ _ = true; kernel_rfl)
theorem nm_some {k : Int} (h1 : 1 ≤ k) (h2 : k ≤ 14) : ((nm k).toList == (ByteArray.empty).toList) = false := by
  rcases kinds14' h1 h2 with e | e | e | e | e | e | e | e | e | e | e | e | e | e <;> (rw [e]; kernel_rfl)
end Go.Proofs.YtdanjbbemmngnaaDoor
