import Derived.Test.YtdanjbbemmngnaaGreatDoorRi
import Derived.Test.YtdanjbbemmngnaaGreatDoorRn
import Derived.Test.YtdanjbbemmngnaaGreatDoorRp
namespace Go.Proofs.YtdanjbbemmngnaaGreatDoor
open Go Go.RowKit Go.Sort
set_option linter.unusedSimpArgs false
set_option linter.unusedVariables false

/-! ### Of packets that have no field that their kind hasn't, the document tells the same -/
theorem sumN_zero (f : Nat → Nat) {n : Nat} (h : n = 0) : sumN f n = 0 := by subst h; rfl
theorem sz_rsz {p : Pk} {c : Cn} (h : Own p) : sz p c = rsz p c := by
  unfold sz rsz rb
  by_cases k1 : p.kind = 1
  · have : nid p = 0 := by simp [nid, hasID, k1]
    rw [if_pos k1, if_pos k1, this]; rfl
  rw [if_neg k1, if_neg k1]
  by_cases k2 : p.kind = 2
  · have : nid p = 0 := by simp [nid, hasID, k2]
    rw [if_pos k2, if_pos k2, this]
  rw [if_neg k2, if_neg k2]
  by_cases k3 : p.kind = 3
  · rw [if_pos k3, if_pos k3]; omega
  rw [if_neg k3, if_neg k3]
  by_cases k8 : p.kind = 8
  · rw [if_pos k8, sumN_zero (fun i => 2 + (c.fs i).size) (h.filters (by omega)), h.codes (by omega)]; omega
  rw [if_neg k8, sumN_zero (fun i => 3 + (c.af i).size) (h.asks k8)]
  by_cases k9 : p.kind = 9
  · rw [if_pos k9, sumN_zero (fun i => 2 + (c.fs i).size) (h.filters (by omega))]; omega
  rw [if_neg k9, h.codes k9]
  by_cases k10 : p.kind = 10
  · rw [if_pos k10]; omega
  rw [if_neg k10, sumN_zero (fun i => 2 + (c.fs i).size) (h.filters k10)]; omega
theorem topb_ne (s : ByteArray) : topb s = !(tcode s != 0) := by
  unfold topb
  cases h : (tcode s == 0) <;> simp_all
theorem tps_rtps {p : Pk} (h : Own p) : tps TT p = rtps p := by
  have h1 := h.hasWill
  unfold tps rtps
  show (!(p.hasWill && !topb p.wT) && (decide (p.kind ≠ 3) || topb p.mT)) = _
  rw [topb_ne, topb_ne]
  by_cases k1 : p.kind = 1
  · simp [k1]
  · rw [h1 k1]
    by_cases k3 : p.kind = 3 <;> simp [k1, k3]
theorem isQ_zero {q : Int} (h : q = 0) : isQ q = true := by subst h; rfl
theorem qls_rqls {p : Pk} {c : Cn} (h : Own p) : qls p c = rqls p c := by
  unfold qls rqls
  have e : (isQ p.wQ && isQ p.mQ) = !qA p := by
    unfold qA
    by_cases k1 : p.kind = 1
    · have hm : isQ p.mQ = true := isQ_zero (h.msg (by omega)).2.1
      cases hw : p.hasWill
      · have hq : isQ p.wQ = true := isQ_zero (h.will (by simp [hw])).2.1
        simp [k1, hw, hm, hq]
      · cases hq : isQ p.wQ <;> simp [k1, hw, hm, hq]
    · have hq : isQ p.wQ = true := isQ_zero (h.will (fun hh => k1 hh.1)).2.1
      by_cases k3 : p.kind = 3
      · cases hm : isQ p.mQ <;> simp [k1, k3, hq, hm]
      · have hm : isQ p.mQ = true := isQ_zero (h.msg k3).2.1
        simp [k1, k3, hq, hm]
  rw [e]
end Go.Proofs.YtdanjbbemmngnaaGreatDoor
namespace Go.Proofs.YtdanjbbemmngnaaGreatDoor
open Go Go.RowKit Go.Sort
set_option linter.unusedSimpArgs false
set_option linter.unusedVariables false

def rbad1 (p : Pk) : Bool := forB p || !bnd p
def rbad6 (p : Pk) : Bool := hasID p && (decide (p.id < 1) || decide (65535 < p.id))
def rbad7 (p : Pk) (c : Cn) : Bool := decide (65535 < p.wP.n) || decide (65535 < p.pass.n) || decide (268435455 < rsz p c)
def rbad8 (p : Pk) : Bool := (p.kind == 8 && decide (p.asks.n = 0)) || (p.kind == 9 && decide (p.codes.n = 0)) || (p.kind == 10 && decide (p.filters.n = 0))
/-- What the document's Check tells. -/
def rck (p : Pk) (c : Cn) : Nat :=
  if !isK p.kind then 20 else if rbad1 p then 21 else if bad2 TT p then 22 else if !rtps p then 23 else if !rflts p c then 24 else if !rqls p c then 25
  else if rbad6 p then 26 else if rbad7 p c then 27 else if rbad8 p then 28 else if bad9 p then 29 else 0

theorem rck_ck (p : Pk) (c : Cn) : rck p c = ck TT p c := by
  unfold rck ck rbad1
  cases hk : isK p.kind
  · rfl
  have hk' : 1 ≤ p.kind ∧ p.kind ≤ 14 := by simpa [isK] using hk
  rw [bad1_for p hk'.1 hk'.2]
  cases hf : forB p
  · have ho := (forB_own p).1 hf
    have e8 : bad8 p = rbad8 p := by
      unfold bad8 rbad8
      rw [fl_list p hk'.1 hk'.2, gv_list p]
      by_cases k8 : p.kind = 8
      · have h1 := ho.codes (by omega)
        have h2 := ho.filters (by omega)
        simp [k8, h1, h2]
      by_cases k9 : p.kind = 9
      · have h1 := ho.asks (by omega)
        have h2 := ho.filters (by omega)
        simp [k9, h1, h2]
      by_cases k10 : p.kind = 10
      · have h1 := ho.asks (by omega)
        have h2 := ho.codes (by omega)
        simp [k10, h1, h2]
      simp [k8, k9, k10]
    have e6 : bad6 p = rbad6 p := by unfold bad6 rbad6; rw [fl_id p hk'.1 hk'.2]
    have e7 : bad7 p c = rbad7 p c := by unfold bad7 rbad7; rw [sz_rsz ho]
    have e4 : flts TT p c = rflts p c := by
      unfold flts rflts
      have ea : (fun i => TT.flt (c.af i)) = fun i => rfc (c.af i) == 0 := by funext i; rw [rfc_fcode]; rfl
      have ef : (fun i => TT.flt (c.fs i)) = fun i => rfc (c.fs i) == 0 := by funext i; rw [rfc_fcode]; rfl
      rw [ea, ef]
    rw [e8, e6, e7, e4, tps_rtps ho, qls_rqls ho]
  · rfl
theorem bnd_three (p : Pk) : bnd p = ((decide (0 ≤ p.level) && decide (p.level ≤ 255)) && (decide (0 ≤ p.code) && decide (p.code ≤ 255)) && (decide (0 ≤ p.keep) && decide (p.keep ≤ 65535))) := by
  simp only [bnd, Bool.and_assoc]
/-- The calls that the document's Check makes, in every later world. -/
structure Rc (w : World) (p : Pk) (c : Cn) (v : Value) : Prop where
  foreign : ∀ w', Calls Tryz.prog 94 #[v] w' fun e w'' => e = .returned (.bool (forB p)) ∧ Below w'.heap.size w' w''
  topics : ∀ w', Calls Tryz.prog 97 #[v] w' fun e w'' => e = .returned (.bool (rtps p)) ∧ Below w'.heap.size w' w''
  filters : ∀ w', Below w.heap.size w w' → Calls Tryz.prog 98 #[v] w' fun e w'' => e = .returned (.bool (rflts p c)) ∧ Below w'.heap.size w' w''
  quals : ∀ w', Below w.heap.size w w' → Calls Tryz.prog 99 #[v] w' fun e w'' => e = .returned (.bool (rqls p c)) ∧ Below w'.heap.size w' w''
  numbered : ∀ w', Calls Tryz.prog 100 #[v] w' fun e w'' => e = .returned (.bool (hasID p)) ∧ Below w'.heap.size w' w''
  bytes : ∀ w', Below w.heap.size w w' → Calls Tryz.prog 101 #[v] w' fun e w'' => e = .returned (.int .i64 (rsz p c)) ∧ Below w'.heap.size w' w''
theorem rc_of {w : World} {p : Pk} {c : Cn} (hin : In w p c) (hs : Small p c) : Rc w p c p.v where
  foreign w' := foreign_any p w'
  topics w' := rtopics_any p w'
  filters w' hb := rfilters_any p c w' (hin.below hb) hs.an hs.fn
  quals w' hb := rqualities_any p c w' (hin.below hb) hs.an hs.cn
  numbered w' := numbered_any p w'
  bytes w' hb := rbytes_any p c w' (hin.below hb) hs

end Go.Proofs.YtdanjbbemmngnaaGreatDoor
