import Derived.Test.YtmihpmmkkklpfaaGreatDoorBKh
import Derived.Test.YtmihpmmkkklpfaaGreatDoorBSi
namespace Go.Proofs.YtmihpmmkkklpfaaGreatDoor
open Go Go.RowKit Go.Shelf Go.Maps Go.Sort
set_option linter.unusedSimpArgs false
set_option linter.unusedVariables false
/-! ### What the chapter's example has in memory -/
def FN (w0 : World) (sv nv : Value) (j : Nat) : Prop := j < w0.heap.size ∨ sv = .map (some j) ∨ nv = .map (some j)
structure KN (w0 W : World) (sb wb : Nat) (p : Pw) (c : Nat) (sv : Value) (n : Nat) (f : ByteArray → Option Value) (nv : Value) (m : Nat) (g : Int → Option Value) : Prop where
  ks : KS (FN w0 sv nv) W wb p c
  ss : SsAt W sb wb ⟨#[107]⟩ true 1 sv nv
  ms : MG W sv n f
  mn : MI W nv m g
  bel : Below w0.heap.size w0 W
  sb0 : w0.heap.size ≤ sb
  mv0 : ∀ j, sv = .map (some j) ∨ nv = .map (some j) → w0.heap.size ≤ j
  w00 : 0 < w0.heap.size
theorem other56 (cs : Array Value) : Other (.cells cs 56 (0, 0)) := ⟨_, 56, _, rfl, by decide, by decide, by decide⟩
theorem other66 (cs : Array Value) (fz : Nat × Nat) : Other (.cells cs 66 fz) := ⟨_, 66, _, rfl, by decide, by decide, by decide⟩
section
variable {w0 W W' : World} {sb wb : Nat} {p p' : Pw} {c c' : Nat} {sv sv' nv nv' : Value} {n n' m m' : Nat} {f f' : ByteArray → Option Value} {g g' : Int → Option Value}
theorem KN.win (h : KN w0 W sb wb p c sv n f nv m g) (k : KS (FN w0 sv nv) W' wb p' c') (r : Fr (FN w0 sv nv) W W') (o : KO W W') : KN w0 W' sb wb p' c' sv n f nv m g where
  ks := k
  ss := o _ _ h.ss (other56 _)
  ms := h.ms.keep (fun b e => r.at (.inr (.inl e)) (h.ms.lt e))
  mn := h.mn.keep (fun b e => r.at (.inr (.inr e)) (h.mn.lt e))
  bel := ⟨r.os.trans h.bel.os, r.tape.trans h.bel.tape, r.output.trans h.bel.output, Nat.le_trans h.bel.size r.size, fun j hj => (r.at (.inl hj) (Nat.lt_of_lt_of_le hj h.bel.size)).trans (h.bel.block j hj)⟩
  sb0 := h.sb0
  mv0 := h.mv0
  w00 := h.w00
theorem KN.below (h : KN w0 W sb wb p c sv n f nv m g) (hb : Below W.heap.size W W') : KN w0 W' sb wb p c sv n f nv m g :=
  h.win (h.ks.below hb) (Fr.below hb) (KO.below hb)
theorem KN.ch {S : Nat → Prop} (h : KN w0 W sb wb p c sv n f nv m g) (hc : Ch S W W') (hS : ∀ j, S j → j = sb ∨ sv = .map (some j) ∨ nv = .map (some j)) (ss' : SsAt W' sb wb ⟨#[107]⟩ true 1 sv' nv') (ms' : MG W' sv' n' f') (mn' : MI W' nv' m' g') (hv : ∀ j, sv' = .map (some j) ∨ nv' = .map (some j) → (sv = .map (some j) ∨ nv = .map (some j)) ∨ W.heap.size ≤ j) : KN w0 W' sb wb p c sv' n' f' nv' m' g' := by
  have hS0 : ∀ j, S j → w0.heap.size ≤ j := fun j hj => by
    rcases hS j hj with rfl | z
    · exact h.sb0
    · exact h.mv0 j z
  have hkb : Kb W W' := Kb.ch hc (fun j hj cs fz q => by
    rcases hS j hj with rfl | z | z
    · have := h.ss
      unfold SsAt at this
      rw [this] at q
      simp at q
    · obtain ⟨es, cl, e⟩ := h.ms.block z
      rw [e] at q
      cases q
    · obtain ⟨es, cl, e⟩ := h.mn.block z
      rw [e] at q
      cases q)
  refine ⟨h.ks.swapX hc (fun j hj => ?_) hkb (fun z => by have := hS0 0 z; have := h.w00; omega) (fun j hj => ?_), ss', ms', mn', ?_, h.sb0, fun j hj => ?_, h.w00⟩
  · rcases hS j hj with rfl | z | z
    · exact .inr ⟨_, h.ss, other56 _⟩
    · exact .inl (.inr (.inl z))
    · exact .inl (.inr (.inr z))
  · rcases hj with z | z | z
    · exact .inl (.inl z)
    · rcases hv j (.inl z) with y | y
      · exact .inl (.inr y)
      · exact .inr ⟨y, ms'.lt z⟩
    · rcases hv j (.inr z) with y | y
      · exact .inl (.inr y)
      · exact .inr ⟨y, mn'.lt z⟩
  · exact ⟨hc.os.trans h.bel.os, hc.tape.trans h.bel.tape, hc.output.trans h.bel.output, Nat.le_trans h.bel.size hc.size, fun j hj => (hc.block j (Nat.lt_of_lt_of_le hj h.bel.size) (fun z => by have := hS0 j z; omega)).trans (h.bel.block j hj)⟩
  · rcases hv j hj with y | y
    · exact h.mv0 j y
    · exact Nat.le_trans h.bel.size y
end
/-! ### The chapter's example, purely -/
def mq (q : Int) : Mp := ⟨⟨#[116]⟩, q, false, [7]⟩
def n0 : Pw := ⟨1, 1, false, 0, [], [], []⟩
def n1 : Pw := ⟨1, 1, false, 0, [], [mq 1], []⟩
def n2 : Pw := ⟨1, 1, true, 1, [⟨1, false, mq 1⟩], [], []⟩
def n3 : Pw := ⟨1, 1, true, 1, [⟨1, false, mq 1⟩], [mq 2], []⟩
def n4 : Pw := ⟨1, 1, true, 2, [⟨2, false, mq 2⟩], [], []⟩
theorem j_send1 : pSend n0 (mq 1) = (n1, [], true, 0) := pSend_wait (.inl rfl) (by simp [n0]) (by simp [n0])
theorem j_up1 : pUp n1 = (n2, [⟨3, false, 1, mq 1⟩]) := by
  have e : abvF (Pw.T { n1 with on := true, wt := [] }) 0 = 1 := abvF_next (by omega) (by simp [Pw.T, n1])
  unfold pUp
  rw [pFill_go (p := { n1 with on := true }) (m := mq 1) (wt := []) rfl (by simp [n1]) rfl]
  have e2 : pLaunch { n1 with on := true, wt := [] } (mq 1) = (n2, ⟨3, false, 1, mq 1⟩) := by
    unfold pLaunch
    rw [show Pw.last { n1 with on := true, wt := [] } = 0 from rfl, e]
    rfl
  rw [show ({ ({ n1 with on := true } : Pw) with wt := [] } : Pw) = { n1 with on := true, wt := [] } from rfl, e2]
  rw [pFill_stop (p := n2) (.inr (.inr rfl))]
  rfl
theorem j_send2 : pSend n2 (mq 2) = (n3, [], true, 0) := pSend_wait (.inr rfl) (by simp [n2]) (by simp [n2])
theorem j_send3 : pSend n3 (mq 1) = (n3, [], false, 0) := pSend_full (.inl rfl) (by simp [n3]) (by simp [n3])
theorem j_ack : pAck n3 4 1 = (n4, [⟨3, false, 2, mq 2⟩]) := by
  have h : pAck n3 4 1 = pFill ⟨1, 1, true, 1, [], [mq 2], []⟩ := by
    unfold pAck pAckF
    simp [n3, awt, mq]
  rw [h, pFill_go (p := ⟨1, 1, true, 1, [], [mq 2], []⟩) (m := mq 2) (wt := []) rfl (by simp) rfl]
  have e : abvF (Pw.T ⟨1, 1, true, 1, [], [], []⟩) 1 = 2 := abvF_next (by omega) (by simp [Pw.T])
  have e2 : pLaunch ⟨1, 1, true, 1, [], [], []⟩ (mq 2) = (n4, ⟨3, false, 2, mq 2⟩) := by
    unfold pLaunch
    rw [show Pw.last ⟨1, 1, true, 1, [], [], []⟩ = 1 from rfl, e]
    rfl
  rw [show ({ (⟨1, 1, true, 1, [], [mq 2], []⟩ : Pw) with wt := [] } : Pw) = ⟨1, 1, true, 1, [], [], []⟩ from rfl, e2]
  rw [pFill_stop (p := n4) (.inr (.inr rfl))]
theorem fa0 : Tp.fcode ⟨#[97]⟩ = 0 := by kernel_rfl
theorem fb0 : Tp.fcode ⟨#[98]⟩ = 0 := by kernel_rfl
end Go.Proofs.YtmihpmmkkklpfaaGreatDoor
