import Derived.Test.YtmfbkfgggdkfmaaGreatDoorCnb
namespace Go.Proofs.YtmfbkfgggdkfmaaGreatDoor.Co
open Go Go.RowKit
open Pkt (Pk Cn Sl In By Is Ss As pkCells Gd KindsAt Small wpList_load_wanted)
set_option linter.unusedSimpArgs false
set_option linter.unusedVariables false
/-! ### Next -/
theorem wpList_load41 {ops : Array Oper} {Q : Exit → Act → World → Prop} {a : Act} {w : World} {o : Oper} {rest : List Oper} (hw : Region.wanted o (yielded ops a.tmps) = true) (x : Operand) (ho : o.op = .load 41 x) (g : Nat)
    (hx : a.eval x = .pointer (some ⟨g, 0, none⟩)) (cs : Array Value) (fr : Nat × Nat) (hg : w.heap[g]? = some (.cells cs 41 fr)) (hs : cs.size = 28) (h : wpList Tryz.prog ops Q rest (a.put o.dst (.agg cs)) w) : wpList Tryz.prog ops Q (o :: rest) a w :=
  wpList_step fun K hK => by
    rw [if_pos hw]
    exact wp_load_row 41 x ho g hx 41 cs fr _ hg Tryz.underlying41 rfl (by rw [hs]; kernel_rfl) (hK _ _ h)
theorem yields_load41 {o : Oper} {a : Act} {x : Operand} {g : Nat} {cs : Array Value} {w : World} (ho : o.op = .load 41 x) (hx : a.eval x = .pointer (some ⟨g, 0, none⟩)) (hg : w.heap[g]? = some (.cells cs 41)) (hs : cs.size = 28) :
    (execOp a.eval o).run Tryz.prog w = .ok (.value (.agg cs)) w := by
  have hl : (loadVar 41 ⟨g, 0, none⟩).run Tryz.prog w = .ok (.agg cs) w := run_loadVar_row w g 41 41 cs (0, 0) _ hg Tryz.underlying41 rfl (by rw [hs]; kernel_rfl)
  unfold execOp
  simp only [ho, hx, Instr.loadAt, Instr.sureAddr, Sem.run_bind, Sem.run_pure, Result.andThen_ok, hl]
/-- A conn that lives. -/
structure LvS (w : World) (cb fb : Nat) (most : Int) (B : Nat) (st si bd : Int) (rf : Option Nat) (P : Nat) (z : Nat → Int) (H : Nat) : Prop where
  cn : CnAt w cb st (.pointer (some ⟨fb, 0, none⟩)) si bd
  fs : FS w fb most B rf P z H
/-- What Next leaves. -/
def NxF (w wx : World) (cb fb : Nat) (most : Int) (B : Nat) (st si bd : Int) (rf : Option Nat) (P : Nat) (z : Nat → Int) (H : Nat) : DecR → Int → Pk → Int → Int → Prop
  | .more, what, q, code, err => what = 0 ∧ q = blank 0 ∧ code = 0 ∧ err = 0 ∧ CnAt wx cb st (.pointer (some ⟨fb, 0, none⟩)) si bd ∧ ∃ rf', FS wx fb most B rf' P z H ∧ Nw (w.heap.size + 2) rf rf'
  | .fault x, what, q, code, err => what = 3 ∧ q = blank 0 ∧ code = 0 ∧ err = x.2 ∧ CnAt wx cb 2 (.pointer none) 0 0
  | .ok p c k, what, q, code, err => ∃ q0, Alike q0 p ∧ In wx q0 c ∧ (∀ b, Uses q0 b → w.heap.size + 2 ≤ b) ∧ inC what q code err = (if st = 0 then fstV q0 else latV q0) ∧ TookIs wx cb st (.pointer (some ⟨fb, 0, none⟩)) si bd what q.kind q.keep ∧ ∃ rf', FS wx fb most B rf' (P + k) (sh z k) (H - k) ∧ Nw (w.heap.size + 2) rf rf' ∧ ∀ b, Uses q0 b → rf' ≠ some b
theorem TookIs.keep {w w' : World} {cb : Nat} {st : Int} {fp : Value} {si bd what kind keep : Int} (h : TookIs w cb st fp si bd what kind keep) (e : w'.heap[cb]? = w.heap[cb]?) : TookIs w' cb st fp si bd what kind keep := by
  unfold TookIs at *
  split
  · rename_i q
    rw [if_pos q] at h
    split
    · rename_i q2
      rw [if_pos q2] at h
      exact h.keep e
    · rename_i q2
      rw [if_neg q2] at h
      exact h.keep e
  · rename_i q
    rw [if_neg q] at h
    exact h.keep e
/-- Only a new box is written. -/
theorem NxF.keep {w wx wy : World} {cb fb : Nat} {most : Int} {B : Nat} {st si bd : Int} {rf : Option Nat} {P : Nat} {z : Nat → Int} {H : Nat} {R : DecR} {what : Int} {q : Pk} {code err : Int} (h : NxF w wx cb fb most B st si bd rf P z H R what q code err) (hcb : cb < w.heap.size) (hfb : fb < w.heap.size) (hrf : ∀ k, rf = some k → k < w.heap.size) (hk : ∀ b, b ≠ w.heap.size → wy.heap[b]? = wx.heap[b]?) : NxF w wy cb fb most B st si bd rf P z H R what q code err := by
  have hr : ∀ {rf' : Option Nat}, Nw (w.heap.size + 2) rf rf' → ∀ k, rf' = some k → wy.heap[k]? = wx.heap[k]? := fun hn k e => hk k (by
    rcases hn with q | q | ⟨j, q, q2⟩
    · have := hrf k (q ▸ e); omega
    · rw [q] at e; cases e
    · rw [q] at e; cases e; omega)
  cases R with
  | more =>
    obtain ⟨h1, h2, h3, h4, h5, rf', h6, h7⟩ := h
    exact ⟨h1, h2, h3, h4, h5.keep (hk cb (by omega)), rf', h6.keep (hk fb (by omega)) (hr h7), h7⟩
  | fault x =>
    obtain ⟨h1, h2, h3, h4, h5⟩ := h
    exact ⟨h1, h2, h3, h4, h5.keep (hk cb (by omega))⟩
  | ok p c k =>
    obtain ⟨q0, h1, h2, h3, h4, h5, rf', h6, h7, h8⟩ := h
    exact ⟨q0, h1, In.congr h2 (fun b hb => hk b (by have := h3 b hb; omega)), h3, h4, h5.keep (hk cb (by omega)), rf', h6.keep (hk fb (by omega)) (hr h7), h7, h8⟩
theorem fst_in (q : Pk) : ∃ what q' code err, fstV q = inC what q' code err ∧ what ≠ 0 := by
  unfold fstV
  split
  · split
    · exact ⟨_, _, _, _, rfl, by decide⟩
    · exact ⟨_, _, _, _, rfl, by decide⟩
  · exact ⟨_, _, _, _, rfl, by decide⟩
theorem lat_in (q : Pk) : ∃ what q' code err, latV q = inC what q' code err ∧ what ≠ 0 := by
  unfold latV
  split
  · exact ⟨_, _, _, _, rfl, by decide⟩
  · split
    · exact ⟨_, _, _, _, rfl, by decide⟩
    · exact ⟨_, _, _, _, rfl, by decide⟩
theorem ch_row {w : World} {g : Nat} {cs : Array Value} : Ch (fun k => k = g) w (w.setRow g cs) := ⟨rfl, rfl, rfl, by rw [setRow_size]; exact Nat.le_refl _, fun k _ hk => setRow_ne hk⟩
end Go.Proofs.YtmfbkfgggdkfmaaGreatDoor.Co
