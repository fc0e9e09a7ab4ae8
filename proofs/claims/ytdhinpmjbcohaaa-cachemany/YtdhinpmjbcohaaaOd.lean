import Derived.Test.YtdhinpmjbcohaaaOc
import Derived.Test.YtdhinpmjbcohaaaKn
import Derived.Maps.AppendAt
namespace Go.Proofs.Ytdhinpmjbcohaaa
open Go Go.RowKit
set_option linter.unusedSimpArgs false
set_option linter.unusedVariables false
open Ki

/-- One call of a script. -/
structure Op8 where
  kind : Int
  second : Bool
  k : ByteArray × Int
  v : Int
  stop : Int
def opc (p : Op8) : List Value := [.int .i64 p.kind, .bool p.second, .string p.k.1, .int .i64 p.k.2, .int .i64 p.v, .int .i64 p.stop]
/-- A script in memory. -/
def ScR (w : World) (a : Option Addr) (ops : List Op8) : Prop := ops ≠ [] → ∃ g o, a = some ⟨g, o, none⟩ ∧ ∀ j p, ops[j]? = some p → ∀ q u, (opc p)[q]? = some u → w.cell? ⟨g, o + j * 6 + q, none⟩ = some u
def okOp (p : Op8) : Prop := okK p.k ∧ (Lit.int .i64 p.v).wf = true
/-- The uses' cells. -/
def uc (U : List (Ky × Int)) : List Value := U.flatMap (fun p => [.string p.1.1, .int .i64 p.1.2, .int .i64 p.2])
theorem uc_snoc (U : List (Ky × Int)) (p : Ky × Int) : uc (U ++ [p]) = uc U ++ [.string p.1.1, .int .i64 p.1.2, .int .i64 p.2] := by simp [uc]
theorem uc_at : ∀ (U : List (Ky × Int)) (j : Nat) (p : Ky × Int), U[j]? = some p → (uc U)[j * 3]? = some (.string p.1.1) ∧ (uc U)[j * 3 + 1]? = some (.int .i64 p.1.2)
  | [], j, p, h => by simp at h
  | x :: U, 0, p, h => by
    simp at h
    subst h
    simp [uc]
  | x :: U, j + 1, p, h => by
    have ih := uc_at U j p (by simpa using h)
    have e1 : (j + 1) * 3 = j * 3 + 1 + 1 + 1 := by omega
    have e2 : (j + 1) * 3 + 1 = (j * 3 + 1) + 1 + 1 + 1 := by omega
    refine ⟨?_, ?_⟩
    · rw [e1]
      simpa [uc] using ih.1
    · rw [e2]
      simpa [uc] using ih.2
theorem own_keep {w w' : World} {B e s n : Nat} {v : Value} {xs : List Value} (h : w.ownsRow B e s v n xs) (hk : ∀ k, v.ownBlock = some k → w'.heap[k]? = w.heap[k]?) : w'.ownsRow B e s v n xs := by
  refine ⟨h.1, ?_⟩
  rcases h.2 with h0 | ⟨g, cap, cur, rfl, h1, hg, h2⟩
  · exact .inl h0
  · exact .inr ⟨g, cap, cur, rfl, h1, (hk g rfl).trans hg, h2⟩
/-- What is in memory while the law goes through a script. -/
structure TS (w0 wx : World) (cb room mb i : Nat) (uv : Value) (l : List (Ky × Int)) (lm : Ky → Option Int) (U : List (Ky × Int)) (F : Nat → Prop) : Prop where
  cs : CS wx cb room l F
  lo : ∀ j, F j → w0.heap.size ≤ j
  lm_ : LM wx mb i lm
  mlo : w0.heap.size ≤ mb
  mF : ¬ F mb
  ow : wx.ownsRow w0.heap.size 52 3 uv U.length (uc U)
  uF : ∀ g, uv.ownBlock = some g → ¬ F g ∧ g ≠ mb
  ul : U.length ≤ i
  uok : ∀ p ∈ U, okK p.1
  ch : Ch (fun j => w0.heap.size ≤ j) w0 wx
variable {w0 wx w' : World} {cb room mb i : Nat} {uv : Value} {l l' : List (Ky × Int)} {lm : Ky → Option Int} {U : List (Ky × Int)} {F : Nat → Prop}
theorem TS.mlt (h : TS w0 wx cb room mb i uv l lm U F) : mb < wx.heap.size := by
  obtain ⟨es, cl, q⟩ := h.lm_.blk
  exact (Array.getElem?_eq_some_iff.1 q).1
theorem TS.step {S : Nat → Prop} (h : TS w0 wx cb room mb i uv l lm U F) (hc : Ch S wx w') (h1 : ∀ j, F j → ¬ S j) (h2 : ¬ S mb) (h3 : ∀ g, uv.ownBlock = some g → ¬ S g) (h4 : ∀ j, S j → w0.heap.size ≤ j) : TS w0 w' cb room mb i uv l lm U F :=
  ⟨h.cs.ch hc h1, h.lo, h.lm_.keep (hc.block mb h.mlt h2), h.mlo, h.mF, own_keep h.ow (fun g hg => hc.block g (h.ow.lt g hg).2 (h3 g hg)), h.uF, h.ul, h.uok, h.ch.then (hc.mono (fun j _ q => h4 j q))⟩
theorem TS.below (h : TS w0 wx cb room mb i uv l lm U F) (hb : Below wx.heap.size wx w') : TS w0 w' cb room mb i uv l lm U F :=
  h.step (S := fun _ => False) (Below.ch hb) (fun _ _ q => q) (fun q => q) (fun _ _ q => q) (fun _ q => q.elim)
theorem TS.more (h : TS w0 wx cb room mb i uv l lm U F) {i' : Nat} (hi : i ≤ i') : TS w0 wx cb room mb i' uv l lm U F := by
  obtain ⟨D, h1, h2⟩ := h.lm_
  exact ⟨h.cs, h.lo, ⟨D, h1.mono hi, h2⟩, h.mlo, h.mF, h.ow, h.uF, Nat.le_trans h.ul hi, h.uok, h.ch⟩
theorem TS.laid {lm' : Ky → Option Int} {i' : Nat} (h : TS w0 wx cb room mb i uv l lm U F) (hl : LM w' mb i' lm') (hi : i ≤ i') (hc : Ch (fun j => j = mb) wx w') : TS w0 w' cb room mb i' uv l lm' U F :=
  ⟨h.cs.ch hc (fun j hj q => h.mF (q ▸ hj)), h.lo, hl, h.mlo, h.mF, own_keep h.ow (fun g hg => hc.block g (h.ow.lt g hg).2 (h.uF g hg).2), h.uF, Nat.le_trans h.ul hi, h.uok, h.ch.then (hc.mono (fun j _ q => q ▸ h.mlo))⟩
theorem TS.used {uv' : Value} {k : Ky} {x : Int} (h : TS w0 wx cb room mb i uv l lm U F) (hk : okK k) (ho : w'.ownsRow w0.heap.size 52 3 uv' (U.length + 1) (uc U ++ [.string k.1, .int .i64 k.2, .int .i64 x])) (hg : wx.grownBy w' uv.ownBlock) (hloc : uv'.ownBlock = uv.ownBlock ∨ uv'.ownBlock = some wx.heap.size) (hi : U.length < i) : TS w0 w' cb room mb i uv' l lm (U ++ [(k, x)]) F := by
  have hc := ch_grown hg
  have hlt : ∀ j, F j → j < wx.heap.size := fun j hj => h.cs.lt hj
  refine ⟨h.cs.ch hc (fun j hj q => (h.uF j q).1 hj), h.lo, h.lm_.keep (hc.block mb h.mlt (fun q => (h.uF mb q).2 rfl)), h.mlo, h.mF, ?_, fun g hg' => ?_, by simp; omega, fun p hp => ?_, h.ch.then (hc.mono (fun j _ q => (h.ow.lt j q).1))⟩
  · rw [uc_snoc]
    simpa using ho
  · rcases hloc with q | q
    · exact h.uF g (q ▸ hg')
    · rw [q] at hg'
      cases hg'
      refine ⟨fun r => ?_, fun r => ?_⟩
      · have := hlt _ r
        omega
      · have := h.mlt
        omega
  · rcases List.mem_append.1 hp with q | q
    · exact h.uok p q
    · simp at q
      subst q
      exact hk
/-- The uses as they are read. -/
theorem TS.read (h : TS w0 wx cb room mb i uv l lm U F) : ∃ a c, uv = .slice a U.length c ∧ U.length ≤ c ∧ UsR wx a U := by
  have hcell := fun (g : Nat) (hg : uv.ownBlock = some g) => h.ow.cells hg
  rcases h.ow.2 with ⟨rfl, h0⟩ | ⟨g, cap, cur, rfl, _, _, h1, _⟩
  · refine ⟨none, 0, by rw [h0], by omega, fun hne => ?_⟩
    exact absurd (List.length_eq_zero_iff.1 h0) hne
  · refine ⟨_, cap, rfl, h1, fun _ => ⟨g, rfl, fun j p hp => ?_⟩⟩
    obtain ⟨e1, e2⟩ := uc_at U j p hp
    have hadd : ∀ q : Nat, (⟨g, 0, none⟩ : Addr).add q = ⟨g, q, none⟩ := fun q => by unfold Addr.add; split <;> simp_all
    have k1 := hcell g rfl _ _ e1
    have k2 := hcell g rfl _ _ e2
    rw [hadd] at k1 k2
    exact ⟨k1, k2⟩
/-- .. with the call's own copy of one step. -/
structure TB (w0 wx : World) (cb room mb i : Nat) (uv : Value) (l : List (Ky × Int)) (lm : Ky → Option Int) (U : List (Ky × Int)) (F : Nat → Prop) (b0 : Nat) (p : Op8) : Prop where
  ts : TS w0 wx cb room mb i uv l lm U F
  bx : wx.heap[b0]? = some (.cells #[.int .i64 p.kind, .bool p.second, .string p.k.1, .int .i64 p.k.2, .int .i64 p.v, .int .i64 p.stop] 33 (0, 0))
  bF : ¬ F b0
  bm : b0 ≠ mb
  bu : uv.ownBlock ≠ some b0
variable {b0 : Nat} {p : Op8}
theorem TB.blt (h : TB w0 wx cb room mb i uv l lm U F b0 p) : b0 < wx.heap.size := (Array.getElem?_eq_some_iff.1 h.bx).1
theorem TB.below (h : TB w0 wx cb room mb i uv l lm U F b0 p) (hb : Below wx.heap.size wx w') : TB w0 w' cb room mb i uv l lm U F b0 p :=
  ⟨h.ts.below hb, (hb.block b0 h.blt).trans h.bx, h.bF, h.bm, h.bu⟩
theorem TB.more (h : TB w0 wx cb room mb i uv l lm U F b0 p) {i' : Nat} (hi : i ≤ i') : TB w0 wx cb room mb i' uv l lm U F b0 p := ⟨h.ts.more hi, h.bx, h.bF, h.bm, h.bu⟩
theorem TB.laid {lm' : Ky → Option Int} {i' : Nat} (h : TB w0 wx cb room mb i uv l lm U F b0 p) (hl : LM w' mb i' lm') (hi : i ≤ i') (hc : Ch (fun j => j = mb) wx w') : TB w0 w' cb room mb i' uv l lm' U F b0 p :=
  ⟨h.ts.laid hl hi hc, (hc.block b0 h.blt h.bm).trans h.bx, h.bF, h.bm, h.bu⟩
theorem TB.cell (h : TB w0 wx cb room mb i uv l lm U F b0 p) : wx.cell? ⟨b0, 2, none⟩ = some (.string p.k.1) ∧ wx.cell? ⟨b0, 3, none⟩ = some (.int .i64 p.k.2) ∧ wx.cell? ⟨b0, 4, none⟩ = some (.int .i64 p.v) :=
  ⟨box_cells h.bx 2 _ rfl, box_cells h.bx 3 _ rfl, box_cells h.bx 4 _ rfl⟩
end Go.Proofs.Ytdhinpmjbcohaaa
