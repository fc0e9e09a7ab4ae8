import Derived.Test.YtmihpmmkkklpfaaGreatDoorBQd
import Derived.Test.YtmihpmmkkklpfaaGreatDoorBTg
import Derived.Test.YtmihpmmkkklpfaaGreatDoorBOd
import Derived.Deep.LoopGhost
namespace Go.Proofs.YtmihpmmkkklpfaaGreatDoor
open Go Go.RowKit Go.Shelf Go.Maps Go.Sort
set_option linter.unusedSimpArgs false
set_option linter.unusedVariables false
/-! ### One call, whatever its kind -/
section
variable {G : Nat → Prop} {W : World} {sb wb : Nat} {k : ByteArray} {la : Bool} {mo : Int} {z : Pz} {c : Nat} {sv nv : Value}
theorem does_any (h : SZ G W sb wb k la mo z c sv nv) (o : Oc) (wh : Int) (pa : Option Addr) (pn pc : Nat) (hp : PBi W (.slice pa pn pc) o.m.xs) (hmo : mo ≤ 65536) (hn : (z.n : Int) ≤ 65536) (hm : z.m < 1000000) (hc : c + 1 ≤ 200000) (hfs : o.fl.size ≤ 1000000) (ht : o.m.t.size ≤ 1000000) (hid : okI o.id) :
    Calls Tryz.prog 8 #[.pointer (some ⟨sb, 0, none⟩), .agg #[.int .i64 o.kd, .int .i64 wh, .int .i64 o.nn, .int .i64 o.id, .string o.fl, .int .i64 o.q, .string o.m.t, .slice pa pn pc, .int .i64 o.m.q, .bool o.m.r]] W fun e w' => ∃ v, e = .returned (.tuple #[v, .bool (pDo mo z o).ok, .int .i64 (pDo mo z o).n]) ∧ Left G W w' sb wb k la mo (pDo mo z o).z (c + 1) ∧ Lst w' v (pDo mo z o).X := by
  obtain ⟨kd, nn, id, fl, q, ⟨t, mq, r, xs⟩⟩ := o
  simp only at hp hfs ht hid ⊢
  by_cases k1 : kd = 1
  · subst k1; simp only [pDo]; exact does_up h wh nn id fl q t pa pn pc mq r (by omega)
  by_cases k2 : kd = 2
  · subst k2; simp only [pDo]; exact does_down h wh nn id fl q t pa pn pc mq r
  by_cases k3 : kd = 3
  · subst k3; simp only [pDo]; exact does_sub h wh nn id fl q t pa pn pc mq r hmo hn hfs
  by_cases k4 : kd = 4
  · subst k4; simp only [pDo]; exact does_unsub h wh nn id fl q t pa pn pc mq r hfs
  by_cases k6 : kd = 6
  · subst k6; simp only [pDo]; exact does_del h wh nn id fl q t pa pn pc mq r hc xs hp ht
  by_cases k7 : kd = 7
  · subst k7; simp only [pDo]; exact does_ack h wh nn id fl q t pa pn pc mq r (by omega) hid
  by_cases k8 : kd = 8
  · subst k8; simp only [pDo]; exact does_note h wh nn id fl q t pa pn pc mq r hid hm
  by_cases k9 : kd = 9
  · subst k9; simp only [pDo]; exact does_rel h wh nn id fl q t pa pn pc mq r hid
  · simp only [pDo, k1, k2, k3, k4, k6, k7, k8, k9, if_false]
    exact does_no h kd wh nn id fl q t pa pn pc mq r k1 k2 k3 k4 k6 k7 k8 k9
end
end Go.Proofs.YtmihpmmkkklpfaaGreatDoor
namespace Go.Proofs.YtmihpmmkkklpfaaGreatDoor
open Go Go.RowKit Go.Shelf Go.Maps Go.Sort
set_option linter.unusedSimpArgs false
set_option linter.unusedVariables false
/-! ### What a session keeps to, purely -/
/-- c: how many calls have been. -/
structure Zok (mo : Int) (N Q : Nat) (z : Pz) (c : Nat) : Prop where
  fi : Fine z.p
  r : z.p.R = []
  mt : z.p.most = N
  qu : z.p.queue = Q
  n0 : (z.n : Int) ≤ mo
  m0 : z.m ≤ c
  fq : ∀ x q, z.f x = some q → Tp.fcode x = 0 ∧ x.size ≤ 1000000 ∧ 0 ≤ q ∧ q ≤ 2
  gr : ∀ x, (z.g x).isSome = true → 1 ≤ x ∧ x ≤ 65535
variable {mo : Int} {N Q : Nat} {z : Pz} {c : Nat}
theorem Zok.win (h : Zok mo N Q z c) (k : Int) (m : Mp) (a n : Int) (hk : k ≠ 5) (hm : m.t.size ≤ 1000000) {q : Pw} (e : (pPlay z.p k m a n).1 = q) : Zok mo N Q { z with p := q } (c + 1) := by
  have h1 := h.fi.play k m a n hm
  obtain ⟨h2, h3, h4⟩ := none_play h.r k m a n hk
  rw [e] at h1 h2 h3 h4
  exact ⟨h1, h2, h3.trans h.mt, h4.trans h.qu, h.n0, Nat.le_succ_of_le h.m0, h.fq, h.gr⟩
theorem Zok.more (h : Zok mo N Q z c) : Zok mo N Q z (c + 1) := { h with m0 := Nat.le_succ_of_le h.m0 }
theorem Zok.do (h : Zok mo N Q z c) (o : Oc) (hf : o.fl.size ≤ 1000000) (ht : o.m.t.size ≤ 1000000) : Zok mo N Q (pDo mo z o).z (c + 1) := by
  unfold pDo
  split
  · exact h.win 3 o.m 0 0 (by decide) ht (by simp [pPlay])
  split
  · exact h.win 4 o.m 0 0 (by decide) ht (by simp [pPlay])
  split
  · show Zok mo N Q (pSub mo z o.fl o.q).1 (c + 1)
    unfold pSub
    split
    · rename_i hc
      refine ⟨h.fi, h.r, h.mt, h.qu, ?_, Nat.le_succ_of_le h.m0, fun x q e => ?_, h.gr⟩
      · show ((szI z.f o.fl z.n : Nat) : Int) ≤ mo
        unfold szI
        have := h.n0
        split
        · exact this
        · rename_i hno
          rcases hc.2 with y | y
          · exact absurd y hno
          · omega
      · have e' : (if x = o.fl then some o.q else z.f x) = some q := e
        split at e'
        · rename_i hx
          cases e'
          rw [hx]
          exact ⟨hc.1.1, hf, hc.1.2.1, hc.1.2.2⟩
        · exact h.fq x q e'
    · exact h.more
  split
  · refine ⟨h.fi, h.r, h.mt, h.qu, ?_, Nat.le_succ_of_le h.m0, fun x q e => ?_, h.gr⟩
    · show ((z.n - (if (z.f o.fl).isSome then 1 else 0) : Nat) : Int) ≤ mo
      have := h.n0
      omega
    · have e' : (if x = o.fl then none else z.f x) = some q := e
      split at e'
      · cases e'
      · exact h.fq x q e'
  split
  · show Zok mo N Q (pDel z o.m).1 (c + 1)
    unfold pDel
    split
    · exact h.win 1 o.m 0 0 (by decide) ht (by simp [pPlay])
    · split
      · exact h.more
      · exact h.more
  split
  · exact h.win 2 o.m o.nn o.id (by decide) ht (by simp [pPlay])
  split
  · show Zok mo N Q (pNote z o.id).1 (c + 1)
    unfold pNote
    split
    · exact h.more
    · rename_i hc
      refine ⟨h.fi, h.r, h.mt, h.qu, h.n0, Nat.succ_le_succ h.m0, h.fq, fun x e => ?_⟩
      have e' : (if x = o.id then some (Value.agg #[]) else z.g x).isSome = true := e
      split at e'
      · rename_i hx
        rw [hx]
        exact Classical.byContradiction fun y => hc (.inr y)
      · exact h.gr x e'
  split
  · refine ⟨h.fi, h.r, h.mt, h.qu, h.n0, ?_, h.fq, fun x e => ?_⟩
    · show z.m - (if (z.g o.id).isSome then 1 else 0) ≤ c + 1
      have := h.m0
      omega
    · have e' : (if x = o.id then none else z.g x).isSome = true := e
      split at e'
      · cases e'
      · exact h.gr x e'
  · exact h.more
/-- A new one. -/
theorem Zok.start (hmo : 0 ≤ mo) : Zok mo N Q ⟨⟨N, Q, false, 0, [], [], []⟩, 0, fun _ => none, 0, fun _ => none⟩ 0 :=
  ⟨⟨fun f hf => (by cases hf), fun m hm => (by cases hm)⟩, rfl, rfl, rfl, hmo, Nat.le_refl _, fun x q e => (by cases e), fun x e => (by cases e)⟩
/-- Down, and the same made anew of what is kept: one state. -/
theorem Zok.down (h : Zok mo N Q z c) : { z with p := { z.p with on := false } } = ({ z with p := ⟨z.p.most, z.p.queue, false, z.p.last, z.p.fl, z.p.wt, []⟩ } : Pz) := by
  have := h.r
  obtain ⟨p, n, f, m, g⟩ := z
  obtain ⟨a, b, d, e, i, j, k⟩ := p
  simp only at this ⊢
  subst this
  rfl
end Go.Proofs.YtmihpmmkkklpfaaGreatDoor
namespace Go.Proofs.YtmihpmmkkklpfaaGreatDoor
open Go Go.RowKit Go.Shelf Go.Maps Go.Sort
set_option linter.unusedSimpArgs false
set_option linter.unusedVariables false
/-! ### Two sessions -/
structure Z2 (w0 W : World) (sb wb tb xb : Nat) (k : ByteArray) (la : Bool) (mo : Int) (z z' : Pz) (c c' : Nat) (sv nv sv' nv' : Value) : Prop where
  ex : ∃ i i', WS W wb i c ∧ i.p = z.p ∧ WS W xb i' c' ∧ i'.p = z'.p ∧ (∀ j, i.U wb j → w0.heap.size ≤ j ∧ ¬ SU sb sv nv j ∧ ¬ i'.U xb j ∧ ¬ SU tb sv' nv' j) ∧ ∀ j, i'.U xb j → w0.heap.size ≤ j ∧ ¬ SU tb sv' nv' j ∧ ¬ SU sb sv nv j
  su : ∀ j, SU sb sv nv j → w0.heap.size ≤ j ∧ ¬ SU tb sv' nv' j
  tu : ∀ j, SU tb sv' nv' j → w0.heap.size ≤ j
  a1 : SsAt W sb wb k la mo sv nv
  a2 : MG W sv z.n (fS z.f)
  a3 : MI W nv z.m z.g
  a4 : ∀ j, sv = .map (some j) → nv ≠ .map (some j)
  a5 : ∀ x v, z.g x = some v → v = .agg #[]
  b1 : SsAt W tb xb k la mo sv' nv'
  b2 : MG W sv' z'.n (fS z'.f)
  b3 : MI W nv' z'.m z'.g
  b4 : ∀ j, sv' = .map (some j) → nv' ≠ .map (some j)
  b5 : ∀ x v, z'.g x = some v → v = .agg #[]
  gd : Gd W
  bel : Below w0.heap.size w0 W
  p0 : 0 < w0.heap.size
section
variable {w0 W : World} {sb wb tb xb : Nat} {k : ByteArray} {la : Bool} {mo : Int} {z z' : Pz} {c c' : Nat} {sv nv sv' nv' : Value}
theorem Z2.swap (h : Z2 w0 W sb wb tb xb k la mo z z' c c' sv nv sv' nv') : Z2 w0 W tb xb sb wb k la mo z' z c' c sv' nv' sv nv := by
  obtain ⟨i, i', h1, h2, h3, h4, h5, h6⟩ := h.ex
  exact ⟨⟨i', i, h3, h4, h1, h2, fun j hj => ⟨(h6 j hj).1, (h6 j hj).2.1, fun y => (h5 j y).2.2.1 hj, (h6 j hj).2.2⟩, fun j hj => ⟨(h5 j hj).1, (h5 j hj).2.1, (h5 j hj).2.2.2⟩⟩, fun j hj => ⟨h.tu j hj, fun y => (h.su j y).2 hj⟩, fun j hj => (h.su j hj).1, h.b1, h.b2, h.b3, h.b4, h.b5, h.a1, h.a2, h.a3, h.a4, h.a5, h.gd, h.bel, h.p0⟩
theorem su_lt {W : World} {sb wb : Nat} {k : ByteArray} {la : Bool} {mo : Int} {sv nv : Value} {n m : Nat} {f : ByteArray → Option Value} {g : Int → Option Value} (h1 : SsAt W sb wb k la mo sv nv) (h2 : MG W sv n f) (h3 : MI W nv m g) {j : Nat} (hj : SU sb sv nv j) : j < W.heap.size := by
  rcases hj with y | y | y
  · rw [y]; exact (Array.getElem?_eq_some_iff.1 h1).1
  · exact h2.lt y
  · exact h3.lt y
theorem Z2.below {W' : World} (h : Z2 w0 W sb wb tb xb k la mo z z' c c' sv nv sv' nv') (hb : Below W.heap.size W W') : Z2 w0 W' sb wb tb xb k la mo z z' c c' sv nv sv' nv' := by
  obtain ⟨i, i', h1, h2, h3, h4, h5, h6⟩ := h.ex
  exact ⟨⟨i, i', h1.below hb, h2, h3.below hb, h4, h5, h6⟩, h.su, h.tu, h.a1.below hb, h.a2.keep (fun b e => hb.block b (h.a2.lt e)), h.a3.keep (fun b e => hb.block b (h.a3.lt e)), h.a4, h.a5, h.b1.below hb, h.b2.keep (fun b e => hb.block b (h.b2.lt e)), h.b3.keep (fun b e => hb.block b (h.b3.lt e)), h.b4, h.b5, h.gd.below hb, h.bel.trans (hb.mono h.bel.size), h.p0⟩
/-- The first one is called, the second stays. -/
theorem Z2.one (h : Z2 w0 W sb wb tb xb k la mo z z' c c' sv nv sv' nv') : ∃ G : Nat → Prop, SZ G W sb wb k la mo z c sv nv ∧ ∀ {W' : World} {y : Pz} {d : Nat}, Left G W W' sb wb k la mo y d → ∃ sv2 nv2, Z2 w0 W' sb wb tb xb k la mo y z' d c' sv2 nv2 sv' nv' ∧ KQ W W' := by
  obtain ⟨i, i', h1, h2, h3, h4, h5, h6⟩ := h.ex
  refine ⟨fun j => j < w0.heap.size ∨ i'.U xb j ∨ SU tb sv' nv' j, ⟨⟨⟨i, h1, h2, ?_⟩, h.gd⟩, h.a1, h.a2, h.a3, h.a4, ?_, h.a5, ?_⟩, ?_⟩
  · rintro j ((q | q | q) | q)
    · exact ⟨Nat.lt_of_lt_of_le q h.bel.size, fun y => by have := (h5 j y).1; omega⟩
    · exact ⟨h3.lt q, fun y => (h5 j y).2.2.1 q⟩
    · exact ⟨su_lt h.b1 h.b2 h.b3 q, fun y => (h5 j y).2.2.2 q⟩
    · exact ⟨su_lt h.a1 h.a2 h.a3 q, fun y => (h5 j y).2.1 q⟩
  · rintro j hj (q | q | q)
    · have := (h.su j hj).1
      omega
    · exact (h6 j q).2.2 hj
    · exact (h.su j hj).2 q
  · have := (h.su sb (.inl rfl)).1
    have := h.p0
    omega
  · rintro W' y d ⟨sv2, nv2, s, r, kq⟩
    obtain ⟨i1, k1, k2, k3⟩ := s.ks.ex
    have htU : ∀ j, SU tb sv' nv' j → W'.heap[j]? = W.heap[j]? := fun j hj => r.at (.inr (.inr hj)) (su_lt h.b1 h.b2 h.b3 hj)
    refine ⟨sv2, nv2, ⟨⟨i1, i', k1, k2, h3.keep r (fun j hj q => q (.inr (.inl hj))) kq.kb, h4, fun j hj => ?_, fun j hj => ?_⟩, fun j hj => ?_, h.tu, s.ss, s.mg, s.mi, s.ap, s.gq, ?_, ?_, ?_, h.b4, h.b5, s.ks.gd, ?_, h.p0⟩, kq⟩
    · refine ⟨Classical.byContradiction fun q => ?_, fun q => (k3 j (.inr q)).2 hj, fun q => (k3 j (.inl (.inr (.inl q)))).2 hj, fun q => (k3 j (.inl (.inr (.inr q)))).2 hj⟩
      exact (k3 j (.inl (.inl (by omega)))).2 hj
    · exact ⟨(h6 j hj).1, (h6 j hj).2.1, fun q => s.ag j q (.inr (.inl hj))⟩
    · refine ⟨Classical.byContradiction fun q => ?_, fun q => s.ag j hj (.inr (.inr q))⟩
      exact s.ag j hj (.inl (by omega))
    · exact (htU tb (.inl rfl)).trans h.b1
    · exact h.b2.keep (fun b e => htU b (.inr (.inl e)))
    · exact h.b3.keep (fun b e => htU b (.inr (.inr e)))
    · exact ⟨r.os.trans h.bel.os, r.tape.trans h.bel.tape, r.output.trans h.bel.output, Nat.le_trans h.bel.size r.size, fun j hj => (r.at (.inl hj) (Nat.lt_of_lt_of_le hj h.bel.size)).trans (h.bel.block j hj)⟩
/-- One beside a new one that is made of its image. -/
theorem SZ.two {W1 : World} (hs : SZ (fun j => j < w0.heap.size) W sb wb k la mo z c sv nv) (hb0 : Below w0.heap.size w0 W) (hp : 0 < w0.heap.size) (hb : Below W.heap.size W W1) (ht : SZ (fun j => j < W.heap.size) W1 tb xb k la mo z' c' sv' nv') : Z2 w0 W1 sb wb tb xb k la mo z z' c c' sv nv sv' nv' := by
  have hs1 : SZ (fun j => j < w0.heap.size) W1 sb wb k la mo z c sv nv := S1.below hs hb
  obtain ⟨i, h1, h2, h3⟩ := hs.ks.ex
  obtain ⟨i', k1, k2, k3⟩ := ht.ks.ex
  have hU' : ∀ j, i'.U xb j → W.heap.size ≤ j := fun j hj => Classical.byContradiction fun q => (k3 j (.inl (by omega))).2 hj
  have hSU' : ∀ j, SU tb sv' nv' j → W.heap.size ≤ j := fun j hj => Classical.byContradiction fun q => ht.ag j hj (by omega)
  have hU : ∀ j, i.U wb j → j < W.heap.size := fun j hj => h1.lt hj
  have hSU : ∀ j, SU sb sv nv j → j < W.heap.size := fun j hj => (h3 j (.inr hj)).1
  have hw := hb0.size
  refine ⟨⟨i, i', h1.below hb, h2, k1, k2, fun j hj => ⟨Classical.byContradiction fun q => (h3 j (.inl (by omega))).2 hj, fun q => (h3 j (.inr q)).2 hj, fun q => ?_, fun q => ?_⟩, fun j hj => ⟨Nat.le_trans hw (hU' j hj), fun q => (k3 j (.inr q)).2 hj, fun q => ?_⟩⟩, fun j hj => ⟨Classical.byContradiction fun q => hs.ag j hj (by omega), fun q => ?_⟩, fun j hj => Nat.le_trans hw (hSU' j hj), hs1.ss, hs1.mg, hs1.mi, hs1.ap, hs1.gq, ht.ss, ht.mg, ht.mi, ht.ap, ht.gq, hs1.ks.gd, hb0.trans (hb.mono hw), hp⟩
  · have := hU j hj; have := hU' j q; omega
  · have := hU j hj; have := hSU' j q; omega
  · have := hSU j q; have := hU' j hj; omega
  · have := hSU j hj; have := hSU' j q; omega
end
end Go.Proofs.YtmihpmmkkklpfaaGreatDoor
namespace Go.Proofs.YtmihpmmkkklpfaaGreatDoor
open Go Go.RowKit
set_option linter.unusedSimpArgs false
set_option linter.unusedVariables false
/-! ### A count of parts -/
def cAdd (L n : Int) : Int := if 0 ≤ L then L - n else L
def IsB (e : Ending) : Prop := ∃ b, e = .returned (.bool b)
/-- A count in memory. -/
def Ct (w : World) (c : Nat) (L : Int) : Prop := w.heap[c]? = some (.cells #[.int .i64 L] 122 (0, 0))
theorem Ct.cell {w : World} {c : Nat} {L : Int} (h : Ct w c L) : w.cell? ⟨c, 0, none⟩ = some (.int .i64 L) := box_cells h 0 _ rfl
theorem Ct.free {w : World} {c : Nat} {L : Int} (h : Ct w c L) : w.frozen? ⟨c, 0, none⟩ = false := box_frozen h 0
theorem Ct.set {w : World} {c : Nat} {L : Int} (h : Ct w c L) (L' : Int) : Ct (w.setCell ⟨c, 0, none⟩ (.int .i64 L')) c L' := by
  have := heap_set (k := 0) h (.int .i64 L')
  simpa [Ct] using this
theorem cAdd_le {L n : Int} (hn : 0 ≤ n) : cAdd L n ≤ L := by
  unfold cAdd
  split <;> omega
set_option maxHeartbeats 400000 in
theorem add_any {w : World} {c : Nat} {L : Int} (h : Ct w c L) (n : Int) (hL : L ≤ 2 ^ 60) (hn : 0 ≤ n ∧ n ≤ 2 ^ 63 - 1) :
    Calls Tryz.prog 22 #[.pointer (some ⟨c, 0, none⟩), .int .i64 n] w fun e w' => IsB e ∧ Ct w' c (cAdd L n) ∧ Ch (fun k => k = c) w w' := by
  have c0 := h.cell
  have f0 := h.free
  by_cases hp : 0 ≤ L
  · have hw : IntKind.i64.wrap (L - n) = L - n := by rw [IntKind.wrap_i64]; omega
    have c1 := (h.set (L - n)).cell
    have HZ : Hid (Ct (w.setCell ⟨c, 0, none⟩ (.int .i64 (L - n))) c (cAdd L n) ∧ Ch (fun k => k = c) w (w.setCell ⟨c, 0, none⟩ (.int .i64 (L - n)))) := ⟨by rw [cAdd, if_pos hp]; exact h.set _, ch_set _ _ _⟩
    clear h hn hL
    go_enter Tryz.func22, Tryz.ntmps22
    go_wp2
    go_ret
    exact ⟨⟨_, rfl⟩, HZ.out⟩
  · have HZ : Hid (Ct w c (cAdd L n) ∧ Ch (fun k => k = c) w w) := ⟨by rw [cAdd, if_neg hp]; exact h, Ch.refl _ _⟩
    have hp' : ¬ L ≥ 0 := hp
    clear h hn hL
    go_enter Tryz.func22, Tryz.ntmps22
    go_wp2
    go_ret
    exact ⟨⟨_, rfl⟩, HZ.out⟩
set_option maxHeartbeats 400000 in
theorem text_any {w : World} {c : Nat} {L : Int} (h : Ct w c L) (s : ByteArray) (hL : L ≤ 2 ^ 60) (hs : s.size ≤ maxLen) :
    Calls Tryz.prog 19 #[.pointer (some ⟨c, 0, none⟩), .string s] w fun e w' => e = .returned (.tuple #[]) ∧ Ct w' c (cAdd (cAdd L 1) s.size) ∧ Ch (fun k => k = c) w w' := by
  have hs' : (s.size : Int) ≤ 2 ^ 63 - 1 := by unfold maxLen at hs; omega
  have hb : cAdd L 1 ≤ L := cAdd_le (by omega)
  have HA := hidi (add_any h 1 (by omega) (by omega))
  have HB : Hid (∀ w', Ct w' c (cAdd L 1) → Calls Tryz.prog 22 #[.pointer (some ⟨c, 0, none⟩), .int .i64 s.size] w' fun e w'' => IsB e ∧ Ct w'' c (cAdd (cAdd L 1) s.size) ∧ Ch (fun k => k = c) w' w'') := fun w' h' => add_any h' _ (by omega) (by omega)
  clear h hL hs hs' hb
  go_enter Tryz.func19, Tryz.ntmps19
  go_wp2_with fail
  go_must (go_at_call 22)
  refine (HA.out).mono ?_
  rintro r w1 ⟨⟨b, rfl⟩, hk, hc⟩
  have J := hidi (HB.out _ hk)
  have C1 := hidi hc
  clear hk hc HA HB
  go_wp2_with fail
  go_must (go_at_call 22)
  refine (J.out).mono ?_
  rintro r w2 ⟨⟨b2, rfl⟩, hk, hc⟩
  have Z : Hid (Ct w2 c (cAdd (cAdd L 1) s.size) ∧ Ch (fun k => k = c) w w2) := ⟨hk, C1.out.trans hc (fun _ _ q => q)⟩
  clear hk hc J C1
  go_wp2_with fail
  exact bodyPost_end (results_none rfl _ _ _) rfl ⟨rfl, Z.out⟩
set_option maxHeartbeats 400000 in
theorem bytes_any {w : World} {c : Nat} {L : Int} (h : Ct w c L) (a : Option Addr) (n cp : Nat) (hL : L ≤ 2 ^ 60) (hs : n ≤ maxLen) :
    Calls Tryz.prog 53 #[.pointer (some ⟨c, 0, none⟩), .slice a n cp] w fun e w' => e = .returned (.tuple #[]) ∧ Ct w' c (cAdd (cAdd L 1) n) ∧ Ch (fun k => k = c) w w' := by
  have hs' : (n : Int) ≤ 2 ^ 63 - 1 := by unfold maxLen at hs; omega
  have hb : cAdd L 1 ≤ L := cAdd_le (by omega)
  have HA := hidi (add_any h 1 (by omega) (by omega))
  have HB : Hid (∀ w', Ct w' c (cAdd L 1) → Calls Tryz.prog 22 #[.pointer (some ⟨c, 0, none⟩), .int .i64 n] w' fun e w'' => IsB e ∧ Ct w'' c (cAdd (cAdd L 1) n) ∧ Ch (fun k => k = c) w' w'') := fun w' h' => add_any h' _ (by omega) (by omega)
  clear h hL hs hs' hb
  go_enter Tryz.func53, Tryz.ntmps53
  go_wp2_with fail
  go_must (go_at_call 22)
  refine (HA.out).mono ?_
  rintro r w1 ⟨⟨b, rfl⟩, hk, hc⟩
  have J := hidi (HB.out _ hk)
  have C1 := hidi hc
  clear hk hc HA HB
  go_wp2_with fail
  go_must (go_at_call 22)
  refine (J.out).mono ?_
  rintro r w2 ⟨⟨b2, rfl⟩, hk, hc⟩
  have Z : Hid (Ct w2 c (cAdd (cAdd L 1) n) ∧ Ch (fun k => k = c) w w2) := ⟨hk, C1.out.trans hc (fun _ _ q => q)⟩
  clear hk hc J C1
  go_wp2_with fail
  exact bodyPost_end (results_none rfl _ _ _) rfl ⟨rfl, Z.out⟩
def cMsg (L : Int) (s n : Nat) : Int := cAdd (cAdd (cAdd (cAdd L 1) s) 1) n
set_option maxHeartbeats 400000 in
theorem message_any {w : World} {c : Nat} {L : Int} (h : Ct w c L) (t : ByteArray) (a : Option Addr) (n cp : Nat) (q : Int) (r : Bool) (hL : L ≤ 2 ^ 60) (ht : t.size ≤ maxLen) (hs : n ≤ maxLen) :
    Calls Tryz.prog 24 #[.pointer (some ⟨c, 0, none⟩), .agg #[.string t, .slice a n cp, .int .i64 q, .bool r]] w fun e w' => e = .returned (.tuple #[]) ∧ Ct w' c (cMsg L t.size n) ∧ Ch (fun k => k = c) w w' := by
  obtain ⟨w1, hw1⟩ : ∃ w1, w1 = w.alloc (.cells #[.string t, .slice a n cp, .int .i64 q, .bool r] 45) := ⟨_, rfl⟩
  have a1 := heap_alloc_new w (.cells #[.string t, .slice a n cp, .int .i64 q, .bool r] 45)
  have b1 : Below w.heap.size w (w.alloc (.cells #[.string t, .slice a n cp, .int .i64 q, .bool r] 45)) := (Below.refl _ _).alloc (Nat.le_refl _) _
  rw [← hw1] at a1 b1
  have hcl : c < w.heap.size := (Array.getElem?_eq_some_iff.1 h).1
  have hc1 : Ct w1 c L := (b1.block c hcl).trans h
  have hb : cAdd (cAdd L 1) t.size ≤ L := Int.le_trans (cAdd_le (by omega)) (cAdd_le (by omega))
  have HA := hidi (text_any hc1 t hL ht)
  have HB := hidi (fun W (h' : Ct W c (cAdd (cAdd L 1) t.size)) => bytes_any h' a n cp (by omega) hs)
  have HX := hidi (And.intro a1 b1)
  have e0 := box_cells a1 0 _ rfl
  have e1 := box_cells a1 1 _ rfl
  have HCL := hidi hcl
  clear h hL ht hs a1 b1 hc1 hb hcl
  go_enter Tryz.func24, Tryz.ntmps24
  go_upto_region 1 with fail
  rw [← hw1]
  clear hw1
  go_wp2_with fail
  go_must (go_at_call 19)
  refine HA.out.mono ?_
  rintro e w2 ⟨rfl, hk, hc⟩
  have J := hidi (HB.out _ hk)
  have a2 : w2.heap[w.heap.size]? = some (.cells #[.string t, .slice a n cp, .int .i64 q, .bool r] 45 (0, 0)) := (hc.block _ (Array.getElem?_eq_some_iff.1 HX.out.1).1 (by have := HCL.out; omega)).trans HX.out.1
  clear e0 e1
  have e1 := box_cells a2 1 _ rfl
  have C1 := hidi hc
  clear hk hc HA HB a2
  go_wp2_with fail
  go_must (go_at_call 53)
  refine J.out.mono ?_
  rintro e w3 ⟨rfl, hk, hc⟩
  have Z := hidi (And.intro hk ((Below.ch (S := fun k => k = c) HX.out.2).trans (C1.out.trans hc (fun _ _ q => q)) (fun _ _ q => q)))
  clear hk hc J C1
  go_wp2_with fail
  exact bodyPost_end (results_none rfl _ _ _) rfl ⟨rfl, Z.out⟩
theorem cAdd_ok {L n : Int} (hn : 0 ≤ n) (h : 0 ≤ cAdd L n) : 0 ≤ L ∧ n ≤ L ∧ cAdd L n ≤ L := by
  refine ⟨?_, ?_, cAdd_le hn⟩ <;> (unfold cAdd at h; split at h <;> omega)
theorem cMsg_ok {L : Int} {s n : Nat} (h : 0 ≤ cMsg L s n) : (s : Int) ≤ L ∧ (n : Int) ≤ L := by
  unfold cMsg at h
  obtain ⟨a1, a2, a3⟩ := cAdd_ok (by omega) h
  obtain ⟨b1, b2, b3⟩ := cAdd_ok (by omega) a1
  obtain ⟨c1, c2, c3⟩ := cAdd_ok (by omega) b1
  obtain ⟨d1, d2, d3⟩ := cAdd_ok (by omega) c1
  omega
theorem cMsg_le (L : Int) (s n : Nat) : cMsg L s n ≤ L := Int.le_trans (cAdd_le (by omega)) (Int.le_trans (cAdd_le (by omega)) (Int.le_trans (cAdd_le (by omega)) (cAdd_le (by omega))))
theorem ok_any {w : World} {c : Nat} {L : Int} (h : Ct w c L) : Calls Tryz.prog 23 #[.pointer (some ⟨c, 0, none⟩)] w fun e w' => e = .returned (.bool (decide (0 ≤ L))) ∧ w' = w := by
  have c0 := h.cell
  clear h
  by_cases hp : 0 ≤ L
  · have hp' : L ≥ 0 := hp
    rw [decide_eq_true hp]
    go_enter Tryz.func23, Tryz.ntmps23
    go_wp2
    go_ret
    exact ⟨rfl, rfl⟩
  · have hp' : ¬ L ≥ 0 := hp
    rw [decide_eq_false hp]
    go_enter Tryz.func23, Tryz.ntmps23
    go_wp2
    go_ret
    exact ⟨rfl, rfl⟩
theorem many_any (n : Int) (w : World) : Calls Tryz.prog 18 #[.int .i64 n] w fun e w' => e = .returned (.pointer (some ⟨w.heap.size, 0, none⟩)) ∧ Ct w' w.heap.size n ∧ Below w.heap.size w w' := by
  have HZ : Hid (Ct (w.alloc (.cells #[.int .i64 n] 122)) w.heap.size n ∧ Below w.heap.size w (w.alloc (.cells #[.int .i64 n] 122))) := ⟨heap_alloc_new _ _, (Below.refl _ _).alloc (Nat.le_refl _) _⟩
  go_enter Tryz.func18, Tryz.ntmps18
  go_wp2
  go_ret
  exact ⟨rfl, HZ.out⟩
/-! ### A script -/
structure Ov where
  k : Int
  s : Bool
  m : Ms
  a : Int
  n : Int
def Ov.cs (o : Ov) : Array Value := #[.int .i64 o.k, .bool o.s, .string o.m.t, o.m.v, .int .i64 o.m.q, .bool o.m.r, .int .i64 o.a, .int .i64 o.n]
/-- A payload as it comes in. -/
def PR (w : World) (v : Value) (xs : List Int) : Prop :=
  (v = .slice none 0 0 ∧ xs = []) ∨ ∃ a n c, v = .slice (some a) n c ∧ xs.length = n ∧ n ≤ maxLen ∧ ∀ i, i < n → w.cell? (a.add i) = some (.int .u8 (xs.getD i 0))
theorem PR.sl {w : World} {v : Value} {xs : List Int} (h : PR w v xs) : ∃ a c, v = .slice a xs.length c ∧ xs.length ≤ maxLen := by
  rcases h with ⟨h, rfl⟩ | ⟨a, n, c, h, rfl, h3, -⟩
  · exact ⟨_, _, h, by unfold maxLen; simp⟩
  · exact ⟨_, _, h, h3⟩
theorem PR.i {w : World} {v : Value} {xs : List Int} (h : PR w v xs) (hn : xs.length ≤ 300000) : PBi w v xs := by
  rcases h with h | ⟨a, n, c, h1, h2, h3, h4⟩
  · exact .inl h
  · exact .inr ⟨a, n, c, h1, h2, by omega, h4⟩
theorem PR.keep {w w' : World} {v : Value} {xs : List Int} (h : PR w v xs) (hk : ∀ b, b < w.heap.size → w'.heap[b]? = w.heap[b]?) : PR w' v xs := by
  rcases h with h | ⟨a, n, c, h1, h2, h3, h4⟩
  · exact .inl h
  · exact .inr ⟨a, n, c, h1, h2, h3, fun i hi => (cell_heap (hk _ (World.block_lt_of_cell? _ _ (h4 i hi)))).trans (h4 i hi)⟩
structure Scr (w : World) (sa : Option Addr) (n cap : Nat) (ops : List Ov) : Prop where
  len : ops.length = n
  big : n ≤ maxLen
  cell : 0 < n → ∃ g o, sa = some ⟨g, o, none⟩ ∧ ∀ i (hi : i < ops.length) x, x < 8 → w.cell? ⟨g, o + i * 8 + x, none⟩ = ops[i].cs[x]?
  pay : ∀ o ∈ ops, PR w o.m.v o.m.xs
  txt : ∀ o ∈ ops, o.m.t.size ≤ maxLen
  wf : ∀ o ∈ ops, okI o.k ∧ okI o.a ∧ okI o.n
theorem Scr.keep {w w' : World} {sa : Option Addr} {n cap : Nat} {ops : List Ov} (h : Scr w sa n cap ops) (hk : ∀ b, b < w.heap.size → w'.heap[b]? = w.heap[b]?) : Scr w' sa n cap ops :=
  { h with
    cell := fun hn => by
      obtain ⟨g, o, e, hc⟩ := h.cell hn
      refine ⟨g, o, e, fun i hi x hx => ?_⟩
      have h1 := hc i hi x hx
      have hs : ∃ v, ops[i].cs[x]? = some v := by
        match x, hx with
        | 0, _ => exact ⟨_, rfl⟩
        | 1, _ => exact ⟨_, rfl⟩
        | 2, _ => exact ⟨_, rfl⟩
        | 3, _ => exact ⟨_, rfl⟩
        | 4, _ => exact ⟨_, rfl⟩
        | 5, _ => exact ⟨_, rfl⟩
        | 6, _ => exact ⟨_, rfl⟩
        | 7, _ => exact ⟨_, rfl⟩
      obtain ⟨v, hv⟩ := hs
      rw [hv] at h1 ⊢
      exact (cell_heap (hk g (World.block_lt_of_cell? _ ⟨g, o + i * 8 + x, none⟩ h1))).trans h1
    pay := fun o ho => (h.pay o ho).keep hk }
end Go.Proofs.YtmihpmmkkklpfaaGreatDoor
namespace Go.Proofs.YtmihpmmkkklpfaaGreatDoor
open Go Go.RowKit Go.Shelf Go.Maps Go.Sort
set_option linter.unusedSimpArgs false
set_option linter.unusedVariables false
/-! ### The law's script in memory, and few -/
structure Ow where
  kd : Int
  wh : Int
  nn : Int
  id : Int
  fl : ByteArray
  q : Int
  m : Ms
def Ow.cs (o : Ow) : Array Value := #[.int .i64 o.kd, .int .i64 o.wh, .int .i64 o.nn, .int .i64 o.id, .string o.fl, .int .i64 o.q, .string o.m.t, o.m.v, .int .i64 o.m.q, .bool o.m.r]
def Ow.c (o : Ow) : Oc := ⟨o.kd, o.nn, o.id, o.fl, o.q, o.m.p⟩
structure Scs (w : World) (sa : Option Addr) (n cap : Nat) (ops : List Ow) : Prop where
  len : ops.length = n
  big : n ≤ maxLen
  cell : 0 < n → ∃ g o, sa = some ⟨g, o, none⟩ ∧ ∀ i (hi : i < ops.length) x, x < 10 → w.cell? ⟨g, o + i * 10 + x, none⟩ = ops[i].cs[x]?
  pay : ∀ o ∈ ops, PR w o.m.v o.m.xs
  txt : ∀ o ∈ ops, o.m.t.size ≤ maxLen ∧ o.fl.size ≤ maxLen
  wf : ∀ o ∈ ops, okI o.id
theorem Scs.keep {w w' : World} {sa : Option Addr} {n cap : Nat} {ops : List Ow} (h : Scs w sa n cap ops) (hk : ∀ b, b < w.heap.size → w'.heap[b]? = w.heap[b]?) : Scs w' sa n cap ops :=
  { h with
    cell := fun hn => by
      obtain ⟨g, o, e, hc⟩ := h.cell hn
      refine ⟨g, o, e, fun i hi x hx => ?_⟩
      have h1 := hc i hi x hx
      have hs : ∃ v, ops[i].cs[x]? = some v := by
        match x, hx with
        | 0, _ => exact ⟨_, rfl⟩
        | 1, _ => exact ⟨_, rfl⟩
        | 2, _ => exact ⟨_, rfl⟩
        | 3, _ => exact ⟨_, rfl⟩
        | 4, _ => exact ⟨_, rfl⟩
        | 5, _ => exact ⟨_, rfl⟩
        | 6, _ => exact ⟨_, rfl⟩
        | 7, _ => exact ⟨_, rfl⟩
        | 8, _ => exact ⟨_, rfl⟩
        | 9, _ => exact ⟨_, rfl⟩
      obtain ⟨v, hv⟩ := hs
      rw [hv] at h1 ⊢
      exact (cell_heap (hk g (World.block_lt_of_cell? _ ⟨g, o + i * 10 + x, none⟩ h1))).trans h1
    pay := fun o ho => (h.pay o ho).keep hk }
def FewS (ops : List Ow) : Prop := ops.length ≤ 150 ∧ ∀ o ∈ ops, o.m.t.size ≤ 100000 ∧ o.m.xs.length ≤ 100000 ∧ o.fl.size ≤ 100000
set_option maxRecDepth 100000 in
set_option maxHeartbeats 1000000 in
theorem asks_nil (c : Nat) (w : World) : Calls Tryz.prog 20 #[.pointer (some ⟨c, 0, none⟩), .slice none 0 0] w fun e w' => e = .returned (.tuple #[]) ∧ w' = w := by
  go_enter Tryz.func20, Tryz.ntmps20
  go_wp2_with fail
  refine wp_loop_rounds 1 ?_
  rw [rounds_succ]
  go_wp2_with fail
  go_end0
  exact ⟨rfl, rfl⟩
set_option maxRecDepth 100000 in
set_option maxHeartbeats 1000000 in
theorem msgs_nil (c : Nat) (w : World) : Calls Tryz.prog 52 #[.pointer (some ⟨c, 0, none⟩), .slice none 0 0] w fun e w' => e = .returned (.tuple #[]) ∧ w' = w := by
  go_enter Tryz.func52, Tryz.ntmps52
  go_wp2_with fail
  refine wp_loop_rounds 1 ?_
  rw [rounds_succ]
  go_wp2_with fail
  go_end0
  exact ⟨rfl, rfl⟩
set_option maxRecDepth 100000 in
set_option maxHeartbeats 1000000 in
theorem window_zero (c : Nat) (w : World) : Calls Tryz.prog 21 #[.pointer (some ⟨c, 0, none⟩), .agg #[.int .i64 0, .slice none 0 0, .slice none 0 0]] w fun e w' => e = .returned (.tuple #[]) ∧ Below w.heap.size w w' := by
  obtain ⟨w1, hw1⟩ : ∃ w1, w1 = w.alloc (.cells #[.int .i64 0, .slice none 0 0, .slice none 0 0] 31) := ⟨_, rfl⟩
  have x1 := heap_alloc_new w (.cells #[.int .i64 0, .slice none 0 0, .slice none 0 0] 31)
  have b1 : Below w.heap.size w (w.alloc (.cells #[.int .i64 0, .slice none 0 0, .slice none 0 0] 31)) := (Below.refl _ _).alloc (Nat.le_refl _) _
  rw [← hw1] at x1 b1
  have e1 := box_cells x1 1 _ rfl
  have e2 := box_cells x1 2 _ rfl
  have HB := hidi b1
  clear x1 b1
  go_enter Tryz.func21, Tryz.ntmps21
  go_upto_region 1 with fail
  rw [← hw1]
  clear hw1
  go_wp2_with fail
  refine wp_loop_rounds 1 ?_
  rw [rounds_succ]
  go_wp2_with (go_at_call 52; refine (msgs_nil _ _).mono ?_; rintro e w' ⟨rfl, he⟩; obtain rfl := he.symm)
  go_end0
  exact ⟨rfl, HB.out⟩
end Go.Proofs.YtmihpmmkkklpfaaGreatDoor
namespace Go.Proofs.YtmihpmmkkklpfaaGreatDoor
open Go Go.RowKit Go.Shelf Go.Maps Go.Sort
set_option linter.unusedSimpArgs false
set_option linter.unusedVariables false
/-! ### few -/
abbrev imK (k : ByteArray) : Array Value := #[.string k, .slice none 0 0, .int .i64 0, .slice none 0 0, .slice none 0 0, .slice none 0 0]
/-- A count under way. -/
structure Cw (W wx : World) (k : ByteArray) (c : Nat) (M : Int) : Prop where
  ct : Ct wx c M
  le : M ≤ 60000
  bx : wx.heap[W.heap.size]? = some (.cells (imK k) 34 (0, 0))
  ne : W.heap.size < c
  bel : Below W.heap.size W wx
theorem Cw.ch {W wx wy : World} {k : ByteArray} {c : Nat} {M N : Int} (h : Cw W wx k c M) (ht : Ct wy c N) (hc : Ch (fun j => j = c) wx wy) (hn : N ≤ M) : Cw W wy k c N :=
  ⟨ht, Int.le_trans hn h.le, (hc.block _ (Array.getElem?_eq_some_iff.1 h.bx).1 (by have := h.ne; omega)).trans h.bx, h.ne, ⟨hc.os.trans h.bel.os, hc.tape.trans h.bel.tape, hc.output.trans h.bel.output, Nat.le_trans h.bel.size hc.size, fun j hj => (hc.block j (Nat.lt_of_lt_of_le hj h.bel.size) (by have := h.ne; omega)).trans (h.bel.block j hj)⟩⟩
theorem Cw.below {W wx wy : World} {k : ByteArray} {c : Nat} {M : Int} (h : Cw W wx k c M) (hb : Below wx.heap.size wx wy) : Cw W wy k c M :=
  ⟨later_at h.ct hb, h.le, later_at h.bx hb, h.ne, h.bel.trans (hb.mono h.bel.size)⟩
set_option maxRecDepth 100000 in
set_option maxHeartbeats 8000000 in
theorem few_any {W : World} {sa : Option Addr} {n cap : Nat} {ops : List Ow} (h : Scs W sa n cap ops) (k : ByteArray) (hk : k.size ≤ maxLen) : Calls Tryz.prog 5 #[.agg (imK k), .slice sa n cap] W fun e w' => ∃ x, e = .returned (.bool x) ∧ (x = true → k.size ≤ 100000 ∧ FewS ops) ∧ Below W.heap.size W w' := by
  have H := hidi h
  have hmx : n ≤ 9223372036854775807 := by have := h.big; unfold maxLen at this; omega
  obtain ⟨w1, hw1⟩ : ∃ w1, w1 = W.alloc (.cells (imK k) 34) := ⟨_, rfl⟩
  have x1 := heap_alloc_new W (.cells (imK k) 34)
  have b1 : Below W.heap.size W (W.alloc (.cells (imK k) 34)) := (Below.refl _ _).alloc (Nat.le_refl _) _
  rw [← hw1] at x1 b1
  have X1 := hidi (And.intro x1 (And.intro b1 (Array.getElem?_eq_some_iff.1 x1).1))
  have HM := hidi (many_any 60000 w1)
  obtain ⟨c, hc⟩ : ∃ c, c = w1.heap.size := ⟨_, rfl⟩
  rw [← hc] at HM
  have HC := hidi hc
  have HK := hidi hk
  clear h x1 b1 hc hk
  unfold imK at *
  go_enter Tryz.func5, Tryz.ntmps5
  go_upto_region 1 with fail
  rw [← hw1]
  clear hw1
  go_upto_region 2 with (go_at_call 18; refine HM.out.mono ?_; clear HM; rintro e w2 ⟨rfl, hct, hb⟩)
  rw [HC.out] at hb
  have C2 := hidi (show Cw W w2 k c 60000 from ⟨hct, Int.le_refl _, later_at X1.out.1 hb, by have := X1.out.2.2; have := HC.out; omega, X1.out.2.1.trans (hb.mono X1.out.2.1.size)⟩)
  have TX := hidi (text_any hct k (by decide) HK.out)
  have e0 := box_cells C2.out.bx 0 _ rfl
  clear hct hb
  go_upto_region 3 with (go_at_call 19; refine TX.out.mono ?_; clear TX; rintro e w3 ⟨rfl, hct, hch⟩)
  obtain ⟨M1, hM1⟩ : ∃ M1, M1 = cAdd (cAdd 60000 1) k.size := ⟨_, rfl⟩
  rw [← hM1] at hct
  have HM1 := hidi hM1
  have C3 := hidi (C2.out.ch hct hch (by rw [hM1]; exact Int.le_trans (cAdd_le (by omega)) (cAdd_le (by omega))))
  clear e0 hct hch hM1
  have e1 := box_cells C3.out.bx 1 _ rfl
  go_upto_region 4 with (go_at_call 20; refine (asks_nil _ _).mono ?_; rintro e w' ⟨rfl, he⟩; obtain rfl := he.symm)
  clear e1
  have e2 := box_cells C3.out.bx 2 _ rfl
  have e3 := box_cells C3.out.bx 3 _ rfl
  have e4 := box_cells C3.out.bx 4 _ rfl
  go_upto_region 5 with (go_at_call 21; refine (window_zero _ _).mono ?_; rintro e w4 ⟨rfl, hb4⟩)
  have C4 := hidi (C3.out.below hb4)
  clear e2 e3 e4 hb4
  have e5 := box_cells C4.out.bx 5 _ rfl
  have AD := hidi (add_any C4.out.ct 0 (by have := C4.out.le; omega) (by omega))
  go_upto_region 6 with (go_at_call 22; refine AD.out.mono ?_; clear AD; rintro e w5 ⟨⟨bb, rfl⟩, hct, hch⟩)
  have C5 := hidi (C4.out.ch hct hch (cAdd_le (by omega)))
  have hM0 : cAdd M1 0 = M1 := by unfold cAdd; split <;> omega
  rw [hM0] at C5
  clear e5 hct hch hM0
  go_wp2_with fail
  go_loopg [6] n (fun gk s6 wx => ∃ j : Nat, j + gk = n ∧ s6 = .int .i64 j ∧ Hid (∃ M : Int, Cw W wx k c M ∧ M ≤ M1 ∧ (0 ≤ M → ∀ i (hi : i < ops.length), i < j → ops[i].m.t.size ≤ 100000 ∧ ops[i].m.xs.length ≤ 100000 ∧ ops[i].fl.size ≤ 100000)))
  case atStart => exact ⟨0, by omega, rfl, M1, C5.out, Int.le_refl _, fun _ i _ hi => by omega⟩
  case round =>
    obtain ⟨j, hj, rfl, HI⟩ := hrel
    clear C2 C3 C4 C5
    obtain ⟨M, hM, hM1, hall⟩ := HI.out
    have HOK := hidi (ok_any hM.ct)
    obtain ⟨bm, hbm⟩ : ∃ bm, bm = decide (0 ≤ M) := ⟨_, rfl⟩
    rw [← hbm] at HOK
    have HX := hidi (And.intro hM (And.intro hM1 (And.intro hall hbm)))
    clear hM hM1 hall hbm
    by_cases hjn : j < n
    · have hlt : (j : Int) < (n : Int) := by omega
      have hge : (0 : Int) ≤ (j : Int) := by omega
      cases bm
      · go_wp2_with (first | (go_at_call 23; refine HOK.out.mono ?_; rintro e w' ⟨rfl, rfl⟩))
        go_ret
        exact ⟨_, rfl, nofun, HX.out.1.bel⟩
      · have hjf : j < ops.length := by rw [H.out.len]; exact hjn
        have hw1 : IntKind.i64.wrap ((j : Int) + 1) = (j : Int) + 1 := by rw [IntKind.wrap_i64]; omega
        have hscr := H.out.keep (fun b hb => HX.out.1.bel.block b hb)
        obtain ⟨g, o, hsa, hcell⟩ := hscr.cell (by omega)
        subst hsa
        have hpy := hscr.pay _ (List.getElem_mem hjf)
        have htx := hscr.txt _ (List.getElem_mem hjf)
        have hc := hcell j hjf
        obtain ⟨f, hf⟩ : ∃ f, f = ops[j] := ⟨_, rfl⟩
        have HF := hidi hf
        rw [← hf] at hpy htx hc
        obtain ⟨kd, wh, nn, id, fl, q, ⟨t, v, mq, r, xs⟩⟩ := f
        obtain ⟨pa, pc, hv, hln⟩ := hpy.sl
        simp only at hv
        subst hv
        obtain ⟨pn, hpn⟩ : ∃ pn, pn = xs.length := ⟨_, rfl⟩
        have k4 : wr.cell? ⟨g, o + j * 10 + 4, none⟩ = some (.string fl) := hc 4 (by omega)
        have TX := hidi (text_any HX.out.1.ct fl (by have := HX.out.1.le; omega) htx.2)
        have KC := hidi (show ∀ w2, Ch (fun j => j = c) wr w2 → w2.cell? ⟨g, o + j * 10 + 6, none⟩ = some (.string t) ∧ w2.cell? ⟨g, o + j * 10 + 7, none⟩ = some (.slice pa pn pc) ∧ w2.cell? ⟨g, o + j * 10 + 8, none⟩ = some (.int .i64 mq) ∧ w2.cell? ⟨g, o + j * 10 + 9, none⟩ = some (.bool r) from fun w2 hch => by
          have k6 : W.cell? ⟨g, o + j * 10 + 6, none⟩ = some (.string t) := by
            obtain ⟨g', o', hs', hc'⟩ := H.out.cell (by omega)
            simp only [Option.some.injEq, Addr.mk.injEq, and_true] at hs'
            obtain ⟨rfl, rfl⟩ := hs'
            have := hc' j hjf 6 (by omega)
            rw [← hf] at this
            exact this
          have hgW : g < W.heap.size := World.block_lt_of_cell? _ ⟨g, o + j * 10 + 6, none⟩ k6
          have hg : w2.heap[g]? = wr.heap[g]? := hch.block g (Nat.lt_of_lt_of_le hgW HX.out.1.bel.size) (by have := HX.out.1.ne; omega)
          have hcc : ∀ x, w2.cell? ⟨g, x, none⟩ = wr.cell? ⟨g, x, none⟩ := fun x => cell_heap hg
          rw [hcc, hcc, hcc, hcc, hpn]
          exact ⟨hc 6 (by omega), hc 7 (by omega), hc 8 (by omega), hc 9 (by omega)⟩)
        have MS := hidi (fun (w2 : World) (N : Int) (hN : Ct w2 c N) (hl : N ≤ 2 ^ 60) => message_any hN t pa pn pc mq r hl htx.1 (by rw [hpn]; exact hln))
        have HPN := hidi (And.intro hpn hjf)
        clear hc hpy htx hln hpn hf hcell hscr
        go_wp2_with (first | (go_at_call 23; refine HOK.out.mono ?_; rintro e w' ⟨rfl, rfl⟩) | (go_at_call 19; refine TX.out.mono ?_; clear TX; rintro e w2 ⟨rfl, hk2, hch2⟩; obtain ⟨k6, k7, k8, k9⟩ := KC.out w2 hch2; have MS1 := hidi (MS.out w2 _ hk2 (by have h1 := HX.out.1.le; have h2 := cAdd_le (L := cAdd M 1) (n := fl.size) (by omega); have h3 := cAdd_le (L := M) (n := 1) (by omega); omega)); have C2 := hidi (HX.out.1.ch hk2 hch2 (Int.le_trans (cAdd_le (by omega)) (cAdd_le (by omega)))); clear hk2 hch2 MS) | (go_at_call 24; refine MS1.out.mono ?_; clear MS1; rintro e w3 ⟨rfl, hk3, hch3⟩; have C3 := hidi (C2.out.ch hk3 hch3 (cMsg_le _ _ _)); clear hk3 hch3))
        go_roundg (n - (j + 1))
        case measure => omega
        case rel =>
          refine ⟨j + 1, by omega, by first | rfl | simp, _, C3.out, ?_, fun h0 i hi hij => ?_⟩
          · exact Int.le_trans (cMsg_le _ _ _) (Int.le_trans (Int.le_trans (cAdd_le (by omega)) (cAdd_le (by omega))) HX.out.2.1)
          · have hM := cMsg_ok h0
            have h00 : 0 ≤ cAdd (cAdd M 1) fl.size := Int.le_trans h0 (cMsg_le _ _ _)
            obtain ⟨a1, a2, a3⟩ := cAdd_ok (by omega) h00
            obtain ⟨b1, b2, b3⟩ := cAdd_ok (by omega) a1
            have hle := HX.out.1.le
            by_cases e : i = j
            · subst e
              rw [← HF.out]
              simp only
              have := HPN.out.1
              omega
            · exact HX.out.2.2.1 b1 i hi (by omega)
    · have hlt : ¬ (j : Int) < (n : Int) := by omega
      obtain rfl : j = n := by omega
      cases bm
      · go_wp2_with (first | (go_at_call 23; refine HOK.out.mono ?_; rintro e w' ⟨rfl, rfl⟩))
        go_ret
        exact ⟨_, rfl, nofun, HX.out.1.bel⟩
      · have h0 : 0 ≤ M := of_decide_eq_true HX.out.2.2.2.symm
        have hkk : k.size ≤ 100000 := by
          have h1 := HX.out.2.1
          have h2 : 0 ≤ M1 := Int.le_trans h0 h1
          rw [HM1.out] at h2
          obtain ⟨a1, a2, a3⟩ := cAdd_ok (by omega) h2
          have := cAdd_le (L := 60000) (n := 1) (by omega)
          omega
        have HKK := hidi (And.intro h0 hkk)
        clear h0 hkk
        by_cases h150 : (j : Int) ≤ 150
        · go_wp2_with (first | (go_at_call 23; refine HOK.out.mono ?_; rintro e w' ⟨rfl, rfl⟩))
          go_ret
          refine ⟨_, rfl, fun _ => ⟨HKK.out.2, by rw [H.out.len]; omega, fun o ho => ?_⟩, HX.out.1.bel⟩
          obtain ⟨i, hi, rfl⟩ := List.getElem_of_mem ho
          exact HX.out.2.2.1 HKK.out.1 i hi (by rw [H.out.len] at hi; exact hi)
        · go_wp2_with (first | (go_at_call 23; refine HOK.out.mono ?_; rintro e w' ⟨rfl, rfl⟩))
          go_ret
          exact ⟨_, rfl, fun q => by simp [h150] at q; omega, HX.out.1.bel⟩
end Go.Proofs.YtmihpmmkkklpfaaGreatDoor
