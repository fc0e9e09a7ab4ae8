import Derived.Test.YtglnldopnoafoaaGreatDoorBlb
import Derived.Deep.RegionLaw
import Derived.BigQuiet
namespace Go.Proofs.YtglnldopnoafoaaGreatDoor
open Go Go.RowKit
set_option linter.unusedSimpArgs false
set_option linter.unusedVariables false

theorem push_run {P : Program} (w : World) (base : Nat) (t ty e : TypeId) (i : TypeInfo) (z : Value) (size bytes : Nat) (ht : P.underlying t = some (.slice e)) (hi : P.info? e = some i) (hz : i.zero = some z)
    (hsize : i.size = size) (hby : i.bytes = bytes) (hzs : z.cells.size = size) (hsz : 0 < size) (v : Value) (n : Nat) (xs : List Value) (hown : w.ownsRow base e size v n xs)
    (a : Addr) (m c : Nat) (news : List Value) (hm : 0 < m) (hl : news.length = m * size) (hnews : ∀ j u, news[j]? = some u → w.cell? (a.add j) = some u) (h1 : ∀ u ∈ news, u.oneCell' = true)
    (h63 : n + m ≤ maxLen) (hbytes : (n + m) * bytes ≤ 140737488355328) (hbase : base ≤ w.heap.size) :
    ∃ v' w', (Builtin.append_ #[t, t] ty #[v, .slice (some a) m c]).run P w = .ok v' w' ∧ w'.ownsRow base e size v' (n + m) (xs ++ news) ∧ w.grownBy w' v.ownBlock ∧ v' ≠ .slice none 0 0 ∧ (v'.ownBlock = v.ownBlock ∨ v'.ownBlock = some w.heap.size) := by
  obtain ⟨v', w', hr, h2, h3, h4⟩ := run_append_own (P := P) w base t ty e i z size bytes ht hi hz hsize hby hzs hsz v n xs hown a m c news hl hnews h1 h63 hbytes hbase
  refine ⟨v', w', hr, h2, h3, fun q => by have := (h4.1 q).2; omega, ?_⟩
  subst hsize hby
  have hsm : n + m ≤ 9223372036854775807 := by simp only [maxLen] at h63; omega
  rcases hown.2 with ⟨rfl, rfl⟩ | ⟨g, cap, cur, rfl, _, hg, hnc, _, hcs, _⟩
  · have q := run_append_nil (P := P) w t ty e i z ht hi hz a m c news hl hnews hm (by omega) (by have hb := hbytes; simp only [Nat.zero_add] at hb; omega)
    rw [q] at hr
    cases hr
    exact .inr rfl
  · by_cases hroom : n + m ≤ cap
    · have q := run_append_room (P := P) w t ty e i ht hi g n cap cur hg a m c news hl hnews h1 hroom (by rw [hl, hcs, ← Nat.add_mul]; exact Nat.mul_le_mul_right _ hroom)
      rw [q] at hr
      cases hr
      exact .inl rfl
    · have q := run_append_grow (P := P) w t ty e i z ht hi hz ⟨g, 0, none⟩ n cap xs hown.1 (hown.cells (g := g) rfl) a m c news hl hnews (by omega) (by omega) (growslice_fits (by omega) hbytes)
      rw [q] at hr
      cases hr
      exact .inr rfl
theorem wpList_push {P : Program} {w : World} {ops : Array Oper} {rest : List Oper} {o : Oper} {a : Act} {Q : Exit → Act → World → Prop} (hgd : o.guard = none) (s x : Operand) (t : TypeId)
    (ho : o.op = .call { callee := .builtin .append, args := #[s, x], argTypes := #[t, t] })
    (base : Nat) (e : TypeId) (i : TypeInfo) (z : Value) (size bytes : Nat) (ht : P.underlying t = some (.slice e)) (hi : P.info? e = some i) (hz : i.zero = some z)
    (hsize : i.size = size) (hby : i.bytes = bytes) (hzs : z.cells.size = size) (hsz : 0 < size) (v : Value) (n : Nat) (xs : List Value) (hs : a.eval s = v) (hown : w.ownsRow base e size v n xs)
    (ad : Addr) (m c : Nat) (news : List Value) (hx : a.eval x = .slice (some ad) m c) (hm : 0 < m) (hl : news.length = m * size) (hnews : ∀ j u, news[j]? = some u → w.cell? (ad.add j) = some u) (h1 : ∀ u ∈ news, u.oneCell' = true)
    (h63 : n + m ≤ maxLen) (hbytes : (n + m) * bytes ≤ 140737488355328) (hbase : base ≤ w.heap.size)
    (h : ∀ v' w', w'.ownsRow base e size v' (n + m) (xs ++ news) → w.grownBy w' v.ownBlock → v' ≠ .slice none 0 0 → (v'.ownBlock = v.ownBlock ∨ v'.ownBlock = some w.heap.size) → wpList P ops Q rest (a.put o.dst v') w') : wpList P ops Q (o :: rest) a w := by
  refine wpList_plain hgd fun K hK => ?_
  obtain ⟨v', w', hr, h2, h3, h4, h5⟩ := push_run (P := P) w base t o.type e i z size bytes ht hi hz hsize hby hzs hsz v n xs hown ad m c news hm hl hnews h1 h63 hbytes hbase
  unfold Oper.wp
  simp [execOp, ho, resolve, invoke, builtin, hs, hx, hr, Result.andThen]
  exact hK _ _ (h v' w' h2 h3 h4 h5)
theorem step_push {P : Program} {w : World} {ops : Array Oper} {o : Oper} {a : Act} {K : Act → World → Prop} {Q : Exit → Act → World → Prop} {E : Prop} (hgd : o.guard = none) (s x : Operand) (t : TypeId)
    (ho : o.op = .call { callee := .builtin .append, args := #[s, x], argTypes := #[t, t] })
    (base : Nat) (e : TypeId) (i : TypeInfo) (z : Value) (size bytes : Nat) (ht : P.underlying t = some (.slice e)) (hi : P.info? e = some i) (hz : i.zero = some z)
    (hsize : i.size = size) (hby : i.bytes = bytes) (hzs : z.cells.size = size) (hsz : 0 < size) (v : Value) (n : Nat) (xs : List Value) (hs : a.eval s = v) (hown : w.ownsRow base e size v n xs)
    (ad : Addr) (m c : Nat) (news : List Value) (hx : a.eval x = .slice (some ad) m c) (hm : 0 < m) (hl : news.length = m * size) (hnews : ∀ j u, news[j]? = some u → w.cell? (ad.add j) = some u) (h1 : ∀ u ∈ news, u.oneCell' = true)
    (h63 : n + m ≤ maxLen) (hbytes : (n + m) * bytes ≤ 140737488355328) (hbase : base ≤ w.heap.size)
    (h : ∀ v' w', w'.ownsRow base e size v' (n + m) (xs ++ news) → w.grownBy w' v.ownBlock → v' ≠ .slice none 0 0 → (v'.ownBlock = v.ownBlock ∨ v'.ownBlock = some w.heap.size) → K (a.put o.dst v') w') :
    if Region.wanted o (yielded ops a.tmps) = true then Oper.wp P o a w K Q else E := by
  have hw : Region.wanted o (yielded ops a.tmps) = true := by simp [Region.wanted, hgd]
  rw [if_pos hw]
  obtain ⟨v', w', hr, h2, h3, h4, h5⟩ := push_run (P := P) w base t o.type e i z size bytes ht hi hz hsize hby hzs hsz v n xs hown ad m c news hm hl hnews h1 h63 hbytes hbase
  unfold Oper.wp
  simp [execOp, ho, resolve, invoke, builtin, hs, hx, hr, Result.andThen]
  exact h v' w' h2 h3 h4 h5


end Go.Proofs.YtglnldopnoafoaaGreatDoor
namespace Go.Proofs.YtglnldopnoafoaaGreatDoor
open Go Go.RowKit
set_option linter.unusedSimpArgs false
set_option linter.unusedVariables false

theorem binfo22 : (Tryz.prog.info? 22).map (fun i => (i.zero, i.size, i.bytes)) = some (some (.slice none 0 0), 1, 24) := by kernel_rfl
theorem binfo3 : (Tryz.prog.info? 3).map (fun i => (i.zero, i.size, i.bytes)) = some (some (.int .i64 0), 1, 8) := by kernel_rfl
theorem einfo (i : Nat) : ∃ inf z by', Tryz.prog.info? (et i) = some inf ∧ inf.zero = some z ∧ inf.size = 1 ∧ inf.bytes = by' ∧ by' ≤ 24 ∧ z.cells.size = 1 := by
  unfold et
  split
  · obtain ⟨q, h1, h2, h3, h4⟩ := info_parts binfo22; exact ⟨q, _, _, h1, h2, h3, h4, by decide, rfl⟩
  · obtain ⟨q, h1, h2, h3, h4⟩ := info_parts binfo3; exact ⟨q, _, _, h1, h2, h3, h4, by decide, rfl⟩
/-- What is known behind a push. -/
structure Pu (w w' : World) (bb B : Nat) (cs : Array Value) (rv : Nat → Value) (xs : Nat → List Value) (i : Nat) (x v' : Value) : Prop where
  br : BR (w'.setCell ⟨bb, 22 + i, none⟩ v') bb B (cs.setIfInBounds (22 + i) v') (upd rv i v') (upd xs i (xs i ++ [x]))
  gr : w.grownBy w' (rv i).ownBlock
  sl : ∃ a n c, v' = .slice a n c
  bk : BkAt w' bb cs
  wh : v'.ownBlock = (rv i).ownBlock ∨ v'.ownBlock = some w.heap.size
theorem pu_of {w w' : World} {bb B : Nat} {cs : Array Value} {rv : Nat → Value} {xs : Nat → List Value} (h : BR w bb B cs rv xs) (i : Nat) (hi : i < 8) (x v' : Value) (ho : w'.ownsRow B (et i) 1 v' ((xs i).length + 1) (xs i ++ [x])) (hg : w.grownBy w' (rv i).ownBlock) (hv : v'.ownBlock = (rv i).ownBlock ∨ v'.ownBlock = some w.heap.size) : Pu w w' bb B cs rv xs i x v' :=
  ⟨h.push i hi x v' ho hg hv, hg, by
    rcases ho.2 with ⟨h1, _⟩ | ⟨g, cp, _, h1, _⟩
    · exact ⟨_, _, _, h1⟩
    · exact ⟨_, _, _, h1⟩, (hg.block bb (lt_of_block h.at_) (fun e => h.ne i hi e.symm)).trans h.at_, hv⟩
theorem one_cells {w : World} {g0 t : Nat} {x : Value} (hg : w.heap[g0]? = some (.cells #[x] t (0, 0))) : ∀ (j : Nat) (u : Value), [x][j]? = some u → w.cell? ((⟨g0, 0, none⟩ : Addr).add j) = some u := by
  intro j u hu
  have hj : j = 0 := by
    have := (List.getElem?_eq_some_iff.1 hu).1
    simp at this; omega
  subst hj
  simp at hu
  subst hu
  simp [Addr.add, World.cell?, hg]
theorem wpList_bpush {w : World} {ops : Array Oper} {rest : List Oper} {o : Oper} {a : Act} {Q : Exit → Act → World → Prop} (hgd : o.guard = none) (s x : Operand) (t : TypeId) (ho : o.op = .call { callee := .builtin .append, args := #[s, x], argTypes := #[t, t] })
    {bb B : Nat} {cs : Array Value} {rv : Nat → Value} {xs : Nat → List Value} (h : BR w bb B cs rv xs) (i : Nat) (hi : i < 8) (ht : Tryz.prog.underlying t = some (.slice (et i))) (hs : a.eval s = rv i) (g0 : Nat) (xv : Value) (hx : a.eval x = .slice (some ⟨g0, 0, none⟩) 1 1) (hg0 : w.heap[g0]? = some (.cells #[xv] (et i) (0, 0))) (h1 : xv.oneCell' = true) (hlen : (xs i).length ≤ 1000000) (hB : B ≤ w.heap.size)
    (k : ∀ v' w', Pu w w' bb B cs rv xs i xv v' → wpList Tryz.prog ops Q rest (a.put o.dst v') w') : wpList Tryz.prog ops Q (o :: rest) a w := by
  obtain ⟨inf, z, by', hi1, hz, hsz, hby, hb24, hzs⟩ := einfo i
  refine wpList_push hgd s x t ho B (et i) inf z 1 by' ht hi1 hz hsz hby hzs (by decide) (rv i) (xs i).length (xs i) hs (h.own i hi) ⟨g0, 0, none⟩ 1 1 [xv] hx (by decide) rfl (one_cells hg0) (by intro u hu; simp at hu; subst hu; exact h1) (by unfold maxLen; omega) ?_ hB ?_
  · have : ((xs i).length + 1) * by' ≤ 1000001 * 24 := Nat.mul_le_mul (by omega) hb24
    omega
  · intro v' w' o1 g1 _ wh
    exact k v' w' (pu_of h i hi xv v' o1 g1 wh)
theorem step_bpush {w : World} {ops : Array Oper} {o : Oper} {a : Act} {K : Act → World → Prop} {Q : Exit → Act → World → Prop} {E : Prop} (hgd : o.guard = none) (s x : Operand) (t : TypeId) (ho : o.op = .call { callee := .builtin .append, args := #[s, x], argTypes := #[t, t] })
    {bb B : Nat} {cs : Array Value} {rv : Nat → Value} {xs : Nat → List Value} (h : BR w bb B cs rv xs) (i : Nat) (hi : i < 8) (ht : Tryz.prog.underlying t = some (.slice (et i))) (hs : a.eval s = rv i) (g0 : Nat) (xv : Value) (hx : a.eval x = .slice (some ⟨g0, 0, none⟩) 1 1) (hg0 : w.heap[g0]? = some (.cells #[xv] (et i) (0, 0))) (h1 : xv.oneCell' = true) (hlen : (xs i).length ≤ 1000000) (hB : B ≤ w.heap.size)
    (k : ∀ v' w', Pu w w' bb B cs rv xs i xv v' → K (a.put o.dst v') w') : if Region.wanted o (yielded ops a.tmps) = true then Oper.wp Tryz.prog o a w K Q else E := by
  obtain ⟨inf, z, by', hi1, hz, hsz, hby, hb24, hzs⟩ := einfo i
  refine step_push hgd s x t ho B (et i) inf z 1 by' ht hi1 hz hsz hby hzs (by decide) (rv i) (xs i).length (xs i) hs (h.own i hi) ⟨g0, 0, none⟩ 1 1 [xv] hx (by decide) rfl (one_cells hg0) (by intro u hu; simp at hu; subst hu; exact h1) (by unfold maxLen; omega) ?_ hB ?_
  · have : ((xs i).length + 1) * by' ≤ 1000001 * 24 := Nat.mul_le_mul (by omega) hb24
    omega
  · intro v' w' o1 g1 _ wh
    exact k v' w' (pu_of h i hi xv v' o1 g1 wh)
theorem BR.cell {w : World} {bb B : Nat} {cs : Array Value} {rv : Nat → Value} {xs : Nat → List Value} (h : BR w bb B cs rv xs) (i : Nat) (hi : i < 8) : w.cell? ⟨bb, 22 + i, none⟩ = some (rv i) ∧ w.frozen? ⟨bb, 22 + i, none⟩ = false := bk_cell h.at_ (h.fld i hi)
theorem BR.other {w : World} {bb B : Nat} {cs : Array Value} {rv : Nat → Value} {xs : Nat → List Value} (h : BR w bb B cs rv xs) (k : Nat) (hk : k < 22 ∨ 30 ≤ k) (v : Value) : BR (w.setCell ⟨bb, k, none⟩ v) bb B (cs.setIfInBounds k v) rv xs :=
  ⟨heap_set (i := k) h.at_ v, fun i hi => by rw [Array.getElem?_setIfInBounds_ne (by omega)]; exact h.fld i hi, fun i hi => ownsRow_setCell_other (h.own i hi) (h.ne i hi) _, h.sep⟩
end Go.Proofs.YtglnldopnoafoaaGreatDoor
