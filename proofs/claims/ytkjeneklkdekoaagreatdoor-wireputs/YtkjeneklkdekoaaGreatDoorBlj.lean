import Derived.Test.YtkjeneklkdekoaaGreatDoorBlh
namespace Go.Proofs.YtkjeneklkdekoaaGreatDoor
open Go Go.RowKit
set_option linter.unusedSimpArgs false
set_option linter.unusedVariables false

theorem push_keep {P : Program} (w : World) (base : Nat) (t ty e : TypeId) (i : TypeInfo) (z : Value) (size bytes : Nat) (ht : P.underlying t = some (.slice e)) (hi : P.info? e = some i) (hz : i.zero = some z)
    (hsize : i.size = size) (hby : i.bytes = bytes) (hzs : z.cells.size = size) (hsz : 0 < size) (v : Value) (n : Nat) (xs : List Value) (hown : w.ownsRow base e size v n xs)
    (a : Addr) (m c : Nat) (news : List Value) (hm : 0 < m) (hl : news.length = m * size) (hnews : ∀ j u, news[j]? = some u → w.cell? (a.add j) = some u) (h1 : ∀ u ∈ news, u.oneCell' = true)
    (h63 : n + m ≤ maxLen) (hbytes : (n + m) * bytes ≤ 140737488355328) (hbase : base ≤ w.heap.size) :
    ∃ v' w', (Builtin.append_ #[t, t] ty #[v, .slice (some a) m c]).run P w = .ok v' w' ∧ w'.ownsRow base e size v' (n + m) (xs ++ news) ∧ w.grownBy w' v.ownBlock ∧ (v'.ownBlock = v.ownBlock ∨ (v'.ownBlock = some w.heap.size ∧ Below w.heap.size w w')) := by
  obtain ⟨v', w', hr, h2, h3, h4⟩ := run_append_own (P := P) w base t ty e i z size bytes ht hi hz hsize hby hzs hsz v n xs hown a m c news hl hnews h1 h63 hbytes hbase
  refine ⟨v', w', hr, h2, h3, ?_⟩
  subst hsize hby
  have hsm : n + m ≤ 9223372036854775807 := by simp only [maxLen] at h63; omega
  rcases hown.2 with ⟨rfl, rfl⟩ | ⟨g, cap, cur, rfl, _, hg, hnc, _, hcs, _⟩
  · have q := run_append_nil (P := P) w t ty e i z ht hi hz a m c news hl hnews hm (by omega) (by have hb := hbytes; simp only [Nat.zero_add] at hb; omega)
    rw [q] at hr
    cases hr
    exact .inr ⟨rfl, (Below.refl w.heap.size w).drew.alloc (Nat.le_refl _) _⟩
  · by_cases hroom : n + m ≤ cap
    · have q := run_append_room (P := P) w t ty e i ht hi g n cap cur hg a m c news hl hnews h1 hroom (by rw [hl, hcs, ← Nat.add_mul]; exact Nat.mul_le_mul_right _ hroom)
      rw [q] at hr
      cases hr
      exact .inl rfl
    · have q := run_append_grow (P := P) w t ty e i z ht hi hz ⟨g, 0, none⟩ n cap xs hown.1 (hown.cells (g := g) rfl) a m c news hl hnews (by omega) (by omega) (growslice_fits (by omega) hbytes)
      rw [q] at hr
      cases hr
      exact .inr ⟨rfl, (Below.refl w.heap.size w).drew.alloc (Nat.le_refl _) _⟩

/-- A row that grows: what it held at first stays where it was. -/
structure Gw (w wx : World) (B n i : Nat) (v gv : Value) (L M : List Value) : Prop where
  own : wx.ownsRow B 5 1 gv (n + i) (L ++ M)
  ch : Ch (fun k => v.ownBlock = some k) w wx
  keep : ∀ g, v.ownBlock = some g → ∀ j, j < n → wx.cell? ⟨g, j, none⟩ = w.cell? ⟨g, j, none⟩
  wh : gv.ownBlock = v.ownBlock ∨ ∃ k, gv.ownBlock = some k ∧ w.heap.size ≤ k
  typ : ∀ g, v.ownBlock = some g → ∃ c, wx.heap[g]? = some (.cells c 5 (0, 0))
theorem own_cell {w : World} {B n : Nat} {v : Value} {L : List Value} (h : w.ownsRow B 5 1 v n L) {g j : Nat} (hg : v.ownBlock = some g) (hj : j < n) : w.cell? ⟨g, j, none⟩ = L[j]? := by
  rcases h.2 with ⟨r, _⟩ | ⟨g', cap, cur, r, _⟩
  · rw [r] at hg; cases hg
  · rw [r] at hg
    have e' : g' = g := by simpa [Value.ownBlock] using hg
    subst e'
    rw [r] at h
    exact h.cellAt j (by omega)
theorem Gw.start {w : World} {B n : Nat} {v : Value} {L : List Value} (h : w.ownsRow B 5 1 v n L) : Gw w w B n 0 v v L [] :=
  ⟨by simpa using h, Ch.refl _ _, fun _ _ _ _ => rfl, .inl rfl, fun g e => own_blk h e⟩
theorem Gw.alloc {w wx : World} {B n i : Nat} {v gv : Value} {L M : List Value} (h : Gw w wx B n i v gv L M) (o : Obj) (ho : w.ownsRow B 5 1 v n L) : Gw w (wx.alloc o) B n i v gv L M := by
  have hb : Below wx.heap.size wx (wx.alloc o) := (Below.refl _ _).alloc (Nat.le_refl _) _
  refine ⟨own_keep h.own (fun k e => hb.block k (h.own.lt k e).2), Ch.trans (S' := fun _ => False) h.ch (Below.ch hb) (fun _ _ q => q.elim), fun g e j hj => ?_, h.wh, fun g e => ?_⟩
  · rw [← h.keep g e j hj]
    obtain ⟨c, hc⟩ := h.typ g e
    unfold World.cell?
    rw [show (⟨g, j, none⟩ : Addr).block = g from rfl, hb.block g (lt_of_block hc)]
  · obtain ⟨c, hc⟩ := h.typ g e
    exact ⟨c, (hb.block g (lt_of_block hc)).trans hc⟩
theorem Gw.push {w wx w' : World} {B n i : Nat} {v gv gv' x : Value} {L M : List Value} (h : Gw w wx B n i v gv L M) (hv : w.ownsRow B 5 1 v n L) (ho : w'.ownsRow B 5 1 gv' (n + i + 1) (L ++ M ++ [x])) (hg : wx.grownBy w' gv.ownBlock) (hw : gv'.ownBlock = gv.ownBlock ∨ (gv'.ownBlock = some wx.heap.size ∧ Below wx.heap.size wx w')) : Gw w w' B n (i + 1) v gv' L (M ++ [x]) := by
  have hs := h.ch.size
  refine ⟨by rw [← List.append_assoc]; exact ho, ?_, fun g e j hj => ?_, ?_, fun g e => ?_⟩
  · refine Ch.trans (S' := fun k => gv.ownBlock = some k) h.ch (ch_grown hg) (fun j hj q => ?_)
    rcases h.wh with e | ⟨k, e, hk⟩
    · exact e ▸ q
    · rw [e] at q; cases q; omega
  · by_cases q : gv.ownBlock = some g
    · rw [← h.keep g e j hj]
      rcases hw with e' | ⟨e', hb⟩
      · rw [own_cell ho (e'.trans q) (by omega), own_cell h.own q (by omega), List.getElem?_append_left (by have := h.own.1; omega)]
      · obtain ⟨c, hc⟩ := h.typ g e
        unfold World.cell?
        rw [show (⟨g, j, none⟩ : Addr).block = g from rfl, hb.block g (lt_of_block hc)]
    · rw [← h.keep g e j hj]
      obtain ⟨c, hc⟩ := h.typ g e
      unfold World.cell?
      rw [show (⟨g, j, none⟩ : Addr).block = g from rfl, hg.block g (lt_of_block hc) (fun e => q e.symm)]
  · rcases hw with e' | ⟨e', _⟩
    · rw [e']; exact h.wh
    · exact .inr ⟨_, e', hs⟩
  · by_cases q : gv.ownBlock = some g
    · rcases hw with e' | ⟨e', hb⟩
      · exact own_blk ho (e'.trans q)
      · obtain ⟨c, hc⟩ := h.typ g e
        exact ⟨c, (hb.block g (lt_of_block hc)).trans hc⟩
    · obtain ⟨c, hc⟩ := h.typ g e
      exact ⟨c, (hg.block g (lt_of_block hc) (fun e => q e.symm)).trans hc⟩
theorem wpList_gpush {w wx : World} {ops : Array Oper} {rest : List Oper} {o : Oper} {a : Act} {Q : Exit → Act → World → Prop} (hgd : o.guard = none) (s x : Operand) (ho : o.op = .call { callee := .builtin .append, args := #[s, x], argTypes := #[22, 22] })
    {B n i : Nat} {v gv : Value} {L M : List Value} (h : Gw w wx B n i v gv L M) (hv : w.ownsRow B 5 1 v n L) (hs : a.eval s = gv) (g0 : Nat) (xv : Value) (hx : a.eval x = .slice (some ⟨g0, 0, none⟩) 1 1) (hg0 : wx.heap[g0]? = some (.cells #[xv] 5 (0, 0))) (h1 : xv.oneCell' = true) (hlen : n + i ≤ 2000000) (hB : B ≤ wx.heap.size)
    (k : ∀ gv' w', Gw w w' B n (i + 1) v gv' L (M ++ [xv]) → (∃ a c, gv' = .slice a (n + i + 1) c) → wpList Tryz.prog ops Q rest (a.put o.dst gv') w') : wpList Tryz.prog ops Q (o :: rest) a wx := by
  refine wpList_plain hgd fun K hK => ?_
  obtain ⟨i0, hi, hz0, hz1, hz2⟩ := info_parts binfo5
  obtain ⟨v', w', hr, h2, h3, h4⟩ := push_keep (P := Tryz.prog) wx B 22 o.type 5 i0 (.int .u8 0) 1 1 Tryz.underlying22 hi hz0 hz1 hz2 rfl (by decide) gv (n + i) (L ++ M) h.own ⟨g0, 0, none⟩ 1 1 [xv] (by decide) rfl (one_cells hg0) (by intro u hu; simp at hu; subst hu; exact h1) (by unfold maxLen; omega) (by omega) hB
  unfold Oper.wp
  simp [execOp, ho, resolve, invoke, builtin, hs, hx, hr, Result.andThen]
  refine hK _ _ (k v' w' (h.push hv h2 h3 h4) ?_)
  rcases h2.2 with ⟨q, h0⟩ | ⟨g, cap, cur, q, _⟩
  · omega
  · exact ⟨_, _, q⟩
end Go.Proofs.YtkjeneklkdekoaaGreatDoor
namespace Go.Proofs.YtkjeneklkdekoaaGreatDoor
open Go Go.RowKit
set_option linter.unusedSimpArgs false
set_option linter.unusedVariables false

/-! ### Lists in blocks of their own, beside cells that nobody writes -/
/-- A list in a block of its own, of which the first m places are written no more. -/
structure Ol (w : World) (B : Nat) (D : Nat → Nat → Prop) (v : Value) (n m : Nat) (L : List Value) : Prop where
  own : w.ownsRow B 5 1 v n L
  lim : ∀ g, v.ownBlock = some g → ∀ j, D g j → j < m
  one : ∀ u ∈ L, Bv u
  few : n ≤ 1000000
theorem Ol.keep {w w' : World} {B : Nat} {D D' : Nat → Nat → Prop} {v : Value} {n m : Nat} {L : List Value} (h : Ol w B D v n m L) (h1 : ∀ k, v.ownBlock = some k → w'.heap[k]? = w.heap[k]?) (h2 : ∀ g, v.ownBlock = some g → ∀ j, D' g j → D g j) : Ol w' B D' v n m L :=
  ⟨own_keep h.own h1, fun g e j q => h.lim g e j (h2 g e j q), h.one, h.few⟩
/-- No two of them lie in one block. -/
def Sep (vs : List Value) : Prop := ∀ (i j : Nat) (v u : Value), i ≠ j → vs[i]? = some v → vs[j]? = some u → ∀ k, v.ownBlock = some k → u.ownBlock ≠ some k
/-- One list has grown: what is protected now. -/
def Dg (D : Nat → Nat → Prop) (a b : Value) (n : Nat) (g j : Nat) : Prop := D g j ∨ (a.ownBlock = some g ∧ j < n) ∨ (b.ownBlock = some g ∧ j < n)
theorem keeps_five {D : Nat → Nat → Prop} {w w' : World} (hd : Dk w D) (h : ∀ (g : Nat) (k : Array Value), w.heap[g]? = some (.cells k 5 (0, 0)) → w'.heap[g]? = w.heap[g]?) : Keeps D w w' := fun g j q => by
  obtain ⟨c, hc⟩ := hd.typ g j q
  unfold World.cell?
  rw [show (⟨g, j, none⟩ : Addr).block = g from rfl, h g c hc]
theorem Keeps.trans {D : Nat → Nat → Prop} {a b c : World} (h : Keeps D a b) (k : Keeps D b c) : Keeps D a c := fun g j q => (k g j q).trans (h g j q)
theorem gw_keeps {w wx : World} {B n i m : Nat} {v gv : Value} {L M : List Value} {D : Nat → Nat → Prop} (h : Gw w wx B n i v gv L M) (hd : Dk w D) (hl : ∀ g, v.ownBlock = some g → ∀ j, D g j → j < m) (hm : m ≤ n) : Keeps D w wx := fun g j q => by
  by_cases e : v.ownBlock = some g
  · exact h.keep g e j (by have := hl g e j q; omega)
  · obtain ⟨c, hc⟩ := hd.typ g j q
    unfold World.cell?
    rw [show (⟨g, j, none⟩ : Addr).block = g from rfl, h.ch.block g (lt_of_block hc) e]
theorem gw_typ {w wx : World} {B n i : Nat} {v gv : Value} {L M : List Value} {D : Nat → Nat → Prop} (h : Gw w wx B n i v gv L M) (hd : Dk w D) : Dk wx D := ⟨fun g j q => by
  by_cases e : v.ownBlock = some g
  · exact h.typ g e
  · obtain ⟨c, hc⟩ := hd.typ g j q
    exact ⟨c, (h.ch.block g (lt_of_block hc) e).trans hc⟩⟩
theorem dk_five {D : Nat → Nat → Prop} {w w' : World} (hd : Dk w D) (h : ∀ (g : Nat) (k : Array Value), w.heap[g]? = some (.cells k 5 (0, 0)) → w'.heap[g]? = w.heap[g]?) : Dk w' D := ⟨fun g j q => by
  obtain ⟨c, hc⟩ := hd.typ g j q
  exact ⟨c, (h g c hc).trans hc⟩⟩
theorem ind_own {D : Nat → Nat → Prop} {w : World} {B n c : Nat} {a : Option Addr} {L : List Value} (h : w.ownsRow B 5 1 (.slice a n c) n L) (hd : ∀ g, (Value.slice a n c).ownBlock = some g → ∀ j, j < n → D g j) : InD D a n := fun g off e j hj => by
  subst e
  rcases h.2 with ⟨q, h0⟩ | ⟨g', cap, cur, q, _⟩
  · omega
  · injection q with q1 q2 q3
    injection q1 with q1
    injection q1 with q1 q2
    subst q1 q2
    rw [Nat.zero_add]
    exact hd g rfl j hj
/-- The walk's inner loop of growBytes, in few words. -/
theorem own_sl {w : World} {B n : Nat} {v : Value} {L : List Value} (h : w.ownsRow B 5 1 v n L) : ∃ a c, v = .slice a n c := by
  rcases h.2 with ⟨q, h0⟩ | ⟨g, cap, cur, q, _⟩
  · exact ⟨_, _, h0 ▸ q⟩
  · exact ⟨_, _, q⟩
end Go.Proofs.YtkjeneklkdekoaaGreatDoor
