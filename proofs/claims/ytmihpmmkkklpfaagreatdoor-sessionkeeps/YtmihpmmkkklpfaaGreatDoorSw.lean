import Derived.Test.YtmihpmmkkklpfaaGreatDoorSv
namespace Go.Proofs.YtmihpmmkkklpfaaGreatDoor
open Go Go.RowKit Go.Shelf Go.Maps Go.Sort
set_option linter.unusedSimpArgs false
set_option linter.unusedVariables false
theorem elem38 : Tryz.prog.elem 38 = 66 := by kernel_rfl
theorem size66 (w : World) : (sizeOf 66).run Tryz.prog w = .ok 25 w := by kernel_rfl
theorem fillL_len : ∀ (wt : List Mp) (p : Pw), (pFillL wt p).2.length ≤ wt.length
  | [], p => by simp [pFillL]
  | m :: wt, p => by
    simp only [pFillL]
    split
    · have := fillL_len wt (pLaunch { p with wt := wt } m).1
      simp
      omega
    · simp
theorem fill_len (p : Pw) : (pFill p).2.length ≤ p.wt.length := fillL_len p.wt p
theorem ack_len (p : Pw) (k id : Int) : (pAck p k id).2.length ≤ p.fl.length + p.wt.length + 1 := by
  unfold pAck
  split
  · simp
  · rename_i f _
    unfold pAckF
    split
    · simp
    · split
      · simp
      · split
        · have := fill_len { p with fl := p.fl.filter (fun g => g.id != f.id) }
          simp only at this
          omega
        · simp
theorem pq_size (x : Pq) : x.cs.size = 25 := rfl
theorem prow_cons (x : Pq) (S : List Pq) : prow (x :: S) = x.cs.toList ++ prow S := by simp [prow]
theorem yields_mid66 {o : Oper} {a : Act} {x : Operand} {g off : Nat} {cs : Array Value} {w : World} (ho : o.op = .load 66 x) (hx : a.eval x = .pointer (some ⟨g, off, none⟩)) (hg : w.rangeAt g off cs.toList) (hs : cs.size = 25) : (execOp a.eval o).run Tryz.prog w = .ok (.value (.agg cs)) w := by
  unfold execOp
  have := run_loadVar_mid (P := Tryz.prog) w g off 66 cs.toList _ hg Tryz.underlying66 rfl (by rw [Array.length_toList, hs]; kernel_rfl)
  simp only [ho, hx, Instr.loadAt, Instr.sureAddr, Sem.run_bind, Sem.run_pure, Result.andThen_ok, this]
theorem wpList_mid66 {ops : Array Oper} {Q : Exit → Act → World → Prop} {a : Act} {w : World} {o : Oper} {rest : List Oper} (hw : Region.wanted o (yielded ops a.tmps) = true) (x : Operand) (ho : o.op = .load 66 x) (g off : Nat)
    (hx : a.eval x = .pointer (some ⟨g, off, none⟩)) (cs : Array Value) (hg : w.rangeAt g off cs.toList) (hs : cs.size = 25) (h : wpList Tryz.prog ops Q rest (a.put o.dst (.agg cs)) w) : wpList Tryz.prog ops Q (o :: rest) a w :=
  wpList_step fun K hK => by
    rw [if_pos hw]
    unfold Oper.wp
    rw [yields_mid66 ho hx hg hs]
    exact hK _ _ h
theorem PB.one {w : World} {v : Value} {xs : List Int} (h : PB w v xs) (h1 : xs.length = 1) : ∃ yb c, v = .slice (some ⟨yb, 0, none⟩) 1 c ∧ w.cell? ⟨yb, 0, none⟩ = some (.int .u8 (xs.getD 0 0)) := by
  rcases h with ⟨_, rfl⟩ | ⟨a, n, c, rfl, h2, h3, h4, h5⟩
  · simp at h1
  · have hn : n = 1 := by omega
    subst hn
    obtain ⟨cs, fz, hb, ha⟩ := h5 (by omega)
    refine ⟨a.block, c, by rw [← ha], ?_⟩
    have := h4 0 (by omega)
    rw [show a.add 0 = ⟨a.block, 0, none⟩ by rw [ha]; rfl] at this
    exact this
section
variable {w0 W W' : World} {sb wb : Nat} {mo : Int} {p p' : Pw} {c c' : Nat} {tv dv lv : Value} {MT MD : List Mp} {S : List Pq} {x : Pq}
set_option maxRecDepth 100000 in
/-- The first packet of the list, and the rest. -/
theorem DC.head (h : DC w0 W sb wb mo p c tv dv lv MT MD (x :: S)) : ∃ lg cap, lv = .slice (some ⟨lg, 0, none⟩) (S.length + 1) cap ∧ W.rangeAt lg 0 x.cs.toList ∧ lg < W.heap.size ∧ ∃ ad, (∀ V, (Instr.slice 38 (.slice (some ⟨lg, 0, none⟩) (S.length + 1) cap) (some (.int .i64 1)) none none).run Tryz.prog V = .ok (.slice (some ad) S.length (cap - 1)) V) ∧ ∀ j u, (prow S)[j]? = some u → W.cell? (ad.add j) = some u := by
  rcases h.lk.2 with ⟨_, z⟩ | ⟨lg, cap, cur, hv, h1, h2, h3, h4, h5, h6⟩
  · simp at z
  · simp only [List.length_cons] at h3 h5 h6 hv
    have hcell : ∀ j u, (prow (x :: S))[j]? = some u → W.cell? ⟨lg, j, none⟩ = some u := fun j u hu => by
      refine box_cells h2 j u ?_
      rw [← h6, List.getElem?_take] at hu
      split at hu
      · simpa using hu
      · cases hu
    refine ⟨lg, cap, hv, fun j u hu => ?_, (Array.getElem?_eq_some_iff.1 h2).1, if cap = 1 then ⟨lg, 0, none⟩ else ⟨lg, 25, none⟩, fun V => ?_, fun j u hu => ?_⟩
    · rw [Nat.zero_add]
      refine hcell j u ?_
      rw [prow_cons, List.getElem?_append_left (List.getElem?_eq_some_iff.1 hu).1]
      exact hu
    · rw [run_slice_l V 38 _ _ _ Tryz.underlying38 .i64 1 (by omega) (by simp; omega)]
      rw [elem38, size66]
      simp only [Result.andThen, sliced]
      by_cases hc : cap = 1
      · subst hc
        simp
      · simp [hc, addr_at]
    · have hj : j < (prow S).length := (List.getElem?_eq_some_iff.1 hu).1
      have hlen := h.lk.1
      rw [prow_cons, List.length_append, Array.length_toList, pq_size] at hlen
      simp only [List.length_cons] at hlen
      have hc : ¬ cap = 1 := by omega
      rw [if_neg hc]
      have : (⟨lg, 25, none⟩ : Addr).add j = ⟨lg, 25 + j, none⟩ := by unfold Addr.add; split <;> simp_all
      rw [this]
      refine hcell (25 + j) u ?_
      rw [prow_cons, List.getElem?_append_right (by simp [pq_size])]
      simpa [pq_size] using hu
/-- The rest as a list of its own. -/
theorem DC.tail (h : DC w0 W sb wb mo p c tv dv lv MT MD (x :: S)) {ad : Addr} {k : Nat} (hc : ∀ j u, (prow S)[j]? = some u → W.cell? (ad.add j) = some u) (hl : S.length ≤ 100000) : ∃ lv' w', (Builtin.append_ #[38, 38] 38 #[.slice none 0 0, .slice (some ad) S.length k]).run Tryz.prog W = .ok lv' w' ∧ DC w0 w' sb wb mo p c tv dv lv' MT MD S ∧ Below W.heap.size W w' ∧ ∀ g, lv'.ownBlock = some g → W.heap.size ≤ g := by
  have hl1 : (prow S).length = S.length * 25 := by
    have := h.lk.1
    rw [prow_cons, List.length_append, Array.length_toList, pq_size] at this
    simp only [List.length_cons] at this
    omega
  have hpb : ∀ q ∈ S, PB W q.m.v q.m.xs := fun q hq => h.pb q (List.mem_cons_of_mem _ hq)
  obtain ⟨lv', w', k1, k2, k3, k4⟩ := appP (w := W) (B := w0.heap.size) (v := .slice none 0 0) (n := 0) (xs := []) (World.ownsRow_nil _ _ _ _) (.slice (some ad) S.length k) (.inr ⟨ad, k, rfl, hc⟩) hl1 (prow_one hpb) (by omega) h.bel.size
  have hb : Below W.heap.size W w' := ⟨k3.os, k3.tape, k3.output, k3.size, fun j hj => k3.block j hj (by simp [Value.ownBlock])⟩
  refine ⟨lv', w', k1, { h.below hb with lk := ?_, pb := fun q hq => (hpb q hq).keep (Kb.below hb) }, hb, fun g hg => ?_⟩
  · simpa using k2
  · rcases k4 with z | z
    · rw [z] at hg
      simp [Value.ownBlock] at hg
    · rw [z] at hg
      cases hg
      exact Nat.le_refl _
theorem conv_row {B : Nat} {v : Value} {L : List Int} (h : W.ownsRow B 5 1 v L.length (L.map (Value.int .u8))) : (convert 43 9 v).run Tryz.prog W = .ok (.string (strL L)) W := by
  rcases h.2 with ⟨rfl, z⟩ | ⟨g, cap, cur, rfl, _, hg, hc1, hc2, hc3, hc4⟩
  · have hL : L = [] := List.length_eq_zero_iff.1 z
    subst hL
    rw [run_convert_bytes_nil W 43 5 Tryz.underlying43 Tryz.underlying5 0 0 9 Tryz.underlying9]
    rfl
  · rw [run_convert_bytes_string W 43 9 5 _ L.length cap Tryz.underlying43 Tryz.underlying5 Tryz.underlying9]
    have hl : (loadCells ⟨g, 0, none⟩ L.length).run Tryz.prog W = .ok (L.map (Value.int .u8)).toArray W := by
      have := run_loadCells_list (P := Tryz.prog) W ⟨g, 0, none⟩ (L.map (Value.int .u8)) (fun j v hj => by
        rw [addr_at]
        refine box_cells hg j v ?_
        rw [← hc4, List.getElem?_take] at hj
        split at hj
        · simpa using hj
        · cases hj)
      simpa using this
    rw [run_bytesToString W ⟨g, 0, none⟩ L.length cap _ hl, foldl_push_bytes]
    simp [strL, strOfNums, ByteArray.empty, ByteArray.emptyWithCapacity]
    try rfl
theorem brow_map (T : List Mp) : brow T = (T.map tb).map (Value.int .u8) := by simp [brow]
theorem DC.convT (h : DC w0 W sb wb mo p c tv dv lv MT MD S) : (convert 43 9 tv).run Tryz.prog W = .ok (.string (strL (MT.map tb))) W := by
  have := h.tk
  rw [brow_map] at this
  exact conv_row (B := w0.heap.size) (by simpa using this)
theorem DC.convD (h : DC w0 W sb wb mo p c tv dv lv MT MD S) : (convert 43 9 dv).run Tryz.prog W = .ok (.string (strL (MD.map tb))) W := by
  have := h.dk
  rw [brow_map] at this
  exact conv_row (B := w0.heap.size) (by simpa using this)
/-! ### Calls within SessionKeeps -/
theorem kx_upB {F : Nat → Prop} (h : KS F W wb p c) (hc : c ≤ 200000) : Calls Tryz.prog 15 #[.pointer (some ⟨wb, 0, none⟩)] W fun e w' => ∃ v', e = .returned v' ∧ KS F w' wb (pUp p).1 c ∧ Fr F W w' ∧ KO W w' ∧ Lst w' v' (pUp p).2 ∧ ∀ g, v'.ownBlock = some g → W.heap.size ≤ g := by
  obtain ⟨i, hw, rfl, hF⟩ := h.addX.ex
  refine (up_ws hw h.gd hc).mono ?_
  rintro e w' ⟨v', rfl, o⟩
  obtain ⟨k1, k2, k3⟩ := KS.out hF o
  obtain ⟨i', S, s, ho, hp, e1, e2⟩ := o.ex
  exact ⟨v', rfl, k1.less fx_inl, k2.mono fx_inl, k2.ko, k3, fun g hg => row_ge ho hg⟩
theorem dc_down (h : DC w0 W sb wb mo p c tv dv lv MT MD S) (hv : Dv p MT) : Calls Tryz.prog 11 #[.pointer (some ⟨wb, 0, none⟩)] W fun e w' => e = .returned (.tuple #[]) ∧ ∃ p', DC w0 w' sb wb mo p' c tv dv lv MT MD S ∧ Dv p' MT := by
  refine (kx_down h.ks).mono ?_
  rintro e w' ⟨rfl, k, r, o⟩
  exact ⟨rfl, _, h.win k r o, hv.down⟩
theorem dc_up (h : DC w0 W sb wb mo p c tv dv lv MT MD S) (hv : Dv p MT) (hc : c ≤ 200000) : Calls Tryz.prog 15 #[.pointer (some ⟨wb, 0, none⟩)] W fun e w' => ∃ v, e = .returned v ∧ DC w0 w' sb wb mo (pUp p).1 c tv dv lv MT MD S ∧ Dv (pUp p).1 MT ∧ Lst w' v (pUp p).2 ∧ ∀ g, v.ownBlock = some g → w0.heap.size ≤ g := by
  refine (kx_upB h.ks hc).mono ?_
  rintro e w' ⟨v, rfl, k, r, o, l, hg⟩
  exact ⟨v, rfl, h.win k r o, hv.up, l, fun g z => Nat.le_trans h.bel.size (hg g z)⟩
theorem dc_del (h : DC w0 W sb wb mo p c tv dv lv MT MD S) (hv : Dv p MT) (hc : c + 1 ≤ 200000) {v : Value} {q y : Int} (hq : q = 1 ∨ q = 2) (hp : PBi W v [y]) : Calls Tryz.prog 16 #[.pointer (some ⟨sb, 0, none⟩), .agg #[.string ⟨#[116]⟩, v, .int .i64 q, .bool false]] W fun e w' => ∃ v' ok p', e = .returned (.tuple #[v', .bool ok]) ∧ DC w0 w' sb wb mo p' (c + 1) tv dv lv MT MD S ∧ Dv p' (MT ++ if ok then [⟨⟨#[116]⟩, q, false, [y]⟩] else []) := by
  refine (deliver_any h.ks h.ss hc ⟨#[116]⟩ v q false [y] hp (by decide) (by rcases hq with rfl | rfl <;> rfl)).mono ?_
  rintro e w' ⟨v', rfl, k, r, o, l⟩
  exact ⟨v', _, _, rfl, h.win k r o, hv.send ⟨⟨#[116]⟩, q, false, [y]⟩ hq⟩
theorem dc_ack (h : DC w0 W sb wb mo p c tv dv lv MT MD S) (hc : c ≤ 200000) (kind : Int) {id : Nat} (hid : id ≤ 65535) : Calls Tryz.prog 17 #[.pointer (some ⟨wb, 0, none⟩), .int .i64 kind, .int .i64 (id : Int)] W fun e w' => ∃ v, e = .returned v ∧ DC w0 w' sb wb mo (pAck p kind id).1 c tv dv lv MT MD S ∧ Lst w' v (pAck p kind id).2 ∧ KO W w' := by
  refine (kx_ack h.ks hc kind id (okI_nat _ (by omega))).mono ?_
  rintro e w' ⟨v, rfl, k, r, o, l⟩
  exact ⟨v, rfl, h.win k r o, l, o⟩
end
end Go.Proofs.YtmihpmmkkklpfaaGreatDoor
