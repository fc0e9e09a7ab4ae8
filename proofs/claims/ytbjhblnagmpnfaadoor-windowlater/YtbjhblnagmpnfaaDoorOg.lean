import Derived.Test.YtbjhblnagmpnfaaDoorOf
import Derived.Laws.Tables
namespace Go.Proofs.YtbjhblnagmpnfaaDoor
open Go Go.RowKit Go.Shelf Go.Maps Go.Sort
set_option linter.unusedSimpArgs false
set_option linter.unusedVariables false
/-! ### Packets that are sent -/
def pkc (k : Int) (d : Bool) (t : ByteArray) (v : Value) (q : Int) (r : Bool) (id : Int) : Array Value := #[.int .i64 k, .int .i64 0, .bool false, .int .i64 0, .string ⟨#[]⟩, .bool false, .string ⟨#[]⟩, .slice none 0 0, .int .i64 0, .bool false, .bool false, .string ⟨#[]⟩, .bool false, .slice none 0 0, .bool false, .int .i64 0, .bool d, .string t, v, .int .i64 q, .bool r, .int .i64 id, .slice none 0 0, .slice none 0 0, .slice none 0 0]
theorem pkc_info : (Tryd.prog.info? 51).map (·.size) = some 25 := by kernel_rfl
theorem pkc_one (k : Int) (d : Bool) (t : ByteArray) (a : Option Addr) (n c : Nat) (q : Int) (r : Bool) (id : Int) : (pkc k d t (.slice a n c) q r id).all (·.oneCell') = true := by simp [pkc, Value.oneCell']
theorem wpList_build_to {ops : Array Oper} {rest : List Oper} {o : Oper} {a : Act} {w : World} {Q : Exit → Act → World → Prop} (hg : o.guard = none) (t : TypeId) (parts : Array (Nat × Operand)) (ho : o.op = .build t parts) (cells : Array Value)
    (hf : Tryd.prog.built t (parts.map fun (i, x) => (i, a.eval x)).toList = some cells) (h : wpList Tryd.prog ops Q rest (a.put o.dst (.agg cells)) w) : wpList Tryd.prog ops Q (o :: rest) a w :=
  wpList_build hg t parts ho (by rw [hf]; rfl) (by rw [hf]; exact h)
theorem built_rel (id : Int) : Tryd.prog.built 51 [(0, .int .i64 6), (15, .int .i64 id)] = some (pkc 6 false ⟨#[]⟩ (.slice none 0 0) 0 false id) := by kernel_rfl
theorem built_pub (t : ByteArray) (a : Option Addr) (n c : Nat) (q : Int) (r : Bool) (id : Int) : Tryd.prog.built 51 [(0, .int .i64 3), (14, .agg #[.string t, .slice a n c, .int .i64 q, .bool r]), (15, .int .i64 id)] = some (pkc 3 false t (.slice a n c) q r id) := by kernel_rfl
theorem built_dup (t : ByteArray) (a : Option Addr) (n c : Nat) (q : Int) (r : Bool) (id : Int) : Tryd.prog.built 51 [(0, .int .i64 3), (13, .bool true), (14, .agg #[.string t, .slice a n c, .int .i64 q, .bool r]), (15, .int .i64 id)] = some (pkc 3 true t (.slice a n c) q r id) := by kernel_rfl
theorem setRow_at {w : World} {g t : Nat} {cs cells : Array Value} {fz : Nat × Nat} (h : w.heap[g]? = some (.cells cs t fz)) : (w.setRow g cells).heap[g]? = some (.cells cells t fz) := by
  simp [World.setRow, Array.getElem?_modify, h]
theorem setRow_ne {w : World} {g j : Nat} {cells : Array Value} (hn : j ≠ g) : (w.setRow g cells).heap[j]? = w.heap[j]? := by
  simp [World.setRow, Array.getElem?_modify, Ne.symm hn]
theorem ch_row {w : World} (g : Nat) (cells : Array Value) : Ch (fun k => k = g) w (w.setRow g cells) := ⟨rfl, rfl, rfl, by simp [World.setRow], fun k hk hn => setRow_ne hn⟩
theorem below_row {n : Nat} {a b : World} (h : Below n a b) {g : Nat} (hg : n ≤ g) (cells : Array Value) : Below n a (b.setRow g cells) := ⟨h.os, h.tape, h.output, by simpa [World.setRow] using h.size, fun k hk => (setRow_ne (by omega)).trans (h.block k hk)⟩
set_option maxRecDepth 100000 in
set_option maxHeartbeats 1000000 in
theorem pubrel_any (id : Int) (w : World) : Calls Tryd.prog 40 #[.int .i64 id] w fun e w' => e = .returned (.agg (pkc 6 false ⟨#[]⟩ (.slice none 0 0) 0 false id)) ∧ Below w.heap.size w w' := by
  obtain ⟨W1, hW1⟩ : ∃ W, W = w.alloc (.cells (pkc 0 false ⟨#[]⟩ (.slice none 0 0) 0 false 0) 51) := ⟨_, rfl⟩
  have B1 := hidi (show Below w.heap.size w W1 by rw [hW1]; exact (Below.refl _ _).alloc (Nat.le_refl _) _)
  have RZ := hidi (show W1.heap[w.heap.size]? = some (.cells (pkc 0 false ⟨#[]⟩ (.slice none 0 0) 0 false 0) 51 (0, 0)) by rw [hW1]; exact heap_alloc_new w _)
  go_enter Tryd.func40, Tryd.ntmps40
  go_upto_region 1 with fail
  have eW : w.alloc (.cells #[.int .i64 0, .int .i64 0, .bool false, .int .i64 0, .string ⟨#[]⟩, .bool false, .string ⟨#[]⟩, .slice none 0 0, .int .i64 0, .bool false, .bool false, .string ⟨#[]⟩, .bool false, .slice none 0 0, .bool false, .int .i64 0, .bool false, .string ⟨#[]⟩, .slice none 0 0, .int .i64 0, .bool false, .int .i64 0, .slice none 0 0, .slice none 0 0, .slice none 0 0] 51) = W1 := hW1.symm
  rw [eW]
  clear eW hW1
  go_wp2_with (first | (refine wpList_build_to rfl 51 _ rfl (pkc 6 false ⟨#[]⟩ (.slice none 0 0) 0 false id) (built_rel id) ?_) | (refine wpList_store_row rfl 51 _ _ rfl w.heap.size (pkc 6 false ⟨#[]⟩ (.slice none 0 0) 0 false id) rfl rfl 51 _ RZ.out pkc_info rfl (pkc_one _ _ _ _ _ _ _ _ _) ?_))
  refine bodyPost_ret (results_cell_row rfl _ _ _ _ _ _ _ rfl (setRow_at RZ.out) Tryd.underlying51 rfl (by kernel_rfl)) rfl ⟨rfl, below_row B1.out (Nat.le_refl _) _⟩
/-! ### Cells of the window's own block -/
theorem WS.set {w : World} {wb : Nat} {i i' : WI} {c c' : Nat} (h : WS w wb i c) (k : Nat) (v : Value) (hcs : i'.cs = i.cs.setIfInBounds k v) (hfs : i'.fs = i.fs) (hmu : i'.mu = i.mu) (hmt : i'.mt = i.mt) (hlv : i'.lv = i.lv) (hZ : i'.Z = i.Z) (hL : i'.L = i.L) (hR : i'.R = i.R) (hN : i'.N = i.N) (hla : i'.la = i.la) (hm : i'.most = i.most) (hq : i'.queue = i.queue) (hlast : i'.last ≤ 65535) (hc : c ≤ c') : WS (w.setCell ⟨wb, k, none⟩ v) wb i' c' ∧ St w (w.setCell ⟨wb, k, none⟩ v) wb i i' c' := by
  have hne : ∀ j, i.U wb j → j ≠ wb → (w.setCell ⟨wb, k, none⟩ v).heap[j]? = w.heap[j]? := fun j _ hj => heap_set_ne _ hj
  have hch : Ch (fun j => j = wb) w (w.setCell ⟨wb, k, none⟩ v) := ch_set wb k v
  have hkb : Kb w (w.setCell ⟨wb, k, none⟩ v) := h.kb (hch.mono (fun j _ q => .inl q))
  have hids : i'.ids = i.ids := by unfold WI.ids; rw [hfs]
  have hT : i'.T = i.T := by unfold WI.T; rw [hids, hR]
  have hws : WS (w.setCell ⟨wb, k, none⟩ v) wb i' c' := by
    refine { blk := ?_, und := ?_, fls := ?_, tkn := ?_, row := ?_, pay := ?_, half := by rw [hZ, hL]; exact h.half, apt := by rw [hmu, hmt]; exact h.apt, nd := by rw [hids, hR]; exact h.nd, rng := by rw [hids, hR]; exact h.rng, srt := by rw [hfs]; exact h.srt, tns := by rw [hfs, hla]; exact h.tns, snf := by rw [hfs]; exact h.snf, snl := by rw [hL]; exact h.snl, bm := by rw [hm]; exact h.bm, bq := by rw [hq]; exact h.bq, bf := by rw [hfs, hm]; exact h.bf, bl := by rw [hL, hq]; exact h.bl, br := by rw [hR, hm]; exact h.br, bs := hlast, bc := by rw [hla, hL, hN]; exact ⟨Nat.le_trans h.bc.1 hc, Nat.le_trans h.bc.2 hc⟩ }
    · rw [hcs]; exact heap_set h.blk v
    · rw [hmu, hfs]
      exact h.und.keep (fun b hb => hne b (.inr (.inl hb)) (fun q => by obtain ⟨es, cl, e⟩ := h.und.block hb; rw [q, h.blk] at e; cases e))
    · rw [hfs]
      intro f hf
      refine ⟨(heap_set_ne _ (fun q => ?_)).trans (h.fls f hf).blk, (h.fls f hf).pay.keep hkb⟩
      have := (h.fls f hf).blk
      rw [q, h.blk] at this
      simp at this
    · rw [hmt, hT, hN]
      exact h.tkn.keep (fun b hb => hne b (.inr (.inr (.inl hb))) (fun q => by obtain ⟨es, cl, e⟩ := h.tkn.block hb; rw [q, h.blk] at e; cases e))
    · rw [hlv, hZ, hL]
      refine own_ch h.row hch (fun g hg q => ?_)
      obtain ⟨cur, e⟩ := own_lt h.row hg
      rw [q, h.blk] at e
      simp at e
    · rw [hL]
      exact fun m hm => (h.pay m hm).keep hkb
  refine ⟨hws, hws, hch.mono (fun j _ q => .inl q), fun j hj => .inl ?_⟩
  unfold WI.U at hj ⊢
  rw [hmu, hmt, hlv, hfs] at hj
  exact hj
end Go.Proofs.YtbjhblnagmpnfaaDoor
