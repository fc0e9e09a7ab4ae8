import Derived.Test.YtmihpmmkkklpfaaGreatDoorOf
import Derived.Laws.Tables
namespace Go.Proofs.YtmihpmmkkklpfaaGreatDoor
open Go Go.RowKit Go.Shelf Go.Maps Go.Sort
set_option linter.unusedSimpArgs false
set_option linter.unusedVariables false
/-! ### Packets that are sent -/
def pkc (k : Int) (d : Bool) (t : ByteArray) (v : Value) (q : Int) (r : Bool) (id : Int) : Array Value := #[.int .i64 k, .int .i64 0, .bool false, .int .i64 0, .string ⟨#[]⟩, .bool false, .string ⟨#[]⟩, .slice none 0 0, .int .i64 0, .bool false, .bool false, .string ⟨#[]⟩, .bool false, .slice none 0 0, .bool false, .int .i64 0, .bool d, .string t, v, .int .i64 q, .bool r, .int .i64 id, .slice none 0 0, .slice none 0 0, .slice none 0 0]
theorem pkc_info : (Tryz.prog.info? 66).map (·.size) = some 25 := by kernel_rfl
theorem pkc_one (k : Int) (d : Bool) (t : ByteArray) (a : Option Addr) (n c : Nat) (q : Int) (r : Bool) (id : Int) : (pkc k d t (.slice a n c) q r id).all (·.oneCell') = true := by simp [pkc, Value.oneCell']
theorem wpList_build_to {ops : Array Oper} {rest : List Oper} {o : Oper} {a : Act} {w : World} {Q : Exit → Act → World → Prop} (hg : o.guard = none) (t : TypeId) (parts : Array (Nat × Operand)) (ho : o.op = .build t parts) (cells : Array Value)
    (hf : Tryz.prog.built t (parts.map fun (i, x) => (i, a.eval x)).toList = some cells) (h : wpList Tryz.prog ops Q rest (a.put o.dst (.agg cells)) w) : wpList Tryz.prog ops Q (o :: rest) a w :=
  wpList_build hg t parts ho (by rw [hf]; rfl) (by rw [hf]; exact h)
theorem built_rel (id : Int) : Tryz.prog.built 66 [(0, .int .i64 6), (15, .int .i64 id)] = some (pkc 6 false ⟨#[]⟩ (.slice none 0 0) 0 false id) := by kernel_rfl
theorem built_dup (t : ByteArray) (a : Option Addr) (n c : Nat) (q : Int) (r : Bool) (id : Int) : Tryz.prog.built 66 [(0, .int .i64 3), (13, .bool true), (14, .agg #[.string t, .slice a n c, .int .i64 q, .bool r]), (15, .int .i64 id)] = some (pkc 3 true t (.slice a n c) q r id) := by kernel_rfl
theorem setRow_at {w : World} {g t : Nat} {cs cells : Array Value} {fz : Nat × Nat} (h : w.heap[g]? = some (.cells cs t fz)) : (w.setRow g cells).heap[g]? = some (.cells cells t fz) := by
  simp [World.setRow, Array.getElem?_modify, h]
theorem setRow_ne {w : World} {g j : Nat} {cells : Array Value} (hn : j ≠ g) : (w.setRow g cells).heap[j]? = w.heap[j]? := by
  simp [World.setRow, Array.getElem?_modify, Ne.symm hn]
theorem ch_row {w : World} (g : Nat) (cells : Array Value) : Ch (fun k => k = g) w (w.setRow g cells) := ⟨rfl, rfl, rfl, by simp [World.setRow], fun k hk hn => setRow_ne hn⟩
theorem below_row {n : Nat} {a b : World} (h : Below n a b) {g : Nat} (hg : n ≤ g) (cells : Array Value) : Below n a (b.setRow g cells) := ⟨h.os, h.tape, h.output, by simpa [World.setRow] using h.size, fun k hk => (setRow_ne (by omega)).trans (h.block k hk)⟩
set_option maxRecDepth 100000 in
set_option maxHeartbeats 1000000 in
theorem pubrel_any (id : Int) (w : World) : Calls Tryz.prog 47 #[.int .i64 id] w fun e w' => e = .returned (.agg (pkc 6 false ⟨#[]⟩ (.slice none 0 0) 0 false id)) ∧ Below w.heap.size w w' := by
  obtain ⟨W1, hW1⟩ : ∃ W, W = w.alloc (.cells (pkc 0 false ⟨#[]⟩ (.slice none 0 0) 0 false 0) 66) := ⟨_, rfl⟩
  have B1 := hidi (show Below w.heap.size w W1 by rw [hW1]; exact (Below.refl _ _).alloc (Nat.le_refl _) _)
  have RZ := hidi (show W1.heap[w.heap.size]? = some (.cells (pkc 0 false ⟨#[]⟩ (.slice none 0 0) 0 false 0) 66 (0, 0)) by rw [hW1]; exact heap_alloc_new w _)
  go_enter Tryz.func47, Tryz.ntmps47
  go_upto_region 1 with fail
  have eW : w.alloc (.cells #[.int .i64 0, .int .i64 0, .bool false, .int .i64 0, .string ⟨#[]⟩, .bool false, .string ⟨#[]⟩, .slice none 0 0, .int .i64 0, .bool false, .bool false, .string ⟨#[]⟩, .bool false, .slice none 0 0, .bool false, .int .i64 0, .bool false, .string ⟨#[]⟩, .slice none 0 0, .int .i64 0, .bool false, .int .i64 0, .slice none 0 0, .slice none 0 0, .slice none 0 0] 66) = W1 := hW1.symm
  rw [eW]
  clear eW hW1
  go_wp2_with (first | (refine wpList_build_to rfl 66 _ rfl (pkc 6 false ⟨#[]⟩ (.slice none 0 0) 0 false id) (built_rel id) ?_) | (refine wpList_store_row rfl 66 _ _ rfl w.heap.size (pkc 6 false ⟨#[]⟩ (.slice none 0 0) 0 false id) rfl rfl 66 _ RZ.out pkc_info rfl (pkc_one _ _ _ _ _ _ _ _ _) ?_))
  refine bodyPost_ret (results_cell_row rfl _ _ _ _ _ _ _ rfl (setRow_at RZ.out) Tryz.underlying66 rfl (by kernel_rfl)) rfl ⟨rfl, below_row B1.out (Nat.le_refl _) _⟩
/-! ### Cells of the window's own block -/
theorem WS.set {w : World} {wb : Nat} {i i' : WI} {c c' : Nat} (h : WS w wb i c) (k : Nat) (v : Value) (hcs : i'.cs = i.cs.setIfInBounds k v) (hfs : i'.fs = i.fs) (hmu : i'.mu = i.mu) (hmt : i'.mt = i.mt) (hlv : i'.lv = i.lv) (hZ : i'.Z = i.Z) (hL : i'.L = i.L) (hR : i'.R = i.R) (hN : i'.N = i.N) (hla : i'.la = i.la) (hm : i'.most = i.most) (hq : i'.queue = i.queue) (hlast : i'.last ≤ 65535) (hc : c ≤ c') : WS (w.setCell ⟨wb, k, none⟩ v) wb i' c' ∧ St w (w.setCell ⟨wb, k, none⟩ v) wb i i' c' := by
  have hne : ∀ j, i.U wb j → j ≠ wb → (w.setCell ⟨wb, k, none⟩ v).heap[j]? = w.heap[j]? := fun j _ hj => heap_set_ne _ hj
  have hch : Ch (fun j => j = wb) w (w.setCell ⟨wb, k, none⟩ v) := ch_set wb k v
  have hkb : Kb w (w.setCell ⟨wb, k, none⟩ v) := h.kb (hch.mono (fun j _ q => .inl q))
  have hids : i'.ids = i.ids := by unfold WI.ids; rw [hfs]
  have hT : i'.T = i.T := by unfold WI.T; rw [hids, hR]
  have hws : WS (w.setCell ⟨wb, k, none⟩ v) wb i' c' := by
    refine { blk := ?_, und := ?_, fls := ?_, tkn := ?_, row := ?_, pay := ?_, half := by rw [hZ, hL]; exact h.half, apt := by rw [hmu, hmt]; exact h.apt, nd := by rw [hids, hR]; exact h.nd, rng := by rw [hids, hR]; exact h.rng, srt := by rw [hfs]; exact h.srt, tns := by rw [hfs, hla]; exact h.tns, snf := by rw [hfs]; exact h.snf, snl := by rw [hL]; exact h.snl, bm := by rw [hm]; exact h.bm, bq := by rw [hq]; exact h.bq, bf := by rw [hfs, hm]; exact h.bf, bl := by rw [hL, hq]; exact h.bl, br := by rw [hR, hm]; exact h.br, bs := hlast, bc := by rw [hla, hL, hN]; exact ⟨Nat.le_trans h.bc.1 hc, Nat.le_trans h.bc.2 hc⟩ }
    · rw [hcs]; exact heap_set h.blk v
    · rw [hmu, hfs]
      exact h.und.keep (fun b hb => hne b (.inr (.inl hb)) (fun q => by obtain ⟨es, cl, e⟩ := h.und.block hb; rw [q, h.blk] at e; cases e))
    · rw [hfs]
      intro f hf
      refine ⟨(heap_set_ne _ (fun q => ?_)).trans (h.fls f hf).blk, (h.fls f hf).pay.keep hkb⟩
      have := (h.fls f hf).blk
      rw [q, h.blk] at this
      simp at this
    · rw [hmt, hT, hN]
      exact h.tkn.keep (fun b hb => hne b (.inr (.inr (.inl hb))) (fun q => by obtain ⟨es, cl, e⟩ := h.tkn.block hb; rw [q, h.blk] at e; cases e))
    · rw [hlv, hZ, hL]
      refine own_ch h.row hch (fun g hg q => ?_)
      obtain ⟨cur, e⟩ := own_lt h.row hg
      rw [q, h.blk] at e
      simp at e
    · rw [hL]
      exact fun m hm => (h.pay m hm).keep hkb
  refine ⟨hws, hws, hch.mono (fun j _ q => .inl q), fun j hj => .inl ?_⟩
  unfold WI.U at hj ⊢
  rw [hmu, hmt, hlv, hfs] at hj
  exact hj
end Go.Proofs.YtmihpmmkkklpfaaGreatDoor
namespace Go.Proofs.YtmihpmmkkklpfaaGreatDoor
open Go Go.RowKit Go.Shelf Go.Maps Go.Sort
set_option linter.unusedSimpArgs false
set_option linter.unusedVariables false
theorem build_run {a : Act} {o : Oper} {t : TypeId} {parts : Array (Nat × Operand)} (ho : o.op = .build t parts) {cells : Array Value} (hf : Tryz.prog.built t (parts.map fun (i, x) => (i, a.eval x)).toList = some cells) (w : World) : (execOp a.eval o).run Tryz.prog w = .ok (.value (.agg cells)) w := by
  unfold execOp
  simp only [ho, Sem.run_bind, run_build w t _ cells hf, Result.andThen_ok]
  rfl
/-! ### launch -/
def Launched (w w' : World) (wb : Nat) (i : WI) (c' : Nat) (m : Ms) (x : Value) : Prop := ∃ (id b : Nat) (mu mt v' : Value), Abv i.T i.last id ∧ x = .agg (pkc 3 false m.t v' m.q m.r id) ∧ PB w' v' m.xs ∧ St w w' wb i (({ i with last := id } : WI).put b id false m mu mt) c'
set_option maxRecDepth 100000 in
set_option maxHeartbeats 4000000 in
theorem launch_ws {w : World} {wb : Nat} {i : WI} {c c' : Nat} (h : WS w wb i c) (g : Gd w) (hcc : c ≤ c') (hc : i.la + 1 + i.L.length ≤ c' ∧ i.N + 1 + i.L.length ≤ c') (hc' : c' ≤ 200000) (hf : i.fs.length < i.most) {m : Ms} (hp : PB w m.v m.xs) (hs : Sn m.q) :
    Calls Tryz.prog 75 #[.pointer (some ⟨wb, 0, none⟩), .agg #[.string m.t, m.v, .int .i64 m.q, .bool m.r]] w fun e w' => ∃ x, e = .returned x ∧ Launched w w' wb i c' m x := by
  obtain ⟨t, v, q, r, xs⟩ := m
  obtain ⟨pa, pn, pc, hv⟩ := hp.sl
  simp only at hv
  subst hv
  have hwl : wb < w.heap.size := h.lt (.inl rfl)
  obtain ⟨w1, hw1⟩ : ∃ w1, w1 = ((w.alloc (.cells #[.string t, .slice pa pn pc, .int .i64 q, .bool r] 45)).alloc (.cells (pkc 0 false ⟨#[]⟩ (.slice none 0 0) 0 false 0) 66)) := ⟨_, rfl⟩
  obtain ⟨a1, a2, a3⟩ := two_alloc w (.cells #[.string t, .slice pa pn pc, .int .i64 q, .bool r] 45) (.cells (pkc 0 false ⟨#[]⟩ (.slice none 0 0) 0 false 0) 66)
  have b1 := two_below w (.cells #[.string t, .slice pa pn pc, .int .i64 q, .bool r] 45) (.cells (pkc 0 false ⟨#[]⟩ (.slice none 0 0) 0 false 0) 66)
  rw [← hw1] at a1 a2 a3 b1
  have b1d : Below w.heap.size w w1.drew := b1.drew
  have h1 : WS w1.drew wb i c := h.below b1d
  have HA1 := hidi (And.intro a1 (And.intro a2 (And.intro a3 b1)))
  have H1 := hidi h1
  have AB := hidi (above_any (w := w1.drew) (nb := wb) (i := 8) h1.tkn (box_cells h1.blk 8 _ rfl) i.last h1.bs (tzOk (g.below b1d).tab) (h1.freeN (by have := h.br; have := h.bm; omega)))
  have hbrm := h.br
  have HH := hidi (And.intro h (And.intro g (And.intro hcc (And.intro hc (And.intro hc' (And.intro hf (And.intro hp hs)))))))
  have c3 : w1.cell? ⟨wb, 3, none⟩ = some (.int .i64 (i.last : Int)) := box_cells h1.blk 3 _ rfl
  have f3 : w1.frozen? ⟨wb, 3, none⟩ = false := box_frozen h1.blk 3
  clear a1 a2 a3 b1 b1d h1 h g hcc hc hc' hf hp hs hbrm
  go_enter Tryz.func75, Tryz.ntmps75
  go_upto_region 1 with fail
  have eW : ((w.alloc (.cells #[.string t, .slice pa pn pc, .int .i64 q, .bool r] 45)).alloc (.cells #[.int .i64 0, .int .i64 0, .bool false, .int .i64 0, .string ⟨#[]⟩, .bool false, .string ⟨#[]⟩, .slice none 0 0, .int .i64 0, .bool false, .bool false, .string ⟨#[]⟩, .bool false, .slice none 0 0, .bool false, .int .i64 0, .bool false, .string ⟨#[]⟩, .slice none 0 0, .int .i64 0, .bool false, .int .i64 0, .slice none 0 0, .slice none 0 0, .slice none 0 0] 66)) = w1 := hw1.symm
  rw [eW]
  clear eW hw1
  go_region_with (go_at_call 101; refine AB.out.mono ?_; clear AB; rintro e w' ⟨⟨id, rfl, hAb⟩, rfl⟩; have HAb := hidi hAb; clear hAb)
  all_goals go_wp2_with fail
  obtain ⟨hH, g, hcc, hc, hc', hf, hp, hs⟩ := HH.out
  obtain ⟨a1, a2, a3, b1⟩ := HA1.out
  obtain ⟨p1, p2, p3, p4⟩ := HAb.out
  obtain ⟨w2, hw2⟩ : ∃ w2, w2 = (w1.setCell ⟨wb, 3, none⟩ (.int .i64 (id : Int))).drew := ⟨_, rfl⟩
  rw [← hw2]
  have hS1 := (hH.below b1).set (i' := { i with last := id }) 3 (.int .i64 (id : Int)) rfl rfl rfl rfl rfl rfl rfl rfl rfl rfl rfl rfl p2 (Nat.le_refl c)
  have hS2 : St w w2 wb i { i with last := id } c := by
    rw [hw2]
    exact ((St.below hH b1).trans hS1.2).trans (St.below hS1.1 (Below.refl _ _).drew)
  have d1 : w2.heap[w.heap.size]? = some (.cells #[.string t, .slice pa pn pc, .int .i64 q, .bool r] 45 (0, 0)) := by rw [hw2]; exact (heap_set_ne _ (by omega)).trans a1
  have d2 : w2.heap[w.heap.size + 1]? = some (.cells (pkc 0 false ⟨#[]⟩ (.slice none 0 0) 0 false 0) 66 (0, 0)) := by rw [hw2]; exact (heap_set_ne _ (by omega)).trans a2
  have hkb : Kb w w2 := hH.kb hS2.ch
  have hb2d : Below w2.heap.size w2 w2.drew := (Below.refl _ _).drew
  have PT := hidi (ws_put (w := w2.drew) (c := c) (c' := c') (id := id) (rel := false) (m := ⟨t, .slice pa pn pc, q, r, xs⟩) (hS2.ws.below hb2d) hc hc' hf ⟨p1, p2⟩ p3 (hp.keep hkb) ⟨nofun, fun _ => hs⟩)
  have HU := hidi (fun j (hj : (({ i with last := id } : WI)).U wb j) => hH.lt hj)
  have HS2 := hidi hS2
  have HD := hidi (And.intro d1 d2)
  have HKB := hidi hkb
  have s3 : w2.cell? ⟨wb, 3, none⟩ = some (.int .i64 (id : Int)) := box_cells hS2.ws.blk 3 _ rfl
  have s0 := box_cells d1 0 _ rfl
  have s1 := box_cells d1 1 _ rfl
  have s2 := box_cells d1 2 _ rfl
  have s4 := box_cells d1 3 _ rfl
  clear hw2 hS1 hS2 hH g hcc hc hc' hf hp hs a1 a2 a3 b1 d1 d2 hkb hb2d c3 f3 p1 p2 p3 p4 H1 HA1
  go_region_held_law (fun w' => w'.cell? ⟨wb, 3, none⟩ = some (.int .i64 (id : Int)) ∧ w'.cell? ⟨w.heap.size, 0, none⟩ = some (.string t) ∧ w'.cell? ⟨w.heap.size, 1, none⟩ = some (.slice pa pn pc) ∧ w'.cell? ⟨w.heap.size, 2, none⟩ = some (.int .i64 q) ∧ w'.cell? ⟨w.heap.size, 3, none⟩ = some (.bool r)) (first | exact ⟨s3, s0, s1, s2, s4⟩ | go_keep) (first
    | (go_at_call 66; refine PT.out.mono ?_; clear PT; rintro e w3 ⟨rfl, b, mu, mt, hst⟩; have HST := hidi hst; have e1 : w3.heap[w.heap.size]? = some (.cells #[.string t, .slice pa pn pc, .int .i64 q, .bool r] 45 (0, 0)) := (hst.ch.block _ (by exact (Array.getElem?_eq_some_iff.1 HD.out.1).1) (fun u => Nat.lt_irrefl _ (HU.out _ u))).trans HD.out.1; have e2 : w3.heap[w.heap.size + 1]? = some (.cells (pkc 0 false ⟨#[]⟩ (.slice none 0 0) 0 false 0) 66 (0, 0)) := (hst.ch.block _ (by exact (Array.getElem?_eq_some_iff.1 HD.out.2).1) (fun u => absurd (HU.out _ u) (by omega))).trans HD.out.2; have HE := hidi (And.intro e1 e2); clear s3 s0 s1 s2 s4; have s3 : w3.cell? ⟨wb, 3, none⟩ = some (.int .i64 (id : Int)) := box_cells hst.ws.blk 3 _ rfl; have s0 := box_cells e1 0 _ rfl; have s1 := box_cells e1 1 _ rfl; have s2 := box_cells e1 2 _ rfl; have s4 := box_cells e1 3 _ rfl; clear e1 e2 hst))
  go_wp2_with fail
  have hkb3 : Kb w2 w3 := (show Kb w2 w2.drew from fun _ cs _ h => ⟨cs, h, rfl⟩).trans ((HS2.out.ws.below (Below.refl _ _).drew).kb HST.out.ch)
  have AP := hidi (apart_any (w := w3.drew) t q r (HH.out.2.2.2.2.2.2.1.keep (HKB.out.trans (hkb3.trans (show Kb w3 w3.drew from fun _ cs _ h => ⟨cs, h, rfl⟩)))))
  clear hkb3
  unfold mg at AP
  refine wp_region_held_drew (S := fun w' => w'.cell? ⟨wb, 3, none⟩ = some (.int .i64 (id : Int)) ∧ w'.cell? ⟨w.heap.size, 0, none⟩ = some (.string t) ∧ w'.cell? ⟨w.heap.size, 1, none⟩ = some (.slice pa pn pc) ∧ w'.cell? ⟨w.heap.size, 2, none⟩ = some (.int .i64 q) ∧ w'.cell? ⟨w.heap.size, 3, none⟩ = some (.bool r)) (by kernel_rfl) ⟨s3, s0, s1, s2, s4⟩ (fun hHeld => ?_)
  change wpAnyH _ _ _ _ _ 8 #[false, false, false, false, false, false, false, false] _ (World.drew _)
  refine wpAnyH_take (i := 0) (oi := { dst := some 24, op := Go.Op.load 45 (Go.Operand.tmp 3), type := 45, pos := "window.go:156", after := #[], guard := none }) (v := .agg #[.string t, .slice pa pn pc, .int .i64 q, .bool r]) rfl (by kernel_rfl) (by kernel_rfl) (by kernel_rfl) (fun _ _ _ h => h) (Or.inl ⟨by kernel_rfl, by intro wq hSw; (try dsimp only at hSw); clear hHeld; go_simp⟩) hHeld ?_
  simp only [Act.put, List.setIfInBounds_toArray, List.set_cons_zero, List.set_cons_succ]
  refine wpAnyH_take (i := 2) (oi := { dst := some 26, op := Go.Op.move (Go.Operand.tmp 0), type := 52, pos := "window.go:156", after := #[], guard := none }) (v := .pointer (some ⟨wb, 0, none⟩)) rfl (by kernel_rfl) (by kernel_rfl) (by kernel_rfl) (fun _ _ _ h => h) (Or.inl ⟨by kernel_rfl, by intro wq hSw; (try dsimp only at hSw); clear hHeld; go_simp⟩) hHeld ?_
  simp only [Act.put, List.setIfInBounds_toArray, List.set_cons_zero, List.set_cons_succ]
  refine wpAnyH_take (i := 3) (oi := { dst := some 27, op := Go.Op.nilCheck (Go.Operand.tmp 26), type := 0, pos := "window.go:156", after := #[{ on := 2, ground := Go.Ground.data }], guard := none }) (v := .pointer (some ⟨wb, 0, none⟩)) rfl (by kernel_rfl) (by kernel_rfl) (by kernel_rfl) (fun _ _ _ h => h) (Or.inl ⟨by kernel_rfl, by intro wq hSw; (try dsimp only at hSw); clear hHeld; go_simp⟩) hHeld ?_
  simp only [Act.put, List.setIfInBounds_toArray, List.set_cons_zero, List.set_cons_succ]
  refine wpAnyH_take (i := 4) (oi := { dst := some 28, op := Go.Op.fieldAddr 101 (Go.Operand.tmp 27) 3, type := 0, pos := "window.go:156", after := #[{ on := 3, ground := Go.Ground.data }], guard := none }) (v := .pointer (some ⟨wb, 3, none⟩)) rfl (by kernel_rfl) (by kernel_rfl) (by kernel_rfl) (fun _ _ _ h => h) (Or.inl ⟨by kernel_rfl, by intro wq hSw; (try dsimp only at hSw); clear hHeld; go_simp⟩) hHeld ?_
  simp only [Act.put, List.setIfInBounds_toArray, List.set_cons_zero, List.set_cons_succ]
  refine wpAnyH_take (i := 5) (oi := { dst := some 29, op := Go.Op.load 3 (Go.Operand.tmp 28), type := 3, pos := "window.go:156", after := #[{ on := 4, ground := Go.Ground.data }], guard := none }) (v := .int .i64 (id : Int)) rfl (by kernel_rfl) (by kernel_rfl) (by kernel_rfl) (fun _ _ _ h => h) (Or.inl ⟨by kernel_rfl, by intro wq hSw; (try dsimp only at hSw); clear hHeld; go_simp⟩) hHeld ?_
  simp only [Act.put, List.setIfInBounds_toArray, List.set_cons_zero, List.set_cons_succ]
  refine wpAnyH_ready (rs := [1]) (by kernel_rfl) (by simp) ?_
  refine AllReadyH.cons (o := { dst := some 25, op := Go.Op.call { callee := Go.Callee.value (Go.Operand.func 73), args := #[Go.Operand.tmp 24], argTypes := #[45] }, type := 45, pos := "window.go:156", after := #[{ on := 0, ground := Go.Ground.data }], guard := none }) (by rfl) (fun K hK => ?_) AllReadyH.nil
  go_simp
  go_wp2_with (go_at_call 73; refine (AP.out).mono ?_; rintro e w4 ⟨v1, rfl, hp, hb⟩)
  obtain ⟨n1, n2, n3, rfl⟩ := hp.sl
  have HP := hidi hp
  have HB := hidi hb
  have f1 : w4.heap[w.heap.size]? = some (.cells #[.string t, .slice pa pn pc, .int .i64 q, .bool r] 45 (0, 0)) := later_at (w := w3.drew) HE.out.1 hb
  have f2 : w4.heap[wb]? = _ := later_at (w := w3.drew) HST.out.ws.blk hb
  clear s3 s0 s1 s2 s4
  have s3 : w4.cell? ⟨wb, 3, none⟩ = some (.int .i64 (id : Int)) := box_cells f2 3 _ rfl
  have s0 := box_cells f1 0 _ rfl
  have s1 := box_cells f1 1 _ rfl
  have s2 := box_cells f1 2 _ rfl
  have s4 := box_cells f1 3 _ rfl
  clear f1 f2 hp hb
  (try unfold mg)
  refine hK.out _ _ ⟨s3, s0, s1, s2, s4⟩ (fun hHeld => ?_)
  clear hK K
  (try simp only [Act.put, List.setIfInBounds_toArray, List.set_cons_zero, List.set_cons_succ])
  refine wpAnyH_take (i := 6) (oi := { dst := some 30, op := Go.Op.build 66 #[(0, Go.Operand.const (Go.Value.int Go.IntKind.i64 3)), (14, Go.Operand.tmp 25), (15, Go.Operand.tmp 29)], type := 66, pos := "window.go:156", after := #[{ on := 1, ground := Go.Ground.data }, { on := 5, ground := Go.Ground.data }], guard := none }) (v := .agg (pkc 3 false t (.slice n1 n2 n3) q r (id : Int))) rfl (by kernel_rfl) (by kernel_rfl) (by kernel_rfl) (fun _ _ _ h => h) (Or.inl ⟨by kernel_rfl, fun wq _ => build_run rfl (by kernel_rfl) wq⟩) hHeld ?_
  simp only [Act.put, List.setIfInBounds_toArray, List.set_cons_zero, List.set_cons_succ]
  refine wpAnyH_ready (rs := [7]) (by kernel_rfl) (by simp) ?_
  refine AllReadyH.cons (o := { dst := none, op := Go.Op.store 66 (Go.Operand.tmp 4) (Go.Operand.tmp 30), type := 0, pos := "window.go:156", after := #[{ on := 6, ground := Go.Ground.data }, { on := 1, ground := Go.Ground.chain }, { on := 0, ground := Go.Ground.phase }, { on := 1, ground := Go.Ground.phase }, { on := 2, ground := Go.Ground.phase }, { on := 3, ground := Go.Ground.phase }, { on := 4, ground := Go.Ground.phase }, { on := 5, ground := Go.Ground.phase }, { on := 6, ground := Go.Ground.phase }], guard := none }) (by rfl) (fun K hK => ?_) AllReadyH.nil
  rw [if_pos (by rfl)]
  have f3 : w4.heap[w.heap.size + 1]? = some (.cells (pkc 0 false ⟨#[]⟩ (.slice none 0 0) 0 false 0) 66 (0, 0)) := later_at (w := w3.drew) HE.out.2 HB.out
  refine wp_store_row 66 _ _ rfl (w.heap.size + 1) (pkc 3 false t (.slice n1 n2 n3) q r (id : Int)) rfl rfl 66 _ f3 (by kernel_rfl) rfl (pkc_one _ _ _ _ _ _ _ _ _) ?_
  have hne : wb ≠ w.heap.size + 1 := by omega
  have f4 : (w4.setRow (w.heap.size + 1) (pkc 3 false t (.slice n1 n2 n3) q r (id : Int))).heap[w.heap.size]? = some (.cells #[.string t, .slice pa pn pc, .int .i64 q, .bool r] 45 (0, 0)) := (setRow_ne (by omega)).trans (later_at (w := w3.drew) HE.out.1 HB.out)
  have f5 := (setRow_ne (w := w4) (cells := pkc 3 false t (.slice n1 n2 n3) q r (id : Int)) hne).trans (later_at (w := w3.drew) HST.out.ws.blk HB.out)
  refine hK.out _ _ ⟨box_cells f5 3 _ rfl, box_cells f4 0 _ rfl, box_cells f4 1 _ rfl, box_cells f4 2 _ rfl, box_cells f4 3 _ rfl⟩ (fun hHeld => ?_)
  clear hK K hHeld
  refine wpAnyH_done (by kernel_rfl) ?_ _
  have F3 := hidi f3
  clear f3 f4 f5 s3 s0 s1 s2 s4
  go_wp2_with fail
  refine bodyPost_ret (results_cell_row rfl _ _ _ _ _ _ _ rfl (setRow_at F3.out) Tryz.underlying66 rfl (by kernel_rfl)) rfl ⟨_, rfl, ?_⟩
  refine ⟨id, b, mu, mt, .slice n1 n2 n3, HAb.out, rfl, ?_, ?_⟩
  · refine HP.out.keep (fun bb cs fz hq => ⟨cs, (setRow_ne (fun e => ?_)).trans hq, rfl⟩)
    rw [e, F3.out] at hq
    simp at hq
  · have hst := (HS2.out.trans (St.below HS2.out.ws (Below.refl _ _).drew)).trans HST.out
    have hst4 := hst.trans (St.below hst.ws ((Below.refl w3.heap.size w3).drew.trans HB.out))
    have hnU : ∀ j, (((({ i with last := id } : WI)).put b id false ⟨t, .slice pa pn pc, q, r, xs⟩ mu mt)).U wb j → j ≠ w.heap.size + 1 := fun j hj e => by
      subst e
      exact hst4.ws.other F3.out ⟨_, 66, _, rfl, by decide, by decide, by decide⟩ hj
    have hchR : Ch (fun j => j = w.heap.size + 1) w4 _ := ch_row (w.heap.size + 1) (pkc 3 false t (.slice n1 n2 n3) q r (id : Int))
    refine ⟨hst4.ws.keep hchR (fun j hj e => hnU j hj e) (fun bb cs fz hq => ⟨cs, (setRow_ne (fun e => ?_)).trans hq, rfl⟩), hst4.ch.trans hchR (fun j hj e => absurd hj (by omega)), hst4.bl⟩
    rw [e, F3.out] at hq
    simp at hq
end Go.Proofs.YtmihpmmkkklpfaaGreatDoor
