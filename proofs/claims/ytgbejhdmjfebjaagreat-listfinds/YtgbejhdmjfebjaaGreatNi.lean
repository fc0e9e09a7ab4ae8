import Derived.Test.YtgbejhdmjfebjaaGreatNd
import Derived.RangeFuncNested
import Derived.Test.YtgbejhdmjfebjaaGreatMr
namespace Go.Proofs.YtgbejhdmjfebjaaGreat.Li
open Go Go.RowKit Go.Maps
set_option linter.unusedSimpArgs false
set_option linter.unusedVariables false
theorem setCell_same {w : World} {X i : Nat} {cs : Array Value} {ty : TypeId} {v : Value} (h : w.heap[X]? = some (.cells cs ty (0, 0))) (hi : cs[i]? = some v) : w.setCell ⟨X, i, none⟩ v = w := by
  have e : (w.setCell ⟨X, i, none⟩ v).heap = w.heap := by
    apply Array.ext_getElem?
    intro k
    by_cases q : k = X
    · subst q
      rw [heap_set h v, h]
      have : cs.setIfInBounds i v = cs := by
        apply Array.ext_getElem?
        intro j
        rw [Array.getElem?_setIfInBounds]
        split
        · rename_i e
          subst e
          rw [hi]
          have := (Array.getElem?_eq_some_iff.1 hi).1
          simp [this]
        · rfl
      rw [this]
    · exact heap_set_ne _ q
  cases w
  simp only [World.setCell, World.mk.injEq] at e ⊢
  exact ⟨e, trivial, trivial, trivial, trivial⟩
/-- A message laid onto the messages. -/
theorem kap_of {w w2 : World} {B kb : Nat} {v : Value} {ts : List ByteArray} (t : ByteArray) (h : KS B w kb v ts) (hm : ts.length ≤ 1000) (hB : B ≤ w.heap.size) (b2 : Below w.heap.size w w2) :
    ∃ g' cap' w3, (Builtin.append_ #[89, 89] 89 #[v, .slice (some ⟨w2.heap.size, 0, none⟩) 1 1]).run Tryz.prog (w2.alloc (.cells #[.string t, .slice none 0 0, .int .i64 0, .bool false] 30)) = .ok (.slice (some ⟨g', 0, none⟩) (ts.length + 1) cap') w3 ∧ w3.cell? ⟨kb, 0, none⟩ = some v ∧ w3.frozen? ⟨kb, 0, none⟩ = false ∧
      KS B (w3.setCell ⟨kb, 0, none⟩ (.slice (some ⟨g', 0, none⟩) (ts.length + 1) cap')) kb (.slice (some ⟨g', 0, none⟩) (ts.length + 1) cap') (ts ++ [t]) ∧ Ch (fun j => j = kb ∨ v.ownBlock = some j) w (w3.setCell ⟨kb, 0, none⟩ (.slice (some ⟨g', 0, none⟩) (ts.length + 1) cap')) := by
  have hi : (Tryz.prog.info? 30).map (fun i => (i.zero, i.size, i.bytes)) = some (some (.agg #[.string ⟨#[]⟩, .slice none 0 0, .int .i64 0, .bool false]), 4, 56) := by kernel_rfl
  obtain ⟨g', cap', w3, k1, k2, k3, k4⟩ := app_gen (st := 89) (e := 30) (cs := #[.string t, .slice none 0 0, .int .i64 0, .bool false]) Tryz.underlying89 hi rfl (by omega) (by omega) (own0 (own_below h.own b2)) rfl (by simp [Value.oneCell']) (by omega)
  have hb := h.at_
  have hbl : kb < w.heap.size := (Array.getElem?_eq_some_iff.1 hb).1
  have hnb : ∀ g, v.ownBlock = some g → g ≠ kb := fun g hg q => by
    obtain ⟨cur, hc⟩ := own_lt h.own hg
    rw [q, hb] at hc
    simp at hc
  have hb3 : w3.heap[kb]? = some (.cells #[v] 91 (0, 0)) := (k3.block kb (Nat.lt_of_lt_of_le hbl b2.size) (fun q => hnb kb q rfl)).trans (later_at hb b2)
  have hgb : g' ≠ kb := fun q => by
    obtain ⟨cur, hc⟩ := own_lt k2 (g := g') rfl
    rw [q, hb3] at hc
    simp at hc
  have hgB : B ≤ g' := by
    rcases k4 with q | q
    · exact row_ge h.own q
    · have := b2.size; omega
  refine ⟨g', cap', w3, k1, box_cells hb3 0 v rfl, box_frozen hb3 0, ⟨heap_set hb3 _, ?_, h.ge⟩, ?_⟩
  · have := own_ch k2 (ch_set kb 0 (.slice (some ⟨g', 0, none⟩) (ts.length + 1) cap')) (fun g hg q => by simp [Value.ownBlock] at hg; omega)
    have e : mrw (ts ++ [t]) = mrw ts ++ [.string t, .slice none 0 0, .int .i64 0, .bool false] := by simp [mrw, mc]
    rw [e, List.length_append]
    exact row_base (by simpa using this) (fun g hg => by simp [Value.ownBlock] at hg; omega)
  · exact ((Below.ch (S := fun j => j = kb ∨ v.ownBlock = some j) b2).trans k3 (fun j _ q => .inr q)).trans (ch_set kb 0 _) (fun j _ q => .inl q)
set_option maxRecDepth 100000 in
set_option maxHeartbeats 4000000 in
theorem kput_new {B : Nat} {w : World} {kb : Nat} {v : Value} {ts : List ByteArray} (h : KS B w kb v ts) (hm : ts.length ≤ 1000) (t : ByteArray) (ht : t ∉ ts) (hc : tcode t = 0) (hts : t.size ≤ 1000000) (hB : B ≤ w.heap.size) :
    Calls Tryz.prog 19 #[.pointer (some ⟨kb, 0, none⟩), mv t] w fun e w' => e = .returned (.tuple #[.bool false, .int .i64 0]) ∧ ∃ v', KS B w' kb v' (ts ++ [t]) ∧ Ch (fun j => j = kb ∨ v.ownBlock = some j) w w' := by
  have TC := hidi (fun w => tcheck_any t w)
  rw [hc] at TC
  have Q := hidi (fun w => isq_any 0 w)
  have AP := hidi (fun w => apart_any t w)
  have CL := hidi (fun w => sclone_any t w hts)
  have X := hidi (fun (w1 : World) (hb : Below (w.alloc (.cells #[.string t, .slice none 0 0, .int .i64 0, .bool false] 30)).heap.size (w.alloc (.cells #[.string t, .slice none 0 0, .int .i64 0, .bool false] 30)) w1) => later_at (heap_alloc_new w (.cells #[.string t, .slice none 0 0, .int .i64 0, .bool false] 30)) hb)
  have hq : (decide ((0 : Int) ≤ 0) && decide ((0 : Int) ≤ 2)) = true := by decide
  rw [hq] at Q
  unfold mv at *
  clear hq
  go_enter Tryz.func19, Tryz.ntmps19
  go_wp2_with fail
  go_must (go_at_call 32)
  refine (TC.out _).mono ?_
  rintro e w1 ⟨rfl, hb1⟩
  have x1 := X.out w1 hb1
  have c1 := box_cells x1 0 (.string t) rfl
  have c2 := box_cells x1 1 (.slice none 0 0) rfl
  have c3 := box_cells x1 2 (.int .i64 0) rfl
  have c4 := box_cells x1 3 (.bool false) rfl
  have HB1 := hidi hb1
  have X1 := hidi x1
  clear hb1 x1
  go_wp2_with fail
  go_must (go_at_call 28)
  refine (Q.out _).mono ?_
  rintro e w' ⟨rfl, he⟩
  obtain rfl := he.symm
  clear he
  go_wp2_with fail
  go_must (go_at_call 44)
  refine (AP.out _).mono ?_
  rintro e w2 ⟨rfl, hb2⟩
  have x2 := later_at X1.out hb2
  clear c1 c2 c3 c4
  have c1 := box_cells x2 0 (.string t) rfl
  have c2 := box_cells x2 1 (.slice none 0 0) rfl
  have c3 := box_cells x2 2 (.int .i64 0) rfl
  have c4 := box_cells x2 3 (.bool false) rfl
  have f0 := box_frozen x2 0
  have f1 := box_frozen x2 1
  have f2 := box_frozen x2 2
  have f3 := box_frozen x2 3
  have s0 := setCell_same x2 (i := 0) (v := .string t) rfl
  have s1 := setCell_same x2 (i := 1) (v := .slice none 0 0) rfl
  have s2 := setCell_same x2 (i := 2) (v := .int .i64 0) rfl
  have s3 := setCell_same x2 (i := 3) (v := .bool false) rfl
  have HB2 := hidi hb2
  have X2 := hidi x2
  clear hb2 x2
  go_wp2_with fail
  go_must (go_at_call 30)
  (try simp only [s0, s1, s2, s3])
  refine (CL.out _).mono ?_
  rintro e w3 ⟨rfl, hb3⟩
  have x3 := later_at X2.out hb3
  clear c1 c2 c3 c4 f0 f1 f2 f3 s0 s1 s2 s3
  have c1 := box_cells x3 0 (.string t) rfl
  have c2 := box_cells x3 1 (.slice none 0 0) rfl
  have c3 := box_cells x3 2 (.int .i64 0) rfl
  have c4 := box_cells x3 3 (.bool false) rfl
  have f0 := box_frozen x3 0
  have s0 := setCell_same x3 (i := 0) (v := .string t) rfl
  have b0 : Below w.heap.size w (w.alloc (.cells #[.string t, .slice none 0 0, .int .i64 0, .bool false] 30)) := (Below.refl _ _).alloc (Nat.le_refl _) _
  have b1 := b0.trans (HB1.out.mono b0.size)
  have b2 := b1.trans (HB2.out.mono b1.size)
  have b3 := b2.trans (hb3.mono b2.size)
  have PL := hidi (place45_none (h.below b3) hm t ht)
  have AK := hidi (fun (w2 : World) (b2 : Below w.heap.size w w2) => kap_of t h hm hB b2)
  have ck := box_cells (h.below b3).at_ 0 v rfl
  have ck2 := box_cells (h.below (b3.alloc b3.size (.cells #[.string t, .slice none 0 0, .int .i64 0, .bool false] 30))).at_ 0 v rfl
  have HB3 := hidi b3
  obtain ⟨a, c, rfl⟩ := own_sl h.own
  obtain ⟨n, hn⟩ : ∃ n, n = ts.length := ⟨_, rfl⟩
  rw [← hn] at AK ck ck2
  have HN := hidi hn
  clear b0 b1 b2 b3 x3 hb3 h hm ht hc hts hB hn
  go_wp2_with fail
  go_must (go_at_call 45)
  (try simp only [s0])
  refine PL.out.mono ?_
  rintro e w' ⟨rfl, he⟩
  obtain rfl := he.symm
  clear he s0 CL
  obtain ⟨g', cap', w5, hrun, hk5, hf5, hks, hch⟩ := AK.out w3.drew HB3.out.drew
  have HR := hidi hrun
  have HK := hidi (And.intro hks hch)
  clear hrun hks hch
  go_wp2_with fail
  go_region_law (refine step_app rfl (.tmp 31) (.tmp 33) 89 89 rfl _ _ rfl rfl _ w5 HR.out ?_)
  all_goals go_wp2_with fail
  all_goals go_ret2
  all_goals refine ⟨rfl, .slice (some ⟨g', 0, none⟩) (n + 1) cap', ?_⟩
  all_goals rw [← HN.out]
  all_goals exact HK.out
end Go.Proofs.YtgbejhdmjfebjaaGreat.Li
namespace Go.Proofs.YtgbejhdmjfebjaaGreat.Li
open Go Go.RowKit
set_option linter.unusedSimpArgs false
set_option linter.unusedVariables false
/-- An iterator that goes over another one: what it turns lies behind the world of its call. -/
def SeqO {α : Type} (F : Fence) (n : Nat) (P : Program) (g : Nat) (lb : Array Value) (encs : α → Array Value) (Kc : World → World → Prop) (S : List α → Prop) (N : Nat) (W : World) : Prop :=
  ∀ (l : Nat) (J : List α → World → Prop), OwnFrom W.heap.size J →
    (∀ pre x W1, J pre W1 → pre.length < N → YieldAt F (n - 1) P l (encs x) W1 fun e W' => e = .returned (.bool true) ∧ J (pre ++ [x]) W' ∧ Kc W1 W') →
    J [] W → CallsIn F n P g (#[.func (.yield l) #[] #[]] ++ lb) W fun e W' => (∃ v, e = .returned v) ∧ ∃ xs, S xs ∧ J xs W'
theorem range_own {α : Type} {F : Fence} {n : Nat} {P : Program} {g : Operand} {ps : Array Tmp} {assign body : Code} {Q : Exit → Act → World → Prop} {a : Act} {w : World}
    (hro : F.round = none) (h1 : 1 ≤ n) {gf : Nat} {lb : Array Value} (hg : a.eval g = .func (.func gf) #[] lb) (hFg : F.fn gf) (eg : ∀ args w, (callFunc gf args).run P w = .ok (.enter gf args) w)
    {encs : α → Array Value} {Kc : World → World → Prop} {S : List α → Prop} {N : Nat} (hps : ∀ x, (encs x).size = ps.size)
    (hseq : ∀ W, Below w.heap.size w W → W.heap.size = w.heap.size + 2 → SeqO F (n - 1) P gf lb encs Kc S N W)
    (hKt : ∀ {A B C : World}, Kc A B → Kc B C → Kc A C) (hKb : ∀ (W : World) (o : Obj), w.heap.size + 1 < W.heap.size → Kc W (W.putObj (w.heap.size + 1) o))
    (I : List α → World → Prop) (hI : OwnFrom w.heap.size I) (h0 : I [] w) (Ax : α → Act → World → Prop) (hAx : ∀ x a', OwnFrom w.heap.size (fun (_ : Unit) W => Ax x a' W))
    (hassign : ∀ (l : Nat) (pre : List α) (x : α) (W : World) (K : Act → World → Prop), I pre W → w.heap.size + 2 ≤ W.heap.size → (∀ a' W', KeepsFrom w.heap.size W W' → Kc W W' → I pre W' → Ax x a' W' → K a' W') →
      assign.wpIn (F.inRound l) (n - 1 - 1) P (Exit.then K (fun _ _ _ => False)) { tmps := (ps.zip (encs x)).foldl (fun t (p, v) => t.setIfInBounds p v) a.tmps, defers := [] } W)
    (hbody : ∀ (l : Nat) (pre : List α) (x : α) (a' : Act) (W : World), I pre W → Ax x a' W → w.heap.size + 2 ≤ W.heap.size → pre.length < N → body.wpIn (F.inRound l) (n - 1 - 1) P (fun e _ W3 => e = .normal ∧ KeepsFrom w.heap.size W W3 ∧ Kc W W3 ∧ I (pre ++ [x]) W3) a' W)
    (hdone : ∀ (D : Nat) (xs : List α) (W : World), w.heap.size ≤ D → S xs → I xs W → W.heap[D]? = some (.deferred (some [])) → Q .normal { a with defers := { target := .collected D, args := #[] } :: a.defers } W) :
    (Code.rangeFunc g ps assign body).wpIn F n P Q a w := by
  refine wpIn_rangeFunc fun fn hfn => ?_
  rw [hro]
  let rec0 : Loop := { state := .ready, pending := none, fn := fn, tmps := a.tmps, params := ps, assign := assign, body := body, defers := w.heap.size }
  obtain ⟨W1, hW1⟩ : ∃ W1, (w.alloc (.deferred (some []))).alloc (.loop rec0) = W1 := ⟨_, rfl⟩
  have z1 : (w.alloc (.deferred (some []))).heap.size = w.heap.size + 1 := size_alloc _ _
  have z2 : W1.heap.size = w.heap.size + 2 := by rw [← hW1, size_alloc, z1]
  have r1 : W1.heap[w.heap.size + 1]? = some (.loop rec0) := by rw [← hW1, ← z1, heap_alloc_new]
  have d1 : W1.heap[w.heap.size]? = some (.deferred (some [])) := by rw [← hW1, heap_alloc_old _ _ (by omega), heap_alloc_new]
  have i1 : I [] W1 := by rw [← hW1]; exact hI.alloc _ (hI.alloc _ h0)
  have b1 : Below w.heap.size w W1 := by rw [← hW1]; exact ((Below.refl _ _).alloc (Nat.le_refl _) _).alloc (by omega) _
  refine ⟨w.heap.size + 1, [{ target := .collected w.heap.size, args := #[] }], W1, { target := .fn (.func gf) lb, args := #[.func (.yield (w.heap.size + 1)) #[] #[]] }, W1, gf, #[.func (.yield (w.heap.size + 1)) #[] #[]] ++ lb, W1, ?_, ?_, ?_, ?_, fun _ => h1, ?_⟩
  · rw [← hW1]; exact run_enterLoop_outer _ _ _ _ _
  · simp only [resolve, hg]
    simp [go_sem]
  · intro f' hf'
    simp [Target.leads] at hf'
    exact hf' ▸ hFg
  · simp [invoke, go_sem, eg]
  · refine (hseq W1 b1 z2 (w.heap.size + 1) (fun pre W => I pre W ∧ w.heap.size + 2 ≤ W.heap.size ∧ W.heap[w.heap.size + 1]? = some (.loop rec0) ∧ W.heap[w.heap.size]? = some (.deferred (some []))) ?_ ?_ ⟨i1, by omega, r1, d1⟩).mono ?_
    · intro s A B row hs hgr hr
      have hr' : ∀ r, row = some r → w.heap.size ≤ r ∧ ∃ o : Obj, A.heap[r]? = some o ∧ o.isCells = false := fun r e => ⟨by have := (hr r e).1; omega, (hr r e).2⟩
      have kb : ∀ k, k < w.heap.size + 2 → B.heap[k]? = A.heap[k]? := fun k hk => hgr.block k (by omega) (fun e => by have := (hr k e.symm).1; omega)
      exact ⟨hI s A B row hs.1 hgr hr', Nat.le_trans hs.2.1 hgr.size, (kb _ (by omega)).trans hs.2.2.1, (kb _ (by omega)).trans hs.2.2.2⟩
    · rintro pre x W ⟨hi, hs2, hl, hd⟩ hlen
      have hy := run_yield (P := P) (args := encs x) hl (hps x)
      refine ⟨fn, _, assign, body, hy, roundIn_of_wpIn hfn (hassign _ pre x W _ hi hs2 ?_)⟩
      intro a' Wa ka kc hia hax
      have hla := ka.same _ _ (by omega) hl rfl
      have hda := ka.same _ _ (Nat.le_refl _) hd rfl
      have hsa : w.heap.size + 1 < Wa.heap.size := (Array.getElem?_eq_some_iff.1 hla).1
      refine ⟨_, run_beginRound hla rfl, ?_⟩
      have hlb : (Wa.putObj (w.heap.size + 1) (.loop { rec0 with state := .busy })).heap[w.heap.size + 1]? = some (.loop { rec0 with state := .busy }) := World.putObj_heap_same hsa
      have hdb : (Wa.putObj (w.heap.size + 1) (.loop { rec0 with state := .busy })).heap[w.heap.size]? = some (.deferred (some [])) := (World.putObj_heap_other (by omega)).trans hda
      have hsb : w.heap.size + 2 ≤ (Wa.putObj (w.heap.size + 1) (.loop { rec0 with state := .busy })).heap.size := by simp [World.putObj]; omega
      refine wpIn_mono (hbody _ pre x a' _ (hI.putObj _ hia (by omega) hla rfl) ((hAx x a').putObj (s := ()) _ hax (by omega) hla rfl) hsb hlen) ?_
      rintro e a3 W3 ⟨rfl, k3, c3, i3⟩
      have hl3 := k3.same _ _ (by omega) hlb rfl
      have hd3 := k3.same _ _ (Nat.le_refl _) hdb rfl
      have hs3 : w.heap.size + 1 < W3.heap.size := (Array.getElem?_eq_some_iff.1 hl3).1
      have hr3 := run_endRound (P := P) none hl3
      refine ⟨_, _, hr3, rfl, ⟨hI.putObj _ i3 (by omega) hl3 rfl, by simp [World.putObj]; omega, World.putObj_heap_same hs3, (World.putObj_heap_other (by omega)).trans hd3⟩, hKt kc (hKt (hKb _ _ hsa) (hKt c3 (hKb _ _ hs3)))⟩
    · rintro e W2 ⟨⟨v, rfl⟩, xs, hS, hi, hs2, hl, hd⟩
      exact ⟨none, _, run_endLoop (P := P) hl (by simp [rec0]), hdone _ xs _ (Nat.le_refl _) hS (hI.putObj _ hi (by omega) hl rfl) ((World.putObj_heap_other (by omega)).trans hd)⟩
end Go.Proofs.YtgbejhdmjfebjaaGreat.Li
namespace Go.Proofs.YtgbejhdmjfebjaaGreat.Li
open Go Go.RowKit Go.Shelf
set_option linter.unusedSimpArgs false
set_option linter.unusedVariables false
attribute [local go_sem] Oper.semAt_some
theorem abides_below' {α : Type} {B : Nat} {J : List α → World → Prop} (h : AbidesFrom B J) {s : List α} {W W' : World} (hj : J s W) (hb : Below W.heap.size W W') : J s W' := h s W W' none hj ⟨hb.os, hb.tape, hb.output, hb.size, fun k hk _ => hb.block k hk⟩ (fun r e => by cases e)
set_option maxRecDepth 100000 in
set_option maxHeartbeats 2000000 in
theorem each_in (n : Nat) (hn : 1 ≤ n) (l eb n₀ kb F c : Nat) (ts : List ByteArray) (hl : ts.length ≤ 900) (J Jx : List ByteArray → World → Prop)
    (hY : ∀ pre x W, J pre W → pre.length < ts.length → YieldAt Fence.wide (n - 1) Tryz.prog l #[mv x] W fun e W' =>
      (e = .returned (.bool true) ∧ J (pre ++ [x]) W' ∧ Kq n₀ eb eb W W') ∨ (e = .returned (.bool false) ∧ Jx (pre ++ [x]) W'))
    (W : World) (hA : AbidesFrom W.heap.size J) (hs : W.heap[eb]? = some (.cells #[.pointer (some ⟨kb, 0, none⟩)] 57))
    (a : Option Addr) (hf : W.cell? ⟨kb, 0, none⟩ = some (.slice a ts.length c)) (ha : 0 < ts.length → a = some ⟨F, 0, none⟩ ∧ F < n₀) (h0n : n₀ ≤ W.heap.size) (hcell : ∀ i (hi : i < ts.length), ∀ j u, j < 4 → (mc ts[i])[j]? = some u → W.cell? ⟨F, i * 4 + j, none⟩ = some u) (h0 : J [] W) :
    CallsIn Fence.wide n Tryz.prog 92 #[.func (.yield l) #[] #[], .pointer (some ⟨eb, 0, none⟩)] W fun e W' => (∃ v, e = .returned v) ∧ (J ts W' ∨ (∃ pre, Jx pre W')) := by
  have s0 := box_cells hs 0 _ rfl
  refine callsIn_of_wp Tryz.func92 rfl trivial ?_ rfl
  simp only [Tryz.ntmps92, List.size_toArray, List.length_cons, List.length_nil, Nat.reduceAdd, Nat.reduceSub, Array.replicate_succ, Array.replicate_zero, List.push_toArray, List.append_toArray, List.nil_append, List.cons_append]
  obtain ⟨len, hlen⟩ : ∃ len, len = ts.length := ⟨_, rfl⟩
  rw [← hlen] at hf
  have HL : Hid (len = ts.length) := hlen
  have HAF := hidi ha
  have HC := hidi (And.intro hcell hl)
  have HS := hidi hs
  clear hcell hl hlen ha
  gi_wp2
  gi_loopw [10] (fun i wr => ∃ k m : Nat, k + m = len ∧ i = .int .i64 (k : Int) ∧ Hid (J (ts.take k) wr ∧ Kq n₀ eb eb W wr))
    (fun i _ => ((len : Int) - intOf i).toNat)
  case atStart => exact ⟨0, len, by omega, rfl, h0, Kq.refl _ _ _ _⟩
  case round =>
    obtain ⟨k, m, hk, rfl, HJ⟩ := hrel
    cases m with
    | zero =>
      obtain rfl : k = len := by omega
      have hq : ¬ (k : Int) < (k : Int) := by omega
      have e1 : ts.take k = ts := by rw [HL.out]; exact List.take_length
      have HJ2 := HJ.out.1
      rw [e1] at HJ2
      gi_wp2
      refine bodyPost_end (results_none rfl _ _ _) rfl ?_
      exact ⟨⟨_, rfl⟩, .inl HJ2⟩
    | succ q =>
      have hq1 : (k : Int) < len := by omega
      have hk0 : (0 : Int) ≤ (k : Int) := by omega
      have hkl : k < ts.length := by rw [← HL.out]; omega
      obtain ⟨haF, hF⟩ := HAF.out (by omega)
      subst haF
      have hw1 : IntKind.i64.wrap ((k : Int) + 1) = (k : Int) + 1 := by rw [IntKind.wrap_i64]; have := HC.out.2; have := HL.out; omega
      obtain ⟨x, hx⟩ : ∃ x, x = ts[k] := ⟨_, rfl⟩
      have d0 := (HJ.out.2.bel.cell (p := ⟨F, k * 4, none⟩) hF).trans (HC.out.1 k hkl 0 _ (by omega) rfl)
      have d1 := (HJ.out.2.bel.cell (p := ⟨F, k * 4 + 1, none⟩) hF).trans (HC.out.1 k hkl 1 _ (by omega) rfl)
      have d2 := (HJ.out.2.bel.cell (p := ⟨F, k * 4 + 2, none⟩) hF).trans (HC.out.1 k hkl 2 _ (by omega) rfl)
      have d3 := (HJ.out.2.bel.cell (p := ⟨F, k * 4 + 3, none⟩) hF).trans (HC.out.1 k hkl 3 _ (by omega) rfl)
      rw [← hx] at d0
      have b1 : Below wr.heap.size wr (wr.alloc (.cells #[.string x, .slice none 0 0, .int .i64 0, .bool false] 30)) := (Below.refl wr.heap.size wr).alloc (Nat.le_refl _) _
      have hsb : eb < wr.heap.size := (Array.getElem?_eq_some_iff.1 (HJ.out.2.s.trans HS.out)).1
      have H0 := hidi (Nat.le_trans h0n HJ.out.2.bel.size)
      have HT : Hid (ts.take (k + 1) = ts.take k ++ [x]) := by show _ = _; rw [List.take_add_one, List.getElem?_eq_getElem hkl, hx]; rfl
      have hpl : (ts.take k).length < ts.length := by rw [List.length_take]; omega
      have JB := hidi (And.intro (abides_below' hA HJ.out.1 b1) (Kq.below b1 H0.out hsb hsb))
      clear b1 hx
      obtain ⟨fn, tmps, assign, body, hy, hR⟩ := hY _ x (wr.alloc (.cells #[.string x, .slice none 0 0, .int .i64 0, .bool false] 30)) JB.out.1 hpl
      unfold mv at hy
      gi_wp2
      refine hR.mono ?_
      rintro e W3 (⟨rfl, hJ3, hk3⟩ | ⟨rfl, hJx3⟩)
      · have H3 := hidi (And.intro hJ3 hk3)
        clear hJ3 hk3
        gi_wp2
        go_roundw
        case rel => exact ⟨k + 1, q, by omega, by simp, by rw [HT.out]; exact H3.out.1, (HJ.out.2.trans JB.out.2).trans H3.out.2⟩
        case measure => simp [intOf]; omega
      · have H3 := hidi hJx3
        clear hJx3
        gi_wp2
        (try simp only [Exit.inBlock, Exit.then, Exit.noGoto])
        refine bodyPost_ret (results_none rfl _ _ _) rfl ?_
        exact ⟨⟨_, rfl⟩, .inr ⟨_, H3.out⟩⟩
end Go.Proofs.YtgbejhdmjfebjaaGreat.Li
namespace Go.Proofs.YtgbejhdmjfebjaaGreat.Li
open Go Go.RowKit Go.Shelf
set_option linter.unusedSimpArgs false
set_option linter.unusedVariables false
attribute [local go_sem] Oper.semAt_some
theorem each_any (kb : Nat) (w : World) : Calls Tryz.prog 73 #[.pointer (some ⟨kb, 0, none⟩)] w fun e w' => e = .returned (.func (.func 92) #[] #[.pointer (some ⟨w.heap.size, 0, none⟩)]) ∧ w' = w.alloc (.cells #[.pointer (some ⟨kb, 0, none⟩)] 57) := by
  go_enter Tryz.func73, Tryz.ntmps73
  go_wp2
  go_ret
  exact ⟨rfl, rfl⟩
theorem kmatch_any (kb : Nat) (f : ByteArray) (w : World) : Calls Tryz.prog 47 #[.pointer (some ⟨kb, 0, none⟩), .string f] w fun e w' => e = .returned (.func (.func 72) #[] #[.pointer (some ⟨w.heap.size, 0, none⟩), .pointer (some ⟨w.heap.size + 1, 0, none⟩)]) ∧ w' = (w.alloc (.cells #[.pointer (some ⟨kb, 0, none⟩)] 57)).alloc (.cells #[.string f] 9) := by
  go_enter Tryz.func47, Tryz.ntmps47
  go_wp2
  go_ret
  exact ⟨rfl, rfl⟩
/-- What a round of the outer loop keeps. -/
structure Kc (n₀ B : Nat) (W W' : World) : Prop where
  os : W'.os = W.os
  tape : W'.tape = W.tape
  output : W'.output = W.output
  size : W.heap.size ≤ W'.heap.size
  low : ∀ j, j < n₀ → W'.heap[j]? = W.heap[j]?
  high : ∀ j o, B ≤ j → W.heap[j]? = some o → (o.isCells = false ∨ ∃ cs t, o = .cells cs t (0, 0) ∧ (t = 115 ∨ t = 57)) → W'.heap[j]? = some o
theorem Kc.trans {n₀ B : Nat} {X Y Z : World} (h : Kc n₀ B X Y) (k : Kc n₀ B Y Z) : Kc n₀ B X Z :=
  ⟨k.os.trans h.os, k.tape.trans h.tape, k.output.trans h.output, Nat.le_trans h.size k.size, fun j hj => (k.low j hj).trans (h.low j hj), fun j o hj ho hq => k.high j o hj (h.high j o hj ho hq) hq⟩
theorem each_stops {B : Nat} {W w2 : World} {kb n₀ : Nat} {v : Value} {ts : List ByteArray} (h : KS B W kb v ts) (hl : ts.length ≤ 900) (hn0 : W.heap.size ≤ n₀) (eb : Nat) (n : Nat) (hn : 1 ≤ n) (hb : Below W.heap.size W w2) (h0n : n₀ ≤ w2.heap.size) (he : w2.heap[eb]? = some (.cells #[.pointer (some ⟨kb, 0, none⟩)] 57)) :
    SeqStopsK Fence.wide n Tryz.prog 92 #[.pointer (some ⟨eb, 0, none⟩)] (fun t : ByteArray => #[mv t]) (Kq n₀ eb eb) (fun ys => ys = ts) (fun _ => True) ts.length w2 := fun l J Jx X hX hA _ hY hJ0 => by
  have bX : Below W.heap.size W X := hb.trans (hX.mono hb.size)
  have hS := h.below bX
  obtain ⟨a, c, hv⟩ := own_sl hS.own
  have hx : ∃ F, (0 < ts.length → a = some ⟨F, 0, none⟩ ∧ F < n₀ ∧ ∀ i (hi : i < ts.length), ∀ j u, j < 4 → (mc ts[i])[j]? = some u → X.cell? ⟨F, i * 4 + j, none⟩ = some u) := by
    by_cases hp : 0 < ts.length
    · obtain ⟨F, c', hv', hle, hcell⟩ := mrw_cell hS.own hp
      obtain ⟨cur, hF⟩ := own_lt h.own (g := F) (by rw [hv']; rfl)
      rw [hv] at hv'
      simp only [Value.slice.injEq, true_and] at hv'
      exact ⟨F, fun _ => ⟨hv'.1, Nat.lt_of_lt_of_le (Array.getElem?_eq_some_iff.1 hF).1 hn0, hcell⟩⟩
    · exact ⟨0, fun q => absurd q hp⟩
  obtain ⟨F, hx⟩ := hx
  refine (each_in n hn l eb n₀ kb F c ts hl J Jx hY X hA (later_at he hX) a ?_ (fun q => ⟨(hx q).1, (hx q).2.1⟩) (Nat.le_trans h0n hX.size) (fun i hi => (hx (by omega)).2.2 i hi) hJ0).mono ?_
  · rw [← hv]
    exact box_cells hS.at_ 0 v rfl
  · rintro e W' ⟨he, q | ⟨pre, q⟩⟩
    · exact ⟨he, .inl ⟨ts, rfl, q⟩⟩
    · exact ⟨he, .inr ⟨pre, trivial, q⟩⟩
theorem own_below' {α : Type} {B : Nat} {J : α → World → Prop} (h : OwnFrom B J) {s : α} {W W' : World} (hj : J s W) (hb : Below W.heap.size W W') : J s W' := h s W W' none hj ⟨hb.os, hb.tape, hb.output, hb.size, fun k hk _ => hb.block k hk⟩ (fun r e => by cases e)
/-- What holds between two messages. -/
structure EI (n₀ B y3 l : Nat) (w2 : World) (J : List ByteArray → World → Prop) (f : ByteArray) (pre : List ByteArray) (W : World) : Prop where
  j : J (pre.filter (fun t => mch f t)) W
  y : W.heap[y3]? = some (.cells #[.func (.yield l) #[] #[]] 115 (0, 0))
  kq : Kq n₀ (y3 + 1) (y3 + 1) w2 W
theorem EI.own {n₀ B y3 l : Nat} {w2 : World} {J : List ByteArray → World → Prop} {f : ByteArray} (hJ : OwnFrom B J) (hB : B ≤ w2.heap.size) (h0 : n₀ ≤ w2.heap.size) (hy : y3 + 1 < w2.heap.size) : OwnFrom w2.heap.size (EI n₀ B y3 l w2 J f) := fun s W W' row h hg hr => by
  have hsz : w2.heap.size ≤ W.heap.size := h.kq.bel.size
  have hb : ∀ k, k < w2.heap.size → W'.heap[k]? = W.heap[k]? := fun k hk => hg.block k (by omega) (fun e => by have := (hr k e.symm).1; omega)
  refine ⟨hJ _ W W' row h.j hg (fun r e => ⟨by have := (hr r e).1; omega, (hr r e).2⟩), (hb y3 (by omega)).trans h.y, h.kq.trans ⟨⟨hg.os, hg.tape, hg.output, hg.size, fun k hk => hb k (by omega)⟩, hb _ hy, hb _ hy⟩⟩
set_option maxRecDepth 100000 in
set_option maxHeartbeats 4000000 in
theorem kmatch_seq {B : Nat} {w W : World} {kb n₀ bk bf : Nat} {v : Value} {ts : List ByteArray} {f : ByteArray} (h : KS B w kb v ts) (hl : ts.length ≤ 900) (hn0 : w.heap.size ≤ n₀) (hb : Below w.heap.size w W) (h0n : n₀ ≤ W.heap.size) (hbk : W.heap[bk]? = some (.cells #[.pointer (some ⟨kb, 0, none⟩)] 57)) (hbf : W.heap[bf]? = some (.cells #[.string f] 9)) (hk1 : bk < n₀) (hk2 : bf < n₀) (n : Nat) (hn : 4 ≤ n) :
    SeqO Fence.wide n Tryz.prog 72 #[.pointer (some ⟨bk, 0, none⟩), .pointer (some ⟨bf, 0, none⟩)] (fun t : ByteArray => #[mv t]) (Kc n₀ W.heap.size) (fun ys => ys = ts.filter (fun t => mch f t)) ts.length W := fun l J hJ hY hJ0 => by
  have EA := hidi (fun w => each_any kb w)
  have hn1 : 1 ≤ n := by omega
  have hn2 : 1 ≤ n - 1 - 1 := by omega
  have MT := hidi (fun (n : Nat) (t : ByteArray) (w : World) => (callsIn_wide (n := n)).2 (tmatch_any f t w))
  have c0 : (W.alloc (.cells #[.func (.yield l) #[] #[]] 115)).cell? ⟨bk, 0, none⟩ = some (.pointer (some ⟨kb, 0, none⟩)) := box_cells ((heap_alloc_old _ _ (Array.getElem?_eq_some_iff.1 hbk).1).trans hbk) 0 _ rfl
  refine callsIn_of_wp_marks Tryz.func72 rfl trivial ?_ rfl
  simp only [Tryz.ntmps72, List.size_toArray, List.length_cons, List.length_nil, Nat.reduceAdd, Nat.reduceSub, Array.replicate_succ, Array.replicate_zero, List.push_toArray, List.append_toArray, List.nil_append, List.cons_append]
  gi_wp2
  refine wpIn_scope ?_
  gi_wp2
  refine wpIn_label ?_
  gi_wp2_with (refine ⟨trivial, ?_⟩; gi_at_call 73; refine ((callsIn_wide (n := _)).2 (EA.out _)).mono ?_; rintro e w2 ⟨rfl, hw2⟩; have HW := hidi hw2; clear hw2)
  have z1 : (W.alloc (.cells #[.func (.yield l) #[] #[]] 115)).heap.size = W.heap.size + 1 := size_alloc _ _
  have z2 : w2.heap.size = W.heap.size + 2 := by rw [HW.out, size_alloc, z1]
  have b2 : Below W.heap.size W w2 := by rw [HW.out]; exact ((Below.refl _ _).alloc (Nat.le_refl _) _).alloc (by omega) _
  have y2 : w2.heap[W.heap.size]? = some (.cells #[.func (.yield l) #[] #[]] 115 (0, 0)) := by rw [HW.out, heap_alloc_old _ _ (by omega), heap_alloc_new]
  have e2 : w2.heap[W.heap.size + 1]? = some (.cells #[.pointer (some ⟨kb, 0, none⟩)] 57) := by rw [HW.out, ← z1, heap_alloc_new]
  have hI0 := EI.own (n₀ := n₀) (B := W.heap.size) (y3 := W.heap.size) (l := l) (w2 := w2) (f := f) hJ (by omega) (by omega) (by omega)
  clear c0
  refine wpIn_rangeFunc_ownH rfl (by omega) (gf := 92) (lb := #[.pointer (some ⟨W.heap.size + 1, 0, none⟩)]) rfl trivial (enters_of Tryz.func92 (by kernel_rfl) rfl)
    (each_stops h hl hn0 (W.heap.size + 1) _ (by omega) (hb.trans (b2.mono hb.size)) (by omega) e2) (fun h k => Kq.trans h k) ?hKb (Below.refl _ _) (fun _ => rfl)
    (EI n₀ W.heap.size W.heap.size l w2 J f) (fun _ _ _ => False) hI0 (fun _ _ _ _ _ hs _ _ => hs) ?h0
    (fun x a' X => ∃ b4, a' = { tmps := #[.func (.yield l) #[] #[], .pointer (some ⟨bk, 0, none⟩), .pointer (some ⟨bf, 0, none⟩), .pointer (some ⟨W.heap.size, 0, none⟩), .pointer (some ⟨b4, 0, none⟩), .pointer (some ⟨kb, 0, none⟩), .func (.func 92) #[] #[.pointer (some ⟨W.heap.size + 1, 0, none⟩)], mv x, undef, undef, undef, undef, undef, undef, undef, undef, undef], defers := [] } ∧ X.heap[b4]? = some (.cells #[.string x, .slice none 0 0, .int .i64 0, .bool false] 30 (0, 0)) ∧ w2.heap.size ≤ b4) ?hAx ?assign ?body ?done ?stop
  case hKb =>
    intro X l o o' hl ho _ _
    exact ⟨belowK_b (w := w2) (by omega) X l o o' hl ho (by assumption) (by assumption), World.putObj_heap_other (by omega), World.putObj_heap_other (by omega)⟩
  case h0 => exact ⟨own_below' hJ hJ0 b2, y2, Kq.refl _ _ _ _⟩
  case hAx =>
    rintro x a' _ X X' row ⟨b4, h1, h2, h3⟩ hg hr
    refine ⟨b4, h1, (hg.block b4 (Array.getElem?_eq_some_iff.1 h2).1 (fun e => ?_)).trans h2, h3⟩
    obtain ⟨-, o, h4, h5⟩ := hr b4 e.symm
    rw [h2] at h4
    cases h4
    simp [Obj.isCells] at h5
  case assign =>
    intro l2 pre x X K hI hK
    have HK := hidi hK
    have HI := hidi hI
    clear hK hI hY
    unfold mv
    gi_wp2
    have hb : Below X.heap.size X (X.alloc (.cells #[.string x, .slice none 0 0, .int .i64 0, .bool false] 30)) := (Below.refl X.heap.size X).alloc (Nat.le_refl _) _
    have hs3 : w2.heap.size ≤ X.heap.size := HI.out.kq.bel.size
    refine HK.out _ _ ⟨hb.size, fun k o _ hk _ => (hb.block k (Array.getElem?_eq_some_iff.1 hk).1).trans hk⟩ (Kq.below hb (by omega) (by omega) (by omega)) ?_ ⟨X.heap.size, by unfold mv; simp [z1], heap_alloc_new _ _, hs3⟩
    exact own_below' hI0 HI.out hb
  case body =>
    rintro l2 pre x a' X hl2 - HI0 ⟨b4, rfl, hb4, hb4l⟩ hlen
    have HI := hidi HI0
    have hs3 : w2.heap.size ≤ X.heap.size := HI0.kq.bel.size
    have f0 : X.cell? ⟨bf, 0, none⟩ = some (.string f) := box_cells ((HI0.kq.bel.block bf hk2).trans ((b2.block bf (by omega)).trans hbf)) 0 _ rfl
    have d0 := box_cells hb4 0 (.string x) rfl
    have MX := hidi (fun n w => MT.out n x w)
    have KP := hidi (fun (X' : World) (hx : Below X.heap.size X X') => (show X'.cell? ⟨W.heap.size, 0, none⟩ = some (.func (.yield l) #[] #[]) ∧ X'.cell? ⟨b4, 0, none⟩ = some (.string x) ∧ X'.cell? ⟨b4, 1, none⟩ = some (.slice none 0 0) ∧ X'.cell? ⟨b4, 2, none⟩ = some (.int .i64 0) ∧ X'.cell? ⟨b4, 3, none⟩ = some (.bool false) ∧ EI n₀ W.heap.size W.heap.size l w2 J f pre X' ∧ KeepsFrom w2.heap.size X X' ∧ Kq n₀ (W.heap.size + 1) (W.heap.size + 1) X X' from
      ⟨box_cells (later_at HI0.y hx) 0 _ rfl, box_cells (later_at hb4 hx) 0 _ rfl, box_cells (later_at hb4 hx) 1 _ rfl, box_cells (later_at hb4 hx) 2 _ rfl, box_cells (later_at hb4 hx) 3 _ rfl, own_below' hI0 HI0 hx, ⟨hx.size, fun k o _ hk _ => (hx.block k (Array.getElem?_eq_some_iff.1 hk).1).trans hk⟩, Kq.below hx (by omega) (by omega) (by omega)⟩))
    have hpl : (pre.filter (fun t => mch f t)).length < ts.length := Nat.lt_of_le_of_lt (List.length_filter_le _ _) hlen
    have HPL := hidi hpl
    have HYY := hidi hY
    clear HI0 hb4 hpl hY
    cases hm : mch f x with
    | false =>
      rw [hm] at MX
      have HE : Hid ((pre ++ [x]).filter (fun t => mch f t) = pre.filter (fun t => mch f t)) := by show _ = _; simp [hm]
      clear hm
      gi_wp2_with (refine ⟨trivial, ?_⟩; gi_at_call 10; refine (MX.out _ _).mono ?_; rintro e X5 ⟨rfl, hb5⟩; have H5 := hidi (KP.out X5 hb5); clear hb5)
      obtain ⟨-, -, -, -, -, g1, g2, g3⟩ := H5.out
      exact ⟨g2, g3, ⟨by rw [HE.out]; exact g1.j, g1.y, g1.kq⟩⟩
    | true =>
      rw [hm] at MX
      have HE : Hid ((pre ++ [x]).filter (fun t => mch f t) = pre.filter (fun t => mch f t) ++ [x]) := by show _ = _; simp [hm]
      clear hm
      gi_wp2_with (refine ⟨trivial, ?_⟩; gi_at_call 10; refine (MX.out _ _).mono ?_; rintro e X5 ⟨rfl, hb5⟩; obtain ⟨p0, p1, p2, p3, p4, p5⟩ := KP.out X5 hb5; have H5 := hidi p5; obtain ⟨fn, tmps, assign, body, hy, hR⟩ := HYY.out _ x X5 p5.1.j HPL.out; unfold mv at hy; clear hb5 p5)
      refine (show RoundIn (Fence.wide.inRound l2) (n - 1 - 1 - 1) Tryz.prog l fn tmps assign body X5 _ from ⟨hR.1, fun c cs _ => hR.2 c cs (by simp [Fence.room, Fence.wide])⟩).mono ?_
      rintro e X6 ⟨rfl, q1, q2⟩
      have H6 := hidi (And.intro q1 q2)
      clear q1 q2
      gi_wp2
      obtain ⟨g1, g2, g3⟩ := H5.out
      obtain ⟨j6, k6⟩ := H6.out
      have hX5 : X.heap.size ≤ X5.heap.size := g2.size
      have kf : KeepsFrom w2.heap.size X5 X6 := ⟨k6.size, fun k o hk ho hc => k6.high k o (by omega) ho (.inl hc)⟩
      have y5 := g1.y
      have e5 : X5.heap[W.heap.size + 1]? = some (.cells #[.pointer (some ⟨kb, 0, none⟩)] 57) := g1.kq.s.trans e2
      have e6 := k6.high (W.heap.size + 1) _ (by omega) e5 (.inr ⟨_, _, rfl, .inr rfl⟩)
      have kq : Kq n₀ (W.heap.size + 1) (W.heap.size + 1) X5 X6 := ⟨⟨k6.os, k6.tape, k6.output, k6.size, fun j hj => k6.low j hj⟩, e6.trans e5.symm, e6.trans e5.symm⟩
      exact ⟨⟨Nat.le_trans g2.size kf.size, fun k o hk ho hc => kf.same k o hk (g2.same k o hk ho hc) hc⟩, g3.trans kq, ⟨by rw [HE.out]; exact j6, k6.high W.heap.size _ (by omega) y5 (.inr ⟨_, _, rfl, .inl rfl⟩), g1.kq.trans kq⟩⟩
  case done =>
    rintro D ys X hD hys HI0 hK
    have HI := hidi HI0
    clear HI0
    gi_wp2
    simp only [Exit.noGoto]
    refine ⟨by simp, .inl ⟨_, _, rfl, run_takeDeferred hK, ?_⟩⟩
    refine ⟨_, results_none rfl _ _ _, ⟨_, rfl⟩, _, rfl, ?_⟩
    rw [← (show ys = ts from hys)]
    exact hJ.putObj _ HI.out.j (by omega) hK rfl
  case stop =>
    rintro D c pre X _ _ h _
    exact h.elim
end Go.Proofs.YtgbejhdmjfebjaaGreat.Li
