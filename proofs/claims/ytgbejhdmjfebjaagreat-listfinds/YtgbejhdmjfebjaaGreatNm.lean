import Derived.Test.YtgbejhdmjfebjaaGreatNi
import Derived.Test.YtgbejhdmjfebjaaGreatNd
namespace Go.Proofs.YtgbejhdmjfebjaaGreat.Li
open Go Go.RowKit Go.Shelf
set_option linter.unusedSimpArgs false
set_option linter.unusedVariables false
attribute [local go_sem] Oper.semAt_some
theorem info30 : (Tryz.prog.info? 30).map (fun i => (i.zero, i.size, i.bytes)) = some (some (.agg #[.string ⟨#[]⟩, .slice none 0 0, .int .i64 0, .bool false]), 4, 56) := by kernel_rfl
theorem mrw_app (l m : List ByteArray) : mrw (l ++ m) = mrw l ++ mrw m := by simp [mrw]
/-- What has been laid on so far. -/
structure AI (w : World) (pre : List ByteArray) (X : World) : Prop where
  ex : ∃ v, X.heap[w.heap.size]? = some (.cells #[v] 89 (0, 0)) ∧ X.ownsRow w.heap.size 30 4 v pre.length (mrw pre)
  bel : Below w.heap.size w X
  sz : w.heap.size + 1 ≤ X.heap.size
theorem AI.own (w : World) : OwnFrom (w.heap.size + 1) (AI w) := fun s X X' row h hg hr => by
  obtain ⟨v, h1, h2⟩ := h.ex
  have hb : ∀ k, k < w.heap.size + 1 → X'.heap[k]? = X.heap[k]? := fun k hk => hg.block k (by have := h.sz; omega) (fun e => by have := (hr k e.symm).1; omega)
  exact ⟨⟨v, (hb _ (by omega)).trans h1, own_grown h2 hg (fun r e => (hr r e).2)⟩, h.bel.trans ⟨hg.os, hg.tape, hg.output, hg.size, fun k hk => hb k (by omega)⟩, Nat.le_trans h.sz hg.size⟩
set_option maxRecDepth 100000 in
set_option maxHeartbeats 4000000 in
theorem appseq_any {B : Nat} {w : World} {kb bk bf : Nat} {v : Value} {ts : List ByteArray} {f : ByteArray} (h : KS B w kb v ts) (hl : ts.length ≤ 900) (hbk : w.heap[bk]? = some (.cells #[.pointer (some ⟨kb, 0, none⟩)] 57)) (hbf : w.heap[bf]? = some (.cells #[.string f] 9)) :
    Calls Tryz.prog 120 #[.slice none 0 0, .func (.func 72) #[] #[.pointer (some ⟨bk, 0, none⟩), .pointer (some ⟨bf, 0, none⟩)]] w fun e w' => ∃ v', e = .returned v' ∧ w'.ownsRow w.heap.size 30 4 v' (ts.filter (fun t => mch f t)).length (mrw (ts.filter (fun t => mch f t))) ∧ Below w.heap.size w w' := by
  obtain ⟨i0, hi, hz0, hz1, hz2⟩ := info_parts info30
  refine (callsIn_wide (n := 9)).1 ?_
  refine callsIn_of_wp_marks Tryz.func120 rfl trivial ?_ rfl
  simp only [Tryz.ntmps120, List.size_toArray, List.length_cons, List.length_nil, Nat.reduceAdd, Nat.reduceSub, Array.replicate_succ, Array.replicate_zero, List.push_toArray, List.append_toArray, List.nil_append, List.cons_append]
  gi_wp2
  obtain ⟨w1, hw1⟩ : ∃ w1, w1 = w.alloc (.cells #[.slice none 0 0] 89) := ⟨_, rfl⟩
  rw [← hw1]
  have z1 : w1.heap.size = w.heap.size + 1 := by rw [hw1, size_alloc]
  have b1 : Below w.heap.size w w1 := by rw [hw1]; exact (Below.refl _ _).alloc (Nat.le_refl _) _
  have x1 : w1.heap[w.heap.size]? = some (.cells #[.slice none 0 0] 89 (0, 0)) := by rw [hw1, heap_alloc_new]
  have l1 : bk < w.heap.size := (Array.getElem?_eq_some_iff.1 hbk).1
  have l2 : bf < w.heap.size := (Array.getElem?_eq_some_iff.1 hbf).1
  have hI0 : OwnFrom w1.heap.size (AI w) := by rw [z1]; exact AI.own w
  refine range_own rfl (by omega) (gf := 72) (lb := #[.pointer (some ⟨bk, 0, none⟩), .pointer (some ⟨bf, 0, none⟩)]) rfl trivial (enters_of Tryz.func72 (by kernel_rfl) rfl) (encs := fun t : ByteArray => #[mv t]) (Kc := Kc w.heap.size (w1.heap.size + 2)) (S := fun ys => ys = ts.filter (fun t => mch f t)) (N := ts.length) (fun _ => rfl)
    ?hseq (fun h k => h.trans k) ?hKb (AI w) hI0 ?h0
    (fun x a' X => ∃ b5, a' = { tmps := #[.slice none 0 0, .func (.func 72) #[] #[.pointer (some ⟨bk, 0, none⟩), .pointer (some ⟨bf, 0, none⟩)], .pointer (some ⟨w.heap.size, 0, none⟩), undef, .slice none 0 0, .pointer (some ⟨b5, 0, none⟩), .func (.func 72) #[] #[.pointer (some ⟨bk, 0, none⟩), .pointer (some ⟨bf, 0, none⟩)], mv x, undef, undef, undef, undef, undef], defers := [] } ∧ X.heap[b5]? = some (.cells #[.string x, .slice none 0 0, .int .i64 0, .bool false] 30 (0, 0)) ∧ w1.heap.size ≤ b5) ?hAx ?assign ?body ?done
  case hseq =>
    intro X hX hs
    rw [← hs]
    have bX : Below w.heap.size w X := b1.trans (hX.mono (by omega))
    exact kmatch_seq h hl (Nat.le_refl _) bX (by omega) (later_at hbk bX) (later_at hbf bX) l1 l2 _ (by omega)
  case hKb =>
    intro X o hX
    exact ⟨rfl, rfl, rfl, by simp [World.putObj], fun j hj => World.putObj_heap_other (by omega), fun j o' hj ho _ => (World.putObj_heap_other (by omega)).trans ho⟩
  case h0 => exact ⟨⟨_, x1, World.ownsRow_nil _ _ _ _⟩, b1, by omega⟩
  case hAx =>
    rintro x a' _ X X' row ⟨b5, h1, h2, h3⟩ hg hr
    refine ⟨b5, h1, (hg.block b5 (Array.getElem?_eq_some_iff.1 h2).1 (fun e => ?_)).trans h2, h3⟩
    obtain ⟨-, o, h4, h5⟩ := hr b5 e.symm
    rw [h2] at h4
    cases h4
    simp [Obj.isCells] at h5
  case assign =>
    intro l0 pre x X K hI hs2 hK
    have HK := hidi hK
    have HI := hidi hI
    clear hK hI
    unfold mv
    gi_wp2
    have hb : Below X.heap.size X (X.alloc (.cells #[.string x, .slice none 0 0, .int .i64 0, .bool false] 30)) := (Below.refl X.heap.size X).alloc (Nat.le_refl _) _
    refine HK.out _ _ ⟨hb.size, fun k o _ hk _ => (hb.block k (Array.getElem?_eq_some_iff.1 hk).1).trans hk⟩ ⟨hb.os, hb.tape, hb.output, hb.size, fun j hj => hb.block j (by omega), fun j o hj ho _ => (hb.block j (Array.getElem?_eq_some_iff.1 ho).1).trans ho⟩ (own_below' hI0 HI.out hb) ⟨X.heap.size, by unfold mv; rfl, heap_alloc_new _ _, by omega⟩
  case body =>
    rintro l0 pre x a' X HI0 ⟨b5, rfl, hb5, hb5l⟩ hs2 hlen
    obtain ⟨v0, hv0, hrow⟩ := HI0.ex
    have c0 := box_cells hv0 0 v0 rfl
    have d0 := box_cells hb5 0 (.string x) rfl
    have d1 := box_cells hb5 1 (.slice none 0 0) rfl
    have d2 := box_cells hb5 2 (.int .i64 0) rfl
    have d3 := box_cells hb5 3 (.bool false) rfl
    have bA : Below X.heap.size X (X.alloc (.cells #[.string x, .slice none 0 0, .int .i64 0, .bool false] 30)) := (Below.refl X.heap.size X).alloc (Nat.le_refl _) _
    have hrow1 := own_below hrow bA
    have hcs : ∀ (j : Nat) (u : Value), (mc x)[j]? = some u → (X.alloc (.cells #[.string x, .slice none 0 0, .int .i64 0, .bool false] 30)).cell? ((⟨X.heap.size, 0, none⟩ : Addr).add j) = some u := fun j u hu => by
      rw [addr_at]
      exact box_cells (heap_alloc_new X _) j u (by simpa [mc] using hu)
    have hn1 : (X.alloc (.cells #[.string x, .slice none 0 0, .int .i64 0, .bool false] 30)).heap[w.heap.size]? = some (.cells #[v0] 89 (0, 0)) := later_at hv0 bA
    have hk0 : pre.length ≤ 900 := by omega
    obtain ⟨k, hk⟩ : ∃ k, k = pre.length := ⟨_, rfl⟩
    rw [← hk] at hrow1 hk0
    have HB := hidi (And.intro HI0 (And.intro hn1 (And.intro hk (And.intro bA hb5))))
    clear HI0 hv0 hn1 hk bA hrow hb5
    gi_wp2_with (gi_at_builtin; refine wpListIn_append_own _ rfl _ _ 89 rfl w.heap.size 30 i0 _ 4 56 Tryz.underlying89 hi hz0 hz1 hz2 rfl (by decide) v0 k _ rfl hrow1 ⟨X.heap.size, 0, none⟩ 1 1 (mc x) rfl rfl hcs (by simp [mc, Value.oneCell']) (by unfold maxLen; omega) (by omega) (by first | omega | (rw [size_alloc]; omega)) ?_; intro v' w5 hown' hgrow _; obtain ⟨a1, c1, hv1⟩ := own_sl hown'; subst hv1; have hn0 : w5.heap[w.heap.size]? = some (.cells #[v0] 89 (0, 0)) := (hgrow.block _ (by have := (Array.getElem?_eq_some_iff.1 HB.out.2.1).1; exact this) (fun e => by obtain ⟨cu, hcu⟩ := own_lt hrow1 e.symm; rw [HB.out.2.1] at hcu; simp at hcu)).trans HB.out.2.1; have c1' := box_cells hn0 0 v0 rfl; have f1' := box_frozen hn0 0; have HG := hidi (And.intro hown' (And.intro hgrow hn0)); clear hown' hgrow hn0)
    obtain ⟨hI, hn1, hk, bA, hb5⟩ := HB.out
    obtain ⟨hown, hgrow, hn0⟩ := HG.out
    have zA : (X.alloc (.cells #[.string x, .slice none 0 0, .int .i64 0, .bool false] 30)).heap.size = X.heap.size + 1 := size_alloc _ _
    have hty : ∀ j, v0.ownBlock = some j → w.heap.size ≤ j ∧ (j < X.heap.size → ∃ cu, X.heap[j]? = some (.cells cu 30 (0, 0))) := fun j e => by
      obtain ⟨cu, hcu⟩ := own_lt hrow1 e
      exact ⟨row_ge hrow1 e, fun hj => ⟨cu, by rw [← bA.block j hj]; exact hcu⟩⟩
    have hbl : ∀ j, j < X.heap.size → j ≠ w.heap.size → v0.ownBlock ≠ some j → (w5.setCell ⟨w.heap.size, 0, none⟩ (.slice a1 (k + 1) c1)).heap[j]? = X.heap[j]? := fun j hj h1 h2 => by
      rw [heap_set_ne _ h1]
      exact (hgrow.block j (by omega) (fun e => h2 e.symm)).trans (bA.block j hj)
    have hszw : X.heap.size ≤ (w5.setCell ⟨w.heap.size, 0, none⟩ (.slice a1 (k + 1) c1)).heap.size := by
      have h1 := (ch_set (w := w5) w.heap.size 0 (.slice a1 (k + 1) c1)).size
      have h2 := hgrow.size
      omega
    refine ⟨⟨hszw, fun j o hB hj ho => (hbl j (Array.getElem?_eq_some_iff.1 hj).1 (by omega) (fun e => ?_)).trans hj⟩, ⟨hgrow.os, hgrow.tape, hgrow.output, hszw, fun j hj => hbl j (by omega) (by omega) (fun e => by have := (hty j e).1; omega), fun j o hB hj ho => (hbl j (Array.getElem?_eq_some_iff.1 hj).1 (by omega) (fun e => ?_)).trans hj⟩, ⟨⟨.slice a1 (k + 1) c1, heap_set hn0 _, ?_⟩, hI.bel.trans ⟨hgrow.os, hgrow.tape, hgrow.output, hszw, fun j hj => hbl j (by omega) (by omega) (fun e => by have := (hty j e).1; omega)⟩, by omega⟩⟩
    · obtain ⟨cu, hcu⟩ := (hty j e).2 (Array.getElem?_eq_some_iff.1 hj).1
      rw [hj] at hcu
      cases hcu
      simp [Obj.isCells] at ho
    · obtain ⟨cu, hcu⟩ := (hty j e).2 (Array.getElem?_eq_some_iff.1 hj).1
      rw [hj] at hcu
      cases hcu
      rcases ho with ho | ⟨cs, t, h1, h2⟩
      · simp [Obj.isCells] at ho
      · injection h1 with h3 h4 h5
        subst h4
        rcases h2 with h2 | h2 <;> exact absurd h2 (by decide)
    · have e1 : mrw [x] = mc x := by simp [mrw]
      rw [List.length_append, List.length_singleton, ← hk, mrw_app, e1]
      exact own_ch hown (ch_set _ _ _) (fun g e q => by
        obtain ⟨cu, hcu⟩ := own_lt hown e
        rw [q, hn0] at hcu
        simp at hcu)
  case done =>
    rintro D ys X hD hys HI0 hK
    obtain ⟨v0, hv0, hrow⟩ := HI0.ex
    rw [show ys = _ from hys] at hrow
    have c0 := box_cells hv0 0 v0 rfl
    have HI := hidi (And.intro HI0.bel (And.intro hrow hK))
    clear HI0 hv0 hrow
    gi_wp2
    refine ⟨by simp, .inl ⟨_, _, rfl, run_takeDeferred HI.out.2.2, ?_⟩⟩
    refine ⟨_, results_tmp rfl _ _ _, v0, rfl, ?_, ?_⟩
    · exact ownsRow_putObj HI.out.2.1 (.deferred none) HI.out.2.2 rfl
    · exact HI.out.1.trans (belowK_b (w := w1) (by omega) X D _ _ hD HI.out.2.2 rfl rfl)
end Go.Proofs.YtgbejhdmjfebjaaGreat.Li
namespace Go.Proofs.YtgbejhdmjfebjaaGreat.Li
open Go Go.RowKit Go.Shelf
set_option linter.unusedSimpArgs false
set_option linter.unusedVariables false
set_option maxRecDepth 100000 in
theorem ins138_one (s f : Value) (w : World) : Calls Tryz.prog 138 #[s, .int .i64 0, .int .i64 1, f] w fun e w' => e = .returned (.tuple #[]) ∧ w' = w := by
  go_enter Tryz.func138, Tryz.ntmps138
  go_wp2_with fail
  go_loopg [8, 9] 0 (fun gk s8 s9 wx => s8 = .int .i64 1 ∧ wx = w)
  case atStart => exact ⟨rfl, rfl⟩
  case round =>
    obtain ⟨rfl, rfl⟩ := hrel
    go_wp2_with fail
    go_end0
    exact ⟨rfl, rfl⟩
set_option maxRecDepth 100000 in
set_option maxHeartbeats 2000000 in
theorem pdq121_one (s f : Value) (n : Int) (w : World) : Calls Tryz.prog 121 #[s, .int .i64 0, .int .i64 1, .int .i64 n, f] w fun e w' => e = .returned (.tuple #[]) ∧ w' = w := by
  have H := hidi (ins138_one s f w)
  go_enter Tryz.func121, Tryz.ntmps121
  go_wp2_with fail
  go_loopg [1, 2, 3, 10, 11, 12, 13, 14, 15, 16, 17, 18, 19, 20] 0 (fun gk s1 s2 s3 s10 s11 s12 s13 s14 s15 s16 s17 s18 s19 s20 wx => s1 = .int .i64 0 ∧ s2 = .int .i64 1 ∧ wx = w)
  case atStart => exact ⟨rfl, rfl, rfl⟩
  case round =>
    obtain ⟨rfl, rfl, rfl⟩ := hrel
    go_wp2_with (go_at_call 138; refine H.out.mono ?_; rintro e w' ⟨rfl, he⟩; obtain rfl := he.symm; clear he)
    (try simp only [Exit.inBlock, Exit.then])
    refine bodyPost_ret (results_none rfl _ _ _) rfl ?_
    exact ⟨rfl, rfl⟩
set_option maxRecDepth 100000 in
theorem sort91_one (a : Option Addr) (c : Nat) (f : Value) (w : World) : Calls Tryz.prog 91 #[.slice a 1 c, f] w fun e w' => e = .returned (.tuple #[]) ∧ w' = w := by
  have L := hidi (Tryz.bits_Len 1 w (by omega) (by omega))
  have P := hidi (fun n => pdq121_one (.slice a 1 c) f n w)
  go_enter Tryz.func91, Tryz.ntmps91
  go_wp2_with (first | (go_at_call 81; refine L.out.mono ?_; rintro e w' ⟨rfl, he⟩; obtain rfl := he.symm; clear he) | (go_at_call 121; refine (P.out _).mono ?_; rintro e w' ⟨rfl, he⟩; obtain rfl := he.symm; clear he))
  go_end0
  exact ⟨rfl, rfl⟩
set_option maxRecDepth 100000 in
theorem sorted70_one {B : Nat} {w : World} {kb bk bf : Nat} {v : Value} {ts : List ByteArray} {f : ByteArray} {t : ByteArray} (h : KS B w kb v ts) (hl : ts.length ≤ 900) (hbk : w.heap[bk]? = some (.cells #[.pointer (some ⟨kb, 0, none⟩)] 57)) (hbf : w.heap[bf]? = some (.cells #[.string f] 9)) (hf : ts.filter (fun t => mch f t) = [t]) :
    Calls Tryz.prog 70 #[.func (.func 72) #[] #[.pointer (some ⟨bk, 0, none⟩), .pointer (some ⟨bf, 0, none⟩)], .func (.func 71) #[] #[]] w fun e w' => ∃ v', e = .returned v' ∧ w'.ownsRow w.heap.size 30 4 v' 1 (mrw [t]) ∧ Below w.heap.size w w' := by
  have A := hidi (appseq_any h hl hbk hbf)
  rw [hf] at A
  clear h hl hbk hbf hf
  have C := hidi (show Calls Tryz.prog 90 #[.func (.func 72) #[] #[.pointer (some ⟨bk, 0, none⟩), .pointer (some ⟨bf, 0, none⟩)]] w fun e w' => ∃ v', e = .returned v' ∧ w'.ownsRow w.heap.size 30 4 v' 1 (mrw [t]) ∧ Below w.heap.size w w' from by
    go_enter Tryz.func90, Tryz.ntmps90
    go_wp2_with (go_at_call 120; refine A.out.mono ?_; rintro e w' ⟨v', rfl, h1⟩; have H1 := hidi h1; clear h1)
    go_ret
    exact ⟨v', rfl, H1.out⟩)
  clear A
  go_enter Tryz.func70, Tryz.ntmps70
  go_wp2_with (first | (go_at_call 90; refine C.out.mono ?_; rintro e w' ⟨v', rfl, h1, h2⟩; have H1 := hidi (And.intro h1 h2); obtain ⟨a, c, rfl⟩ := own_sl h1; have S := hidi (sort91_one a c (.func (.func 71) #[] #[]) w'); clear h1 h2) | (go_at_call 91; refine S.out.mono ?_; rintro e w5 ⟨rfl, he⟩; obtain rfl := he.symm; clear he))
  go_ret
  exact ⟨_, rfl, H1.out⟩
theorem kfind_any (kb : Nat) (f : ByteArray) (w : World) : Calls Tryz.prog 20 #[.pointer (some ⟨kb, 0, none⟩), .string f] w fun e w' => e = .returned (.func (.func 69) #[] #[.pointer (some ⟨w.heap.size + 1 + 1, 0, none⟩)]) ∧ w' = ((w.alloc (.cells #[.pointer (some ⟨kb, 0, none⟩)] 57)).alloc (.cells #[.string f] 9)).alloc (.cells #[.func (.func 72) #[] #[.pointer (some ⟨w.heap.size, 0, none⟩), .pointer (some ⟨w.heap.size + 1, 0, none⟩)]] 62) := by
  have M := hidi (kmatch_any kb f w)
  have O := hidi (fun (q : Value) (w : World) (hq : ∃ a b c, q = .func a b c) => (show Calls Tryz.prog 46 #[q] w fun e w' => e = .returned (.func (.func 69) #[] #[.pointer (some ⟨w.heap.size, 0, none⟩)]) ∧ w' = w.alloc (.cells #[q] 62) from by
    obtain ⟨a, b, c, rfl⟩ := hq
    go_enter Tryz.func46, Tryz.ntmps46
    go_wp2
    go_ret
    exact ⟨rfl, rfl⟩))
  go_enter Tryz.func20, Tryz.ntmps20
  go_wp2_with (first | (go_at_call 47; refine M.out.mono ?_; rintro e w' ⟨rfl, he⟩; obtain rfl := he.symm; clear he) | (go_at_call 46; refine (O.out _ _ ⟨_, _, _, rfl⟩).mono ?_; rintro e w' ⟨rfl, he⟩; obtain rfl := he.symm; clear he))
  go_ret
  simp [size_alloc]
end Go.Proofs.YtgbejhdmjfebjaaGreat.Li
namespace Go.Proofs.YtgbejhdmjfebjaaGreat.Li
open Go Go.RowKit Go.Shelf
set_option linter.unusedSimpArgs false
set_option linter.unusedVariables false
attribute [local go_sem] Oper.semAt_some
set_option maxRecDepth 100000 in
set_option maxHeartbeats 2000000 in
theorem inord_stops {B : Nat} {w : World} {kb bk bf bo : Nat} {v : Value} {ts : List ByteArray} {f t : ByteArray} (h : KS B w kb v ts) (hl : ts.length ≤ 900) (hbk : w.heap[bk]? = some (.cells #[.pointer (some ⟨kb, 0, none⟩)] 57)) (hbf : w.heap[bf]? = some (.cells #[.string f] 9)) (hbo : w.heap[bo]? = some (.cells #[.func (.func 72) #[] #[.pointer (some ⟨bk, 0, none⟩), .pointer (some ⟨bf, 0, none⟩)]] 62)) (hf : ts.filter (fun t => mch f t) = [t]) (n : Nat) (hn : 1 ≤ n) :
    SeqStopsK Fence.wide n Tryz.prog 69 #[.pointer (some ⟨bo, 0, none⟩)] (fun t : ByteArray => #[mv t]) (fun _ _ => True) (fun ys => ys = [t]) (fun _ => True) 1 w := fun l J Jx W hW hA hAx hY hJ0 => by
  have S7 := hidi (sorted70_one (h.below hW) hl (later_at hbk hW) (later_at hbf hW) hf)
  have c0 : W.cell? ⟨bo, 0, none⟩ = some (.func (.func 72) #[] #[.pointer (some ⟨bk, 0, none⟩), .pointer (some ⟨bf, 0, none⟩)]) := box_cells (later_at hbo hW) 0 _ rfl
  have AP := hidi (fun (n : Nat) w => (callsIn_wide (n := n)).2 (apart_any t w))
  unfold mv at AP
  have HY := hidi hY
  clear hY h hl hbk hbf hbo hf
  refine callsIn_of_wp Tryz.func69 rfl trivial ?_ rfl
  simp only [Tryz.ntmps69, List.size_toArray, List.length_cons, List.length_nil, Nat.reduceAdd, Nat.reduceSub, Array.replicate_succ, Array.replicate_zero, List.push_toArray, List.append_toArray, List.nil_append, List.cons_append]
  gi_wp2_with (refine ⟨trivial, ?_⟩; gi_at_call 70; refine ((callsIn_wide (n := _)).2 S7.out).mono ?_; rintro e w1 ⟨v', rfl, ho, hb⟩; obtain ⟨g, c, hv, hle, hcell⟩ := mrw_cell ho (by simp); subst hv; have HB := hidi hb; have d0 := hcell 0 (by simp) 0 (.string t) (by omega) rfl; have d1 := hcell 0 (by simp) 1 (.slice none 0 0) (by omega) rfl; have d2 := hcell 0 (by simp) 2 (.int .i64 0) (by omega) rfl; have d3 := hcell 0 (by simp) 3 (.bool false) (by omega) rfl; clear hb ho hcell hle)
  simp only [List.length_cons, List.length_nil, Nat.reduceAdd, Nat.reduceMul] at d0 d1 d2 d3 ⊢
  gi_wp2
  gi_loopw [8] (fun i wr => (i = .int .i64 0 ∧ wr = w1) ∨ (i = .int .i64 1 ∧ Hid (J [t] wr)))
    (fun i _ => (1 - intOf i).toNat)
  case atStart => exact .inl ⟨rfl, rfl⟩
  case round =>
    rcases hrel with ⟨rfl, rfl⟩ | ⟨rfl, HJ⟩
    · gi_wp2_with (refine ⟨trivial, ?_⟩; gi_at_call 44; refine (AP.out _ _).mono ?_; rintro e w3 ⟨rfl, hb3⟩; have HB3 := hidi hb3; clear hb3; obtain ⟨fn, tmps, assign, body, hy, hR⟩ := HY.out [] t w3 (abides_below' hA hJ0 ((HB.out.trans (((Below.refl wr.heap.size wr).alloc (Nat.le_refl _) _).mono HB.out.size)).trans (HB3.out.mono (by have := HB.out.size; rw [size_alloc]; omega)))) (by simp); unfold mv at hy)
      refine hR.mono ?_
      rintro e W3 (⟨rfl, hJ3, -⟩ | ⟨rfl, hJx3⟩)
      · have H3 := hidi hJ3
        clear hJ3
        gi_wp2
        go_roundw
        case rel => exact .inr ⟨rfl, H3.out⟩
        case measure => simp [intOf]
      · have H3 := hidi hJx3
        clear hJx3
        gi_wp2
        (try simp only [Exit.inBlock, Exit.then, Exit.noGoto])
        refine bodyPost_ret (results_none rfl _ _ _) rfl ?_
        exact ⟨⟨_, rfl⟩, .inr ⟨_, trivial, H3.out⟩⟩
    · gi_wp2
      refine bodyPost_end (results_none rfl _ _ _) rfl ?_
      exact ⟨⟨_, rfl⟩, .inl ⟨_, rfl, HJ.out⟩⟩
end Go.Proofs.YtgbejhdmjfebjaaGreat.Li
namespace Go.Proofs.YtgbejhdmjfebjaaGreat.Li
open Go Go.RowKit
set_option linter.unusedSimpArgs false
set_option linter.unusedVariables false
set_option maxRecDepth 100000 in
set_option maxHeartbeats 2000000 in
theorem same_any {w : World} {ga gb ca cb n : Nat} {xs : List En} (hn : n = xs.length) (hm : n ≤ 1000) (ha : ∀ i (hi : i < xs.length), w.cell? ⟨ga, i * 2, none⟩ = some (.string xs[i].1) ∧ w.cell? ⟨ga, i * 2 + 1, none⟩ = some (.int .i64 xs[i].2)) (hb : ∀ i (hi : i < xs.length), w.cell? ⟨gb, i * 2, none⟩ = some (.string xs[i].1) ∧ w.cell? ⟨gb, i * 2 + 1, none⟩ = some (.int .i64 xs[i].2)) :
    Calls Tryz.prog 12 #[.slice (some ⟨ga, 0, none⟩) n ca, .slice (some ⟨gb, 0, none⟩) n cb] w fun e w' => e = .returned (.bool true) ∧ Below w.heap.size w w' := by
  have HA := hidi (And.intro ha (And.intro hb (And.intro hn hm)))
  clear ha hb hn hm
  go_enter Tryz.func12, Tryz.ntmps12
  go_wp2_with fail
  go_loopg [5] n (fun gk s5 wx => ∃ i : Nat, i + gk = n ∧ s5 = .int .i64 i ∧ Hid (Below w.heap.size w wx))
  case atStart => exact ⟨0, by omega, rfl, Below.refl _ _⟩
  case round =>
    obtain ⟨i, hi, rfl, HI⟩ := hrel
    by_cases hin : i < n
    · have hlt : (i : Int) < (n : Int) := by omega
      have hge : (0 : Int) ≤ (i : Int) := by omega
      obtain ⟨ha, hb, hn, hm⟩ := HA.out
      have hil : i < xs.length := by omega
      have hw1 : IntKind.i64.wrap ((i : Int) + 1) = (i : Int) + 1 := by rw [IntKind.wrap_i64]; omega
      obtain ⟨x, hx⟩ : ∃ x, x = xs[i] := ⟨_, rfl⟩
      have t0 := (ha i hil).1
      have t1 := (ha i hil).2
      have u0 := (hb i hil).1
      have u1 := (hb i hil).2
      rw [← hx] at t0 t1 u0 u1
      have d0 := (HI.out.cell (p := ⟨ga, i * 2, none⟩) (World.block_lt_of_cell? _ _ t0)).trans t0
      have d1 := (HI.out.cell (p := ⟨ga, i * 2 + 1, none⟩) (World.block_lt_of_cell? _ _ t1)).trans t1
      have d2 := (HI.out.cell (p := ⟨gb, i * 2, none⟩) (World.block_lt_of_cell? _ _ u0)).trans u0
      have d3 := (HI.out.cell (p := ⟨gb, i * 2 + 1, none⟩) (World.block_lt_of_cell? _ _ u1)).trans u1
      clear hx ha hb hn hm t0 t1 u0 u1
      obtain ⟨x1, x2⟩ := x
      simp only at d0 d1 d2 d3
      have hqq : (x2 != x2) = false := by simp
      have hxx : (x1.toList == x1.toList) = true := by simp
      go_wp2_with fail
      go_quiet (fail)
      have HB1 := hidi (below_drewN HI.out (m := nq))
      go_wp2_with fail
      go_roundg (n - (i + 1))
      case measure => omega
      case rel => exact ⟨i + 1, by omega, by first | rfl | simp, HB1.out⟩
    · have hlt : ¬ (i : Int) < (n : Int) := by omega
      go_wp2_with fail
      go_ret
      exact ⟨rfl, HI.out⟩
end Go.Proofs.YtgbejhdmjfebjaaGreat.Li
