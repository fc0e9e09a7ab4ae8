import Derived.Test.YtenaliaefbkbcaaGreatNh
namespace Go.Proofs.YtenaliaefbkbcaaGreat.Li
open Go Go.RowKit Go.Shelf
set_option linter.unusedSimpArgs false
set_option linter.unusedVariables false
attribute [local go_sem] Oper.semAt_some
theorem each_any (kb : Nat) (w : World) : Calls Tryz.prog 73 #[.pointer (some ⟨kb, 0, none⟩)] w fun e w' => e = .returned (.func (.func 92) #[] #[.pointer (some ⟨w.heap.size, 0, none⟩)]) ∧ w' = w.alloc (.cells #[.pointer (some ⟨kb, 0, none⟩)] 57) := by
  go_enter Tryz.func73, Tryz.ntmps73
  go_wp2
  go_ret
  exact ⟨rfl, rfl⟩
theorem kmatch_any (kb : Nat) (f : ByteArray) (w : World) : Calls Tryz.prog 47 #[.pointer (some ⟨kb, 0, none⟩), .string f] w fun e w' => e = .returned (.func (.func 72) #[] #[.pointer (some ⟨w.heap.size, 0, none⟩), .pointer (some ⟨w.heap.size + 1, 0, none⟩)]) ∧ w' = (w.alloc (.cells #[.pointer (some ⟨kb, 0, none⟩)] 57)).alloc (.cells #[.string f] 9) := by
  go_enter Tryz.func47, Tryz.ntmps47
  go_wp2
  go_ret
  exact ⟨rfl, rfl⟩
/-- What a round of the outer loop keeps. -/
structure Kc (n₀ B : Nat) (W W' : World) : Prop where
  os : W'.os = W.os
  tape : W'.tape = W.tape
  output : W'.output = W.output
  size : W.heap.size ≤ W'.heap.size
  low : ∀ j, j < n₀ → W'.heap[j]? = W.heap[j]?
  high : ∀ j o, B ≤ j → W.heap[j]? = some o → (o.isCells = false ∨ ∃ cs t, o = .cells cs t (0, 0) ∧ (t = 115 ∨ t = 57)) → W'.heap[j]? = some o
theorem Kc.trans {n₀ B : Nat} {X Y Z : World} (h : Kc n₀ B X Y) (k : Kc n₀ B Y Z) : Kc n₀ B X Z :=
  ⟨k.os.trans h.os, k.tape.trans h.tape, k.output.trans h.output, Nat.le_trans h.size k.size, fun j hj => (k.low j hj).trans (h.low j hj), fun j o hj ho hq => k.high j o hj (h.high j o hj ho hq) hq⟩
theorem each_stops {B : Nat} {W w2 : World} {kb n₀ : Nat} {v : Value} {ts : List ByteArray} (h : KS B W kb v ts) (hl : ts.length ≤ 900) (hn0 : W.heap.size ≤ n₀) (eb : Nat) (n : Nat) (hn : 1 ≤ n) (hb : Below W.heap.size W w2) (h0n : n₀ ≤ w2.heap.size) (he : w2.heap[eb]? = some (.cells #[.pointer (some ⟨kb, 0, none⟩)] 57)) :
    SeqStopsK Fence.wide n Tryz.prog 92 #[.pointer (some ⟨eb, 0, none⟩)] (fun t : ByteArray => #[mv t]) (Kq n₀ eb eb) (fun ys => ys = ts) (fun _ => True) ts.length w2 := fun l J Jx X hX hA _ hY hJ0 => by
  have bX : Below W.heap.size W X := hb.trans (hX.mono hb.size)
  have hS := h.below bX
  obtain ⟨a, c, hv⟩ := own_sl hS.own
  have hx : ∃ F, (0 < ts.length → a = some ⟨F, 0, none⟩ ∧ F < n₀ ∧ ∀ i (hi : i < ts.length), ∀ j u, j < 4 → (mc ts[i])[j]? = some u → X.cell? ⟨F, i * 4 + j, none⟩ = some u) := by
    by_cases hp : 0 < ts.length
    · obtain ⟨F, c', hv', hle, hcell⟩ := mrw_cell hS.own hp
      obtain ⟨cur, hF⟩ := own_lt h.own (g := F) (by rw [hv']; rfl)
      rw [hv] at hv'
      simp only [Value.slice.injEq, true_and] at hv'
      exact ⟨F, fun _ => ⟨hv'.1, Nat.lt_of_lt_of_le (Array.getElem?_eq_some_iff.1 hF).1 hn0, hcell⟩⟩
    · exact ⟨0, fun q => absurd q hp⟩
  obtain ⟨F, hx⟩ := hx
  refine (each_in n hn l eb n₀ kb F c ts hl J Jx hY X hA (later_at he hX) a ?_ (fun q => ⟨(hx q).1, (hx q).2.1⟩) (Nat.le_trans h0n hX.size) (fun i hi => (hx (by omega)).2.2 i hi) hJ0).mono ?_
  · rw [← hv]
    exact box_cells hS.at_ 0 v rfl
  · rintro e W' ⟨he, q | ⟨pre, q⟩⟩
    · exact ⟨he, .inl ⟨ts, rfl, q⟩⟩
    · exact ⟨he, .inr ⟨pre, trivial, q⟩⟩
theorem own_below' {α : Type} {B : Nat} {J : α → World → Prop} (h : OwnFrom B J) {s : α} {W W' : World} (hj : J s W) (hb : Below W.heap.size W W') : J s W' := h s W W' none hj ⟨hb.os, hb.tape, hb.output, hb.size, fun k hk _ => hb.block k hk⟩ (fun r e => by cases e)
/-- What holds between two messages. -/
structure EI (n₀ B y3 l : Nat) (w2 : World) (J : List ByteArray → World → Prop) (f : ByteArray) (pre : List ByteArray) (W : World) : Prop where
  j : J (pre.filter (fun t => mch f t)) W
  y : W.heap[y3]? = some (.cells #[.func (.yield l) #[] #[]] 115 (0, 0))
  kq : Kq n₀ (y3 + 1) (y3 + 1) w2 W
theorem EI.own {n₀ B y3 l : Nat} {w2 : World} {J : List ByteArray → World → Prop} {f : ByteArray} (hJ : OwnFrom B J) (hB : B ≤ w2.heap.size) (h0 : n₀ ≤ w2.heap.size) (hy : y3 + 1 < w2.heap.size) : OwnFrom w2.heap.size (EI n₀ B y3 l w2 J f) := fun s W W' row h hg hr => by
  have hsz : w2.heap.size ≤ W.heap.size := h.kq.bel.size
  have hb : ∀ k, k < w2.heap.size → W'.heap[k]? = W.heap[k]? := fun k hk => hg.block k (by omega) (fun e => by have := (hr k e.symm).1; omega)
  refine ⟨hJ _ W W' row h.j hg (fun r e => ⟨by have := (hr r e).1; omega, (hr r e).2⟩), (hb y3 (by omega)).trans h.y, h.kq.trans ⟨⟨hg.os, hg.tape, hg.output, hg.size, fun k hk => hb k (by omega)⟩, hb _ hy, hb _ hy⟩⟩
set_option maxRecDepth 100000 in
set_option maxHeartbeats 4000000 in
theorem kmatch_seq {B : Nat} {w W : World} {kb n₀ bk bf : Nat} {v : Value} {ts : List ByteArray} {f : ByteArray} (h : KS B w kb v ts) (hl : ts.length ≤ 900) (hn0 : w.heap.size ≤ n₀) (hb : Below w.heap.size w W) (h0n : n₀ ≤ W.heap.size) (hbk : W.heap[bk]? = some (.cells #[.pointer (some ⟨kb, 0, none⟩)] 57)) (hbf : W.heap[bf]? = some (.cells #[.string f] 9)) (hk1 : bk < n₀) (hk2 : bf < n₀) (n : Nat) (hn : 4 ≤ n) :
    SeqO Fence.wide n Tryz.prog 72 #[.pointer (some ⟨bk, 0, none⟩), .pointer (some ⟨bf, 0, none⟩)] (fun t : ByteArray => #[mv t]) (Kc n₀ W.heap.size) (fun ys => ys = ts.filter (fun t => mch f t)) ts.length W := fun l J hJ hY hJ0 => by
  have EA := hidi (fun w => each_any kb w)
  have hn1 : 1 ≤ n := by omega
  have hn2 : 1 ≤ n - 1 - 1 := by omega
  have MT := hidi (fun (n : Nat) (t : ByteArray) (w : World) => (callsIn_wide (n := n)).2 (tmatch_any f t w))
  have c0 : (W.alloc (.cells #[.func (.yield l) #[] #[]] 115)).cell? ⟨bk, 0, none⟩ = some (.pointer (some ⟨kb, 0, none⟩)) := box_cells ((heap_alloc_old _ _ (Array.getElem?_eq_some_iff.1 hbk).1).trans hbk) 0 _ rfl
  refine callsIn_of_wp_marks Tryz.func72 rfl trivial ?_ rfl
  simp only [Tryz.ntmps72, List.size_toArray, List.length_cons, List.length_nil, Nat.reduceAdd, Nat.reduceSub, Array.replicate_succ, Array.replicate_zero, List.push_toArray, List.append_toArray, List.nil_append, List.cons_append]
  gi_wp2
  refine wpIn_scope ?_
  gi_wp2
  refine wpIn_label ?_
  gi_wp2_with (refine ⟨trivial, ?_⟩; gi_at_call 73; refine ((callsIn_wide (n := _)).2 (EA.out _)).mono ?_; rintro e w2 ⟨rfl, hw2⟩; have HW := hidi hw2; clear hw2)
  have z1 : (W.alloc (.cells #[.func (.yield l) #[] #[]] 115)).heap.size = W.heap.size + 1 := size_alloc _ _
  have z2 : w2.heap.size = W.heap.size + 2 := by rw [HW.out, size_alloc, z1]
  have b2 : Below W.heap.size W w2 := by rw [HW.out]; exact ((Below.refl _ _).alloc (Nat.le_refl _) _).alloc (by omega) _
  have y2 : w2.heap[W.heap.size]? = some (.cells #[.func (.yield l) #[] #[]] 115 (0, 0)) := by rw [HW.out, heap_alloc_old _ _ (by omega), heap_alloc_new]
  have e2 : w2.heap[W.heap.size + 1]? = some (.cells #[.pointer (some ⟨kb, 0, none⟩)] 57) := by rw [HW.out, ← z1, heap_alloc_new]
  have hI0 := EI.own (n₀ := n₀) (B := W.heap.size) (y3 := W.heap.size) (l := l) (w2 := w2) (f := f) hJ (by omega) (by omega) (by omega)
  clear c0
  refine wpIn_rangeFunc_ownH rfl (by omega) (gf := 92) (lb := #[.pointer (some ⟨W.heap.size + 1, 0, none⟩)]) rfl trivial (enters_of Tryz.func92 (by kernel_rfl) rfl)
    (each_stops h hl hn0 (W.heap.size + 1) _ (by omega) (hb.trans (b2.mono hb.size)) (by omega) e2) (fun h k => Kq.trans h k) ?hKb (Below.refl _ _) (fun _ => rfl)
    (EI n₀ W.heap.size W.heap.size l w2 J f) (fun _ _ _ => False) hI0 (fun _ _ _ _ _ hs _ _ => hs) ?h0
    (fun x a' X => ∃ b4, a' = { tmps := #[.func (.yield l) #[] #[], .pointer (some ⟨bk, 0, none⟩), .pointer (some ⟨bf, 0, none⟩), .pointer (some ⟨W.heap.size, 0, none⟩), .pointer (some ⟨b4, 0, none⟩), .pointer (some ⟨kb, 0, none⟩), .func (.func 92) #[] #[.pointer (some ⟨W.heap.size + 1, 0, none⟩)], mv x, undef, undef, undef, undef, undef, undef, undef, undef, undef], defers := [] } ∧ X.heap[b4]? = some (.cells #[.string x, .slice none 0 0, .int .i64 0, .bool false] 30 (0, 0)) ∧ w2.heap.size ≤ b4) ?hAx ?assign ?body ?done ?stop
  case hKb =>
    intro X l o o' hl ho _ _
    exact ⟨belowK_b (w := w2) (by omega) X l o o' hl ho (by assumption) (by assumption), World.putObj_heap_other (by omega), World.putObj_heap_other (by omega)⟩
  case h0 => exact ⟨own_below' hJ hJ0 b2, y2, Kq.refl _ _ _ _⟩
  case hAx =>
    rintro x a' _ X X' row ⟨b4, h1, h2, h3⟩ hg hr
    refine ⟨b4, h1, (hg.block b4 (Array.getElem?_eq_some_iff.1 h2).1 (fun e => ?_)).trans h2, h3⟩
    obtain ⟨-, o, h4, h5⟩ := hr b4 e.symm
    rw [h2] at h4
    cases h4
    simp [Obj.isCells] at h5
  case assign =>
    intro l2 pre x X K hI hK
    have HK := hidi hK
    have HI := hidi hI
    clear hK hI hY
    unfold mv
    gi_wp2
    have hb : Below X.heap.size X (X.alloc (.cells #[.string x, .slice none 0 0, .int .i64 0, .bool false] 30)) := (Below.refl X.heap.size X).alloc (Nat.le_refl _) _
    have hs3 : w2.heap.size ≤ X.heap.size := HI.out.kq.bel.size
    refine HK.out _ _ ⟨hb.size, fun k o _ hk _ => (hb.block k (Array.getElem?_eq_some_iff.1 hk).1).trans hk⟩ (Kq.below hb (by omega) (by omega) (by omega)) ?_ ⟨X.heap.size, by unfold mv; simp [z1], heap_alloc_new _ _, hs3⟩
    exact own_below' hI0 HI.out hb
  case body =>
    rintro l2 pre x a' X hl2 - HI0 ⟨b4, rfl, hb4, hb4l⟩ hlen
    have HI := hidi HI0
    have hs3 : w2.heap.size ≤ X.heap.size := HI0.kq.bel.size
    have f0 : X.cell? ⟨bf, 0, none⟩ = some (.string f) := box_cells ((HI0.kq.bel.block bf hk2).trans ((b2.block bf (by omega)).trans hbf)) 0 _ rfl
    have d0 := box_cells hb4 0 (.string x) rfl
    have MX := hidi (fun n w => MT.out n x w)
    have KP := hidi (fun (X' : World) (hx : Below X.heap.size X X') => (show X'.cell? ⟨W.heap.size, 0, none⟩ = some (.func (.yield l) #[] #[]) ∧ X'.cell? ⟨b4, 0, none⟩ = some (.string x) ∧ X'.cell? ⟨b4, 1, none⟩ = some (.slice none 0 0) ∧ X'.cell? ⟨b4, 2, none⟩ = some (.int .i64 0) ∧ X'.cell? ⟨b4, 3, none⟩ = some (.bool false) ∧ EI n₀ W.heap.size W.heap.size l w2 J f pre X' ∧ KeepsFrom w2.heap.size X X' ∧ Kq n₀ (W.heap.size + 1) (W.heap.size + 1) X X' from
      ⟨box_cells (later_at HI0.y hx) 0 _ rfl, box_cells (later_at hb4 hx) 0 _ rfl, box_cells (later_at hb4 hx) 1 _ rfl, box_cells (later_at hb4 hx) 2 _ rfl, box_cells (later_at hb4 hx) 3 _ rfl, own_below' hI0 HI0 hx, ⟨hx.size, fun k o _ hk _ => (hx.block k (Array.getElem?_eq_some_iff.1 hk).1).trans hk⟩, Kq.below hx (by omega) (by omega) (by omega)⟩))
    have hpl : (pre.filter (fun t => mch f t)).length < ts.length := Nat.lt_of_le_of_lt (List.length_filter_le _ _) hlen
    have HPL := hidi hpl
    have HYY := hidi hY
    clear HI0 hb4 hpl hY
    cases hm : mch f x with
    | false =>
      rw [hm] at MX
      have HE : Hid ((pre ++ [x]).filter (fun t => mch f t) = pre.filter (fun t => mch f t)) := by show _ = _; simp [hm]
      clear hm
      gi_wp2_with (refine ⟨trivial, ?_⟩; gi_at_call 10; refine (MX.out _ _).mono ?_; rintro e X5 ⟨rfl, hb5⟩; have H5 := hidi (KP.out X5 hb5); clear hb5)
      obtain ⟨-, -, -, -, -, g1, g2, g3⟩ := H5.out
      exact ⟨g2, g3, ⟨by rw [HE.out]; exact g1.j, g1.y, g1.kq⟩⟩
    | true =>
      rw [hm] at MX
      have HE : Hid ((pre ++ [x]).filter (fun t => mch f t) = pre.filter (fun t => mch f t) ++ [x]) := by show _ = _; simp [hm]
      clear hm
      gi_wp2_with (refine ⟨trivial, ?_⟩; gi_at_call 10; refine (MX.out _ _).mono ?_; rintro e X5 ⟨rfl, hb5⟩; obtain ⟨p0, p1, p2, p3, p4, p5⟩ := KP.out X5 hb5; have H5 := hidi p5; obtain ⟨fn, tmps, assign, body, hy, hR⟩ := HYY.out _ x X5 p5.1.j HPL.out; unfold mv at hy; clear hb5 p5)
      refine (show RoundIn (Fence.wide.inRound l2) (n - 1 - 1 - 1) Tryz.prog l fn tmps assign body X5 _ from ⟨hR.1, fun c cs _ => hR.2 c cs (by simp [Fence.room, Fence.wide])⟩).mono ?_
      rintro e X6 ⟨rfl, q1, q2⟩
      have H6 := hidi (And.intro q1 q2)
      clear q1 q2
      gi_wp2
      obtain ⟨g1, g2, g3⟩ := H5.out
      obtain ⟨j6, k6⟩ := H6.out
      have hX5 : X.heap.size ≤ X5.heap.size := g2.size
      have kf : KeepsFrom w2.heap.size X5 X6 := ⟨k6.size, fun k o hk ho hc => k6.high k o (by omega) ho (.inl hc)⟩
      have y5 := g1.y
      have e5 : X5.heap[W.heap.size + 1]? = some (.cells #[.pointer (some ⟨kb, 0, none⟩)] 57) := g1.kq.s.trans e2
      have e6 := k6.high (W.heap.size + 1) _ (by omega) e5 (.inr ⟨_, _, rfl, .inr rfl⟩)
      have kq : Kq n₀ (W.heap.size + 1) (W.heap.size + 1) X5 X6 := ⟨⟨k6.os, k6.tape, k6.output, k6.size, fun j hj => k6.low j hj⟩, e6.trans e5.symm, e6.trans e5.symm⟩
      exact ⟨⟨Nat.le_trans g2.size kf.size, fun k o hk ho hc => kf.same k o hk (g2.same k o hk ho hc) hc⟩, g3.trans kq, ⟨by rw [HE.out]; exact j6, k6.high W.heap.size _ (by omega) y5 (.inr ⟨_, _, rfl, .inl rfl⟩), g1.kq.trans kq⟩⟩
  case done =>
    rintro D ys X hD hys HI0 hK
    have HI := hidi HI0
    clear HI0
    gi_wp2
    simp only [Exit.noGoto]
    refine ⟨by simp, .inl ⟨_, _, rfl, run_takeDeferred hK, ?_⟩⟩
    refine ⟨_, results_none rfl _ _ _, ⟨_, rfl⟩, _, rfl, ?_⟩
    rw [← (show ys = ts from hys)]
    exact hJ.putObj _ HI.out.j (by omega) hK rfl
  case stop =>
    rintro D c pre X _ _ h _
    exact h.elim
end Go.Proofs.YtenaliaefbkbcaaGreat.Li
namespace Go.Proofs.YtenaliaefbkbcaaGreat.Li
open Go Go.RowKit Go.Shelf
set_option linter.unusedSimpArgs false
set_option linter.unusedVariables false
attribute [local go_sem] Oper.semAt_some
theorem info30 : (Tryz.prog.info? 30).map (fun i => (i.zero, i.size, i.bytes)) = some (some (.agg #[.string ⟨#[]⟩, .slice none 0 0, .int .i64 0, .bool false]), 4, 56) := by kernel_rfl
theorem mrw_app (l m : List ByteArray) : mrw (l ++ m) = mrw l ++ mrw m := by simp [mrw]
/-- What has been laid on so far. -/
structure AI (w : World) (pre : List ByteArray) (X : World) : Prop where
  ex : ∃ v, X.heap[w.heap.size]? = some (.cells #[v] 89 (0, 0)) ∧ X.ownsRow w.heap.size 30 4 v pre.length (mrw pre)
  bel : Below w.heap.size w X
  sz : w.heap.size + 1 ≤ X.heap.size
theorem AI.own (w : World) : OwnFrom (w.heap.size + 1) (AI w) := fun s X X' row h hg hr => by
  obtain ⟨v, h1, h2⟩ := h.ex
  have hb : ∀ k, k < w.heap.size + 1 → X'.heap[k]? = X.heap[k]? := fun k hk => hg.block k (by have := h.sz; omega) (fun e => by have := (hr k e.symm).1; omega)
  exact ⟨⟨v, (hb _ (by omega)).trans h1, own_grown h2 hg (fun r e => (hr r e).2)⟩, h.bel.trans ⟨hg.os, hg.tape, hg.output, hg.size, fun k hk => hb k (by omega)⟩, Nat.le_trans h.sz hg.size⟩
set_option maxRecDepth 100000 in
set_option maxHeartbeats 4000000 in
theorem appseq_any {B : Nat} {w : World} {kb bk bf : Nat} {v : Value} {ts : List ByteArray} {f : ByteArray} (h : KS B w kb v ts) (hl : ts.length ≤ 900) (hbk : w.heap[bk]? = some (.cells #[.pointer (some ⟨kb, 0, none⟩)] 57)) (hbf : w.heap[bf]? = some (.cells #[.string f] 9)) :
    Calls Tryz.prog 120 #[.slice none 0 0, .func (.func 72) #[] #[.pointer (some ⟨bk, 0, none⟩), .pointer (some ⟨bf, 0, none⟩)]] w fun e w' => ∃ v', e = .returned v' ∧ w'.ownsRow w.heap.size 30 4 v' (ts.filter (fun t => mch f t)).length (mrw (ts.filter (fun t => mch f t))) ∧ Below w.heap.size w w' := by
  obtain ⟨i0, hi, hz0, hz1, hz2⟩ := info_parts info30
  refine (callsIn_wide (n := 9)).1 ?_
  refine callsIn_of_wp_marks Tryz.func120 rfl trivial ?_ rfl
  simp only [Tryz.ntmps120, List.size_toArray, List.length_cons, List.length_nil, Nat.reduceAdd, Nat.reduceSub, Array.replicate_succ, Array.replicate_zero, List.push_toArray, List.append_toArray, List.nil_append, List.cons_append]
  gi_wp2
  obtain ⟨w1, hw1⟩ : ∃ w1, w1 = w.alloc (.cells #[.slice none 0 0] 89) := ⟨_, rfl⟩
  rw [← hw1]
  have z1 : w1.heap.size = w.heap.size + 1 := by rw [hw1, size_alloc]
  have b1 : Below w.heap.size w w1 := by rw [hw1]; exact (Below.refl _ _).alloc (Nat.le_refl _) _
  have x1 : w1.heap[w.heap.size]? = some (.cells #[.slice none 0 0] 89 (0, 0)) := by rw [hw1, heap_alloc_new]
  have l1 : bk < w.heap.size := (Array.getElem?_eq_some_iff.1 hbk).1
  have l2 : bf < w.heap.size := (Array.getElem?_eq_some_iff.1 hbf).1
  have hI0 : OwnFrom w1.heap.size (AI w) := by rw [z1]; exact AI.own w
  refine range_own rfl (by omega) (gf := 72) (lb := #[.pointer (some ⟨bk, 0, none⟩), .pointer (some ⟨bf, 0, none⟩)]) rfl trivial (enters_of Tryz.func72 (by kernel_rfl) rfl) (encs := fun t : ByteArray => #[mv t]) (Kc := Kc w.heap.size (w1.heap.size + 2)) (S := fun ys => ys = ts.filter (fun t => mch f t)) (N := ts.length) (fun _ => rfl)
    ?hseq (fun h k => h.trans k) ?hKb (AI w) hI0 ?h0
    (fun x a' X => ∃ b5, a' = { tmps := #[.slice none 0 0, .func (.func 72) #[] #[.pointer (some ⟨bk, 0, none⟩), .pointer (some ⟨bf, 0, none⟩)], .pointer (some ⟨w.heap.size, 0, none⟩), undef, .slice none 0 0, .pointer (some ⟨b5, 0, none⟩), .func (.func 72) #[] #[.pointer (some ⟨bk, 0, none⟩), .pointer (some ⟨bf, 0, none⟩)], mv x, undef, undef, undef, undef, undef], defers := [] } ∧ X.heap[b5]? = some (.cells #[.string x, .slice none 0 0, .int .i64 0, .bool false] 30 (0, 0)) ∧ w1.heap.size ≤ b5) ?hAx ?assign ?body ?done
  case hseq =>
    intro X hX hs
    rw [← hs]
    have bX : Below w.heap.size w X := b1.trans (hX.mono (by omega))
    exact kmatch_seq h hl (Nat.le_refl _) bX (by omega) (later_at hbk bX) (later_at hbf bX) l1 l2 _ (by omega)
  case hKb =>
    intro X o hX
    exact ⟨rfl, rfl, rfl, by simp [World.putObj], fun j hj => World.putObj_heap_other (by omega), fun j o' hj ho _ => (World.putObj_heap_other (by omega)).trans ho⟩
  case h0 => exact ⟨⟨_, x1, World.ownsRow_nil _ _ _ _⟩, b1, by omega⟩
  case hAx =>
    rintro x a' _ X X' row ⟨b5, h1, h2, h3⟩ hg hr
    refine ⟨b5, h1, (hg.block b5 (Array.getElem?_eq_some_iff.1 h2).1 (fun e => ?_)).trans h2, h3⟩
    obtain ⟨-, o, h4, h5⟩ := hr b5 e.symm
    rw [h2] at h4
    cases h4
    simp [Obj.isCells] at h5
  case assign =>
    intro l0 pre x X K hI hs2 hK
    have HK := hidi hK
    have HI := hidi hI
    clear hK hI
    unfold mv
    gi_wp2
    have hb : Below X.heap.size X (X.alloc (.cells #[.string x, .slice none 0 0, .int .i64 0, .bool false] 30)) := (Below.refl X.heap.size X).alloc (Nat.le_refl _) _
    refine HK.out _ _ ⟨hb.size, fun k o _ hk _ => (hb.block k (Array.getElem?_eq_some_iff.1 hk).1).trans hk⟩ ⟨hb.os, hb.tape, hb.output, hb.size, fun j hj => hb.block j (by omega), fun j o hj ho _ => (hb.block j (Array.getElem?_eq_some_iff.1 ho).1).trans ho⟩ (own_below' hI0 HI.out hb) ⟨X.heap.size, by unfold mv; rfl, heap_alloc_new _ _, by omega⟩
  case body =>
    rintro l0 pre x a' X HI0 ⟨b5, rfl, hb5, hb5l⟩ hs2 hlen
    obtain ⟨v0, hv0, hrow⟩ := HI0.ex
    have c0 := box_cells hv0 0 v0 rfl
    have d0 := box_cells hb5 0 (.string x) rfl
    have d1 := box_cells hb5 1 (.slice none 0 0) rfl
    have d2 := box_cells hb5 2 (.int .i64 0) rfl
    have d3 := box_cells hb5 3 (.bool false) rfl
    have bA : Below X.heap.size X (X.alloc (.cells #[.string x, .slice none 0 0, .int .i64 0, .bool false] 30)) := (Below.refl X.heap.size X).alloc (Nat.le_refl _) _
    have hrow1 := own_below hrow bA
    have hcs : ∀ (j : Nat) (u : Value), (mc x)[j]? = some u → (X.alloc (.cells #[.string x, .slice none 0 0, .int .i64 0, .bool false] 30)).cell? ((⟨X.heap.size, 0, none⟩ : Addr).add j) = some u := fun j u hu => by
      rw [addr_at]
      exact box_cells (heap_alloc_new X _) j u (by simpa [mc] using hu)
    have hn1 : (X.alloc (.cells #[.string x, .slice none 0 0, .int .i64 0, .bool false] 30)).heap[w.heap.size]? = some (.cells #[v0] 89 (0, 0)) := later_at hv0 bA
    have hk0 : pre.length ≤ 900 := by omega
    obtain ⟨k, hk⟩ : ∃ k, k = pre.length := ⟨_, rfl⟩
    rw [← hk] at hrow1 hk0
    have HB := hidi (And.intro HI0 (And.intro hn1 (And.intro hk (And.intro bA hb5))))
    clear HI0 hv0 hn1 hk bA hrow hb5
    gi_wp2_with (gi_at_builtin; refine wpListIn_append_own _ rfl _ _ 89 rfl w.heap.size 30 i0 _ 4 56 Tryz.underlying89 hi hz0 hz1 hz2 rfl (by decide) v0 k _ rfl hrow1 ⟨X.heap.size, 0, none⟩ 1 1 (mc x) rfl rfl hcs (by simp [mc, Value.oneCell']) (by unfold maxLen; omega) (by omega) (by first | omega | (rw [size_alloc]; omega)) ?_; intro v' w5 hown' hgrow _; obtain ⟨a1, c1, hv1⟩ := own_sl hown'; subst hv1; have hn0 : w5.heap[w.heap.size]? = some (.cells #[v0] 89 (0, 0)) := (hgrow.block _ (by have := (Array.getElem?_eq_some_iff.1 HB.out.2.1).1; exact this) (fun e => by obtain ⟨cu, hcu⟩ := own_lt hrow1 e.symm; rw [HB.out.2.1] at hcu; simp at hcu)).trans HB.out.2.1; have c1' := box_cells hn0 0 v0 rfl; have f1' := box_frozen hn0 0; have HG := hidi (And.intro hown' (And.intro hgrow hn0)); clear hown' hgrow hn0)
    obtain ⟨hI, hn1, hk, bA, hb5⟩ := HB.out
    obtain ⟨hown, hgrow, hn0⟩ := HG.out
    have zA : (X.alloc (.cells #[.string x, .slice none 0 0, .int .i64 0, .bool false] 30)).heap.size = X.heap.size + 1 := size_alloc _ _
    have hty : ∀ j, v0.ownBlock = some j → w.heap.size ≤ j ∧ (j < X.heap.size → ∃ cu, X.heap[j]? = some (.cells cu 30 (0, 0))) := fun j e => by
      obtain ⟨cu, hcu⟩ := own_lt hrow1 e
      exact ⟨row_ge hrow1 e, fun hj => ⟨cu, by rw [← bA.block j hj]; exact hcu⟩⟩
    have hbl : ∀ j, j < X.heap.size → j ≠ w.heap.size → v0.ownBlock ≠ some j → (w5.setCell ⟨w.heap.size, 0, none⟩ (.slice a1 (k + 1) c1)).heap[j]? = X.heap[j]? := fun j hj h1 h2 => by
      rw [heap_set_ne _ h1]
      exact (hgrow.block j (by omega) (fun e => h2 e.symm)).trans (bA.block j hj)
    have hszw : X.heap.size ≤ (w5.setCell ⟨w.heap.size, 0, none⟩ (.slice a1 (k + 1) c1)).heap.size := by
      have h1 := (ch_set (w := w5) w.heap.size 0 (.slice a1 (k + 1) c1)).size
      have h2 := hgrow.size
      omega
    refine ⟨⟨hszw, fun j o hB hj ho => (hbl j (Array.getElem?_eq_some_iff.1 hj).1 (by omega) (fun e => ?_)).trans hj⟩, ⟨hgrow.os, hgrow.tape, hgrow.output, hszw, fun j hj => hbl j (by omega) (by omega) (fun e => by have := (hty j e).1; omega), fun j o hB hj ho => (hbl j (Array.getElem?_eq_some_iff.1 hj).1 (by omega) (fun e => ?_)).trans hj⟩, ⟨⟨.slice a1 (k + 1) c1, heap_set hn0 _, ?_⟩, hI.bel.trans ⟨hgrow.os, hgrow.tape, hgrow.output, hszw, fun j hj => hbl j (by omega) (by omega) (fun e => by have := (hty j e).1; omega)⟩, by omega⟩⟩
    · obtain ⟨cu, hcu⟩ := (hty j e).2 (Array.getElem?_eq_some_iff.1 hj).1
      rw [hj] at hcu
      cases hcu
      simp [Obj.isCells] at ho
    · obtain ⟨cu, hcu⟩ := (hty j e).2 (Array.getElem?_eq_some_iff.1 hj).1
      rw [hj] at hcu
      cases hcu
      rcases ho with ho | ⟨cs, t, h1, h2⟩
      · simp [Obj.isCells] at ho
      · injection h1 with h3 h4 h5
        subst h4
        rcases h2 with h2 | h2 <;> exact absurd h2 (by decide)
    · have e1 : mrw [x] = mc x := by simp [mrw]
      rw [List.length_append, List.length_singleton, ← hk, mrw_app, e1]
      exact own_ch hown (ch_set _ _ _) (fun g e q => by
        obtain ⟨cu, hcu⟩ := own_lt hown e
        rw [q, hn0] at hcu
        simp at hcu)
  case done =>
    rintro D ys X hD hys HI0 hK
    obtain ⟨v0, hv0, hrow⟩ := HI0.ex
    rw [show ys = _ from hys] at hrow
    have c0 := box_cells hv0 0 v0 rfl
    have HI := hidi (And.intro HI0.bel (And.intro hrow hK))
    clear HI0 hv0 hrow
    gi_wp2
    refine ⟨by simp, .inl ⟨_, _, rfl, run_takeDeferred HI.out.2.2, ?_⟩⟩
    refine ⟨_, results_tmp rfl _ _ _, v0, rfl, ?_, ?_⟩
    · exact ownsRow_putObj HI.out.2.1 (.deferred none) HI.out.2.2 rfl
    · exact HI.out.1.trans (belowK_b (w := w1) (by omega) X D _ _ hD HI.out.2.2 rfl rfl)
end Go.Proofs.YtenaliaefbkbcaaGreat.Li
