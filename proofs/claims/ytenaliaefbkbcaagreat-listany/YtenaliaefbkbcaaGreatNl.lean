import Derived.Test.YtenaliaefbkbcaaGreatNk
namespace Go.Proofs.YtenaliaefbkbcaaGreat.Li
open Go Go.RowKit Go.Shelf
set_option linter.unusedSimpArgs false
set_option linter.unusedVariables false
attribute [local go_sem] Oper.semAt_some
set_option maxRecDepth 100000 in
set_option maxHeartbeats 2000000 in
theorem inord_stops {B : Nat} {w : World} {kb bk bf bo : Nat} {v : Value} {ts : List ByteArray} {f t : ByteArray} (h : KS B w kb v ts) (hl : ts.length ≤ 900) (hbk : w.heap[bk]? = some (.cells #[.pointer (some ⟨kb, 0, none⟩)] 57)) (hbf : w.heap[bf]? = some (.cells #[.string f] 9)) (hbo : w.heap[bo]? = some (.cells #[.func (.func 72) #[] #[.pointer (some ⟨bk, 0, none⟩), .pointer (some ⟨bf, 0, none⟩)]] 62)) (hf : ts.filter (fun t => mch f t) = [t]) (n : Nat) (hn : 1 ≤ n) :
    SeqStopsK Fence.wide n Tryz.prog 69 #[.pointer (some ⟨bo, 0, none⟩)] (fun t : ByteArray => #[mv t]) (fun _ _ => True) (fun ys => ys = [t]) (fun _ => True) 1 w := fun l J Jx W hW hA hAx hY hJ0 => by
  have S7 := hidi (sorted70_one (h.below hW) hl (later_at hbk hW) (later_at hbf hW) hf)
  have c0 : W.cell? ⟨bo, 0, none⟩ = some (.func (.func 72) #[] #[.pointer (some ⟨bk, 0, none⟩), .pointer (some ⟨bf, 0, none⟩)]) := box_cells (later_at hbo hW) 0 _ rfl
  have AP := hidi (fun (n : Nat) w => (callsIn_wide (n := n)).2 (apart_any t w))
  unfold mv at AP
  have HY := hidi hY
  clear hY h hl hbk hbf hbo hf
  refine callsIn_of_wp Tryz.func69 rfl trivial ?_ rfl
  simp only [Tryz.ntmps69, List.size_toArray, List.length_cons, List.length_nil, Nat.reduceAdd, Nat.reduceSub, Array.replicate_succ, Array.replicate_zero, List.push_toArray, List.append_toArray, List.nil_append, List.cons_append]
  gi_wp2_with (refine ⟨trivial, ?_⟩; gi_at_call 70; refine ((callsIn_wide (n := _)).2 S7.out).mono ?_; rintro e w1 ⟨v', rfl, ho, hb⟩; obtain ⟨g, c, hv, hle, hcell⟩ := mrw_cell ho (by simp); subst hv; have HB := hidi hb; have d0 := hcell 0 (by simp) 0 (.string t) (by omega) rfl; have d1 := hcell 0 (by simp) 1 (.slice none 0 0) (by omega) rfl; have d2 := hcell 0 (by simp) 2 (.int .i64 0) (by omega) rfl; have d3 := hcell 0 (by simp) 3 (.bool false) (by omega) rfl; clear hb ho hcell hle)
  simp only [List.length_cons, List.length_nil, Nat.reduceAdd, Nat.reduceMul] at d0 d1 d2 d3 ⊢
  gi_wp2
  gi_loopw [8] (fun i wr => (i = .int .i64 0 ∧ wr = w1) ∨ (i = .int .i64 1 ∧ Hid (J [t] wr)))
    (fun i _ => (1 - intOf i).toNat)
  case atStart => exact .inl ⟨rfl, rfl⟩
  case round =>
    rcases hrel with ⟨rfl, rfl⟩ | ⟨rfl, HJ⟩
    · gi_wp2_with (refine ⟨trivial, ?_⟩; gi_at_call 44; refine (AP.out _ _).mono ?_; rintro e w3 ⟨rfl, hb3⟩; have HB3 := hidi hb3; clear hb3; obtain ⟨fn, tmps, assign, body, hy, hR⟩ := HY.out [] t w3 (abides_below' hA hJ0 ((HB.out.trans (((Below.refl wr.heap.size wr).alloc (Nat.le_refl _) _).mono HB.out.size)).trans (HB3.out.mono (by have := HB.out.size; rw [size_alloc]; omega)))) (by simp); unfold mv at hy)
      refine hR.mono ?_
      rintro e W3 (⟨rfl, hJ3, -⟩ | ⟨rfl, hJx3⟩)
      · have H3 := hidi hJ3
        clear hJ3
        gi_wp2
        go_roundw
        case rel => exact .inr ⟨rfl, H3.out⟩
        case measure => simp [intOf]
      · have H3 := hidi hJx3
        clear hJx3
        gi_wp2
        (try simp only [Exit.inBlock, Exit.then, Exit.noGoto])
        refine bodyPost_ret (results_none rfl _ _ _) rfl ?_
        exact ⟨⟨_, rfl⟩, .inr ⟨_, trivial, H3.out⟩⟩
    · gi_wp2
      refine bodyPost_end (results_none rfl _ _ _) rfl ?_
      exact ⟨⟨_, rfl⟩, .inl ⟨_, rfl, HJ.out⟩⟩
end Go.Proofs.YtenaliaefbkbcaaGreat.Li
