import Derived.Test.YtmihpmmkkklpfaaGreatDoorBQd
import Derived.Deep.LoopGhost
namespace Go.Proofs.YtmihpmmkkklpfaaGreatDoor
open Go Go.RowKit Go.Shelf Go.Maps Go.Sort
set_option linter.unusedSimpArgs false
set_option linter.unusedVariables false
/-! ### The document's Same of packets that a window sends -/
theorem box_below2 (w : World) (o : Obj) : Below w.heap.size w (w.alloc o) := (Below.refl _ _).alloc (Nat.le_refl _) _
theorem PBi.len {w : World} {v : Value} {xs : List Int} (h : PBi w v xs) : ∃ a c, v = .slice a xs.length c ∧ xs.length ≤ 300000 ∧ ∀ i, i < xs.length → ∃ b, a = some b ∧ w.cell? (b.add i) = some (.int .u8 (xs.getD i 0)) := by
  rcases h with ⟨rfl, rfl⟩ | ⟨a, n, c, rfl, rfl, h2, h3⟩
  · exact ⟨_, _, rfl, by simp, fun i hi => by simp at hi⟩
  · exact ⟨_, _, rfl, h2, fun i hi => ⟨a, rfl, h3 i hi⟩⟩
set_option maxRecDepth 100000 in
set_option maxHeartbeats 1000000 in
theorem sameBytes_eq {w : World} {v v' : Value} {xs : List Int} (h : PBi w v xs) (h' : PBi w v' xs) : Calls Tryz.prog 69 #[v, v'] w fun e w' => e = .returned (.bool true) ∧ Below w.heap.size w w' := by
  obtain ⟨a, c, rfl, hl, hc⟩ := h.len
  obtain ⟨a', c', hv', -, hc'⟩ := h'.len
  subst hv'
  have H := hidi (And.intro hc hc')
  obtain ⟨n, hn⟩ : ∃ n, n = xs.length := ⟨_, rfl⟩
  rw [← hn] at hl ⊢
  have HN := hidi hn
  clear h h' hc hc' hn
  go_enter Tryz.func69, Tryz.ntmps69
  go_wp2_with fail
  go_loopg [5] n (fun gk s5 wx => ∃ k : Nat, k + gk = n ∧ s5 = .int .i64 k ∧ Hid (Below w.heap.size w wx))
  case atStart => exact ⟨0, by omega, rfl, Below.refl _ _⟩
  case round =>
    obtain ⟨k, hk, rfl, B1⟩ := hrel
    by_cases hkn : k < n
    · have hlt : (k : Int) < (n : Int) := by omega
      have hge : (0 : Int) ≤ (k : Int) := by omega
      have hw1 : IntKind.i64.wrap ((k : Int) + 1) = (k : Int) + 1 := by rw [IntKind.wrap_i64]; omega
      obtain ⟨b, rfl, hc⟩ := H.out.1 k (by rw [← HN.out]; exact hkn)
      obtain ⟨b', rfl, hc'⟩ := H.out.2 k (by rw [← HN.out]; exact hkn)
      have c0 := (B1.out.cell (p := b.add k) (World.block_lt_of_cell? _ _ hc)).trans hc
      have d0 := (B1.out.cell (p := b'.add k) (World.block_lt_of_cell? _ _ hc')).trans hc'
      obtain ⟨x, hx⟩ : ∃ x, xs.getD k 0 = x := ⟨_, rfl⟩
      rw [hx] at c0 d0
      clear hx hc hc'
      go_wp2_with fail
      go_region
      all_goals
        go_wp2
        go_roundg (n - (k + 1))
        case measure => omega
        case rel => exact ⟨k + 1, by omega, by first | rfl | simp, by first | exact B1 | exact B1.out.drew⟩
    · have hlt : ¬ (k : Int) < (n : Int) := by omega
      go_wp2
      go_ret
      exact ⟨rfl, B1.out⟩
set_option maxRecDepth 100000 in
set_option maxHeartbeats 1000000 in
theorem sameMessage_eq {w : World} {v v' : Value} {xs : List Int} (t : ByteArray) (q : Int) (r : Bool) (h : PBi w v xs) (h' : PBi w v' xs) : Calls Tryz.prog 68 #[.agg #[.string t, v, .int .i64 q, .bool r], .agg #[.string t, v', .int .i64 q, .bool r]] w fun e w' => e = .returned (.bool true) ∧ Below w.heap.size w w' := by
  obtain ⟨a, n, c, rfl⟩ := h.sl
  obtain ⟨a', n', c', rfl⟩ := h'.sl
  have HC := hidi (fun (W : World) (hb : Below w.heap.size w W) => sameBytes_eq (h.below hb) (h'.below hb))
  clear h h'
  go_enter Tryz.func68, Tryz.ntmps68
  go_wp2_with fail
  go_must (go_at_call 69)
  refine (HC.out _ (two_below _ _ _)).mono ?_
  rintro e w1 ⟨rfl, hb⟩
  have B1 := hidi ((two_below w _ _).trans (hb.mono (two_below w _ _).size))
  clear hb
  go_wp2
  go_ret
  exact ⟨rfl, B1.out⟩
set_option maxRecDepth 100000 in
set_option maxHeartbeats 8000000 in
theorem rsame_eq {w : World} {v v' : Value} {xs : List Int} (k : Int) (d : Bool) (t : ByteArray) (q : Int) (r : Bool) (id : Int) (h : PBi w v xs) (h' : PBi w v' xs) : Calls Tryz.prog 42 #[.agg (pkc k d t v q r id), .agg (pkc k d t v' q r id)] w fun e w' => e = .returned (.bool true) ∧ Below w.heap.size w w' := by
  obtain ⟨P, hP⟩ : ∃ P, P = pkc k d t v q r id := ⟨_, rfl⟩
  obtain ⟨Q, hQ⟩ : ∃ Q, Q = pkc k d t v' q r id := ⟨_, rfl⟩
  rw [← hP, ← hQ]
  obtain ⟨V, hV⟩ : ∃ V, V = w.alloc (.cells P 66) := ⟨_, rfl⟩
  obtain ⟨W, hW⟩ : ∃ W, W = V.alloc (.cells Q 66) := ⟨_, rfl⟩
  have hgV : V.heap.size = w.heap.size + 1 := by rw [hV]; simp
  obtain ⟨g, hg⟩ : ∃ g, g = V.heap.size := ⟨_, rfl⟩
  have bV : Below w.heap.size w V := by rw [hV]; exact box_below2 _ _
  have bW : Below V.heap.size V W := by rw [hW]; exact box_below2 _ _
  have b0 := hidi (bV.trans (bW.mono bV.size))
  have aP : W.heap[w.heap.size]? = some (.cells P 66 (0, 0)) := later_at (by rw [hV]; exact heap_alloc_new _ _) bW
  have aQ : W.heap[g]? = some (.cells Q 66 (0, 0)) := by rw [hg, hW]; exact heap_alloc_new _ _
  have FA := hidi (fun (j : Nat) (x : Value) (hj : (pkc k d t v q r id)[j]? = some x) (w' : World) (hb : Below W.heap.size W w') => box_cells (later_at aP hb) j x (by rw [hP]; exact hj))
  have FB := hidi (fun (j : Nat) (x : Value) (hj : (pkc k d t v' q r id)[j]? = some x) (w' : World) (hb : Below W.heap.size W w') => box_cells (later_at aQ hb) j x (by rw [hQ]; exact hj))
  have BW := hidi (fun (w' : World) (hb : Below W.heap.size W w') => b0.out.trans (hb.mono b0.out.size))
  have R0 := hidi (Below.refl W.heap.size W)
  have SB := hidi (fun (w' : World) (hb : Below W.heap.size W w') => sameBytes_eq (w := w') (v := .slice none 0 0) (v' := .slice none 0 0) (xs := []) (.inl ⟨rfl, rfl⟩) (.inl ⟨rfl, rfl⟩))
  have SZ := hidi (fun (w' : World) (hb : Below W.heap.size W w') => sameMessage_eq (w := w') (v := .slice none 0 0) (v' := .slice none 0 0) (xs := []) ⟨#[]⟩ 0 false (.inl ⟨rfl, rfl⟩) (.inl ⟨rfl, rfl⟩))
  have SM := hidi (fun (w' : World) (hb : Below W.heap.size W w') => sameMessage_eq (w := w') t q r (h.below (BW.out w' hb)) (h'.below (BW.out w' hb)))
  obtain ⟨va, vn, vc, hv⟩ := h.sl
  obtain ⟨va', vn', vc', hv'⟩ := h'.sl
  subst hv hv'
  clear h h' bV bW aP aQ hP hQ
  go_enter Tryz.func42, Tryz.ntmps42
  go_upto_region 1 with fail
  rw [← hV, ← hgV, ← hg, ← hW]
  clear hV hW hg hgV
  have c0 := FA.out 0 (.int .i64 k) rfl W R0.out
  have d0 := FB.out 0 (.int .i64 k) rfl W R0.out
  have c1 := FA.out 1 (.int .i64 0) rfl W R0.out
  have d1 := FB.out 1 (.int .i64 0) rfl W R0.out
  have c2 := FA.out 2 (.bool false) rfl W R0.out
  have d2 := FB.out 2 (.bool false) rfl W R0.out
  have c3 := FA.out 3 (.int .i64 0) rfl W R0.out
  have d3 := FB.out 3 (.int .i64 0) rfl W R0.out
  have c4 := FA.out 4 (.string ⟨#[]⟩) rfl W R0.out
  have d4 := FB.out 4 (.string ⟨#[]⟩) rfl W R0.out
  have c5 := FA.out 5 (.bool false) rfl W R0.out
  have d5 := FB.out 5 (.bool false) rfl W R0.out
  have c10 := FA.out 10 (.bool false) rfl W R0.out
  have d10 := FB.out 10 (.bool false) rfl W R0.out
  have c11 := FA.out 11 (.string ⟨#[]⟩) rfl W R0.out
  have d11 := FB.out 11 (.string ⟨#[]⟩) rfl W R0.out
  have c12 := FA.out 12 (.bool false) rfl W R0.out
  have d12 := FB.out 12 (.bool false) rfl W R0.out
  go_upto_region 3 with fail
  clear c0 d0 c1 d1 c2 d2 c3 d3 c4 d4 c5 d5 c10 d10 c11 d11 c12 d12
  have c14 := FA.out 14 (.bool false) rfl W R0.out
  have d14 := FB.out 14 (.bool false) rfl W R0.out
  have c15 := FA.out 15 (.int .i64 0) rfl W R0.out
  have d15 := FB.out 15 (.int .i64 0) rfl W R0.out
  have c16 := FA.out 16 (.bool d) rfl W R0.out
  have d16 := FB.out 16 (.bool d) rfl W R0.out
  have c21 := FA.out 21 (.int .i64 id) rfl W R0.out
  have d21 := FB.out 21 (.int .i64 id) rfl W R0.out
  have c6 := FA.out 6 (.string ⟨#[]⟩) rfl W R0.out
  have d6 := FB.out 6 (.string ⟨#[]⟩) rfl W R0.out
  have c7 := FA.out 7 (.slice none 0 0) rfl W R0.out
  have d7 := FB.out 7 (.slice none 0 0) rfl W R0.out
  have c8 := FA.out 8 (.int .i64 0) rfl W R0.out
  have d8 := FB.out 8 (.int .i64 0) rfl W R0.out
  have c9 := FA.out 9 (.bool false) rfl W R0.out
  have d9 := FB.out 9 (.bool false) rfl W R0.out
  go_wp2_with fail
  go_must (go_at_call 68)
  refine (SZ.out _ R0.out).mono ?_
  rintro e w1 ⟨rfl, hb⟩
  have B1 := hidi hb
  clear hb
  clear c14 d14 c15 d15 c16 d16 c21 d21 c6 d6 c7 d7 c8 d8 c9 d9
  have c17 := FA.out 17 (.string t) rfl w1 B1.out
  have d17 := FB.out 17 (.string t) rfl w1 B1.out
  have c18 := FA.out 18 (.slice va vn vc) rfl w1 B1.out
  have d18 := FB.out 18 (.slice va' vn' vc') rfl w1 B1.out
  have c19 := FA.out 19 (.int .i64 q) rfl w1 B1.out
  have d19 := FB.out 19 (.int .i64 q) rfl w1 B1.out
  have c20 := FA.out 20 (.bool r) rfl w1 B1.out
  have d20 := FB.out 20 (.bool r) rfl w1 B1.out
  go_wp2_with fail
  go_must (go_at_call 68)
  refine (SM.out _ B1.out).mono ?_
  rintro e w2 ⟨rfl, hb⟩
  have B2 := hidi (B1.out.trans (hb.mono B1.out.size))
  clear hb
  clear c17 d17 c18 d18 c19 d19 c20 d20
  have c13 := FA.out 13 (.slice none 0 0) rfl w2 B2.out
  have d13 := FB.out 13 (.slice none 0 0) rfl w2 B2.out
  go_wp2_with fail
  go_must (go_at_call 69)
  refine (SB.out _ B2.out).mono ?_
  rintro e w3 ⟨rfl, hb⟩
  have B3 := hidi (B2.out.trans (hb.mono B2.out.size))
  clear hb
  clear c13 d13
  have c22 := FA.out 22 (.slice none 0 0) rfl w3 B3.out
  have d22 := FB.out 22 (.slice none 0 0) rfl w3 B3.out
  have c23 := FA.out 23 (.slice none 0 0) rfl w3 B3.out
  have d23 := FB.out 23 (.slice none 0 0) rfl w3 B3.out
  have c24 := FA.out 24 (.slice none 0 0) rfl w3 B3.out
  have d24 := FB.out 24 (.slice none 0 0) rfl w3 B3.out
  have HE := hidi (BW.out _ B3.out)
  have C22 := hidi c22
  have C23 := hidi c23
  have C24 := hidi c24
  go_wp2_with fail
  clear c22 c23 c24 d22 d23 d24
  go_loopg [5] 0 (fun gg sx wx => sx = .int .i64 0 ∧ Hid (wx = w3))
  case atStart => exact ⟨rfl, rfl⟩
  case round =>
    obtain ⟨rfl, E1⟩ := hrel
    have c22 : wr.cell? ⟨w.heap.size, 22, none⟩ = some (.slice none 0 0) := by rw [E1.out]; exact C22.out
    go_wp2_with fail
    clear c22
    go_loopg [6] 0 (fun gg sx wx => sx = .int .i64 0 ∧ Hid (wx = w3))
    case atStart => exact ⟨rfl, E1.out⟩
    case round =>
      obtain ⟨rfl, E2⟩ := hrel
      have c23 : wr.cell? ⟨w.heap.size, 23, none⟩ = some (.slice none 0 0) := by rw [E2.out]; exact C23.out
      go_wp2_with fail
      clear c23
      go_loopg [7] 0 (fun gg sx wx => sx = .int .i64 0 ∧ Hid (wx = w3))
      case atStart => exact ⟨rfl, E2.out⟩
      case round =>
        obtain ⟨rfl, E3⟩ := hrel
        have c24 : wr.cell? ⟨w.heap.size, 24, none⟩ = some (.slice none 0 0) := by rw [E3.out]; exact C24.out
        go_wp2_with fail
        go_ret
        exact ⟨rfl, by rw [E3.out]; exact HE.out⟩
end Go.Proofs.YtmihpmmkkklpfaaGreatDoor
