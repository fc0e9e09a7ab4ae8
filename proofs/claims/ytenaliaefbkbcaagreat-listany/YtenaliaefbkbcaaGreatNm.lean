import Derived.Test.YtenaliaefbkbcaaGreatVe
import Derived.Test.YtenaliaefbkbcaaGreatNc
namespace Go.Proofs.YtenaliaefbkbcaaGreat.Li
open Go Go.RowKit Go.Shelf
set_option linter.unusedSimpArgs false
set_option linter.unusedVariables false
theorem rows_len {P : List Fp} {m : Nat} (h : ∀ y ∈ P, y.2.length ≤ m) : (rowsOf P).length ≤ P.length * m := by
  induction P with
  | nil => simp [rowsOf]
  | cons y r ih =>
    have h1 := h y (by simp)
    have h2 := ih (fun z hz => h z (by simp [hz]))
    simp only [rowsOf, List.flatMap_cons, List.length_append, List.length_map, List.length_cons, Nat.succ_mul] at h2 ⊢
    omega
theorem Srs.len {M : List Fl} {P : List Fp} (h : Srs M P) : P.length = M.length := by
  have := congrArg List.length h.keys
  simpa using this
theorem Srs.lens {M : List Fl} {P : List Fp} (h : Srs M P) {m : Nat} (hm : ∀ x ∈ M, x.es.length ≤ m) : ∀ y ∈ P, y.2.length ≤ m := fun y hy => by
  obtain ⟨x, h1, h2, h3, h4⟩ := h.left y hy
  rw [h3.length_eq]
  exact hm x h1
set_option maxRecDepth 100000 in
set_option maxHeartbeats 8000000 in
theorem all1_any {B0 B ob wb eb nb : Nat} {X : World} {bs sb : Nat} {v : Value} {L : List Fl} (hR : RO B ob wb eb nb [] X) (hB : B ≤ X.heap.size) (hs : SL B0 X sb v L) (hbs : X.heap[bs]? = some (.cells #[.pointer (some ⟨sb, 0, none⟩)] 25)) (hL : L.length ≤ 900) (hM : ∀ x ∈ L, x.es.length ≤ 900) (hok : ∀ x ∈ L, x.f.size ≤ 1000000) :
    Calls Tryz.prog 40 #[.func (.func 39) #[] #[.pointer (some ⟨eb, 0, none⟩), .pointer (some ⟨wb, 0, none⟩), .pointer (some ⟨ob, 0, none⟩), .pointer (some ⟨nb, 0, none⟩)], .pointer (some ⟨bs, 0, none⟩)] X fun e X' => (∃ u, e = .returned u) ∧ ∃ M P, M.Perm L ∧ ByK M ∧ Srs M P ∧ RO B ob wb eb nb (rowsOf P) X' ∧ KR B ob eb X X' := by
  have hsl : ∀ x ∈ L, ShK x.v := fun x hx => by obtain ⟨a, c, e⟩ := own_sl (hs.es x hx); exact ⟨_, _, _, e⟩
  have b0 := box_cells hbs 0 _ rfl
  have s0 := box_cells hs.at_ 0 _ rfl
  have hv : ∃ a n c, v = .slice a n c := by obtain ⟨a, c, e⟩ := own_sl hs.own; exact ⟨a, _, c, e⟩
  have VA := hidi (valuesK_any v hv X)
  have b1 : Below X.heap.size X (X.alloc (.cells #[v] 69)) := (Below.refl _ _).alloc (Nat.le_refl _) _
  have SO := hidi (sorted41_any (own_below hs.own b1) (heap_alloc_new X (.cells #[v] 69)) (by omega) (fun x hx => ⟨hok x hx, hsl x hx⟩))
  have HH := hidi (And.intro hs (And.intro hR (And.intro b1 (And.intro hL (And.intro hM hB)))))
  obtain ⟨a, n, c, rfl⟩ := hv
  clear hs hR b1 hbs hL hM hok hB hsl
  go_enter Tryz.func40, Tryz.ntmps40
  go_wp2_with fail
  go_must (go_at_call 42)
  refine VA.out.mono ?_
  rintro e w' ⟨rfl, rfl⟩
  clear VA
  go_wp2_with fail
  go_must (go_at_call 41)
  refine SO.out.mono ?_
  rintro e X1 ⟨v1, M, rfl, g1, g2, g3, g4⟩
  obtain ⟨hs, hR, b1, hL, hM, hB⟩ := HH.out
  have bX : Below X.heap.size X X1 := b1.trans (g4.mono b1.size)
  have hR1 := hR.below bX
  have hml : M.length = L.length := g1.length_eq
  have H1 := hidi (And.intro g1 (And.intro g2 (And.intro g3 (And.intro bX (And.intro hs (And.intro hR1 (And.intro hL (And.intro hM (And.intro hB hml)))))))))
  obtain ⟨a1, c1, rfl⟩ := own_sl g3
  obtain ⟨m, hm⟩ : ∃ m, m = M.length := ⟨_, rfl⟩
  rw [← hm]
  have HM := hidi hm
  have hm9 : m ≤ 900 := by omega
  clear g1 g2 g3 g4 bX hs hR b1 hL hM hB hR1 hml hm SO HH s0 b0
  go_wp2_with fail
  go_loopg [4, 6, 14, 18, 19, 20] m (fun gk s4 s6 s14 s18 s19 s20 wx => ∃ i : Nat, i + gk = m ∧ s14 = .int .i64 i ∧ Hid (∃ P, Srs (M.take i) P ∧ RO B ob wb eb nb (rowsOf P) wx ∧ KR B ob eb X1 wx))
  case atStart => exact ⟨0, by omega, rfl, [], by simpa using Srs.nil, H1.out.2.2.2.2.2.1, KR.refl _ _ _ _⟩
  case round =>
    obtain ⟨i, hi, rfl, HI⟩ := hrel
    by_cases him : i < m
    · have hlt : (i : Int) < (m : Int) := by omega
      have hge : (0 : Int) ≤ (i : Int) := by omega
      have hw1 : IntKind.i64.wrap ((i : Int) + 1) = (i : Int) + 1 := by rw [IntKind.wrap_i64]; omega
      obtain ⟨g1, g2, g3, bX, hs, hR1, hL, hM, hB, hml⟩ := H1.out
      obtain ⟨P, p1, p2, p3⟩ := HI.out
      have hiM : i < M.length := by rw [← HM.out]; exact him
      obtain ⟨x, hx⟩ : ∃ x, x = M[i] := ⟨_, rfl⟩
      have hxi : M[i]? = some x := by rw [List.getElem?_eq_getElem hiM, hx]
      have hxL : x ∈ L := (g1.mem_iff).1 (List.mem_of_getElem? hxi)
      have g3' := p3.own hR1 g3 (by decide)
      have gml : (M.map fpv).length = M.length := by simp
      obtain ⟨F, c', hv', hle, hcell⟩ := prow_cell (j := i) (by rw [gml]; exact g3') (by rw [gml]; exact hiM)
      rw [gml, ← HM.out] at hv'
      simp only [Value.slice.injEq, true_and] at hv'
      obtain ⟨hva, rfl⟩ := hv'
      subst hva
      have hc := hcell i (by rw [gml]; exact hiM)
      have hgx : (M.map fpv)[i]'(by rw [gml]; exact hiM) = fpv x := by simp [hx]
      rw [hgx] at hc
      obtain ⟨d0, d1⟩ := hc
      have hsx := p3.sl hR1 (hs.below bX)
      have hes := hsx.es x hxL
      obtain ⟨ax, cx, hvx⟩ := own_sl hes
      obtain ⟨f, es, vx⟩ := x
      simp only at hvx
      obtain ⟨mx, hmx⟩ : ∃ mx, mx = (es.map epv).length := ⟨_, rfl⟩
      rw [← hmx] at hvx
      subst hvx
      simp only [fpv] at d0 d1
      have bb : Below wr.heap.size wr (wr.alloc (.cells #[.string f, .slice ax mx cx] 76)) := (Below.refl _ _).alloc (Nat.le_refl _) _
      have xb := heap_alloc_new wr (.cells #[.string f, .slice ax mx cx] 76)
      have he9 := hM _ hxL
      have BK := hidi (byKey36_any (o := 0) (box_cells xb 1 _ rfl) (own_below hes bb) (Nat.le_trans he9 (by omega)))
      have XB := hidi xb
      obtain ⟨w2, hw2⟩ : ∃ w2, w2 = wr.alloc (.cells #[.string f, .slice ax mx cx] 76) := ⟨_, rfl⟩
      rw [← hw2] at BK XB bb
      have HB2 := hidi (And.intro bb (And.intro p1 (And.intro p2 (And.intro p3 (And.intro hxi (And.intro he9 hB))))))
      obtain ⟨bx, hbx⟩ : ∃ bx, bx = wr.heap.size := ⟨_, rfl⟩
      rw [← hbx] at BK XB
      clear g1 g2 g3 bX hs hR1 hL hM hB hml p1 p2 p3 hxL g3' gml hle hcell hgx hsx hes bb xb he9 hmx hxi hx hiM HI
      go_wp2_with fail
      rw [← hw2, ← hbx]
      clear hw2 hbx d0 d1
      go_must (go_at_call 36)
      refine BK.out.mono ?_
      rintro e w3 ⟨v3, ys, rfl, y1, y2, y3, y4⟩
      obtain ⟨a3, c3, rfl⟩ := own_sl y3
      obtain ⟨my, hmy⟩ : ∃ my, my = ys.length := ⟨_, rfl⟩
      rw [← hmy] at y3
      rw [← hmy]
      have hym : my ≤ 900 := by rw [hmy, y1.length_eq]; exact HB2.out.2.2.2.2.2.1
      have HY := hidi (And.intro y1 (And.intro y2 (And.intro y3 (And.intro y4 hmy))))
      clear y1 y2 y3 y4 hmy BK
      go_wp2_with fail
      go_loopg [6, 20] my (fun gk s6 s20 wx => ∃ j : Nat, j + gk = my ∧ s20 = .int .i64 j ∧ Hid (∃ P, Srs (M.take i) P ∧ RO B ob wb eb nb (rowsOf P ++ (ys.take j).map (fun e => (f, e))) wx ∧ KR B ob eb X1 wx ∧ KR B ob eb w3 wx))
      case atStart =>
        obtain ⟨bb, p1, p2, p3, -⟩ := HB2.out
        refine ⟨0, by omega, rfl, P, p1, ?_, p3.trans ((KR.below bb).trans (KR.below HY.out.2.2.2.1)), KR.refl _ _ _ _⟩
        simpa using (p2.below bb).below HY.out.2.2.2.1
      case round =>
        obtain ⟨j, hj, rfl, HJ⟩ := hrel
        obtain ⟨bb, -, -, -, hxi, he9, hB⟩ := HB2.out
        obtain ⟨y1, y2, y3, y4, hmy⟩ := HY.out
        obtain ⟨P', p1, p2, p3, p4⟩ := HJ.out
        by_cases hjm : j < my
        · have hltj : (j : Int) < (my : Int) := by omega
          have hgej : (0 : Int) ≤ (j : Int) := by omega
          have hwj : IntKind.i64.wrap ((j : Int) + 1) = (j : Int) + 1 := by rw [IntKind.wrap_i64]; omega
          have hjy : j < ys.length := by rw [← hmy]; exact hjm
          have hR3 := ((HB2.out.2.2.1).below bb).below y4
          have y3' := p4.own hR3 y3 (by decide)
          obtain ⟨ye, hye⟩ : ∃ ye, ys[j]? = some ye := ⟨_, List.getElem?_eq_getElem hjy⟩
          obtain ⟨gy, cy, hvy, -, hcy⟩ := ecell (by rw [← hmy]; exact y3') hjy
          rw [← hmy] at hvy
          simp only [Value.slice.injEq, true_and] at hvy
          obtain ⟨rfl, rfl⟩ := hvy
          obtain ⟨t0, t1⟩ := hcy j ye hye
          have xb3 := p4.cells hR3 (later_at XB.out y4) (by decide)
          obtain ⟨k, q⟩ := ye
          simp only at t0 t1
          have b4 : Below wr.heap.size wr (wr.alloc (.cells #[.string k, .int .i64 q] 44)) := (Below.refl _ _).alloc (Nat.le_refl _) _
          have fx := box_cells (later_at xb3 b4) 0 (.string f) rfl
          have hRl : (rowsOf P' ++ (ys.take j).map (fun e => (f, e))).length ≤ 900000 := by
            have h1 := rows_len (p1.lens (m := 900) (fun x hx => H1.out.2.2.2.2.2.2.2.1 x ((H1.out.1.mem_iff).1 (List.mem_of_mem_take hx))))
            rw [p1.len] at h1
            have h2 : (M.take i).length ≤ 900 := by rw [List.length_take]; omega
            have h3 := Nat.mul_le_mul_right 900 h2
            rw [List.length_append, List.length_map, List.length_take]
            omega
          have hBw : B ≤ (wr.alloc (.cells #[.string k, .int .i64 q] 44)).heap.size := Nat.le_trans hB (Nat.le_trans H1.out.2.2.2.1.size (Nat.le_trans p3.size b4.size))
          have R1 := hidi (rows1_any (p2.below b4) hRl hBw f k q)
          have HN := hidi (And.intro p1 (And.intro (p3.trans (KR.below b4)) (And.intro (p4.trans (KR.below b4)) hye)))
          clear bb hxi he9 hB y1 y2 y3 y4 hmy p1 p2 p3 p4 hR3 y3' hcy hye xb3 b4 hRl hBw hjy
          go_wp2_with (go_at_call 39; refine R1.out.mono ?_; rintro e w5 ⟨rfl, r1, r2⟩; have HR5 := hidi (And.intro r1 r2); clear r1 r2)
          go_roundg (my - (j + 1))
          case measure => omega
          case rel =>
            obtain ⟨p1, p3, p4, hye⟩ := HN.out
            refine ⟨j + 1, by omega, by first | rfl | simp, P', p1, ?_, p3.trans HR5.out.2, p4.trans HR5.out.2⟩
            have e1 : (ys.take (j + 1)).map (fun e => (f, e)) = (ys.take j).map (fun e => (f, e)) ++ [(f, (k, q))] := by
              rw [List.take_add_one, hye]
              simp
            rw [e1, ← List.append_assoc]
            exact HR5.out.1
        · have hltj : ¬ (j : Int) < (my : Int) := by omega
          obtain rfl : j = my := by omega
          have hw1 : IntKind.i64.wrap ((i : Int) + 1) = (i : Int) + 1 := by rw [IntKind.wrap_i64]; omega
          have e1 : ys.take j = ys := by rw [hmy]; exact List.take_length
          rw [e1] at p2
          have hsn := Srs.snoc p1 (x := ⟨f, es, .slice ax mx cx⟩) (y := (f, ys)) ⟨rfl, y1, y2⟩
          have e2 : M.take (i + 1) = M.take i ++ [⟨f, es, .slice ax mx cx⟩] := by rw [List.take_add_one, hxi]; rfl
          rw [← e2] at hsn
          have e3 : rowsOf (P' ++ [(f, ys)]) = rowsOf P' ++ ys.map (fun e => (f, e)) := by rw [rowsOf_app]; simp [rowsOf]
          rw [← e3] at p2
          have HN := hidi (And.intro hsn (And.intro p2 p3))
          clear bb hxi he9 hB y1 y2 y3 y4 hmy p1 p2 p3 p4 e1 e2 e3 hsn
          go_wp2_with fail
          go_roundg (m - (i + 1))
          case measure => omega
          case rel => exact ⟨i + 1, by omega, by first | rfl | simp, _, HN.out⟩
    · have hlt : ¬ (i : Int) < (m : Int) := by omega
      obtain rfl : i = m := by omega
      obtain ⟨g1, g2, g3, bX, -⟩ := H1.out
      obtain ⟨P, p1, p2, p3⟩ := HI.out
      have e1 : M.take i = M := by rw [HM.out]; exact List.take_length
      rw [e1] at p1
      have HN := hidi (And.intro g1 (And.intro g2 (And.intro p1 (And.intro p2 ((KR.below bX).trans p3)))))
      clear g1 g2 g3 bX p1 p2 p3 e1
      go_wp2_with fail
      go_end0
      exact ⟨⟨_, rfl⟩, M, HN.out.1, HN.out.2.1, P, HN.out.2.2⟩
theorem all_any (sb : Nat) (w : World) : Calls Tryz.prog 17 #[.pointer (some ⟨sb, 0, none⟩)] w fun e w' => e = .returned (.func (.func 40) #[] #[.pointer (some ⟨w.heap.size, 0, none⟩)]) ∧ w' = w.alloc (.cells #[.pointer (some ⟨sb, 0, none⟩)] 25) := by
  go_enter Tryz.func17, Tryz.ntmps17
  go_wp2
  go_ret
  exact ⟨rfl, rfl⟩
end Go.Proofs.YtenaliaefbkbcaaGreat.Li
namespace Go.Proofs.YtenaliaefbkbcaaGreat.Li
open Go Go.RowKit Go.Shelf
set_option linter.unusedSimpArgs false
set_option linter.unusedVariables false
theorem eqf_in (d : Nat) (fn : Fn) (a b : Array Value) (w : World) : (Op.equalIn (d + 1) 52 (.func fn a b) .nilFunc).run Tryz.prog w = .ok false w := by
  simp [Op.equalIn, run_underlying Tryz.underlying52]
theorem eqf (fn : Fn) (a b : Array Value) (w : World) : (binOp .eql 52 (.func fn a b) .nilFunc).run Tryz.prog w = .ok (.bool false) w := by
  show ((do let b ← Op.equal 52 (.func fn a b) .nilFunc; pure (Value.bool b)) : Sem Value).run Tryz.prog w = _
  have h : (Op.equal 52 (.func fn a b) .nilFunc).run Tryz.prog w = .ok false w := eqf_in 9999 fn a b w
  simp [h]
set_option maxRecDepth 100000 in
set_option maxHeartbeats 4000000 in
theorem rows_any {B0 : Nat} {w : World} {bs sb : Nat} {v : Value} {L : List Fl} (hs : SL B0 w sb v L) (hbs : w.heap[bs]? = some (.cells #[.pointer (some ⟨sb, 0, none⟩)] 25)) (hL : L.length ≤ 900) (hM : ∀ x ∈ L, x.es.length ≤ 900) (hok : ∀ x ∈ L, x.f.size ≤ 1000000) :
    Calls Tryz.prog 16 #[.func (.func 40) #[] #[.pointer (some ⟨bs, 0, none⟩)], .int .i64 (-1)] w fun e w' => ∃ v' M P, e = .returned (.tuple #[v', .bool true]) ∧ M.Perm L ∧ ByK M ∧ Srs M P ∧ w'.ownsRow w.heap.size 55 3 v' (rowsOf P).length (rrow (rowsOf P)) ∧ Below w.heap.size w w' := by
  obtain ⟨w1, hw1⟩ : ∃ w1, w1 = w.alloc (.cells #[.int .i64 (-1)] 3) := ⟨_, rfl⟩
  obtain ⟨w2, hw2⟩ : ∃ w2, w2 = w1.alloc (.cells #[.slice none 0 0] 48) := ⟨_, rfl⟩
  obtain ⟨w3, hw3⟩ : ∃ w3, w3 = w2.alloc (.cells #[.bool true] 4) := ⟨_, rfl⟩
  obtain ⟨w4, hw4⟩ : ∃ w4, w4 = w3.alloc (.cells #[.bool false] 4) := ⟨_, rfl⟩
  have z1 : w1.heap.size = w.heap.size + 1 := by rw [hw1]; exact size_alloc _ _
  have z2 : w2.heap.size = w1.heap.size + 1 := by rw [hw2, size_alloc]
  have z3 : w3.heap.size = w2.heap.size + 1 := by rw [hw3, size_alloc]
  have z4 : w4.heap.size = w3.heap.size + 1 := by rw [hw4, size_alloc]
  have y4 : w4.heap[w2.heap.size + 1]? = some (.cells #[.bool false] 4 (0, 0)) := by rw [hw4, ← z3, heap_alloc_new]
  have y3 : w4.heap[w2.heap.size]? = some (.cells #[.bool true] 4 (0, 0)) := by rw [hw4, heap_alloc_old _ _ (by omega), hw3, heap_alloc_new]
  have y2 : w4.heap[w1.heap.size]? = some (.cells #[.slice none 0 0] 48 (0, 0)) := by rw [hw4, heap_alloc_old _ _ (by omega), hw3, heap_alloc_old _ _ (by omega), hw2, heap_alloc_new]
  have y1 : w4.heap[w.heap.size]? = some (.cells #[.int .i64 (-1)] 3 (0, 0)) := by rw [hw4, heap_alloc_old _ _ (by omega), hw3, heap_alloc_old _ _ (by omega), hw2, heap_alloc_old _ _ (by omega), hw1, heap_alloc_new]
  have b4 : Below w.heap.size w w4 := by
    rw [hw4, hw3, hw2, hw1]
    exact ((((Below.refl _ _).alloc (Nat.le_refl _) _).alloc (by rw [size_alloc]; omega) _).alloc (by rw [size_alloc, size_alloc]; omega) _).alloc (by rw [size_alloc, size_alloc, size_alloc]; omega) _
  have hR : RO w.heap.size w1.heap.size w2.heap.size (w2.heap.size + 1) w.heap.size [] w4 := ⟨⟨_, y2, World.ownsRow_nil _ _ _ _⟩, y3, y4, y1, by omega, by omega⟩
  have A := hidi (all1_any hR b4.size (hs.below b4) (later_at hbs b4) hL hM hok)
  have HB := hidi b4
  have n1 := box_cells (show w1.heap[w.heap.size]? = some (.cells #[.int .i64 (-1)] 3 (0, 0)) by rw [hw1, heap_alloc_new]) 0 (.int .i64 (-1)) rfl
  rw [hw4, hw3] at A HB
  have HW := hidi (And.intro hw1 hw2)
  clear hs hbs hL hM hok b4 hR hw1 hw2 hw3 hw4 z1 z2 z3 z4 y1 y2 y3 y4
  go_enter Tryz.func16, Tryz.ntmps16
  go_upto_region 1 with fail
  rw [← HW.out.1]
  have hef := eqf (.func 40) #[] #[.pointer (some ⟨bs, 0, none⟩)] w1
  go_upto_region 6 with fail
  clear hef
  rw [← HW.out.2]
  go_wp2_with (go_at_call 40; refine A.out.mono ?_; rintro e w7 ⟨⟨u, rfl⟩, M, P, h1, h2, h3, h4, h5⟩; obtain ⟨v7, o1, o2⟩ := h4.out; have p1 := box_cells o1 0 v7 rfl; have p2 := box_cells h4.well 0 (.bool true) rfl; have HF := hidi (And.intro h1 (And.intro h2 (And.intro h3 (And.intro o2 (HB.out.trans (h5.bel HB.out.size)))))); clear h1 h2 h3 h4 h5 o1 o2)
  obtain ⟨a7, c7, hv7⟩ := own_sl HF.out.2.2.2.1
  obtain ⟨n7, hn7⟩ : ∃ n7, n7 = (rowsOf P).length := ⟨_, rfl⟩
  rw [← hn7] at hv7
  subst hv7
  have HN7 := hidi hn7
  clear hn7
  go_quiet (fail)
  have bq : Below w7.heap.size w7 (w7.drewN nq) := below_drewN (Below.refl _ _)
  have HQ := hidi bq
  clear bq
  go_wp2_with fail
  go_ret2
  obtain ⟨h1, h2, h3, h4, h5⟩ := HF.out
  exact ⟨_, M, P, rfl, h1, h2, h3, own_below h4 HQ.out, h5.trans (HQ.out.mono h5.size)⟩
end Go.Proofs.YtenaliaefbkbcaaGreat.Li
namespace Go.Proofs.YtenaliaefbkbcaaGreat.Li
open Go Go.RowKit
set_option linter.unusedSimpArgs false
set_option linter.unusedVariables false
set_option maxRecDepth 100000 in
set_option maxHeartbeats 2000000 in
theorem same_any {w : World} {ga gb ca cb n : Nat} {xs : List En} (hn : n = xs.length) (hm : n ≤ 1000) (ha : ∀ i (hi : i < xs.length), w.cell? ⟨ga, i * 2, none⟩ = some (.string xs[i].1) ∧ w.cell? ⟨ga, i * 2 + 1, none⟩ = some (.int .i64 xs[i].2)) (hb : ∀ i (hi : i < xs.length), w.cell? ⟨gb, i * 2, none⟩ = some (.string xs[i].1) ∧ w.cell? ⟨gb, i * 2 + 1, none⟩ = some (.int .i64 xs[i].2)) :
    Calls Tryz.prog 12 #[.slice (some ⟨ga, 0, none⟩) n ca, .slice (some ⟨gb, 0, none⟩) n cb] w fun e w' => e = .returned (.bool true) ∧ Below w.heap.size w w' := by
  have HA := hidi (And.intro ha (And.intro hb (And.intro hn hm)))
  clear ha hb hn hm
  go_enter Tryz.func12, Tryz.ntmps12
  go_wp2_with fail
  go_loopg [5] n (fun gk s5 wx => ∃ i : Nat, i + gk = n ∧ s5 = .int .i64 i ∧ Hid (Below w.heap.size w wx))
  case atStart => exact ⟨0, by omega, rfl, Below.refl _ _⟩
  case round =>
    obtain ⟨i, hi, rfl, HI⟩ := hrel
    by_cases hin : i < n
    · have hlt : (i : Int) < (n : Int) := by omega
      have hge : (0 : Int) ≤ (i : Int) := by omega
      obtain ⟨ha, hb, hn, hm⟩ := HA.out
      have hil : i < xs.length := by omega
      have hw1 : IntKind.i64.wrap ((i : Int) + 1) = (i : Int) + 1 := by rw [IntKind.wrap_i64]; omega
      obtain ⟨x, hx⟩ : ∃ x, x = xs[i] := ⟨_, rfl⟩
      have t0 := (ha i hil).1
      have t1 := (ha i hil).2
      have u0 := (hb i hil).1
      have u1 := (hb i hil).2
      rw [← hx] at t0 t1 u0 u1
      have d0 := (HI.out.cell (p := ⟨ga, i * 2, none⟩) (World.block_lt_of_cell? _ _ t0)).trans t0
      have d1 := (HI.out.cell (p := ⟨ga, i * 2 + 1, none⟩) (World.block_lt_of_cell? _ _ t1)).trans t1
      have d2 := (HI.out.cell (p := ⟨gb, i * 2, none⟩) (World.block_lt_of_cell? _ _ u0)).trans u0
      have d3 := (HI.out.cell (p := ⟨gb, i * 2 + 1, none⟩) (World.block_lt_of_cell? _ _ u1)).trans u1
      clear hx ha hb hn hm t0 t1 u0 u1
      obtain ⟨x1, x2⟩ := x
      simp only at d0 d1 d2 d3
      have hqq : (x2 != x2) = false := by simp
      have hxx : (x1.toList == x1.toList) = true := by simp
      go_wp2_with fail
      go_quiet (fail)
      have HB1 := hidi (below_drewN HI.out (m := nq))
      go_wp2_with fail
      go_roundg (n - (i + 1))
      case measure => omega
      case rel => exact ⟨i + 1, by omega, by first | rfl | simp, HB1.out⟩
    · have hlt : ¬ (i : Int) < (n : Int) := by omega
      go_wp2_with fail
      go_ret
      exact ⟨rfl, HI.out⟩
end Go.Proofs.YtenaliaefbkbcaaGreat.Li
