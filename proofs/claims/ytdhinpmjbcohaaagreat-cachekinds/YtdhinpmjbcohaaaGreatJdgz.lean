import Derived.Test.YtdhinpmjbcohaaaGreatQsQ
import Derived.Test.YtdhinpmjbcohaaaGreatKcD
import Derived.Test.YtdhinpmjbcohaaaGreatQyQ
import Derived.Test.YtdhinpmjbcohaaaGreatKdS
import Derived.Deep.RegionHeldLaw
namespace Go.Proofs.YtdhinpmjbcohaaaGreat.Jd
open Go Go.RowKit Go.Shelf
set_option linter.unusedSimpArgs false
set_option linter.unusedVariables false
set_option maxRecDepth 100000
set_option maxHeartbeats 4000000
theorem cell_lt' {w : World} {a : Addr} {v : Value} (h : w.cell? a = some v) : a.block < w.heap.size := by
 unfold World.cell? at h
 rcases hb : w.heap[a.block]? with _ | ob
 ·
  simp [hb] at h
 ·
  exact (Array.getElem?_eq_some_iff.1 hb).1
open Rf (e2 e2_len e2_app e2_one ER own_er own_shape app_many addr0)

theorem step_append_run {P : Program} {ops : Array Oper} {o : Oper} {a : Act} {w : World} {K : Act → World → Prop} {Q : Exit → Act → World → Prop} {E : Prop} (hg : o.guard = none) (s x : Operand) (t tx : TypeId)
  (hop : o.op = Op.call { callee := Callee.builtin Builtin.append, args := #[s, x], argTypes := #[t, tx] }) (vs vx : Value) (hs : a.eval s = vs) (hx : a.eval x = vx) (v : Value) (w' : World)
  (hrun : (Builtin.append_ #[t, tx] o.type #[vs, vx]).run P w = .ok v w') (hK : K (a.put o.dst v) w') : if Region.wanted o (yielded ops a.tmps) = true then Oper.wp P o a w K Q else E := by
 have hw : Region.wanted o (yielded ops a.tmps) = true := by simp [Region.wanted, hg]
 rw [if_pos hw]
 unfold Oper.wp
 simp [execOp, hop, resolve, invoke, builtin, hs, hx, hrun, Result.andThen]
 exact hK
theorem given1_walk {W w9 : World} {eb wb ob pb nb kb vb nl ca kn vn : Nat} {va : Option Addr} {v : Value} {k : Bool} {x n : Int} (hnl : nl ≤ 1000000)
  (c0 : W.cell? ⟨eb, 0, none⟩ = some (.bool false)) (c2 : W.cell? ⟨ob, 0, none⟩ = some v) (c3 : W.cell? ⟨pb, 2, none⟩ = some (pt kb)) (c4 : W.cell? ⟨pb, 3, none⟩ = some (pt vb))
  (h27 : Calls Tryz.prog 42 #[pt kb, .bool k] W.drew fun r w' => r = .returned (.int .i64 kn) ∧ w' = W.drew) (h28 : Calls Tryz.prog 49 #[pt vb, .int .u8 x] W.drew fun r w' => r = .returned (.int .i64 vn) ∧ w' = W.drew)
  (hr : (Builtin.append_ #[90, 90] 90 #[v, .slice (some ⟨W.heap.size, 0, none⟩) 1 1]).run Tryz.prog (W.drew.alloc (.cells #[.int .i64 kn, .int .i64 vn] 120)) = .ok (.slice va nl ca) w9)
  (d2 : w9.cell? ⟨ob, 0, none⟩ = some v) (d3 : w9.cell? ⟨pb, 2, none⟩ = some (pt kb)) (d4 : w9.cell? ⟨pb, 3, none⟩ = some (pt vb)) (f2 : w9.frozen? ⟨ob, 0, none⟩ = false)
  (e0 : (w9.setCell ⟨ob, 0, none⟩ (.slice va nl ca)).cell? ⟨eb, 0, none⟩ = some (.bool false)) (e1 : (w9.setCell ⟨ob, 0, none⟩ (.slice va nl ca)).cell? ⟨nb, 0, none⟩ = some (.int .i64 n)) (e2' : (w9.setCell ⟨ob, 0, none⟩ (.slice va nl ca)).frozen? ⟨eb, 0, none⟩ = false) (z3 : (w9.setCell ⟨ob, 0, none⟩ (.slice va nl ca)).cell? ⟨pb, 2, none⟩ = some (pt kb)) (z4 : (w9.setCell ⟨ob, 0, none⟩ (.slice va nl ca)).cell? ⟨pb, 3, none⟩ = some (pt vb)) :
  Calls Tryz.prog 94 #[.bool k, .int .u8 x, pt eb, pt wb, pt ob, pt pb, pt nb] W fun r w' => r = .returned (.bool (!((nl : Int) == n))) ∧ w' = (w9.setCell ⟨ob, 0, none⟩ (.slice va nl ca)).setCell ⟨eb, 0, none⟩ (.bool ((nl : Int) == n)) := by
 have H27 : Hid (Calls Tryz.prog 42 #[pt kb, .bool k] W.drew fun r w' => r = .returned (.int .i64 kn) ∧ w' = W.drew) := h27
 have H28 : Hid (Calls Tryz.prog 49 #[pt vb, .int .u8 x] W.drew fun r w' => r = .returned (.int .i64 vn) ∧ w' = W.drew) := h28
 have HR : Hid ((Builtin.append_ #[90, 90] 90 #[v, .slice (some ⟨W.heap.size, 0, none⟩) 1 1]).run Tryz.prog (W.drew.alloc (.cells #[.int .i64 kn, .int .i64 vn] 120)) = .ok (.slice va nl ca) w9) := hr
 have hb90 : ∀ w', (Instr.build 120 #[(0, .int .i64 kn), (1, .int .i64 vn)]).run Tryz.prog w' = .ok (.agg #[.int .i64 kn, .int .i64 vn]) w' := fun w' => run_build w' 120 _ _ (by kernel_rfl)
 have a0 : (w9.setCell ⟨ob, 0, none⟩ (.slice va nl ca)).cell? ⟨ob, 0, none⟩ = some (.slice va nl ca) := World.cell?_setCell_same _ _ _ d2
 clear h27 h28 hr
 unfold pt at *
 go_enter Tryz.func94, Tryz.ntmps94
 go_wp2_with fail
 have y3 : W.drew.cell? ⟨pb, 2, none⟩ = some (.pointer (some ⟨kb, 0, none⟩)) := c3
 have y4 : W.drew.cell? ⟨pb, 3, none⟩ = some (.pointer (some ⟨vb, 0, none⟩)) := c4
 have hpl : pb < W.heap.size := cell_lt' c3
 have hol : ob < W.heap.size := cell_lt' c2
 have x2 : (W.drew.alloc (.cells #[.int .i64 kn, .int .i64 vn] 120)).cell? ⟨ob, 0, none⟩ = some v := by rw [World.cell?_alloc_lt]; exact c2; exact hol
 have x3 : (W.drew.alloc (.cells #[.int .i64 kn, .int .i64 vn] 120)).cell? ⟨pb, 2, none⟩ = some (.pointer (some ⟨kb, 0, none⟩)) := by rw [World.cell?_alloc_lt]; exact c3; exact hpl
 have x4 : (W.drew.alloc (.cells #[.int .i64 kn, .int .i64 vn] 120)).cell? ⟨pb, 3, none⟩ = some (.pointer (some ⟨vb, 0, none⟩)) := by rw [World.cell?_alloc_lt]; exact c4; exact hpl
 have x5 : (W.alloc (.cells #[.int .i64 kn, .int .i64 vn] 120)).drew.cell? ⟨ob, 0, none⟩ = some v := x2
 have x6 : (W.alloc (.cells #[.int .i64 kn, .int .i64 vn] 120)).cell? ⟨ob, 0, none⟩ = some v := x2
 clear hpl hol
 have hmx : Tryz.prog.follows .mixedOrders = true := by kernel_rfl
 refine wp_region_any hmx ?_
 change wpAny _ _ _ _ 13 #[false, false, false, false, false, false, false, false, false, false, false, false, false] _ (World.drew _)
 refine wpAny_take (i := 1) (v := .pointer (some ⟨pb, 2, none⟩)) rfl (by kernel_rfl) (by kernel_rfl) (by kernel_rfl) (fun _ _ _ h => h) (Or.inl ⟨by rfl, by intro wq; go_simp⟩) ?_
 simp only [Act.put, nrA, nrB, nrC]
 refine wpAny_take (i := 3) (v := .bool k) rfl (by kernel_rfl) (by kernel_rfl) (by kernel_rfl) (fun _ _ _ h => h) (Or.inl ⟨by rfl, by intro wq; go_simp⟩) ?_
 simp only [Act.put, nrA, nrB, nrC]
 refine wpAny_take (i := 5) (v := .pointer (some ⟨pb, 3, none⟩)) rfl (by kernel_rfl) (by kernel_rfl) (by kernel_rfl) (fun _ _ _ h => h) (Or.inl ⟨by rfl, by intro wq; go_simp⟩) ?_
 simp only [Act.put, nrA, nrB, nrC]
 refine wpAny_take (i := 7) (v := .int .u8 x) rfl (by kernel_rfl) (by kernel_rfl) (by kernel_rfl) (fun _ _ _ h => h) (Or.inl ⟨by rfl, by intro wq; go_simp⟩) ?_
 simp only [Act.put, nrA, nrB, nrC]
 refine wpAny_ready (rs := [0, 2, 6]) (by kernel_rfl) (by simp) ?_
 refine (AllReady.cons rfl (fun K hK => ?h0x) (AllReady.cons rfl (fun K hK => ?h1x) (AllReady.cons rfl (fun K hK => ?h2x) AllReady.nil)))
 case' h0x =>
  go_simp
  refine hK _ _ ?_
  clear hK K
  simp only [Act.put, nrA, nrB, nrC]
  refine wpAny_ready (rs := [2, 6]) (by kernel_rfl) (by simp) ?_
  refine (AllReady.cons rfl (fun K hK => ?h3x) (AllReady.cons rfl (fun K hK => ?h4x) AllReady.nil))
  case' h3x =>
   go_simp
   refine hK _ _ ?_
   clear hK K
   simp only [Act.put, nrA, nrB, nrC]
   refine wpAny_ready (rs := [4, 6]) (by kernel_rfl) (by simp) ?_
   refine (AllReady.cons rfl (fun K hK => ?h5x) (AllReady.cons rfl (fun K hK => ?h6x) AllReady.nil))
   case' h5x =>
    go_simp
    refine (H27.out).mono ?_
    rintro e w' ⟨rfl, he⟩
    obtain rfl := he.symm
    clear he
    refine hK _ _ ?_
    clear hK K
    simp only [Act.put, nrA, nrB, nrC]
    refine wpAny_ready (rs := [6]) (by kernel_rfl) (by simp) ?_
    refine (AllReady.cons rfl (fun K hK => ?_) AllReady.nil)
    go_simp
    refine hK _ _ ?_
    clear hK K
    simp only [Act.put, nrA, nrB, nrC]
    refine wpAny_ready (rs := [8]) (by kernel_rfl) (by simp) ?_
    refine (AllReady.cons rfl (fun K hK => ?_) AllReady.nil)
    go_simp
    refine (H28.out).mono ?_
    rintro e w' ⟨rfl, he⟩
    obtain rfl := he.symm
    clear he
    refine hK _ _ ?_
    clear hK K
    simp only [Act.put, nrA, nrB, nrC]
   case' h6x =>
    go_simp
    refine hK _ _ ?_
    clear hK K
    simp only [Act.put, nrA, nrB, nrC]
    refine wpAny_ready (rs := [4]) (by kernel_rfl) (by simp) ?_
    refine (AllReady.cons rfl (fun K hK => ?_) AllReady.nil)
    go_simp
    refine (H27.out).mono ?_
    rintro e w' ⟨rfl, he⟩
    obtain rfl := he.symm
    clear he
    refine hK _ _ ?_
    clear hK K
    simp only [Act.put, nrA, nrB, nrC]
    refine wpAny_ready (rs := [8]) (by kernel_rfl) (by simp) ?_
    refine (AllReady.cons rfl (fun K hK => ?_) AllReady.nil)
    go_simp
    refine (H28.out).mono ?_
    rintro e w' ⟨rfl, he⟩
    obtain rfl := he.symm
    clear he
    refine hK _ _ ?_
    clear hK K
    simp only [Act.put, nrA, nrB, nrC]
  case' h4x =>
   go_simp
   refine hK _ _ ?_
   clear hK K
   simp only [Act.put, nrA, nrB, nrC]
   refine wpAny_ready (rs := [2]) (by kernel_rfl) (by simp) ?_
   refine (AllReady.cons rfl (fun K hK => ?_) AllReady.nil)
   go_simp
   refine hK _ _ ?_
   clear hK K
   simp only [Act.put, nrA, nrB, nrC]
   refine wpAny_ready (rs := [4]) (by kernel_rfl) (by simp) ?_
   refine (AllReady.cons rfl (fun K hK => ?_) AllReady.nil)
   go_simp
   refine (H27.out).mono ?_
   rintro e w' ⟨rfl, he⟩
   obtain rfl := he.symm
   clear he
   refine hK _ _ ?_
   clear hK K
   simp only [Act.put, nrA, nrB, nrC]
   refine wpAny_ready (rs := [8]) (by kernel_rfl) (by simp) ?_
   refine (AllReady.cons rfl (fun K hK => ?_) AllReady.nil)
   go_simp
   refine (H28.out).mono ?_
   rintro e w' ⟨rfl, he⟩
   obtain rfl := he.symm
   clear he
   refine hK _ _ ?_
   clear hK K
   simp only [Act.put, nrA, nrB, nrC]
 case' h1x =>
  go_simp
  refine hK _ _ ?_
  clear hK K
  simp only [Act.put, nrA, nrB, nrC]
  refine wpAny_ready (rs := [0, 4, 6]) (by kernel_rfl) (by simp) ?_
  refine (AllReady.cons rfl (fun K hK => ?h7x) (AllReady.cons rfl (fun K hK => ?h8x) (AllReady.cons rfl (fun K hK => ?h9x) AllReady.nil)))
  case' h7x =>
   go_simp
   refine hK _ _ ?_
   clear hK K
   simp only [Act.put, nrA, nrB, nrC]
   refine wpAny_ready (rs := [4, 6]) (by kernel_rfl) (by simp) ?_
   refine (AllReady.cons rfl (fun K hK => ?h10x) (AllReady.cons rfl (fun K hK => ?h11x) AllReady.nil))
   case' h10x =>
    go_simp
    refine (H27.out).mono ?_
    rintro e w' ⟨rfl, he⟩
    obtain rfl := he.symm
    clear he
    refine hK _ _ ?_
    clear hK K
    simp only [Act.put, nrA, nrB, nrC]
    refine wpAny_ready (rs := [6]) (by kernel_rfl) (by simp) ?_
    refine (AllReady.cons rfl (fun K hK => ?_) AllReady.nil)
    go_simp
    refine hK _ _ ?_
    clear hK K
    simp only [Act.put, nrA, nrB, nrC]
    refine wpAny_ready (rs := [8]) (by kernel_rfl) (by simp) ?_
    refine (AllReady.cons rfl (fun K hK => ?_) AllReady.nil)
    go_simp
    refine (H28.out).mono ?_
    rintro e w' ⟨rfl, he⟩
    obtain rfl := he.symm
    clear he
    refine hK _ _ ?_
    clear hK K
    simp only [Act.put, nrA, nrB, nrC]
   case' h11x =>
    go_simp
    refine hK _ _ ?_
    clear hK K
    simp only [Act.put, nrA, nrB, nrC]
    refine wpAny_ready (rs := [4]) (by kernel_rfl) (by simp) ?_
    refine (AllReady.cons rfl (fun K hK => ?_) AllReady.nil)
    go_simp
    refine (H27.out).mono ?_
    rintro e w' ⟨rfl, he⟩
    obtain rfl := he.symm
    clear he
    refine hK _ _ ?_
    clear hK K
    simp only [Act.put, nrA, nrB, nrC]
    refine wpAny_ready (rs := [8]) (by kernel_rfl) (by simp) ?_
    refine (AllReady.cons rfl (fun K hK => ?_) AllReady.nil)
    go_simp
    refine (H28.out).mono ?_
    rintro e w' ⟨rfl, he⟩
    obtain rfl := he.symm
    clear he
    refine hK _ _ ?_
    clear hK K
    simp only [Act.put, nrA, nrB, nrC]
  case' h8x =>
   go_simp
   refine (H27.out).mono ?_
   rintro e w' ⟨rfl, he⟩
   obtain rfl := he.symm
   clear he
   refine hK _ _ ?_
   clear hK K
   simp only [Act.put, nrA, nrB, nrC]
   refine wpAny_ready (rs := [0, 6]) (by kernel_rfl) (by simp) ?_
   refine (AllReady.cons rfl (fun K hK => ?h12x) (AllReady.cons rfl (fun K hK => ?h13x) AllReady.nil))
   case' h12x =>
    go_simp
    refine hK _ _ ?_
    clear hK K
    simp only [Act.put, nrA, nrB, nrC]
    refine wpAny_ready (rs := [6]) (by kernel_rfl) (by simp) ?_
    refine (AllReady.cons rfl (fun K hK => ?_) AllReady.nil)
    go_simp
    refine hK _ _ ?_
    clear hK K
    simp only [Act.put, nrA, nrB, nrC]
    refine wpAny_ready (rs := [8]) (by kernel_rfl) (by simp) ?_
    refine (AllReady.cons rfl (fun K hK => ?_) AllReady.nil)
    go_simp
    refine (H28.out).mono ?_
    rintro e w' ⟨rfl, he⟩
    obtain rfl := he.symm
    clear he
    refine hK _ _ ?_
    clear hK K
    simp only [Act.put, nrA, nrB, nrC]
   case' h13x =>
    go_simp
    refine hK _ _ ?_
    clear hK K
    simp only [Act.put, nrA, nrB, nrC]
    refine wpAny_ready (rs := [0, 8]) (by kernel_rfl) (by simp) ?_
    refine (AllReady.cons rfl (fun K hK => ?h14x) (AllReady.cons rfl (fun K hK => ?h15x) AllReady.nil))
    case' h14x =>
     go_simp
     refine hK _ _ ?_
     clear hK K
     simp only [Act.put, nrA, nrB, nrC]
     refine wpAny_ready (rs := [8]) (by kernel_rfl) (by simp) ?_
     refine (AllReady.cons rfl (fun K hK => ?_) AllReady.nil)
     go_simp
     refine (H28.out).mono ?_
     rintro e w' ⟨rfl, he⟩
     obtain rfl := he.symm
     clear he
     refine hK _ _ ?_
     clear hK K
     simp only [Act.put, nrA, nrB, nrC]
    case' h15x =>
     go_simp
     refine (H28.out).mono ?_
     rintro e w' ⟨rfl, he⟩
     obtain rfl := he.symm
     clear he
     refine hK _ _ ?_
     clear hK K
     simp only [Act.put, nrA, nrB, nrC]
     refine wpAny_ready (rs := [0, 9]) (by kernel_rfl) (by simp) ?_
     refine (AllReady.cons rfl (fun K hK => ?h16x) (AllReady.cons rfl (fun K hK => ?h17x) AllReady.nil))
     case' h16x =>
      go_simp
      refine hK _ _ ?_
      clear hK K
      simp only [Act.put, nrA, nrB, nrC]
     case' h17x =>
      go_simp
      refine hK _ _ ?_
      clear hK K
      simp only [Act.put, nrA, nrB, nrC]
      refine wpAny_ready (rs := [0, 10]) (by kernel_rfl) (by simp) ?_
      refine (AllReady.cons rfl (fun K hK => ?h18x) (AllReady.cons rfl (fun K hK => ?h19x) AllReady.nil))
      case' h18x =>
       go_simp
       refine hK _ _ ?_
       clear hK K
       simp only [Act.put, nrA, nrB, nrC]
       refine wpAny_ready (rs := [10]) (by kernel_rfl) (by simp) ?_
       refine (AllReady.cons rfl (fun K hK => ?_) AllReady.nil)
       go_simp
       refine hK _ _ ?_
       clear hK K
       simp only [Act.put, nrA, nrB, nrC]
       refine wpAny_ready (rs := [11]) (by kernel_rfl) (by simp) ?_
       refine (AllReady.cons rfl (fun K hK => ?_) AllReady.nil)
       refine step_append_run rfl (.tmp 11) (.tmp 21) 90 90 rfl _ _ rfl rfl _ _ HR.out ?_
       refine hK _ _ ?_
       clear hK K
       simp only [Act.put, nrA, nrB, nrC]
       refine wpAny_ready (rs := [12]) (by kernel_rfl) (by simp) ?_
       refine (AllReady.cons rfl (fun K hK => ?_) AllReady.nil)
       go_simp
       refine hK _ _ ?_
       clear hK K
       simp only [Act.put, nrA, nrB, nrC]
       refine wpAny_done (by kernel_rfl) ?_ _
       go_wp2_with fail
       go_ret
       exact ⟨rfl, rfl⟩
      case' h19x =>
       go_simp
       refine hK _ _ ?_
       clear hK K
       simp only [Act.put, nrA, nrB, nrC]
       refine wpAny_ready (rs := [0]) (by kernel_rfl) (by simp) ?_
       refine (AllReady.cons rfl (fun K hK => ?_) AllReady.nil)
       go_simp
       refine hK _ _ ?_
       clear hK K
       simp only [Act.put, nrA, nrB, nrC]
       refine wpAny_ready (rs := [11]) (by kernel_rfl) (by simp) ?_
       refine (AllReady.cons rfl (fun K hK => ?_) AllReady.nil)
       refine step_append_run rfl (.tmp 11) (.tmp 21) 90 90 rfl _ _ rfl rfl _ _ HR.out ?_
       refine hK _ _ ?_
       clear hK K
       simp only [Act.put, nrA, nrB, nrC]
       refine wpAny_ready (rs := [12]) (by kernel_rfl) (by simp) ?_
       refine (AllReady.cons rfl (fun K hK => ?_) AllReady.nil)
       go_simp
       refine hK _ _ ?_
       clear hK K
       simp only [Act.put, nrA, nrB, nrC]
       refine wpAny_done (by kernel_rfl) ?_ _
       go_wp2_with fail
       go_ret
       exact ⟨rfl, rfl⟩
  case' h9x =>
   go_simp
   refine hK _ _ ?_
   clear hK K
   simp only [Act.put, nrA, nrB, nrC]
   refine wpAny_ready (rs := [0, 4]) (by kernel_rfl) (by simp) ?_
   refine (AllReady.cons rfl (fun K hK => ?h20x) (AllReady.cons rfl (fun K hK => ?h21x) AllReady.nil))
   case' h20x =>
    go_simp
    refine hK _ _ ?_
    clear hK K
    simp only [Act.put, nrA, nrB, nrC]
    refine wpAny_ready (rs := [4]) (by kernel_rfl) (by simp) ?_
    refine (AllReady.cons rfl (fun K hK => ?_) AllReady.nil)
    go_simp
    refine (H27.out).mono ?_
    rintro e w' ⟨rfl, he⟩
    obtain rfl := he.symm
    clear he
    refine hK _ _ ?_
    clear hK K
    simp only [Act.put, nrA, nrB, nrC]
    refine wpAny_ready (rs := [8]) (by kernel_rfl) (by simp) ?_
    refine (AllReady.cons rfl (fun K hK => ?_) AllReady.nil)
    go_simp
    refine (H28.out).mono ?_
    rintro e w' ⟨rfl, he⟩
    obtain rfl := he.symm
    clear he
    refine hK _ _ ?_
    clear hK K
    simp only [Act.put, nrA, nrB, nrC]
   case' h21x =>
    go_simp
    refine (H27.out).mono ?_
    rintro e w' ⟨rfl, he⟩
    obtain rfl := he.symm
    clear he
    refine hK _ _ ?_
    clear hK K
    simp only [Act.put, nrA, nrB, nrC]
    refine wpAny_ready (rs := [0, 8]) (by kernel_rfl) (by simp) ?_
    refine (AllReady.cons rfl (fun K hK => ?h22x) (AllReady.cons rfl (fun K hK => ?h23x) AllReady.nil))
    case' h22x =>
     go_simp
     refine hK _ _ ?_
     clear hK K
     simp only [Act.put, nrA, nrB, nrC]
     refine wpAny_ready (rs := [8]) (by kernel_rfl) (by simp) ?_
     refine (AllReady.cons rfl (fun K hK => ?_) AllReady.nil)
     go_simp
     refine (H28.out).mono ?_
     rintro e w' ⟨rfl, he⟩
     obtain rfl := he.symm
     clear he
     refine hK _ _ ?_
     clear hK K
     simp only [Act.put, nrA, nrB, nrC]
    case' h23x =>
     go_simp
     refine (H28.out).mono ?_
     rintro e w' ⟨rfl, he⟩
     obtain rfl := he.symm
     clear he
     refine hK _ _ ?_
     clear hK K
     simp only [Act.put, nrA, nrB, nrC]
     refine wpAny_ready (rs := [0, 9]) (by kernel_rfl) (by simp) ?_
     refine (AllReady.cons rfl (fun K hK => ?h24x) (AllReady.cons rfl (fun K hK => ?h25x) AllReady.nil))
     case' h24x =>
      go_simp
      refine hK _ _ ?_
      clear hK K
      simp only [Act.put, nrA, nrB, nrC]
     case' h25x =>
      go_simp
      refine hK _ _ ?_
      clear hK K
      simp only [Act.put, nrA, nrB, nrC]
      refine wpAny_ready (rs := [0, 10]) (by kernel_rfl) (by simp) ?_
      refine (AllReady.cons rfl (fun K hK => ?h26x) (AllReady.cons rfl (fun K hK => ?h27x) AllReady.nil))
      case' h26x =>
       go_simp
       refine hK _ _ ?_
       clear hK K
       simp only [Act.put, nrA, nrB, nrC]
       refine wpAny_ready (rs := [10]) (by kernel_rfl) (by simp) ?_
       refine (AllReady.cons rfl (fun K hK => ?_) AllReady.nil)
       go_simp
       refine hK _ _ ?_
       clear hK K
       simp only [Act.put, nrA, nrB, nrC]
       refine wpAny_ready (rs := [11]) (by kernel_rfl) (by simp) ?_
       refine (AllReady.cons rfl (fun K hK => ?_) AllReady.nil)
       refine step_append_run rfl (.tmp 11) (.tmp 21) 90 90 rfl _ _ rfl rfl _ _ HR.out ?_
       refine hK _ _ ?_
       clear hK K
       simp only [Act.put, nrA, nrB, nrC]
       refine wpAny_ready (rs := [12]) (by kernel_rfl) (by simp) ?_
       refine (AllReady.cons rfl (fun K hK => ?_) AllReady.nil)
       go_simp
       refine hK _ _ ?_
       clear hK K
       simp only [Act.put, nrA, nrB, nrC]
       refine wpAny_done (by kernel_rfl) ?_ _
       go_wp2_with fail
       go_ret
       exact ⟨rfl, rfl⟩
      case' h27x =>
       go_simp
       refine hK _ _ ?_
       clear hK K
       simp only [Act.put, nrA, nrB, nrC]
       refine wpAny_ready (rs := [0]) (by kernel_rfl) (by simp) ?_
       refine (AllReady.cons rfl (fun K hK => ?_) AllReady.nil)
       go_simp
       refine hK _ _ ?_
       clear hK K
       simp only [Act.put, nrA, nrB, nrC]
       refine wpAny_ready (rs := [11]) (by kernel_rfl) (by simp) ?_
       refine (AllReady.cons rfl (fun K hK => ?_) AllReady.nil)
       refine step_append_run rfl (.tmp 11) (.tmp 21) 90 90 rfl _ _ rfl rfl _ _ HR.out ?_
       refine hK _ _ ?_
       clear hK K
       simp only [Act.put, nrA, nrB, nrC]
       refine wpAny_ready (rs := [12]) (by kernel_rfl) (by simp) ?_
       refine (AllReady.cons rfl (fun K hK => ?_) AllReady.nil)
       go_simp
       refine hK _ _ ?_
       clear hK K
       simp only [Act.put, nrA, nrB, nrC]
       refine wpAny_done (by kernel_rfl) ?_ _
       go_wp2_with fail
       go_ret
       exact ⟨rfl, rfl⟩
 case' h2x =>
  go_simp
  refine hK _ _ ?_
  clear hK K
  simp only [Act.put, nrA, nrB, nrC]
  refine wpAny_ready (rs := [0, 2]) (by kernel_rfl) (by simp) ?_
  refine (AllReady.cons rfl (fun K hK => ?h28x) (AllReady.cons rfl (fun K hK => ?h29x) AllReady.nil))
  case' h28x =>
   go_simp
   refine hK _ _ ?_
   clear hK K
   simp only [Act.put, nrA, nrB, nrC]
   refine wpAny_ready (rs := [2]) (by kernel_rfl) (by simp) ?_
   refine (AllReady.cons rfl (fun K hK => ?_) AllReady.nil)
   go_simp
   refine hK _ _ ?_
   clear hK K
   simp only [Act.put, nrA, nrB, nrC]
   refine wpAny_ready (rs := [4]) (by kernel_rfl) (by simp) ?_
   refine (AllReady.cons rfl (fun K hK => ?_) AllReady.nil)
   go_simp
   refine (H27.out).mono ?_
   rintro e w' ⟨rfl, he⟩
   obtain rfl := he.symm
   clear he
   refine hK _ _ ?_
   clear hK K
   simp only [Act.put, nrA, nrB, nrC]
   refine wpAny_ready (rs := [8]) (by kernel_rfl) (by simp) ?_
   refine (AllReady.cons rfl (fun K hK => ?_) AllReady.nil)
   go_simp
   refine (H28.out).mono ?_
   rintro e w' ⟨rfl, he⟩
   obtain rfl := he.symm
   clear he
   refine hK _ _ ?_
   clear hK K
   simp only [Act.put, nrA, nrB, nrC]
  case' h29x =>
   go_simp
   refine hK _ _ ?_
   clear hK K
   simp only [Act.put, nrA, nrB, nrC]
   refine wpAny_ready (rs := [0, 4]) (by kernel_rfl) (by simp) ?_
   refine (AllReady.cons rfl (fun K hK => ?h30x) (AllReady.cons rfl (fun K hK => ?h31x) AllReady.nil))
   case' h30x =>
    go_simp
    refine hK _ _ ?_
    clear hK K
    simp only [Act.put, nrA, nrB, nrC]
    refine wpAny_ready (rs := [4]) (by kernel_rfl) (by simp) ?_
    refine (AllReady.cons rfl (fun K hK => ?_) AllReady.nil)
    go_simp
    refine (H27.out).mono ?_
    rintro e w' ⟨rfl, he⟩
    obtain rfl := he.symm
    clear he
    refine hK _ _ ?_
    clear hK K
    simp only [Act.put, nrA, nrB, nrC]
    refine wpAny_ready (rs := [8]) (by kernel_rfl) (by simp) ?_
    refine (AllReady.cons rfl (fun K hK => ?_) AllReady.nil)
    go_simp
    refine (H28.out).mono ?_
    rintro e w' ⟨rfl, he⟩
    obtain rfl := he.symm
    clear he
    refine hK _ _ ?_
    clear hK K
    simp only [Act.put, nrA, nrB, nrC]
   case' h31x =>
    go_simp
    refine (H27.out).mono ?_
    rintro e w' ⟨rfl, he⟩
    obtain rfl := he.symm
    clear he
    refine hK _ _ ?_
    clear hK K
    simp only [Act.put, nrA, nrB, nrC]
    refine wpAny_ready (rs := [0, 8]) (by kernel_rfl) (by simp) ?_
    refine (AllReady.cons rfl (fun K hK => ?h32x) (AllReady.cons rfl (fun K hK => ?h33x) AllReady.nil))
    case' h32x =>
     go_simp
     refine hK _ _ ?_
     clear hK K
     simp only [Act.put, nrA, nrB, nrC]
     refine wpAny_ready (rs := [8]) (by kernel_rfl) (by simp) ?_
     refine (AllReady.cons rfl (fun K hK => ?_) AllReady.nil)
     go_simp
     refine (H28.out).mono ?_
     rintro e w' ⟨rfl, he⟩
     obtain rfl := he.symm
     clear he
     refine hK _ _ ?_
     clear hK K
     simp only [Act.put, nrA, nrB, nrC]
    case' h33x =>
     go_simp
     refine (H28.out).mono ?_
     rintro e w' ⟨rfl, he⟩
     obtain rfl := he.symm
     clear he
     refine hK _ _ ?_
     clear hK K
     simp only [Act.put, nrA, nrB, nrC]
     refine wpAny_ready (rs := [0, 9]) (by kernel_rfl) (by simp) ?_
     refine (AllReady.cons rfl (fun K hK => ?h34x) (AllReady.cons rfl (fun K hK => ?h35x) AllReady.nil))
     case' h34x =>
      go_simp
      refine hK _ _ ?_
      clear hK K
      simp only [Act.put, nrA, nrB, nrC]
     case' h35x =>
      go_simp
      refine hK _ _ ?_
      clear hK K
      simp only [Act.put, nrA, nrB, nrC]
      refine wpAny_ready (rs := [0, 10]) (by kernel_rfl) (by simp) ?_
      refine (AllReady.cons rfl (fun K hK => ?h36x) (AllReady.cons rfl (fun K hK => ?h37x) AllReady.nil))
      case' h36x =>
       go_simp
       refine hK _ _ ?_
       clear hK K
       simp only [Act.put, nrA, nrB, nrC]
       refine wpAny_ready (rs := [10]) (by kernel_rfl) (by simp) ?_
       refine (AllReady.cons rfl (fun K hK => ?_) AllReady.nil)
       go_simp
       refine hK _ _ ?_
       clear hK K
       simp only [Act.put, nrA, nrB, nrC]
       refine wpAny_ready (rs := [11]) (by kernel_rfl) (by simp) ?_
       refine (AllReady.cons rfl (fun K hK => ?_) AllReady.nil)
       refine step_append_run rfl (.tmp 11) (.tmp 21) 90 90 rfl _ _ rfl rfl _ _ HR.out ?_
       refine hK _ _ ?_
       clear hK K
       simp only [Act.put, nrA, nrB, nrC]
       refine wpAny_ready (rs := [12]) (by kernel_rfl) (by simp) ?_
       refine (AllReady.cons rfl (fun K hK => ?_) AllReady.nil)
       go_simp
       refine hK _ _ ?_
       clear hK K
       simp only [Act.put, nrA, nrB, nrC]
       refine wpAny_done (by kernel_rfl) ?_ _
       go_wp2_with fail
       go_ret
       exact ⟨rfl, rfl⟩
      case' h37x =>
       go_simp
       refine hK _ _ ?_
       clear hK K
       simp only [Act.put, nrA, nrB, nrC]
       refine wpAny_ready (rs := [0]) (by kernel_rfl) (by simp) ?_
       refine (AllReady.cons rfl (fun K hK => ?_) AllReady.nil)
       go_simp
       refine hK _ _ ?_
       clear hK K
       simp only [Act.put, nrA, nrB, nrC]
       refine wpAny_ready (rs := [11]) (by kernel_rfl) (by simp) ?_
       refine (AllReady.cons rfl (fun K hK => ?_) AllReady.nil)
       refine step_append_run rfl (.tmp 11) (.tmp 21) 90 90 rfl _ _ rfl rfl _ _ HR.out ?_
       refine hK _ _ ?_
       clear hK K
       simp only [Act.put, nrA, nrB, nrC]
       refine wpAny_ready (rs := [12]) (by kernel_rfl) (by simp) ?_
       refine (AllReady.cons rfl (fun K hK => ?_) AllReady.nil)
       go_simp
       refine hK _ _ ?_
       clear hK K
       simp only [Act.put, nrA, nrB, nrC]
       refine wpAny_done (by kernel_rfl) ?_ _
       go_wp2_with fail
       go_ret
       exact ⟨rfl, rfl⟩
 all_goals
  refine wpAny_ready (rs := [9]) (by kernel_rfl) (by simp) ?_
  refine (AllReady.cons rfl (fun K hK => ?_) AllReady.nil)
  go_simp
  refine hK _ _ ?_
  clear hK K
  simp only [Act.put, nrA, nrB, nrC]
  refine wpAny_ready (rs := [10]) (by kernel_rfl) (by simp) ?_
  refine (AllReady.cons rfl (fun K hK => ?_) AllReady.nil)
  go_simp
  refine hK _ _ ?_
  clear hK K
  simp only [Act.put, nrA, nrB, nrC]
  refine wpAny_ready (rs := [11]) (by kernel_rfl) (by simp) ?_
  refine (AllReady.cons rfl (fun K hK => ?_) AllReady.nil)
  refine step_append_run rfl (.tmp 11) (.tmp 21) 90 90 rfl _ _ rfl rfl _ _ HR.out ?_
  refine hK _ _ ?_
  clear hK K
  simp only [Act.put, nrA, nrB, nrC]
  refine wpAny_ready (rs := [12]) (by kernel_rfl) (by simp) ?_
  refine (AllReady.cons rfl (fun K hK => ?_) AllReady.nil)
  go_simp
  refine hK _ _ ?_
  clear hK K
  simp only [Act.put, nrA, nrB, nrC]
  refine wpAny_done (by kernel_rfl) ?_ _
  go_wp2_with fail
  go_ret
  exact ⟨rfl, rfl⟩
end Go.Proofs.YtdhinpmjbcohaaaGreat.Jd
namespace Go.Proofs.YtdhinpmjbcohaaaGreat.Jd
open Go Go.RowKit Go.Shelf
set_option linter.unusedSimpArgs false
set_option linter.unusedVariables false
open Rf (e2 e2_len e2_app e2_one ER own_er own_shape app_many addr0)

structure GB (W : World) (eb wb ob pb nb cb mb kb vb : Nat) (en : Bool) (v : Value) (n : Int) : Prop where
 e : W.heap[eb]? = some (.cells #[.bool en] 4 (0, 0))
 w : W.heap[wb]? = some (.cells #[.bool true] 4 (0, 0))
 o : W.heap[ob]? = some (.cells #[v] 90 (0, 0))
 p : W.heap[pb]? = some (.cells #[pt cb, pt mb, pt kb, pt vb] 47 (0, 0))
 n : W.heap[nb]? = some (.cells #[.int .i64 n] 3 (0, 0))
theorem given1_any {W : World} {eb wb ob pb nb cb mb kb vb : Nat} {v : Value} {n : Int} {A : List (Int × Int)} {C : List Bool} {D : List Int} {G1 G2 : Nat → Prop} {k : Bool} {x : Int}
  (hg : GB W eb wb ob pb nb cb mb kb vb false v n) (hew : eb ≠ wb) (ho : W.ownsRow 0 120 2 v A.length (e2 A)) (hC : Qo.CD W kb C G1) (hD : Qy.CD W vb D G2) (hk : k ∈ C) (hx : x ∈ D) (hl : A.length ≤ 100000) (hlC : C.length ≤ 900000) (hlD : D.length ≤ 900000) :
  Calls Tryz.prog 94 #[.bool k, .int .u8 x, pt eb, pt wb, pt ob, pt pb, pt nb] W fun r W' => ∃ v', r = .returned (.bool (!((A.length + 1 : Nat) : Int) == n)) ∧ GB W' eb wb ob pb nb cb mb kb vb (((A.length + 1 : Nat) : Int) == n) v' n ∧ W'.ownsRow 0 120 2 v' (A ++ [((ix k C : Int), (ix x D : Int))]).length (e2 (A ++ [((ix k C : Int), (ix x D : Int))])) ∧
   Ch (fun j => j = ob ∨ j = eb ∨ v.ownBlock = some j) W W' ∧ (v'.ownBlock = v.ownBlock ∨ v'.ownBlock = some (W.heap.size + 1)) := by
 have hdC : Qo.CD W.drew kb C G1 := hC.keep (fun _ _ => rfl)
 have hdD : Qy.CD W.drew vb D G2 := hD.keep (fun _ _ => rfl)
 have hoA : (W.drew.alloc (.cells #[.int .i64 (ix k C), .int .i64 (ix x D)] 120)).ownsRow 0 120 2 v A.length (e2 A) := World.ownsRow.alloc (w := W.drew) ho _
 obtain ⟨v', w9, hr, h2, hc, hloc⟩ := app_many (B := [((ix k C : Int), (ix x D : Int))]) hoA ⟨W.heap.size, 0, none⟩ 1 (fun j u hu => by
  rw [addr0, Nat.zero_add]
  refine box_cells (cs := #[.int .i64 (ix k C), .int .i64 (ix x D)]) (t := 120) (fz := (0, 0)) (MapKept.heap_alloc W.drew _).1 j u ?_
  simpa [e2] using hu) (by simp; omega)
 obtain ⟨va, ca, rfl⟩ := own_shape h2
 have hlen : (A ++ [((ix k C : Int), (ix x D : Int))]).length = A.length + 1 := by simp
 rw [hlen] at hr h2 hloc
 -- nothing of the boxes is the list's
 have hne : ∀ {b t : Nat} {cs : Array Value}, W.heap[b]? = some (.cells cs t (0, 0)) → t ≠ 120 → v.ownBlock ≠ some b := fun {b t cs} hb ht q => by
  obtain ⟨c, hcc⟩ := Rf.own_blk ho q
  rw [hb] at hcc
  simp at hcc
  exact ht hcc.2
 have hc9 : Ch (fun j => v.ownBlock = some j) W w9 := ((ch_drew _ W).then (ch_alloc _ _ _)).then hc
 have hst : ∀ {b t : Nat} {cs : Array Value}, W.heap[b]? = some (.cells cs t (0, 0)) → t ≠ 120 → w9.heap[b]? = some (.cells cs t (0, 0)) := fun {b t cs} hb ht => (hc9.block b (Array.getElem?_eq_some_iff.1 hb).1 (hne hb ht)).trans hb
 have e9 := hst hg.e (by decide)
 have w9' := hst hg.w (by decide)
 have o9 := hst hg.o (by decide)
 have p9 := hst hg.p (by decide)
 have n9 := hst hg.n (by decide)
 have hoe : ob ≠ eb := fun q => by
  have := hg.o
  rw [q, hg.e] at this
  simp at this
 have hop : ob ≠ pb := fun q => by
  have := hg.o
  rw [q, hg.p] at this
  simp at this
 have hon : ob ≠ nb := fun q => by
  have := hg.o
  rw [q, hg.n] at this
  simp at this
 have how : ob ≠ wb := fun q => by
  have := hg.o
  rw [q, hg.w] at this
  simp at this
 have hep : eb ≠ pb := fun q => by
  have := hg.e
  rw [q, hg.p] at this
  simp at this
 have hen : eb ≠ nb := fun q => by
  have := hg.e
  rw [q, hg.n] at this
  simp at this
 have eS := (heap_set_ne (w := w9) (k := 0) (.slice va (A.length + 1) ca) hoe.symm).trans e9
 have nS := (heap_set_ne (w := w9) (k := 0) (.slice va (A.length + 1) ca) hon.symm).trans n9
 have pS := (heap_set_ne (w := w9) (k := 0) (.slice va (A.length + 1) ca) hop.symm).trans p9
 have wS := (heap_set_ne (w := w9) (k := 0) (.slice va (A.length + 1) ca) how.symm).trans w9'
 refine (given1_walk (by omega) (box_cells hg.e 0 _ rfl) (box_cells hg.o 0 _ rfl) (box_cells hg.p 2 _ rfl) (box_cells hg.p 3 _ rfl) (Qo.of_known hdC hk hlC) (Qy.of_known hdD hx hlD) hr (box_cells o9 0 _ rfl) (box_cells p9 2 _ rfl) (box_cells p9 3 _ rfl) (box_frozen o9 0) (box_cells eS 0 _ rfl) (box_cells nS 0 _ rfl) (box_frozen eS 0) (box_cells pS 2 _ rfl) (box_cells pS 3 _ rfl)).mono ?_
 rintro r W' ⟨rfl, rfl⟩
 have hne9 : ∀ {b t : Nat} {cs : Array Value}, w9.heap[b]? = some (.cells cs t (0, 0)) → t ≠ 120 → ∀ q, (Value.slice va (A.length + 1) ca).ownBlock = some q → q ≠ b := fun {b t cs} hb ht q hq r => by
  obtain ⟨c, hcc⟩ := Rf.own_blk h2 hq
  rw [r, hb] at hcc
  simp at hcc
  exact ht hcc.2
 refine ⟨.slice va (A.length + 1) ca, rfl, ⟨?_, ?_, ?_, ?_, ?_⟩, ?_, ?_, ?_⟩
 ·
  rw [heap_set eS]
  simp
 ·
  exact (heap_set_ne _ hew.symm).trans wS
 ·
  rw [heap_set_ne _ hoe, heap_set o9]
  simp
 ·
  exact (heap_set_ne _ hep.symm).trans pS
 ·
  exact (heap_set_ne _ hen.symm).trans nS
 ·
  rw [hlen]
  refine Rf.own_keep h2 (fun q hq => ?_)
  rw [heap_set_ne _ (hne9 e9 (by decide) q hq), heap_set_ne _ (hne9 o9 (by decide) q hq)]
 ·
  exact ((hc9.mono (fun j _ q => .inr (.inr q))).then ((ch_set ob 0 _).mono (fun j _ q => .inl q))).then ((ch_set eb 0 _).mono (fun j _ q => .inr (.inl q)))
 ·
  rcases hloc with q | q
  ·
   exact .inl q
  ·
   exact .inr (by rw [q]; simp)
end Go.Proofs.YtdhinpmjbcohaaaGreat.Jd
namespace Go.Proofs.YtdhinpmjbcohaaaGreat.Jd
open Go Go.RowKit Go.Shelf
set_option linter.unusedSimpArgs false
set_option linter.unusedVariables false
open Rf (e2 e2_len e2_app e2_one ER own_er own_shape app_many addr0)

def nums {L : List Nat} (ky : Nat → Bool) (vl : Nat → Int) (C : List Bool) (D : List Int) (pre : List {b : Nat // b ∈ L}) : List (Int × Int) := pre.map (fun b => ((ix (ky b.1) C : Int), (ix (vl b.1) D : Int)))
theorem nums_snoc {L : List Nat} (ky : Nat → Bool) (vl : Nat → Int) (C : List Bool) (D : List Int) (pre : List {b : Nat // b ∈ L}) (x : {b : Nat // b ∈ L}) : nums ky vl C D (pre ++ [x]) = nums ky vl C D pre ++ [((ix (ky x.1) C : Int), (ix (vl x.1) D : Int))] := by simp [nums]
def GI {L : List Nat} (w WL : World) (eb wb ob pb nb cb mb kb vb : Nat) (n : Int) (ky : Nat → Bool) (vl : Nat → Int) (C : List Bool) (D : List Int) (G1 G2 : Nat → Prop) (en : Bool) (pre : List {b : Nat // b ∈ L}) (W : World) : Prop :=
 ∃ v, GB W eb wb ob pb nb cb mb kb vb en v n ∧ W.ownsRow 0 120 2 v (nums ky vl C D pre).length (e2 (nums ky vl C D pre)) ∧ Qo.CD W kb C G1 ∧ Qy.CD W vb D G2 ∧ Below w.heap.size w W ∧ (∀ g, v.ownBlock = some g → w.heap.size ≤ g ∧ (g < WL.heap.size ∨ WL.heap.size + 2 ≤ g))
theorem kept_cells {A B : World} {row : Option Nat} (hg : A.grownBy B row) (hr : ∀ r, row = some r → ∃ o : Obj, A.heap[r]? = some o ∧ o.isCells = false) {b t : Nat} {cs : Array Value} {fz : Nat × Nat} (h : A.heap[b]? = some (.cells cs t fz)) : B.heap[b]? = A.heap[b]? :=
 hg.block b (Array.getElem?_eq_some_iff.1 h).1 (fun e => by
  obtain ⟨o, h1, h2⟩ := hr b e.symm
  rw [h] at h1
  cases h1
  cases h2)
theorem GI.own {L : List Nat} {w WL : World} {eb wb ob pb nb cb mb kb vb : Nat} {n : Int} {ky : Nat → Bool} {vl : Nat → Int} {C : List Bool} {D : List Int} {G1 G2 : Nat → Prop} {en : Bool} (hw : w.heap.size ≤ WL.heap.size) (hk1 : ∀ j, G1 j → j < w.heap.size) (hk2 : ∀ j, G2 j → j < w.heap.size) : OwnFrom WL.heap.size (GI (L := L) w WL eb wb ob pb nb cb mb kb vb n ky vl C D G1 G2 en) := by
 intro s A B row hs hg hr
 obtain ⟨v, h1, h2, h3, h4, h5, h6⟩ := hs
 have hr2 : ∀ r, row = some r → ∃ o : Obj, A.heap[r]? = some o ∧ o.isCells = false := fun r e => (hr r e).2
 have hold : ∀ j, j < WL.heap.size → j < A.heap.size → B.heap[j]? = A.heap[j]? := fun j hj hja => hg.block j hja (fun e => by
  have := (hr j e.symm).1
  omega)
 refine ⟨v, ⟨(kept_cells hg hr2 h1.e).trans h1.e, (kept_cells hg hr2 h1.w).trans h1.w, (kept_cells hg hr2 h1.o).trans h1.o, (kept_cells hg hr2 h1.p).trans h1.p, (kept_cells hg hr2 h1.n).trans h1.n⟩, ?_, h3.keep (fun j hj => hold j (by have := hk1 j hj; omega) (h3.lt hj)), h4.keep (fun j hj => hold j (by have := hk2 j hj; omega) (h4.lt hj)), ?_, h6⟩
 ·
  refine Rf.own_keep h2 (fun k hk => ?_)
  obtain ⟨c, hc⟩ := Rf.own_blk h2 hk
  exact kept_cells hg hr2 hc
 ·
  exact ⟨hg.os.trans h5.os, hg.tape.trans h5.tape, hg.output.trans h5.output, Nat.le_trans h5.size hg.size, fun k hk => (hold k (by omega) (Nat.lt_of_lt_of_le hk h5.size)).trans (h5.block k hk)⟩
theorem GI.yield {L : List Nat} {w WL W : World} {eb wb ob pb nb cb mb kb vb room : Nat} {mv : Value} {n : Int} {ky : Nat → Bool} {vl : Nat → Int} {C : List Bool} {D : List Int} {G1 G2 : Nat → Prop} {nn oo : Nat → Nat}
  (hCw : Kd.CA w cb room mv L nn oo ky vl) (hC : ∀ b ∈ L, ky b ∈ C) (hD : ∀ b ∈ L, vl b ∈ D) (hk1 : ∀ j, G1 j → j < w.heap.size) (hk2 : ∀ j, G2 j → j < w.heap.size) (hlC : C.length ≤ 900000) (hlD : D.length ≤ 900000) (hL : L.length ≤ 100000)
  (hew : eb ≠ wb) (ho : w.heap.size ≤ ob ∧ ob < WL.heap.size) (he : w.heap.size ≤ eb ∧ eb < WL.heap.size) (pre : List {b : Nat // b ∈ L}) (x : {b : Nat // b ∈ L})
  (hi : GI w WL eb wb ob pb nb cb mb kb vb n ky vl C D G1 G2 false pre W) (hlt : pre.length < L.length) (hsz : WL.heap.size + 2 ≤ W.heap.size) :
  Calls Tryz.prog 94 #[Kd.kc (ky x.1), Kd.vc (vl x.1), pt eb, pt wb, pt ob, pt pb, pt nb] W fun r W' =>
   (Kd.Cy W W' ∧ W.heap.size ≤ W'.heap.size) ∧ Kd.Kq (fun j => Kd.FP cb mv L j ∨ j = WL.heap.size ∨ j = WL.heap.size + 1) W W' ∧ ∃ b, r = .returned (.bool b) ∧ (b = true → GI w WL eb wb ob pb nb cb mb kb vb n ky vl C D G1 G2 false (pre ++ [x]) W' ∧ ((pre.length + 1 : Nat) : Int) ≠ n) ∧ (b = false → GI w WL eb wb ob pb nb cb mb kb vb n ky vl C D G1 G2 true (pre ++ [x]) W' ∧ ((pre.length + 1 : Nat) : Int) = n) := by
 obtain ⟨v, h1, h2, h3, h4, h5, h6⟩ := hi
 have hnl : (nums ky vl C D pre).length = pre.length := by simp [nums]
 refine (given1_any h1 hew h2 h3 h4 (hC x.1 x.2) (hD x.1 x.2) (by omega) hlC hlD).mono ?_
 rintro r W' ⟨v', rfl, g1, g2, g3, g4⟩
 rw [hnl] at g1
 have hS : ∀ j, (j = ob ∨ j = eb ∨ v.ownBlock = some j) → w.heap.size ≤ j ∧ (j < WL.heap.size ∨ WL.heap.size + 2 ≤ j) := fun j q => by
  rcases q with rfl | rfl | q
  ·
   exact ⟨ho.1, .inl ho.2⟩
  ·
   exact ⟨he.1, .inl he.2⟩
  ·
   exact h6 j q
 have hGI : ∀ en, (((pre.length + 1 : Nat) : Int) == n) = en → GI w WL eb wb ob pb nb cb mb kb vb n ky vl C D G1 G2 en (pre ++ [x]) W' := fun en hen => by
  rw [hen] at g1
  refine ⟨v', g1, by rw [nums_snoc]; exact g2, h3.keep (fun j hj => g3.block j (h3.lt hj) (fun q => by have := (hS j q).1; have := hk1 j hj; omega)), h4.keep (fun j hj => g3.block j (h4.lt hj) (fun q => by have := (hS j q).1; have := hk2 j hj; omega)), ?_, fun g hg => ?_⟩
  ·
   exact ⟨g3.os.trans h5.os, g3.tape.trans h5.tape, g3.output.trans h5.output, Nat.le_trans h5.size g3.size, fun k hk => (g3.block k (Nat.lt_of_lt_of_le hk h5.size) (fun q => by have := (hS k q).1; omega)).trans (h5.block k hk)⟩
  ·
   rcases g4 with q | q
   ·
    exact h6 g (q ▸ hg)
   ·
    rw [q] at hg
    cases hg
    have := h5.size
    exact ⟨by omega, .inr (by omega)⟩
 refine ⟨⟨fun r o hr ho' => ?_, g3.size⟩, fun j hj => ?_, _, rfl, fun hb => ?_, fun hb => ?_⟩
 ·
  rw [g3.block r (Array.getElem?_eq_some_iff.1 hr).1 (fun q => ?_)]
  ·
   exact hr
  ·
   rcases q with q | q | q
   ·
    rw [q, h1.o] at hr
    cases hr
    cases ho'
   ·
    rw [q, h1.e] at hr
    cases hr
    cases ho'
   ·
    obtain ⟨c, hc⟩ := Rf.own_blk h2 q
    rw [hc] at hr
    cases hr
    cases ho'
 ·
  refine g3.block j ?_ (fun q => ?_)
  ·
   rcases hj with q | q | q
   ·
    have := hCw.lt q
    have := h5.size
    omega
   ·
    omega
   ·
    omega
  ·
   have := hS j q
   rcases hj with r | r | r
   ·
    have := hCw.lt r
    omega
   ·
    omega
   ·
    omega
 ·
  have hb' : (((pre.length + 1 : Nat) : Int) == n) = false := by
   rw [hnl] at hb
   simpa using hb
  exact ⟨hGI false hb', by simpa using hb'⟩
 ·
  have hb' : (((pre.length + 1 : Nat) : Int) == n) = true := by
   rw [hnl] at hb
   simpa using hb
  exact ⟨hGI true hb', by simpa using hb'⟩
end Go.Proofs.YtdhinpmjbcohaaaGreat.Jd
namespace Go.Proofs.YtdhinpmjbcohaaaGreat.Jd
open Go Go.RowKit Go.Shelf
set_option linter.unusedSimpArgs false
set_option linter.unusedVariables false
set_option maxRecDepth 100000
set_option maxHeartbeats 4000000
open Rf (e2 e2_len e2_app e2_one ER own_er own_shape app_many addr0)

def gvw (w : World) (cb mb kb vb : Nat) (n : Int) : World := ((((w.alloc (.cells #[pt cb, pt mb, pt kb, pt vb] 47)).alloc (.cells #[.int .i64 n] 3)).alloc (.cells #[.slice none 0 0] 90)).alloc (.cells #[.bool true] 4)).alloc (.cells #[.bool false] 4)
theorem func_ne (w : World) (q : Value) : (binOp .eql 133 (.func (.func 92) #[] #[q]) .nilFunc).run Tryz.prog w = .ok (.bool false) w := by kernel_rfl
theorem given_zero {w : World} {cb mb kb vb Bc : Nat} : Calls Tryz.prog 67 #[.agg #[pt cb, pt mb, pt kb, pt vb], .func (.func 92) #[] #[.pointer (some ⟨Bc, 0, none⟩)], .int .i64 0] w fun r w' => r = .returned (.tuple #[.slice none 0 0, .bool true]) ∧ Below w.heap.size w w' := by
 have hf := func_ne ((w.alloc (.cells #[pt cb, pt mb, pt kb, pt vb] 47)).alloc (.cells #[.int .i64 0] 3)) (.pointer (some ⟨Bc, 0, none⟩))
 have B0 : Hid (Below w.heap.size w ((w.alloc (.cells #[pt cb, pt mb, pt kb, pt vb] 47)).alloc (.cells #[.int .i64 0] 3))) := ((Below.refl _ _).alloc (Nat.le_refl _) _).alloc (by simp) _
 unfold pt at *
 go_enter Tryz.func67, Tryz.ntmps67
 go_wp2_with fail
 go_ret2
 exact ⟨rfl, B0.out⟩
theorem given_walk {w : World} {cb mb kb vb Bc : Nat} {n : Int} (hn : n ≠ 0) {R1 : World → Prop} (h60 : Calls Tryz.prog 92 #[.func (.func 94) #[] #[pt (w.heap.size + 4), pt (w.heap.size + 3), pt (w.heap.size + 2), pt w.heap.size, pt (w.heap.size + 1)], .pointer (some ⟨Bc, 0, none⟩)] (gvw w cb mb kb vb n) fun r w' => (∃ v, r = .returned v) ∧ R1 w')
  (R : Ending → World → Prop) (hR : ∀ w1, R1 w1 → ∃ a m c, w1.cell? ⟨w.heap.size + 2, 0, none⟩ = some (.slice a m c) ∧ w1.cell? ⟨w.heap.size + 3, 0, none⟩ = some (.bool true) ∧ R (.returned (.tuple #[.slice a m c, .bool true])) w1.drew) :
  Calls Tryz.prog 67 #[.agg #[pt cb, pt mb, pt kb, pt vb], .func (.func 92) #[] #[.pointer (some ⟨Bc, 0, none⟩)], .int .i64 n] w R := by
 have hf := func_ne ((w.alloc (.cells #[pt cb, pt mb, pt kb, pt vb] 47)).alloc (.cells #[.int .i64 n] 3)) (.pointer (some ⟨Bc, 0, none⟩))
 have hn0 : (n == 0) = false := by simpa using hn
 have H60 : Hid (Calls Tryz.prog 92 #[.func (.func 94) #[] #[pt (w.heap.size + 4), pt (w.heap.size + 3), pt (w.heap.size + 2), pt w.heap.size, pt (w.heap.size + 1)], .pointer (some ⟨Bc, 0, none⟩)] (gvw w cb mb kb vb n) fun r w' => (∃ v, r = .returned v) ∧ R1 w') := h60
 have HR : Hid (∀ w1, R1 w1 → ∃ a m c, w1.cell? ⟨w.heap.size + 2, 0, none⟩ = some (.slice a m c) ∧ w1.cell? ⟨w.heap.size + 3, 0, none⟩ = some (.bool true) ∧ R (.returned (.tuple #[.slice a m c, .bool true])) w1.drew) := hR
 clear h60 hR hn
 unfold gvw pt at *
 go_enter Tryz.func67, Tryz.ntmps67
 go_wp2_with fail
 go_must (go_at_call 92)
 refine (H60.out).mono ?_
 rintro r w1 ⟨⟨u, rfl⟩, h1⟩
 obtain ⟨a, m, c, c1, c2, h2⟩ := HR.out w1 h1
 have Z : Hid (R (.returned (.tuple #[.slice a m c, .bool true])) w1.drew) := h2
 clear h1 h2
 go_wp2_with fail
 go_region
 all_goals go_wp2_with fail
 all_goals (try go_ret2)
 all_goals exact Z.out
end Go.Proofs.YtdhinpmjbcohaaaGreat.Jd
namespace Go.Proofs.YtdhinpmjbcohaaaGreat.Jd
open Go Go.RowKit Go.Shelf
set_option linter.unusedSimpArgs false
set_option linter.unusedVariables false
open Rf (e2 e2_len e2_app e2_one ER own_er own_shape app_many addr0)

def tk {α : Type} (n : Int) (l : List α) : List α := if n < 0 then l else l.take n.toNat
def num (ky : Nat → Bool) (vl : Nat → Int) (C : List Bool) (D : List Int) (b : Nat) : Int × Int := ((ix (ky b) C : Int), (ix (vl b) D : Int))
theorem nums_all (L : List Nat) (ky : Nat → Bool) (vl : Nat → Int) (C : List Bool) (D : List Int) (k : Nat) : nums ky vl C D (L.attach.take k) = (L.map (num ky vl C D)).take k := by
 unfold nums
 rw [List.map_take]
 congr 1
 have : (fun b : {b : Nat // b ∈ L} => ((ix (ky b.1) C : Int), (ix (vl b.1) D : Int))) = (num ky vl C D) ∘ Subtype.val := rfl
 rw [this, ← List.map_map, List.attach_map_subtype_val]
theorem gvw_facts (w : World) (cb mb kb vb : Nat) (n : Int) : (gvw w cb mb kb vb n).heap.size = w.heap.size + 5 ∧ Below w.heap.size w (gvw w cb mb kb vb n) ∧ GB (gvw w cb mb kb vb n) (w.heap.size + 4) (w.heap.size + 3) (w.heap.size + 2) w.heap.size (w.heap.size + 1) cb mb kb vb false (.slice none 0 0) n := by
 have hb : ∀ (A : World) (o : Obj) (j : Nat), j < A.heap.size → (A.alloc o).heap[j]? = A.heap[j]? := fun A o j hj => (World.grownBy_alloc A o none).block j hj (by simp)
 have hnew : ∀ (A : World) (o : Obj) (j : Nat), j = A.heap.size → (A.alloc o).heap[j]? = some o := fun A o j hj => by
  rw [hj]
  exact (MapKept.heap_alloc A o).1
 refine ⟨by simp [gvw], ?_, ⟨?_, ?_, ?_, ?_, ?_⟩⟩
 ·
  unfold gvw
  exact (((((Below.refl _ _).alloc (Nat.le_refl _) _).alloc (by simp) _).alloc (by simp <;> omega) _).alloc (by simp <;> omega) _).alloc (by simp <;> omega) _
 ·
  unfold gvw
  exact hnew _ _ _ (by simp)
 ·
  unfold gvw
  rw [hb _ _ _ (by simp <;> omega)]
  exact hnew _ _ _ (by simp)
 ·
  unfold gvw
  rw [hb _ _ _ (by simp <;> omega), hb _ _ _ (by simp <;> omega)]
  exact hnew _ _ _ (by simp)
 ·
  unfold gvw
  rw [hb _ _ _ (by simp <;> omega), hb _ _ _ (by simp <;> omega), hb _ _ _ (by simp <;> omega), hb _ _ _ (by simp <;> omega)]
  exact hnew _ _ _ rfl
 ·
  unfold gvw
  rw [hb _ _ _ (by simp <;> omega), hb _ _ _ (by simp <;> omega), hb _ _ _ (by simp <;> omega)]
  exact hnew _ _ _ (by simp)
theorem given_any {w : World} {cb room mb kb vb Bc : Nat} {mv : Value} {L : List Nat} {nn oo : Nat → Nat} {ky : Nat → Bool} {vl : Nat → Int} {C : List Bool} {D : List Int} {G1 G2 : Nat → Prop} (hCA : Kd.CA w cb room mv L nn oo ky vl) (hL : L.length ≤ 100000) (hBc : w.heap[Bc]? = some (.cells #[pt cb] 44 (0, 0)))
  (h1 : Qo.CD w kb C G1) (h2 : Qy.CD w vb D G2) (hC : ∀ b ∈ L, ky b ∈ C) (hD : ∀ b ∈ L, vl b ∈ D) (hlC : C.length ≤ 900000) (hlD : D.length ≤ 900000) (n : Int) :
  Calls Tryz.prog 67 #[.agg #[pt cb, pt mb, pt kb, pt vb], .func (.func 92) #[] #[.pointer (some ⟨Bc, 0, none⟩)], .int .i64 n] w fun r w' => ∃ v, r = .returned (.tuple #[v, .bool true]) ∧ ER w' v (tk n (L.map (num ky vl C D))) ∧ Below w.heap.size w w' := by
 by_cases hn : n = 0
 ·
  subst hn
  refine given_zero.mono ?_
  rintro r w' ⟨rfl, hb⟩
  exact ⟨_, rfl, ⟨none, 0, by simp [tk], by simp [tk], fun q => absurd (by simp [tk]) q⟩, hb⟩
 ·
  obtain ⟨hsz, hbl, hgb⟩ := gvw_facts w cb mb kb vb n
  have hCA' : Kd.CA (gvw w cb mb kb vb n) cb room mv L nn oo ky vl := hCA.keep (fun j hj => hbl.block j (hCA.lt hj))
  have hBc' := (hbl.block Bc (Array.getElem?_eq_some_iff.1 hBc).1).trans hBc
  have hg1 : ∀ j, G1 j → j < w.heap.size := fun j hj => h1.lt hj
  have hg2 : ∀ j, G2 j → j < w.heap.size := fun j hj => h2.lt hj
  have hown : ∀ en, OwnFrom (gvw w cb mb kb vb n).heap.size (GI (L := L) w (gvw w cb mb kb vb n) (w.heap.size + 4) (w.heap.size + 3) (w.heap.size + 2) w.heap.size (w.heap.size + 1) cb mb kb vb n ky vl C D G1 G2 en) := fun en => GI.own (by omega) hg1 hg2
  have hcall := Kd.all1_94 hCA' (by omega) Bc hBc' (q0 := pt (w.heap.size + 4)) (q1 := pt (w.heap.size + 3)) (q2 := pt (w.heap.size + 2)) (q3 := pt w.heap.size) (q4 := pt (w.heap.size + 1))
   (fun pre W => GI w (gvw w cb mb kb vb n) (w.heap.size + 4) (w.heap.size + 3) (w.heap.size + 2) w.heap.size (w.heap.size + 1) cb mb kb vb n ky vl C D G1 G2 false pre W ∧ ¬ (0 < n ∧ n ≤ pre.length))
   (fun pre W => GI w (gvw w cb mb kb vb n) (w.heap.size + 4) (w.heap.size + 3) (w.heap.size + 2) w.heap.size (w.heap.size + 1) cb mb kb vb n ky vl C D G1 G2 true pre W ∧ (pre.length : Int) = n)
   (fun s A B row hs hg hr => ⟨hown false s A B row hs.1 hg hr, hs.2⟩) (fun s A B row hs hg hr => ⟨hown true s A B row hs.1 hg hr, hs.2⟩)
   ⟨⟨_, hgb, World.ownsRow_nil _ _ _ _, h1.keep (fun j hj => hbl.block j (hg1 j hj)), h2.keep (fun j hj => hbl.block j (hg2 j hj)), hbl, fun g hg => (by cases hg)⟩, by simp <;> omega⟩
   (fun pre x W hi hlt _ hs => ?_)
  ·
   refine given_walk hn (hcall.mono (fun r w' q => q)) _ (fun w1 hw1 => ?_)
   have fin : ∀ (en : Bool) (pre : List {b : Nat // b ∈ L}), GI w (gvw w cb mb kb vb n) (w.heap.size + 4) (w.heap.size + 3) (w.heap.size + 2) w.heap.size (w.heap.size + 1) cb mb kb vb n ky vl C D G1 G2 en pre w1 → nums ky vl C D pre = tk n (L.map (num ky vl C D)) → ∃ a m c, w1.cell? ⟨w.heap.size + 2, 0, none⟩ = some (.slice a m c) ∧ w1.cell? ⟨w.heap.size + 3, 0, none⟩ = some (.bool true) ∧ ∃ v, Ending.returned (.tuple #[.slice a m c, .bool true]) = .returned (.tuple #[v, .bool true]) ∧ ER w1.drew v (tk n (L.map (num ky vl C D))) ∧ Below w.heap.size w w1.drew := by
    rintro en pre ⟨v, g1, g2, _, _, g5, _⟩ he
    obtain ⟨a, c, rfl⟩ := own_shape g2
    rw [he] at g2 g1
    exact ⟨a, _, c, box_cells g1.o 0 _ rfl, box_cells g1.w 0 _ rfl, _, rfl, own_er (w := w1.drew) g2, Below.drew g5⟩
   rcases hw1 with ⟨g, hno⟩ | ⟨k, hk, g, he⟩
   ·
    refine fin false _ g ?_
    have e1 := nums_all L ky vl C D L.length
    rw [List.take_of_length_le (by simp), List.take_of_length_le (by simp)] at e1
    rw [e1]
    simp only [List.length_attach] at hno
    unfold tk
    split
    ·
     rfl
    ·
     rw [List.take_of_length_le]
     simp
     omega
   ·
    refine fin true _ g ?_
    rw [nums_all]
    have hkl : (L.attach.take k).length = k := by simp; omega
    rw [hkl] at he
    unfold tk
    rw [if_neg (by omega), show n.toNat = k by omega]
  ·
   refine (GI.yield hCA hC hD hg1 hg2 hlC hlD hL (by omega) ⟨by omega, by omega⟩ ⟨by omega, by omega⟩ pre x hi.1 hlt hs).mono ?_
   rintro r W' ⟨q1, q2, b, rfl, q3, q4⟩
   refine ⟨q1, q2, b, rfl, fun hb => ⟨(q3 hb).1, ?_⟩, fun hb => ⟨(q4 hb).1, ?_⟩⟩
   ·
    have := (q3 hb).2
    have := hi.2
    simp
    omega
   ·
    have := (q4 hb).2
    simpa using this
end Go.Proofs.YtdhinpmjbcohaaaGreat.Jd
