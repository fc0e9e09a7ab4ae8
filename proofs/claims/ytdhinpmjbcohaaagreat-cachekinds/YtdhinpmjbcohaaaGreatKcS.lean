import Derived.Test.YtdhinpmjbcohaaaGreatKcR
import Derived.Test.YtdhinpmjbcohaaaGreatKaS
namespace Go.Proofs.YtdhinpmjbcohaaaGreat.Kc
open Go Go.RowKit Go.Shelf
set_option linter.unusedSimpArgs false
set_option linter.unusedVariables false
set_option maxRecDepth 100000
set_option maxHeartbeats 4000000

attribute [local go_sem] Oper.semAt_some

theorem inorder_in (F : Fence) (n : Nat) (h6 : F.fn 90) (hro : F.round = none) (cb : Nat) (w : World) :
  CallsIn F n Tryz.prog 90 #[pt cb] w fun e w' => e = .returned (.func (.func 105) #[] #[.pointer (some ⟨w.heap.size, 0, none⟩)]) ∧ w' = w.alloc (.cells #[pt cb] 37) := by
 unfold pt
 refine callsIn_of_wp Tryz.func90 rfl h6 ?_ hro
 simp only [Tryz.ntmps90, List.size_toArray, List.length_cons, List.length_nil, Nat.reduceAdd, Nat.reduceSub, Array.replicate_succ, Array.replicate_zero, List.push_toArray, List.append_toArray, List.nil_append, List.cons_append]
 gi_wp2
 go_ret
 exact ⟨rfl, rfl⟩
theorem All_any (cb : Nat) (w : World) : Calls Tryz.prog 63 #[pt cb] w fun e w' => e = .returned (.func (.func 89) #[] #[.pointer (some ⟨w.heap.size, 0, none⟩)]) ∧ w' = w.alloc (.cells #[pt cb] 37) := by
 unfold pt
 go_enter Tryz.func63, Tryz.ntmps63
 go_wp2_with fail
 go_ret
 exact ⟨rfl, rfl⟩
theorem inord_stops (F : Fence) (n : Nat) (h8 : F.fn 105) (hro : F.round = none) (hn : 1 ≤ n) (Bs : Nat) {cb room : Nat} {mv : Value} {L : List Nat} {nn oo : Nat → Nat} {ky : Nat → Ky} {vl : Nat → Vt} (S : Nat → Prop) (hS : ∀ j, FP cb mv L j ∨ j = Bs → S j) (hreach : L.length ≤ 1048576) (w : World) (hBs : w.heap[Bs]? = some (.cells #[pt cb] 37 (0, 0))) (hC : CA w cb room mv L nn oo ky vl) :
  SeqStopsK F n Tryz.prog 105 #[.pointer (some ⟨Bs, 0, none⟩)] (fun x : {b : Nat // b ∈ L} => #[pt x.1]) (Kq S) (fun ys => ys = L.attach)
   (fun pre => ∃ k, k ≤ L.length ∧ pre = L.attach.take k) L.length w := fun l J Jx W hW _ _ hY hJ0 =>
 inord_in F n h8 hro hn l Bs S hS hreach J Jx hY W ((hW.block Bs (Array.getElem?_eq_some_iff.1 hBs).1).trans hBs) (hC.keep (fun j hj => hW.block j (hC.lt hj))) hJ0
def Cy (W W' : World) : Prop := ∀ (r : Nat) (o : Obj), W.heap[r]? = some o → o.isCells = false → W'.heap[r]? = some o
theorem OwnFrom.up {β : Type} {I : β → World → Prop} {B B' : Nat} (h : OwnFrom B I) (hb : B ≤ B') : OwnFrom B' I := fun s W W' row hs hg hr => h s W W' row hs hg (fun r e => ⟨Nat.le_trans hb (hr r e).1, (hr r e).2⟩)

theorem all1_91 {w : World} {cb room : Nat} {mv : Value} {L : List Nat} {nn oo : Nat → Nat} {ky : Nat → Ky} {vl : Nat → Vt} (hC : CA w cb room mv L nn oo ky vl) (hl : L.length ≤ 1048576) (Bc : Nat) (hBc : w.heap[Bc]? = some (.cells #[pt cb] 37 (0, 0)))
  {q0 q1 q2 q3 q4 : Value}
  (I Ix : List {b : Nat // b ∈ L} → World → Prop) (hI : OwnFrom w.heap.size I) (hIx : OwnFrom w.heap.size Ix) (h0 : I [] w)
  (hyld : ∀ pre (x : {b : Nat // b ∈ L}) W, I pre W → pre.length < L.length → CA W cb room mv L nn oo ky vl → w.heap.size + 2 ≤ W.heap.size → Calls Tryz.prog 91 #[kc (ky x.1), vc (vl x.1), q0, q1, q2, q3, q4] W fun r W' =>
   (Cy W W' ∧ W.heap.size ≤ W'.heap.size) ∧ Kq (fun j => FP cb mv L j ∨ j = w.heap.size ∨ j = w.heap.size + 1) W W' ∧ ∃ b, r = .returned (.bool b) ∧ (b = true → I (pre ++ [x]) W') ∧ (b = false → Ix (pre ++ [x]) W')) :
  Calls Tryz.prog 89 #[.func (.func 91) #[] #[q0, q1, q2, q3, q4], .pointer (some ⟨Bc, 0, none⟩)] w fun r w' => (∃ v, r = .returned v) ∧ (I L.attach w' ∨ ∃ k, k ≤ L.length ∧ Ix (L.attach.take k) w') := by
 have c0 : (w.alloc (.cells #[.func (.func 91) #[] #[q0, q1, q2, q3, q4]] 131)).cell? ⟨Bc, 0, none⟩ = some (.pointer (some ⟨cb, 0, none⟩)) := box_cells (((World.grownBy_alloc w _ none).block Bc (Array.getElem?_eq_some_iff.1 hBc).1 (by simp)).trans hBc) 0 _ rfl
 refine (callsIn_wide (n := 5)).1 ?_
 refine callsIn_of_wp_marks Tryz.func89 rfl trivial ?_ rfl
 simp only [Tryz.ntmps89, List.size_toArray, List.length_cons, List.length_nil, Nat.reduceAdd, Nat.reduceSub, Array.replicate_succ, Array.replicate_zero, List.push_toArray, List.append_toArray, List.nil_append, List.cons_append]
 gi_wp2_with (refine ⟨trivial, ?_⟩; gi_at_call 90; refine (inorder_in Fence.wide _ trivial rfl _ _).mono ?_; rintro e w' ⟨rfl, rfl⟩)
 clear c0
 unfold pt
 obtain ⟨W0, hW0⟩ : ∃ W0, W0 = (w.alloc (.cells #[.func (.func 91) #[] #[q0, q1, q2, q3, q4]] 131)).alloc (.cells #[.pointer (some ⟨cb, 0, none⟩)] 37) := ⟨_, rfl⟩
 have hsz : W0.heap.size = w.heap.size + 2 := by rw [hW0]; simp
 have hb0 : Below w.heap.size w W0 := by rw [hW0]; exact ((Below.refl _ _).alloc (Nat.le_refl _) _).alloc (by simp) _
 have hy0 : W0.heap[w.heap.size]? = some (.cells #[.func (.func 91) #[] #[q0, q1, q2, q3, q4]] 131 (0, 0)) := by
  rw [hW0, (World.grownBy_alloc _ _ none).block _ (by simp) (by simp)]
  exact (MapKept.heap_alloc _ _).1
 have hs0 : W0.heap[w.heap.size + 1]? = some (.cells #[pt cb] 37 (0, 0)) := by
  have := (MapKept.heap_alloc (w.alloc (.cells #[.func (.func 91) #[] #[q0, q1, q2, q3, q4]] 131)) (.cells #[.pointer (some ⟨cb, 0, none⟩)] 37)).1
  rw [hW0]
  unfold pt
  simpa using this
 have hi0 : I [] W0 := by rw [hW0]; exact hI.alloc _ (hI.alloc _ h0)
 have hc0 : CA W0 cb room mv L nn oo ky vl := hC.keep (fun j hj => hb0.block j (hC.lt hj))
 rw [← hW0]
 clear hW0
 have hFlt : ∀ j, (FP cb mv L j ∨ j = w.heap.size ∨ j = w.heap.size + 1) → j < W0.heap.size := fun j q => by
  rcases q with q | q | q
  ·
   exact hc0.lt q
  ·
   omega
  ·
   omega
 refine wpIn_rangeFunc_ownG rfl (by omega) (gf := 105) (lb := #[.pointer (some ⟨w.heap.size + 1, 0, none⟩)]) rfl trivial (enters_of Tryz.func105 (by kernel_rfl) rfl)
  (inord_stops Fence.wide _ trivial rfl (by omega) (w.heap.size + 1) (fun j => FP cb mv L j ∨ j = w.heap.size ∨ j = w.heap.size + 1) (fun j q => by
   rcases q with q | q
   ·
    exact .inl q
   ·
    exact .inr (.inr q)) hl W0 hs0 hc0) Kq_t (Kq_b hFlt) (Below.refl _ _) (fun _ => rfl)
  (fun pre W => I pre W ∧ (CA W cb room mv L nn oo ky vl ∧ w.heap.size + 2 ≤ W.heap.size) ∧ W.heap[w.heap.size]? = some (.cells #[.func (.func 91) #[] #[q0, q1, q2, q3, q4]] 131 (0, 0)))
  (fun c pre W => c = .ret ∧ Ix pre W)
  ?hI ?hIx ⟨hi0, ⟨hc0, by omega⟩, hy0⟩
  (fun x => { tmps := #[.func (.func 91) #[] #[q0, q1, q2, q3, q4], .pointer (some ⟨Bc, 0, none⟩), .pointer (some ⟨w.heap.size, 0, none⟩), .pointer (some ⟨x.1, 0, none⟩), .pointer (some ⟨cb, 0, none⟩), .func (.func 105) #[] #[.pointer (some ⟨w.heap.size + 1, 0, none⟩)], .pointer (some ⟨x.1, 0, none⟩), undef, undef, undef, undef, undef, undef, undef, undef, undef, undef, undef], defers := [] }) ?assign ?body ?done ?stop
 case hI =>
  intro s A B row hs hg hr
  have hkeep : ∀ j, j < W0.heap.size → j < A.heap.size → B.heap[j]? = A.heap[j]? := fun j hj hja => hg.block j hja (fun e => by
   have := (hr j e.symm).1
   omega)
  refine ⟨(OwnFrom.up hI (by omega)) s A B row hs.1 hg hr, ⟨hs.2.1.1.keep (fun j hj => hkeep j (hc0.lt hj) (hs.2.1.1.lt hj)), Nat.le_trans hs.2.1.2 hg.size⟩, ?_⟩
  rw [hkeep _ (by omega) (Array.getElem?_eq_some_iff.1 hs.2.2).1]
  exact hs.2.2
 case hIx =>
  intro c s A B row hs hg hr
  exact ⟨hs.1, (OwnFrom.up hIx (by omega)) s A B row hs.2 hg hr⟩
 case assign =>
  intro l x W K hK
  gi_wp2
  exact hK
 case body =>
  rintro l pre x W ⟨hi, ⟨hca, hsw⟩, hyb⟩ hlt
  have y0 : W.cell? ⟨w.heap.size, 0, none⟩ = some (.func (.func 91) #[] #[q0, q1, q2, q3, q4]) := box_cells hyb 0 _ rfl
  have HE := hca.eb x.1 x.2
  have e2 : W.cell? ⟨x.1, 2, none⟩ = some (.int .u8 (ky x.1).1) := box_cells HE 2 _ rfl
  have e3 : W.cell? ⟨x.1, 3, none⟩ = some (.int .u8 (ky x.1).2) := box_cells HE 3 _ rfl
  have e4 : W.cell? ⟨x.1, 4, none⟩ = some (vc (vl x.1)) := box_cells HE 4 _ rfl
  have HY : Hid (Calls Tryz.prog 91 #[kc (ky x.1), vc (vl x.1), q0, q1, q2, q3, q4] W.drew fun r W' =>
   (Cy W W' ∧ W.heap.size ≤ W'.heap.size) ∧ Kq (fun j => FP cb mv L j ∨ j = w.heap.size ∨ j = w.heap.size + 1) W W' ∧ ∃ b, r = .returned (.bool b) ∧ (b = true → I (pre ++ [x]) W') ∧ (b = false → Ix (pre ++ [x]) W')) := hyld pre x W.drew (hI pre W W.drew none hi ⟨rfl, rfl, rfl, Nat.le_refl _, fun _ _ _ => rfl⟩ (fun r e => by cases e)) hlt (hca.keep (fun _ _ => rfl)) hsw
  unfold kc vc at HY
  unfold vc at e4
  have HSW : Hid (w.heap.size + 2 ≤ W.heap.size) := hsw
  have HCA : Hid (CA W cb room mv L nn oo ky vl ∧ W.heap[w.heap.size]? = some (.cells #[.func (.func 91) #[] #[q0, q1, q2, q3, q4]] 131 (0, 0))) := ⟨hca, hyb⟩
  clear HE hyld hI hIx hC hl hBc h0 hi0 hc0 hFlt hs0 hy0 hi hca hyb hb0 hsz hsw
  have hmx : Tryz.prog.follows .mixedOrders = true := by kernel_rfl
  gi_wp2
  refine region_round hmx (by kernel_rfl) ?_
  change wpAnyIn _ _ _ _ _ _ 11 #[false, false, false, false, false, false, false, false, false, false, false] _ _
  refine wpAnyIn_take (i := 1) (v := .pointer (some ⟨x.1, 0, none⟩)) rfl rfl (by kernel_rfl) (by kernel_rfl) (by kernel_rfl) (fun _ _ _ h => h) ⟨Or.inl ⟨by rfl, by intro wq; go_simp⟩, fun _ => rfl⟩ ?_
  simp only [Act.put, nrA, nrB, nrC]
  refine wpAnyIn_take (i := 2) (v := .pointer (some ⟨x.1, 0, none⟩)) rfl rfl (by kernel_rfl) (by kernel_rfl) (by kernel_rfl) (fun _ _ _ h => h) ⟨Or.inl ⟨by rfl, by intro wq; go_simp⟩, fun _ => rfl⟩ ?_
  simp only [Act.put, nrA, nrB, nrC]
  refine wpAnyIn_take (i := 3) (v := .pointer (some ⟨x.1, 2, none⟩)) rfl rfl (by kernel_rfl) (by kernel_rfl) (by kernel_rfl) (fun _ _ _ h => h) ⟨Or.inl ⟨by rfl, by intro wq; go_simp⟩, fun _ => rfl⟩ ?_
  simp only [Act.put, nrA, nrB, nrC]
  refine wpAnyIn_take (i := 5) (v := .pointer (some ⟨x.1, 0, none⟩)) rfl rfl (by kernel_rfl) (by kernel_rfl) (by kernel_rfl) (fun _ _ _ h => h) ⟨Or.inl ⟨by rfl, by intro wq; go_simp⟩, fun _ => rfl⟩ ?_
  simp only [Act.put, nrA, nrB, nrC]
  refine wpAnyIn_take (i := 6) (v := .pointer (some ⟨x.1, 0, none⟩)) rfl rfl (by kernel_rfl) (by kernel_rfl) (by kernel_rfl) (fun _ _ _ h => h) ⟨Or.inl ⟨by rfl, by intro wq; go_simp⟩, fun _ => rfl⟩ ?_
  simp only [Act.put, nrA, nrB, nrC]
  refine wpAnyIn_take (i := 7) (v := .pointer (some ⟨x.1, 4, none⟩)) rfl rfl (by kernel_rfl) (by kernel_rfl) (by kernel_rfl) (fun _ _ _ h => h) ⟨Or.inl ⟨by rfl, by intro wq; go_simp⟩, fun _ => rfl⟩ ?_
  simp only [Act.put, nrA, nrB, nrC]
  refine wpAnyIn_ready (rs := [0, 4, 8]) (by kernel_rfl) (by simp) ?_
  refine (AllReadyIn.cons rfl (fun K hK => ?xa) (AllReadyIn.cons rfl (fun K hK => ?xb) (AllReadyIn.cons rfl (fun K hK => ?xc) (AllReadyIn.nil))))
  case' xa => (go_simp; refine hK _ _ ?_; clear hK K; refine wpAnyIn_ready (rs := [4, 8]) (by kernel_rfl) (by simp) ?_; refine (AllReadyIn.cons rfl (fun K hK => ?yad) (AllReadyIn.cons rfl (fun K hK => ?yae) (AllReadyIn.nil))); (case' yad => (go_simp; refine hK _ _ ?_; clear hK K; refine wpAnyIn_ready (rs := [8]) (by kernel_rfl) (by simp) ?_; refine (AllReadyIn.cons rfl (fun K hK => ?yaf) (AllReadyIn.nil)); go_simp; refine hK _ _ ?_; clear hK K)); (case' yae => (go_simp; refine hK _ _ ?_; clear hK K; refine wpAnyIn_ready (rs := [4]) (by kernel_rfl) (by simp) ?_; refine (AllReadyIn.cons rfl (fun K hK => ?yag) (AllReadyIn.nil)); go_simp; refine hK _ _ ?_; clear hK K)))
  case' xb => (go_simp; refine hK _ _ ?_; clear hK K; refine wpAnyIn_ready (rs := [0, 8]) (by kernel_rfl) (by simp) ?_; refine (AllReadyIn.cons rfl (fun K hK => ?ybd) (AllReadyIn.cons rfl (fun K hK => ?ybe) (AllReadyIn.nil))); (case' ybd => (go_simp; refine hK _ _ ?_; clear hK K; refine wpAnyIn_ready (rs := [8]) (by kernel_rfl) (by simp) ?_; refine (AllReadyIn.cons rfl (fun K hK => ?ybf) (AllReadyIn.nil)); go_simp; refine hK _ _ ?_; clear hK K)); (case' ybe => (go_simp; refine hK _ _ ?_; clear hK K; refine wpAnyIn_ready (rs := [0]) (by kernel_rfl) (by simp) ?_; refine (AllReadyIn.cons rfl (fun K hK => ?ybg) (AllReadyIn.nil)); go_simp; refine hK _ _ ?_; clear hK K)))
  case' xc => (go_simp; refine hK _ _ ?_; clear hK K; refine wpAnyIn_ready (rs := [0, 4]) (by kernel_rfl) (by simp) ?_; refine (AllReadyIn.cons rfl (fun K hK => ?ycd) (AllReadyIn.cons rfl (fun K hK => ?yce) (AllReadyIn.nil))); (case' ycd => (go_simp; refine hK _ _ ?_; clear hK K; refine wpAnyIn_ready (rs := [4]) (by kernel_rfl) (by simp) ?_; refine (AllReadyIn.cons rfl (fun K hK => ?ycf) (AllReadyIn.nil)); go_simp; refine hK _ _ ?_; clear hK K)); (case' yce => (go_simp; refine hK _ _ ?_; clear hK K; refine wpAnyIn_ready (rs := [0]) (by kernel_rfl) (by simp) ?_; refine (AllReadyIn.cons rfl (fun K hK => ?ycg) (AllReadyIn.nil)); go_simp; refine hK _ _ ?_; clear hK K)))
  all_goals simp only [Act.put, nrA, nrB, nrC]
  all_goals
   refine wpAnyIn_ready (rs := [9]) (by kernel_rfl) (by simp) ?_
   refine AllReadyIn.cons rfl (fun K hK => ?_) AllReadyIn.nil
   go_simp
   refine ⟨trivial, ?_⟩
   refine (callsIn_wide.2 HY.out).mono ?_
   rintro e W' ⟨⟨hcy, hsz'⟩, hkq, b, rfl, hb1, hb2⟩
   have Z : Hid ((Cy W W' ∧ W.heap.size ≤ W'.heap.size) ∧ Kq (fun j => FP cb mv L j ∨ j = w.heap.size ∨ j = w.heap.size + 1) W W' ∧ (b = true → I (pre ++ [x]) W') ∧ (b = false → Ix (pre ++ [x]) W')) := ⟨⟨hcy, hsz'⟩, hkq, hb1, hb2⟩
   clear hcy hsz' hkq hb1 hb2
   refine hK _ _ ?_
   clear hK K
   simp only [Act.put, nrA, nrB, nrC]
   refine wpAnyIn_ready (rs := [10]) (by kernel_rfl) (by simp) ?_
   refine AllReadyIn.cons rfl (fun K hK => ?_) AllReadyIn.nil
   go_simp
   refine hK _ _ ?_
   clear hK K
   simp only [Act.put, nrA, nrB, nrC]
   refine wpAnyIn_done (by kernel_rfl) ?_ _
   cases b
   ·
    gi_wp2
    exact ⟨⟨Z.out.1.2, fun k o _ hk ho => Z.out.1.1 k o hk ho⟩, rfl, Z.out.2.2.2 (by trivial)⟩
   ·
    gi_wp2
    exact ⟨⟨Z.out.1.2, fun k o _ hk ho => Z.out.1.1 k o hk ho⟩, Z.out.2.1, Z.out.2.2.1 (by trivial), ⟨HCA.out.1.keep (fun j hj => Z.out.2.1 j (.inl hj)), Nat.le_trans HSW.out Z.out.1.2⟩, (Z.out.2.1 _ (.inr (.inl rfl))).trans HCA.out.2⟩
 case done =>
  rintro D xs W hD rfl ⟨hi, _, hyb⟩ hK
  gi_wp2
  refine ⟨by simp, .inl ⟨_, _, rfl, run_takeDeferred hK, ?_⟩⟩
  exact ⟨_, results_none rfl _ _ _, ⟨_, rfl⟩, .inl (OwnFrom.putObj hI (.deferred none) hi (by omega) hK rfl)⟩
 case stop =>
  rintro D c pre W hD ⟨k, hk, rfl⟩ ⟨rfl, hx⟩ hK
  gi_wp2
  refine ⟨by simp, .inl ⟨_, _, rfl, run_takeDeferred hK, ?_⟩⟩
  exact ⟨_, results_none rfl _ _ _, ⟨_, rfl⟩, .inr ⟨k, hk, OwnFrom.putObj hIx (.deferred none) hx (by omega) hK rfl⟩⟩
theorem all1_65 {w : World} {cb room : Nat} {mv : Value} {L : List Nat} {nn oo : Nat → Nat} {ky : Nat → Ky} {vl : Nat → Vt} (hC : CA w cb room mv L nn oo ky vl) (hl : L.length ≤ 1048576) (Bc : Nat) (hBc : w.heap[Bc]? = some (.cells #[pt cb] 37 (0, 0)))
  {q0 q1 q2 q3 : Value}
  (I Ix : List {b : Nat // b ∈ L} → World → Prop) (hI : OwnFrom w.heap.size I) (hIx : OwnFrom w.heap.size Ix) (h0 : I [] w)
  (hyld : ∀ pre (x : {b : Nat // b ∈ L}) W, I pre W → pre.length < L.length → CA W cb room mv L nn oo ky vl → w.heap.size + 2 ≤ W.heap.size → Calls Tryz.prog 65 #[kc (ky x.1), vc (vl x.1), q0, q1, q2, q3] W fun r W' =>
   (Cy W W' ∧ W.heap.size ≤ W'.heap.size) ∧ Kq (fun j => FP cb mv L j ∨ j = w.heap.size ∨ j = w.heap.size + 1) W W' ∧ ∃ b, r = .returned (.bool b) ∧ (b = true → I (pre ++ [x]) W') ∧ (b = false → Ix (pre ++ [x]) W')) :
  Calls Tryz.prog 89 #[.func (.func 65) #[] #[q0, q1, q2, q3], .pointer (some ⟨Bc, 0, none⟩)] w fun r w' => (∃ v, r = .returned v) ∧ (I L.attach w' ∨ ∃ k, k ≤ L.length ∧ Ix (L.attach.take k) w') := by
 have c0 : (w.alloc (.cells #[.func (.func 65) #[] #[q0, q1, q2, q3]] 131)).cell? ⟨Bc, 0, none⟩ = some (.pointer (some ⟨cb, 0, none⟩)) := box_cells (((World.grownBy_alloc w _ none).block Bc (Array.getElem?_eq_some_iff.1 hBc).1 (by simp)).trans hBc) 0 _ rfl
 refine (callsIn_wide (n := 5)).1 ?_
 refine callsIn_of_wp_marks Tryz.func89 rfl trivial ?_ rfl
 simp only [Tryz.ntmps89, List.size_toArray, List.length_cons, List.length_nil, Nat.reduceAdd, Nat.reduceSub, Array.replicate_succ, Array.replicate_zero, List.push_toArray, List.append_toArray, List.nil_append, List.cons_append]
 gi_wp2_with (refine ⟨trivial, ?_⟩; gi_at_call 90; refine (inorder_in Fence.wide _ trivial rfl _ _).mono ?_; rintro e w' ⟨rfl, rfl⟩)
 clear c0
 unfold pt
 obtain ⟨W0, hW0⟩ : ∃ W0, W0 = (w.alloc (.cells #[.func (.func 65) #[] #[q0, q1, q2, q3]] 131)).alloc (.cells #[.pointer (some ⟨cb, 0, none⟩)] 37) := ⟨_, rfl⟩
 have hsz : W0.heap.size = w.heap.size + 2 := by rw [hW0]; simp
 have hb0 : Below w.heap.size w W0 := by rw [hW0]; exact ((Below.refl _ _).alloc (Nat.le_refl _) _).alloc (by simp) _
 have hy0 : W0.heap[w.heap.size]? = some (.cells #[.func (.func 65) #[] #[q0, q1, q2, q3]] 131 (0, 0)) := by
  rw [hW0, (World.grownBy_alloc _ _ none).block _ (by simp) (by simp)]
  exact (MapKept.heap_alloc _ _).1
 have hs0 : W0.heap[w.heap.size + 1]? = some (.cells #[pt cb] 37 (0, 0)) := by
  have := (MapKept.heap_alloc (w.alloc (.cells #[.func (.func 65) #[] #[q0, q1, q2, q3]] 131)) (.cells #[.pointer (some ⟨cb, 0, none⟩)] 37)).1
  rw [hW0]
  unfold pt
  simpa using this
 have hi0 : I [] W0 := by rw [hW0]; exact hI.alloc _ (hI.alloc _ h0)
 have hc0 : CA W0 cb room mv L nn oo ky vl := hC.keep (fun j hj => hb0.block j (hC.lt hj))
 rw [← hW0]
 clear hW0
 have hFlt : ∀ j, (FP cb mv L j ∨ j = w.heap.size ∨ j = w.heap.size + 1) → j < W0.heap.size := fun j q => by
  rcases q with q | q | q
  ·
   exact hc0.lt q
  ·
   omega
  ·
   omega
 refine wpIn_rangeFunc_ownG rfl (by omega) (gf := 105) (lb := #[.pointer (some ⟨w.heap.size + 1, 0, none⟩)]) rfl trivial (enters_of Tryz.func105 (by kernel_rfl) rfl)
  (inord_stops Fence.wide _ trivial rfl (by omega) (w.heap.size + 1) (fun j => FP cb mv L j ∨ j = w.heap.size ∨ j = w.heap.size + 1) (fun j q => by
   rcases q with q | q
   ·
    exact .inl q
   ·
    exact .inr (.inr q)) hl W0 hs0 hc0) Kq_t (Kq_b hFlt) (Below.refl _ _) (fun _ => rfl)
  (fun pre W => I pre W ∧ (CA W cb room mv L nn oo ky vl ∧ w.heap.size + 2 ≤ W.heap.size) ∧ W.heap[w.heap.size]? = some (.cells #[.func (.func 65) #[] #[q0, q1, q2, q3]] 131 (0, 0)))
  (fun c pre W => c = .ret ∧ Ix pre W)
  ?hI ?hIx ⟨hi0, ⟨hc0, by omega⟩, hy0⟩
  (fun x => { tmps := #[.func (.func 65) #[] #[q0, q1, q2, q3], .pointer (some ⟨Bc, 0, none⟩), .pointer (some ⟨w.heap.size, 0, none⟩), .pointer (some ⟨x.1, 0, none⟩), .pointer (some ⟨cb, 0, none⟩), .func (.func 105) #[] #[.pointer (some ⟨w.heap.size + 1, 0, none⟩)], .pointer (some ⟨x.1, 0, none⟩), undef, undef, undef, undef, undef, undef, undef, undef, undef, undef, undef], defers := [] }) ?assign ?body ?done ?stop
 case hI =>
  intro s A B row hs hg hr
  have hkeep : ∀ j, j < W0.heap.size → j < A.heap.size → B.heap[j]? = A.heap[j]? := fun j hj hja => hg.block j hja (fun e => by
   have := (hr j e.symm).1
   omega)
  refine ⟨(OwnFrom.up hI (by omega)) s A B row hs.1 hg hr, ⟨hs.2.1.1.keep (fun j hj => hkeep j (hc0.lt hj) (hs.2.1.1.lt hj)), Nat.le_trans hs.2.1.2 hg.size⟩, ?_⟩
  rw [hkeep _ (by omega) (Array.getElem?_eq_some_iff.1 hs.2.2).1]
  exact hs.2.2
 case hIx =>
  intro c s A B row hs hg hr
  exact ⟨hs.1, (OwnFrom.up hIx (by omega)) s A B row hs.2 hg hr⟩
 case assign =>
  intro l x W K hK
  gi_wp2
  exact hK
 case body =>
  rintro l pre x W ⟨hi, ⟨hca, hsw⟩, hyb⟩ hlt
  have y0 : W.cell? ⟨w.heap.size, 0, none⟩ = some (.func (.func 65) #[] #[q0, q1, q2, q3]) := box_cells hyb 0 _ rfl
  have HE := hca.eb x.1 x.2
  have e2 : W.cell? ⟨x.1, 2, none⟩ = some (.int .u8 (ky x.1).1) := box_cells HE 2 _ rfl
  have e3 : W.cell? ⟨x.1, 3, none⟩ = some (.int .u8 (ky x.1).2) := box_cells HE 3 _ rfl
  have e4 : W.cell? ⟨x.1, 4, none⟩ = some (vc (vl x.1)) := box_cells HE 4 _ rfl
  have HY : Hid (Calls Tryz.prog 65 #[kc (ky x.1), vc (vl x.1), q0, q1, q2, q3] W.drew fun r W' =>
   (Cy W W' ∧ W.heap.size ≤ W'.heap.size) ∧ Kq (fun j => FP cb mv L j ∨ j = w.heap.size ∨ j = w.heap.size + 1) W W' ∧ ∃ b, r = .returned (.bool b) ∧ (b = true → I (pre ++ [x]) W') ∧ (b = false → Ix (pre ++ [x]) W')) := hyld pre x W.drew (hI pre W W.drew none hi ⟨rfl, rfl, rfl, Nat.le_refl _, fun _ _ _ => rfl⟩ (fun r e => by cases e)) hlt (hca.keep (fun _ _ => rfl)) hsw
  unfold kc vc at HY
  unfold vc at e4
  have HSW : Hid (w.heap.size + 2 ≤ W.heap.size) := hsw
  have HCA : Hid (CA W cb room mv L nn oo ky vl ∧ W.heap[w.heap.size]? = some (.cells #[.func (.func 65) #[] #[q0, q1, q2, q3]] 131 (0, 0))) := ⟨hca, hyb⟩
  clear HE hyld hI hIx hC hl hBc h0 hi0 hc0 hFlt hs0 hy0 hi hca hyb hb0 hsz hsw
  have hmx : Tryz.prog.follows .mixedOrders = true := by kernel_rfl
  gi_wp2
  refine region_round hmx (by kernel_rfl) ?_
  change wpAnyIn _ _ _ _ _ _ 11 #[false, false, false, false, false, false, false, false, false, false, false] _ _
  refine wpAnyIn_take (i := 1) (v := .pointer (some ⟨x.1, 0, none⟩)) rfl rfl (by kernel_rfl) (by kernel_rfl) (by kernel_rfl) (fun _ _ _ h => h) ⟨Or.inl ⟨by rfl, by intro wq; go_simp⟩, fun _ => rfl⟩ ?_
  simp only [Act.put, nrA, nrB, nrC]
  refine wpAnyIn_take (i := 2) (v := .pointer (some ⟨x.1, 0, none⟩)) rfl rfl (by kernel_rfl) (by kernel_rfl) (by kernel_rfl) (fun _ _ _ h => h) ⟨Or.inl ⟨by rfl, by intro wq; go_simp⟩, fun _ => rfl⟩ ?_
  simp only [Act.put, nrA, nrB, nrC]
  refine wpAnyIn_take (i := 3) (v := .pointer (some ⟨x.1, 2, none⟩)) rfl rfl (by kernel_rfl) (by kernel_rfl) (by kernel_rfl) (fun _ _ _ h => h) ⟨Or.inl ⟨by rfl, by intro wq; go_simp⟩, fun _ => rfl⟩ ?_
  simp only [Act.put, nrA, nrB, nrC]
  refine wpAnyIn_take (i := 5) (v := .pointer (some ⟨x.1, 0, none⟩)) rfl rfl (by kernel_rfl) (by kernel_rfl) (by kernel_rfl) (fun _ _ _ h => h) ⟨Or.inl ⟨by rfl, by intro wq; go_simp⟩, fun _ => rfl⟩ ?_
  simp only [Act.put, nrA, nrB, nrC]
  refine wpAnyIn_take (i := 6) (v := .pointer (some ⟨x.1, 0, none⟩)) rfl rfl (by kernel_rfl) (by kernel_rfl) (by kernel_rfl) (fun _ _ _ h => h) ⟨Or.inl ⟨by rfl, by intro wq; go_simp⟩, fun _ => rfl⟩ ?_
  simp only [Act.put, nrA, nrB, nrC]
  refine wpAnyIn_take (i := 7) (v := .pointer (some ⟨x.1, 4, none⟩)) rfl rfl (by kernel_rfl) (by kernel_rfl) (by kernel_rfl) (fun _ _ _ h => h) ⟨Or.inl ⟨by rfl, by intro wq; go_simp⟩, fun _ => rfl⟩ ?_
  simp only [Act.put, nrA, nrB, nrC]
  refine wpAnyIn_ready (rs := [0, 4, 8]) (by kernel_rfl) (by simp) ?_
  refine (AllReadyIn.cons rfl (fun K hK => ?xa) (AllReadyIn.cons rfl (fun K hK => ?xb) (AllReadyIn.cons rfl (fun K hK => ?xc) (AllReadyIn.nil))))
  case' xa => (go_simp; refine hK _ _ ?_; clear hK K; refine wpAnyIn_ready (rs := [4, 8]) (by kernel_rfl) (by simp) ?_; refine (AllReadyIn.cons rfl (fun K hK => ?yad) (AllReadyIn.cons rfl (fun K hK => ?yae) (AllReadyIn.nil))); (case' yad => (go_simp; refine hK _ _ ?_; clear hK K; refine wpAnyIn_ready (rs := [8]) (by kernel_rfl) (by simp) ?_; refine (AllReadyIn.cons rfl (fun K hK => ?yaf) (AllReadyIn.nil)); go_simp; refine hK _ _ ?_; clear hK K)); (case' yae => (go_simp; refine hK _ _ ?_; clear hK K; refine wpAnyIn_ready (rs := [4]) (by kernel_rfl) (by simp) ?_; refine (AllReadyIn.cons rfl (fun K hK => ?yag) (AllReadyIn.nil)); go_simp; refine hK _ _ ?_; clear hK K)))
  case' xb => (go_simp; refine hK _ _ ?_; clear hK K; refine wpAnyIn_ready (rs := [0, 8]) (by kernel_rfl) (by simp) ?_; refine (AllReadyIn.cons rfl (fun K hK => ?ybd) (AllReadyIn.cons rfl (fun K hK => ?ybe) (AllReadyIn.nil))); (case' ybd => (go_simp; refine hK _ _ ?_; clear hK K; refine wpAnyIn_ready (rs := [8]) (by kernel_rfl) (by simp) ?_; refine (AllReadyIn.cons rfl (fun K hK => ?ybf) (AllReadyIn.nil)); go_simp; refine hK _ _ ?_; clear hK K)); (case' ybe => (go_simp; refine hK _ _ ?_; clear hK K; refine wpAnyIn_ready (rs := [0]) (by kernel_rfl) (by simp) ?_; refine (AllReadyIn.cons rfl (fun K hK => ?ybg) (AllReadyIn.nil)); go_simp; refine hK _ _ ?_; clear hK K)))
  case' xc => (go_simp; refine hK _ _ ?_; clear hK K; refine wpAnyIn_ready (rs := [0, 4]) (by kernel_rfl) (by simp) ?_; refine (AllReadyIn.cons rfl (fun K hK => ?ycd) (AllReadyIn.cons rfl (fun K hK => ?yce) (AllReadyIn.nil))); (case' ycd => (go_simp; refine hK _ _ ?_; clear hK K; refine wpAnyIn_ready (rs := [4]) (by kernel_rfl) (by simp) ?_; refine (AllReadyIn.cons rfl (fun K hK => ?ycf) (AllReadyIn.nil)); go_simp; refine hK _ _ ?_; clear hK K)); (case' yce => (go_simp; refine hK _ _ ?_; clear hK K; refine wpAnyIn_ready (rs := [0]) (by kernel_rfl) (by simp) ?_; refine (AllReadyIn.cons rfl (fun K hK => ?ycg) (AllReadyIn.nil)); go_simp; refine hK _ _ ?_; clear hK K)))
  all_goals simp only [Act.put, nrA, nrB, nrC]
  all_goals
   refine wpAnyIn_ready (rs := [9]) (by kernel_rfl) (by simp) ?_
   refine AllReadyIn.cons rfl (fun K hK => ?_) AllReadyIn.nil
   go_simp
   refine ⟨trivial, ?_⟩
   refine (callsIn_wide.2 HY.out).mono ?_
   rintro e W' ⟨⟨hcy, hsz'⟩, hkq, b, rfl, hb1, hb2⟩
   have Z : Hid ((Cy W W' ∧ W.heap.size ≤ W'.heap.size) ∧ Kq (fun j => FP cb mv L j ∨ j = w.heap.size ∨ j = w.heap.size + 1) W W' ∧ (b = true → I (pre ++ [x]) W') ∧ (b = false → Ix (pre ++ [x]) W')) := ⟨⟨hcy, hsz'⟩, hkq, hb1, hb2⟩
   clear hcy hsz' hkq hb1 hb2
   refine hK _ _ ?_
   clear hK K
   simp only [Act.put, nrA, nrB, nrC]
   refine wpAnyIn_ready (rs := [10]) (by kernel_rfl) (by simp) ?_
   refine AllReadyIn.cons rfl (fun K hK => ?_) AllReadyIn.nil
   go_simp
   refine hK _ _ ?_
   clear hK K
   simp only [Act.put, nrA, nrB, nrC]
   refine wpAnyIn_done (by kernel_rfl) ?_ _
   cases b
   ·
    gi_wp2
    exact ⟨⟨Z.out.1.2, fun k o _ hk ho => Z.out.1.1 k o hk ho⟩, rfl, Z.out.2.2.2 (by trivial)⟩
   ·
    gi_wp2
    exact ⟨⟨Z.out.1.2, fun k o _ hk ho => Z.out.1.1 k o hk ho⟩, Z.out.2.1, Z.out.2.2.1 (by trivial), ⟨HCA.out.1.keep (fun j hj => Z.out.2.1 j (.inl hj)), Nat.le_trans HSW.out Z.out.1.2⟩, (Z.out.2.1 _ (.inr (.inl rfl))).trans HCA.out.2⟩
 case done =>
  rintro D xs W hD rfl ⟨hi, _, hyb⟩ hK
  gi_wp2
  refine ⟨by simp, .inl ⟨_, _, rfl, run_takeDeferred hK, ?_⟩⟩
  exact ⟨_, results_none rfl _ _ _, ⟨_, rfl⟩, .inl (OwnFrom.putObj hI (.deferred none) hi (by omega) hK rfl)⟩
 case stop =>
  rintro D c pre W hD ⟨k, hk, rfl⟩ ⟨rfl, hx⟩ hK
  gi_wp2
  refine ⟨by simp, .inl ⟨_, _, rfl, run_takeDeferred hK, ?_⟩⟩
  exact ⟨_, results_none rfl _ _ _, ⟨_, rfl⟩, .inr ⟨k, hk, OwnFrom.putObj hIx (.deferred none) hx (by omega) hK rfl⟩⟩
end Go.Proofs.YtdhinpmjbcohaaaGreat.Kc
