import Derived.RangeFuncBox
import Derived.RangeFuncNested
import Derived.RangeFuncLeaves
import Derived.RangeFuncCalls
import Derived.Shelf.Abstract
import Derived.Shelf.RegionOpen
import Derived.WalkKit
import Derived.OwnWalkIn
import Derived.TacticsInMore
import Derived.LoopNIn
import Derived.LoopIn
import Derived.RegionIn
import Derived.Maps.AppendAt
import Derived.Test.YtdhinpmjbcohaaaGreatPa
import Derived.Test.YtdhinpmjbcohaaaGreatCc
namespace Go.Proofs.YtdhinpmjbcohaaaGreat.Ka
open Go Go.RowKit Go.Shelf
set_option linter.unusedSimpArgs false
set_option linter.unusedVariables false
set_option maxRecDepth 100000
set_option maxHeartbeats 4000000

attribute [local go_sem] Oper.semAt_some

def Kq (S : Nat → Prop) (W W' : World) : Prop := ∀ j, S j → W'.heap[j]? = W.heap[j]?
theorem Kq.refl (S : Nat → Prop) (W : World) : Kq S W W := fun _ _ => rfl
theorem Kq_t {S : Nat → Prop} {A B C : World} (h : Kq S A B) (k : Kq S B C) : Kq S A C := fun j hj => (k j hj).trans (h j hj)
theorem Kq_b {S : Nat → Prop} {w : World} (hS : ∀ j, S j → j < w.heap.size) (W : World) (l : Nat) (o o' : Obj) (hl : w.heap.size ≤ l) (h : W.heap[l]? = some o) (h1 : o.isCells = false) (h2 : o.isWalk = false) : Kq S W (W.putObj l o') := fun j hj =>
 (belowK_b (Nat.le_refl _) W l o o' hl h h1 h2).block j (hS j hj)
theorem seg_older {n o : Nat → Nat} {b : Nat} : ∀ (T : List Nat) (a k : Nat) (hk : k + 1 < (a :: T).length), Seg n o a T b → o (a :: T)[k] = (a :: T)[k + 1]
 | [], a, k, hk, h => by simp at hk
 | y :: T, a, 0, hk, h => h.1
 | y :: T, a, k + 1, hk, h => seg_older T y k (by simpa using hk) h.2.2
theorem ring_older {n o : Nat → Nat} {L : List Nat} (h : Ring n o L) (k : Nat) (hk : k + 1 < L.length) : o L[k] = L[k + 1] := by
 cases L with
 | nil => simp at hk
 | cons a T => exact seg_older T a k hk h

theorem inord_in (F : Fence) (n : Nat) (h8 : F.fn 103) (hro : F.round = none) (hn : 1 ≤ n) (l Bs : Nat) {cb room : Nat} {mv : Value} {L : List Nat} {nn oo : Nat → Nat} {ky : Nat → Ky} {vl : Nat → Vt} (S : Nat → Prop) (hS : ∀ j, FP cb mv L j ∨ j = Bs → S j) (hreach : L.length ≤ 1048576)
  (J Jx : List {b : Nat // b ∈ L} → World → Prop)
  (hY : ∀ pre (x : {b : Nat // b ∈ L}) W, J pre W → pre.length < L.length → YieldAt F (n - 1) Tryz.prog l #[pt x.1] W fun e W' =>
   (e = .returned (.bool true) ∧ J (pre ++ [x]) W' ∧ Kq S W W') ∨ (e = .returned (.bool false) ∧ Jx (pre ++ [x]) W'))
  (W : World) (hBs : W.heap[Bs]? = some (.cells #[pt cb] 23 (0, 0))) (hC : CA W cb room mv L nn oo ky vl) (h0 : J [] W) :
  CallsIn F n Tryz.prog 103 #[.func (.yield l) #[] #[], .pointer (some ⟨Bs, 0, none⟩)] W fun e W' => (∃ v, e = .returned v) ∧
   ((∃ ys, ys = L.attach ∧ J ys W') ∨ (∃ pre, (∃ k, k ≤ L.length ∧ pre = L.attach.take k) ∧ Jx pre W')) := by
 have HC : Hid (∀ W', Kq S W W' → CA W' cb room mv L nn oo ky vl) := fun W' hk => hC.keep (fun j hj => hk j (hS j (.inl hj)))
 have HB : Hid (∀ W', Kq S W W' → W'.heap[Bs]? = some (.cells #[pt cb] 23 (0, 0))) := fun W' hk => (hk Bs (hS Bs (.inr rfl))).trans hBs
 obtain ⟨m, rfl⟩ := mv_map hC.mp
 have b0 : W.cell? ⟨Bs, 0, none⟩ = some (.pointer (some ⟨cb, 0, none⟩)) := box_cells hBs 0 _ rfl
 have b1 : W.cell? ⟨cb, 1, none⟩ = some (hdp L) := box_cells hC.at_ 1 _ rfl
 have b2 : W.cell? ⟨cb, 2, none⟩ = some (.map m) := box_cells hC.at_ 2 _ rfl
 have bl := hC.mp.len 3
 obtain ⟨len, hlen⟩ : ∃ len, len = L.length := ⟨_, rfl⟩
 obtain ⟨hd, hhd⟩ : ∃ p, hdp L = .pointer p := by cases L <;> exact ⟨_, rfl⟩
 rw [hhd] at b1
 rw [← hlen] at hY hreach bl ⊢
 have HL : Hid (len = L.length) := hlen
 have HH : Hid (hdp L = .pointer hd) := hhd
 clear hlen hhd hC hBs
 refine callsIn_of_wp Tryz.func103 rfl h8 ?_ hro
 simp only [Tryz.ntmps103, List.size_toArray, List.length_cons, List.length_nil, Nat.reduceAdd, Nat.reduceSub, Array.replicate_succ, Array.replicate_zero, List.push_toArray, List.append_toArray, List.nil_append, List.cons_append]
 gi_wp2
 gi_loopw [3, 13] (fun e i wr => ∃ k : Nat, k ≤ len ∧ i = .int .i64 k ∧ Hid (∀ hk : k < L.length, e = pt L[k]) ∧ J (L.attach.take k) wr ∧ Kq S W wr)
  (fun _ i _ => (len - (intOf i).toNat))
 case atStart =>
  refine ⟨0, Nat.zero_le _, rfl, fun hk => ?_, h0, Kq.refl _ _⟩
  rw [← HH.out]
  cases L with
  | nil => simp at hk
  | cons a T => rfl
 case round =>
  obtain ⟨k, hk, rfl, HE, hJs, hnx⟩ := hrel
  by_cases hkl : k < len
  ·
   have hk' : k < L.length := by have := HL.out; omega
   have hu := HE.out hk'
   have hCA := HC.out wr hnx
   unfold pt at hu
   subst hu
   have hlt : (k : Int) < (len : Int) := by omega
   have hw1 : IntKind.i64.wrap ((k : Int) + 1) = (k : Int) + 1 := by rw [IntKind.wrap_i64]; omega
   have hin : L[k] ∈ L := List.getElem_mem hk'
   have hat : L.attach.take (k + 1) = L.attach.take k ++ [⟨L[k], hin⟩] := by
    rw [List.take_add_one, List.getElem?_eq_getElem (by simpa using hk')]
    simp
   obtain ⟨fn, tmps, assign, body, hy, hR⟩ := hY _ ⟨L[k], hin⟩ wr hJs (by simp; omega)
   unfold pt at hy
   dsimp only at hy
   gi_wp2
   refine hR.mono ?_
   rintro e W3 (⟨rfl, hJ3, hk3⟩ | ⟨rfl, hJx3⟩)
   ·
    have hC3 := HC.out W3 (Kq_t hnx hk3)
    have c1 : W3.cell? ⟨L[k], 1, none⟩ = some (.pointer (some ⟨oo L[k], 0, none⟩)) := box_cells (hC3.eb _ hin) 1 _ rfl
    have HO : Hid (∀ hk1 : k + 1 < L.length, oo L[k] = L[k + 1]) := fun hk1 => ring_older hC3.ring k hk1
    clear hC3
    gi_wp2
    go_roundw
    case rel => exact ⟨k + 1, by omega, by simp, fun hk1 => by rw [HO.out hk1]; rfl, by rw [hat]; exact hJ3, Kq_t hnx hk3⟩
    case measure => simp [intOf]; omega
   ·
    gi_wp2
    refine bodyPost_ret (results_none rfl _ _ _) rfl ?_
    exact ⟨⟨_, rfl⟩, .inr ⟨_, ⟨k + 1, by omega, hat.symm⟩, hJx3⟩⟩
  ·
   obtain rfl : k = len := by omega
   have hlt : ¬ (k : Int) < (k : Int) := by omega
   have hall : L.attach.take k = L.attach := List.take_of_length_le (by have := HL.out; simp; omega)
   rw [hall] at hJs
   gi_wp2
   go_end0
   first | exact ⟨⟨_, rfl⟩, .inl ⟨_, rfl, hJs⟩⟩ | exact ⟨⟨_, rfl⟩, .inl hJs⟩
end Go.Proofs.YtdhinpmjbcohaaaGreat.Ka
namespace Go.Proofs.YtdhinpmjbcohaaaGreat
open Go Go.RowKit Go.Shelf
set_option linter.unusedSimpArgs false
set_option linter.unusedVariables false

theorem upon_round {F : Fence} {n : Nat} {P : Program} {o : Oper} {a : Act} {K : Act → World → Prop} {Q : Exit → Act → World → Prop} {r : Result Next} (l : Nat) (h : o.uponIn F n P a K Q r) : o.uponIn (F.inRound l) n P a K Q r := by
 cases r with
 | halt x w => exact h
 | ok x w => cases x <;> exact h
theorem op_round {F : Fence} {n : Nat} {P : Program} {o : Oper} {a : Act} {w : World} {K : Act → World → Prop} {Q : Exit → Act → World → Prop} (l : Nat) (hF : F.round = none) (hd : ∀ c, o.op ≠ .defer c) (h : o.wpIn F n P a w K Q) : o.wpIn (F.inRound l) n P a w K Q := by
 refine ⟨h.1, ?_⟩
 have h2 := h.2
 rw [hF, Oper.semAt_none] at h2
 rw [Fence.inRound_round, Oper.semAt_some l _ o hd]
 exact upon_round l h2
theorem any_round {F : Fence} {n : Nat} {P : Program} {md : Region.Mode} {ops : Array Oper} {Q : Exit → Act → World → Prop} (l : Nat) (hF : F.round = none) (hd : ∀ (i : Nat) (o : Oper), ops[i]? = some o → ∀ c, o.op ≠ .defer c) : ∀ (fuel : Nat) (listed : Array Bool) (a : Act) (w : World), wpAnyIn F n P md ops Q fuel listed a w → wpAnyIn (F.inRound l) n P md ops Q fuel listed a w
 | 0, listed, a, w, h => h
 | fuel + 1, listed, a, w, h => by
  refine ⟨h.1, fun i hi => ?_⟩
  have h1 := h.2 i hi
  unfold wpOpIn at h1 ⊢
  cases ho : ops[i]? with
  | none =>
   rw [ho] at h1
   exact any_round l hF hd fuel _ _ _ h1
  | some o =>
   rw [ho] at h1
   simp only at h1 ⊢
   split
   ·
    rename_i hw
    rw [if_pos hw] at h1
    exact Oper.wpIn_mono (fun a w q => any_round l hF hd fuel _ a w q) (op_round l hF (hd i o ho) h1)
   ·
    rename_i hw
    rw [if_neg hw] at h1
    exact ⟨h1.1, any_round l hF hd fuel _ _ _ h1.2⟩
def noDefer (ops : Array Oper) : Bool := ops.all fun o => match o.op with
 | .defer _ => false
 | _ => true
theorem noDefer_spec {ops : Array Oper} (h : noDefer ops = true) : ∀ (i : Nat) (o : Oper), ops[i]? = some o → ∀ c, o.op ≠ .defer c := by
 intro i o ho c q
 unfold noDefer at h
 have := Array.all_eq_true_iff_forall_mem.1 h o (Array.mem_of_getElem? ho)
 rw [q] at this
 cases this
theorem region_round {n : Nat} {P : Program} {id : Nat} {ops : Array Oper} {Q : Exit → Act → World → Prop} {a : Act} {w : World} {l : Nat} (hm : P.follows .mixedOrders = true) (hd : noDefer ops = true) (h : wpAnyIn Fence.wide n P .any ops Q ops.size (Array.replicate ops.size false) a w.drew) : (Code.region id ops true).wpIn (Fence.wide.inRound l) n P Q a w :=
 wpIn_region_any hm (any_round l rfl (noDefer_spec hd) _ _ _ _ h)
end Go.Proofs.YtdhinpmjbcohaaaGreat
namespace Go.Proofs.YtdhinpmjbcohaaaGreat.Ka
open Go Go.RowKit Go.Shelf
set_option linter.unusedSimpArgs false
set_option linter.unusedVariables false
set_option maxRecDepth 100000
set_option maxHeartbeats 4000000

attribute [local go_sem] Oper.semAt_some

theorem inorder_in (F : Fence) (n : Nat) (h6 : F.fn 84) (hro : F.round = none) (cb : Nat) (w : World) :
  CallsIn F n Tryz.prog 84 #[pt cb] w fun e w' => e = .returned (.func (.func 103) #[] #[.pointer (some ⟨w.heap.size, 0, none⟩)]) ∧ w' = w.alloc (.cells #[pt cb] 23) := by
 unfold pt
 refine callsIn_of_wp Tryz.func84 rfl h6 ?_ hro
 simp only [Tryz.ntmps84, List.size_toArray, List.length_cons, List.length_nil, Nat.reduceAdd, Nat.reduceSub, Array.replicate_succ, Array.replicate_zero, List.push_toArray, List.append_toArray, List.nil_append, List.cons_append]
 gi_wp2
 go_ret
 exact ⟨rfl, rfl⟩
theorem All_any (cb : Nat) (w : World) : Calls Tryz.prog 56 #[pt cb] w fun e w' => e = .returned (.func (.func 83) #[] #[.pointer (some ⟨w.heap.size, 0, none⟩)]) ∧ w' = w.alloc (.cells #[pt cb] 23) := by
 unfold pt
 go_enter Tryz.func56, Tryz.ntmps56
 go_wp2_with fail
 go_ret
 exact ⟨rfl, rfl⟩
theorem inord_stops (F : Fence) (n : Nat) (h8 : F.fn 103) (hro : F.round = none) (hn : 1 ≤ n) (Bs : Nat) {cb room : Nat} {mv : Value} {L : List Nat} {nn oo : Nat → Nat} {ky : Nat → Ky} {vl : Nat → Vt} (S : Nat → Prop) (hS : ∀ j, FP cb mv L j ∨ j = Bs → S j) (hreach : L.length ≤ 1048576) (w : World) (hBs : w.heap[Bs]? = some (.cells #[pt cb] 23 (0, 0))) (hC : CA w cb room mv L nn oo ky vl) :
  SeqStopsK F n Tryz.prog 103 #[.pointer (some ⟨Bs, 0, none⟩)] (fun x : {b : Nat // b ∈ L} => #[pt x.1]) (Kq S) (fun ys => ys = L.attach)
   (fun pre => ∃ k, k ≤ L.length ∧ pre = L.attach.take k) L.length w := fun l J Jx W hW _ _ hY hJ0 =>
 inord_in F n h8 hro hn l Bs S hS hreach J Jx hY W ((hW.block Bs (Array.getElem?_eq_some_iff.1 hBs).1).trans hBs) (hC.keep (fun j hj => hW.block j (hC.lt hj))) hJ0
def Cy (W W' : World) : Prop := ∀ (r : Nat) (o : Obj), W.heap[r]? = some o → o.isCells = false → W'.heap[r]? = some o
theorem OwnFrom.up {β : Type} {I : β → World → Prop} {B B' : Nat} (h : OwnFrom B I) (hb : B ≤ B') : OwnFrom B' I := fun s W W' row hs hg hr => h s W W' row hs hg (fun r e => ⟨Nat.le_trans hb (hr r e).1, (hr r e).2⟩)

theorem all1_85 {w : World} {cb room : Nat} {mv : Value} {L : List Nat} {nn oo : Nat → Nat} {ky : Nat → Ky} {vl : Nat → Vt} (hC : CA w cb room mv L nn oo ky vl) (hl : L.length ≤ 1048576) (Bc : Nat) (hBc : w.heap[Bc]? = some (.cells #[pt cb] 23 (0, 0)))
  {q0 q1 q2 q3 q4 : Value}
  (I Ix : List {b : Nat // b ∈ L} → World → Prop) (hI : OwnFrom w.heap.size I) (hIx : OwnFrom w.heap.size Ix) (h0 : I [] w)
  (hyld : ∀ pre (x : {b : Nat // b ∈ L}) W, I pre W → pre.length < L.length → CA W cb room mv L nn oo ky vl → w.heap.size + 2 ≤ W.heap.size → Calls Tryz.prog 85 #[kc (ky x.1), vc (vl x.1), q0, q1, q2, q3, q4] W fun r W' =>
   (Cy W W' ∧ W.heap.size ≤ W'.heap.size) ∧ Kq (fun j => FP cb mv L j ∨ j = w.heap.size ∨ j = w.heap.size + 1) W W' ∧ ∃ b, r = .returned (.bool b) ∧ (b = true → I (pre ++ [x]) W') ∧ (b = false → Ix (pre ++ [x]) W')) :
  Calls Tryz.prog 83 #[.func (.func 85) #[] #[q0, q1, q2, q3, q4], .pointer (some ⟨Bc, 0, none⟩)] w fun r w' => (∃ v, r = .returned v) ∧ (I L.attach w' ∨ ∃ k, k ≤ L.length ∧ Ix (L.attach.take k) w') := by
 have c0 : (w.alloc (.cells #[.func (.func 85) #[] #[q0, q1, q2, q3, q4]] 121)).cell? ⟨Bc, 0, none⟩ = some (.pointer (some ⟨cb, 0, none⟩)) := box_cells (((World.grownBy_alloc w _ none).block Bc (Array.getElem?_eq_some_iff.1 hBc).1 (by simp)).trans hBc) 0 _ rfl
 refine (callsIn_wide (n := 5)).1 ?_
 refine callsIn_of_wp_marks Tryz.func83 rfl trivial ?_ rfl
 simp only [Tryz.ntmps83, List.size_toArray, List.length_cons, List.length_nil, Nat.reduceAdd, Nat.reduceSub, Array.replicate_succ, Array.replicate_zero, List.push_toArray, List.append_toArray, List.nil_append, List.cons_append]
 gi_wp2_with (refine ⟨trivial, ?_⟩; gi_at_call 84; refine (inorder_in Fence.wide _ trivial rfl _ _).mono ?_; rintro e w' ⟨rfl, rfl⟩)
 clear c0
 unfold pt
 obtain ⟨W0, hW0⟩ : ∃ W0, W0 = (w.alloc (.cells #[.func (.func 85) #[] #[q0, q1, q2, q3, q4]] 121)).alloc (.cells #[.pointer (some ⟨cb, 0, none⟩)] 23) := ⟨_, rfl⟩
 have hsz : W0.heap.size = w.heap.size + 2 := by rw [hW0]; simp
 have hb0 : Below w.heap.size w W0 := by rw [hW0]; exact ((Below.refl _ _).alloc (Nat.le_refl _) _).alloc (by simp) _
 have hy0 : W0.heap[w.heap.size]? = some (.cells #[.func (.func 85) #[] #[q0, q1, q2, q3, q4]] 121 (0, 0)) := by
  rw [hW0, (World.grownBy_alloc _ _ none).block _ (by simp) (by simp)]
  exact (MapKept.heap_alloc _ _).1
 have hs0 : W0.heap[w.heap.size + 1]? = some (.cells #[pt cb] 23 (0, 0)) := by
  have := (MapKept.heap_alloc (w.alloc (.cells #[.func (.func 85) #[] #[q0, q1, q2, q3, q4]] 121)) (.cells #[.pointer (some ⟨cb, 0, none⟩)] 23)).1
  rw [hW0]
  unfold pt
  simpa using this
 have hi0 : I [] W0 := by rw [hW0]; exact hI.alloc _ (hI.alloc _ h0)
 have hc0 : CA W0 cb room mv L nn oo ky vl := hC.keep (fun j hj => hb0.block j (hC.lt hj))
 rw [← hW0]
 clear hW0
 have hFlt : ∀ j, (FP cb mv L j ∨ j = w.heap.size ∨ j = w.heap.size + 1) → j < W0.heap.size := fun j q => by
  rcases q with q | q | q
  ·
   exact hc0.lt q
  ·
   omega
  ·
   omega
 refine wpIn_rangeFunc_ownG rfl (by omega) (gf := 103) (lb := #[.pointer (some ⟨w.heap.size + 1, 0, none⟩)]) rfl trivial (enters_of Tryz.func103 (by kernel_rfl) rfl)
  (inord_stops Fence.wide _ trivial rfl (by omega) (w.heap.size + 1) (fun j => FP cb mv L j ∨ j = w.heap.size ∨ j = w.heap.size + 1) (fun j q => by
   rcases q with q | q
   ·
    exact .inl q
   ·
    exact .inr (.inr q)) hl W0 hs0 hc0) Kq_t (Kq_b hFlt) (Below.refl _ _) (fun _ => rfl)
  (fun pre W => I pre W ∧ (CA W cb room mv L nn oo ky vl ∧ w.heap.size + 2 ≤ W.heap.size) ∧ W.heap[w.heap.size]? = some (.cells #[.func (.func 85) #[] #[q0, q1, q2, q3, q4]] 121 (0, 0)))
  (fun c pre W => c = .ret ∧ Ix pre W)
  ?hI ?hIx ⟨hi0, ⟨hc0, by omega⟩, hy0⟩
  (fun x => { tmps := #[.func (.func 85) #[] #[q0, q1, q2, q3, q4], .pointer (some ⟨Bc, 0, none⟩), .pointer (some ⟨w.heap.size, 0, none⟩), .pointer (some ⟨x.1, 0, none⟩), .pointer (some ⟨cb, 0, none⟩), .func (.func 103) #[] #[.pointer (some ⟨w.heap.size + 1, 0, none⟩)], .pointer (some ⟨x.1, 0, none⟩), undef, undef, undef, undef, undef, undef, undef, undef, undef, undef, undef], defers := [] }) ?assign ?body ?done ?stop
 case hI =>
  intro s A B row hs hg hr
  have hkeep : ∀ j, j < W0.heap.size → j < A.heap.size → B.heap[j]? = A.heap[j]? := fun j hj hja => hg.block j hja (fun e => by
   have := (hr j e.symm).1
   omega)
  refine ⟨(OwnFrom.up hI (by omega)) s A B row hs.1 hg hr, ⟨hs.2.1.1.keep (fun j hj => hkeep j (hc0.lt hj) (hs.2.1.1.lt hj)), Nat.le_trans hs.2.1.2 hg.size⟩, ?_⟩
  rw [hkeep _ (by omega) (Array.getElem?_eq_some_iff.1 hs.2.2).1]
  exact hs.2.2
 case hIx =>
  intro c s A B row hs hg hr
  exact ⟨hs.1, (OwnFrom.up hIx (by omega)) s A B row hs.2 hg hr⟩
 case assign =>
  intro l x W K hK
  gi_wp2
  exact hK
 case body =>
  rintro l pre x W ⟨hi, ⟨hca, hsw⟩, hyb⟩ hlt
  have y0 : W.cell? ⟨w.heap.size, 0, none⟩ = some (.func (.func 85) #[] #[q0, q1, q2, q3, q4]) := box_cells hyb 0 _ rfl
  have HE := hca.eb x.1 x.2
  have e2 : W.cell? ⟨x.1, 2, none⟩ = some (.string (ky x.1).1) := box_cells HE 2 _ rfl
  have e3 : W.cell? ⟨x.1, 3, none⟩ = some (.int .i64 (ky x.1).2) := box_cells HE 3 _ rfl
  have e4 : W.cell? ⟨x.1, 4, none⟩ = some (vc (vl x.1)) := box_cells HE 4 _ rfl
  have HY : Hid (Calls Tryz.prog 85 #[kc (ky x.1), vc (vl x.1), q0, q1, q2, q3, q4] W.drew fun r W' =>
   (Cy W W' ∧ W.heap.size ≤ W'.heap.size) ∧ Kq (fun j => FP cb mv L j ∨ j = w.heap.size ∨ j = w.heap.size + 1) W W' ∧ ∃ b, r = .returned (.bool b) ∧ (b = true → I (pre ++ [x]) W') ∧ (b = false → Ix (pre ++ [x]) W')) := hyld pre x W.drew (hI pre W W.drew none hi ⟨rfl, rfl, rfl, Nat.le_refl _, fun _ _ _ => rfl⟩ (fun r e => by cases e)) hlt (hca.keep (fun _ _ => rfl)) hsw
  unfold kc vc at HY
  unfold vc at e4
  have HSW : Hid (w.heap.size + 2 ≤ W.heap.size) := hsw
  have HCA : Hid (CA W cb room mv L nn oo ky vl ∧ W.heap[w.heap.size]? = some (.cells #[.func (.func 85) #[] #[q0, q1, q2, q3, q4]] 121 (0, 0))) := ⟨hca, hyb⟩
  clear HE hyld hI hIx hC hl hBc h0 hi0 hc0 hFlt hs0 hy0 hi hca hyb hb0 hsz hsw
  have hmx : Tryz.prog.follows .mixedOrders = true := by kernel_rfl
  gi_wp2
  refine region_round hmx (by kernel_rfl) ?_
  change wpAnyIn _ _ _ _ _ _ 11 #[false, false, false, false, false, false, false, false, false, false, false] _ _
  refine wpAnyIn_take (i := 1) (v := .pointer (some ⟨x.1, 0, none⟩)) rfl rfl (by kernel_rfl) (by kernel_rfl) (by kernel_rfl) (fun _ _ _ h => h) ⟨Or.inl ⟨by rfl, by intro wq; go_simp⟩, fun _ => rfl⟩ ?_
  simp only [Act.put, nrA, nrB, nrC]
  refine wpAnyIn_take (i := 2) (v := .pointer (some ⟨x.1, 0, none⟩)) rfl rfl (by kernel_rfl) (by kernel_rfl) (by kernel_rfl) (fun _ _ _ h => h) ⟨Or.inl ⟨by rfl, by intro wq; go_simp⟩, fun _ => rfl⟩ ?_
  simp only [Act.put, nrA, nrB, nrC]
  refine wpAnyIn_take (i := 3) (v := .pointer (some ⟨x.1, 2, none⟩)) rfl rfl (by kernel_rfl) (by kernel_rfl) (by kernel_rfl) (fun _ _ _ h => h) ⟨Or.inl ⟨by rfl, by intro wq; go_simp⟩, fun _ => rfl⟩ ?_
  simp only [Act.put, nrA, nrB, nrC]
  refine wpAnyIn_take (i := 5) (v := .pointer (some ⟨x.1, 0, none⟩)) rfl rfl (by kernel_rfl) (by kernel_rfl) (by kernel_rfl) (fun _ _ _ h => h) ⟨Or.inl ⟨by rfl, by intro wq; go_simp⟩, fun _ => rfl⟩ ?_
  simp only [Act.put, nrA, nrB, nrC]
  refine wpAnyIn_take (i := 6) (v := .pointer (some ⟨x.1, 0, none⟩)) rfl rfl (by kernel_rfl) (by kernel_rfl) (by kernel_rfl) (fun _ _ _ h => h) ⟨Or.inl ⟨by rfl, by intro wq; go_simp⟩, fun _ => rfl⟩ ?_
  simp only [Act.put, nrA, nrB, nrC]
  refine wpAnyIn_take (i := 7) (v := .pointer (some ⟨x.1, 4, none⟩)) rfl rfl (by kernel_rfl) (by kernel_rfl) (by kernel_rfl) (fun _ _ _ h => h) ⟨Or.inl ⟨by rfl, by intro wq; go_simp⟩, fun _ => rfl⟩ ?_
  simp only [Act.put, nrA, nrB, nrC]
  refine wpAnyIn_ready (rs := [0, 4, 8]) (by kernel_rfl) (by simp) ?_
  refine (AllReadyIn.cons rfl (fun K hK => ?xa) (AllReadyIn.cons rfl (fun K hK => ?xb) (AllReadyIn.cons rfl (fun K hK => ?xc) (AllReadyIn.nil))))
  case' xa => (go_simp; refine hK _ _ ?_; clear hK K; refine wpAnyIn_ready (rs := [4, 8]) (by kernel_rfl) (by simp) ?_; refine (AllReadyIn.cons rfl (fun K hK => ?yad) (AllReadyIn.cons rfl (fun K hK => ?yae) (AllReadyIn.nil))); (case' yad => (go_simp; refine hK _ _ ?_; clear hK K; refine wpAnyIn_ready (rs := [8]) (by kernel_rfl) (by simp) ?_; refine (AllReadyIn.cons rfl (fun K hK => ?yaf) (AllReadyIn.nil)); go_simp; refine hK _ _ ?_; clear hK K)); (case' yae => (go_simp; refine hK _ _ ?_; clear hK K; refine wpAnyIn_ready (rs := [4]) (by kernel_rfl) (by simp) ?_; refine (AllReadyIn.cons rfl (fun K hK => ?yag) (AllReadyIn.nil)); go_simp; refine hK _ _ ?_; clear hK K)))
  case' xb => (go_simp; refine hK _ _ ?_; clear hK K; refine wpAnyIn_ready (rs := [0, 8]) (by kernel_rfl) (by simp) ?_; refine (AllReadyIn.cons rfl (fun K hK => ?ybd) (AllReadyIn.cons rfl (fun K hK => ?ybe) (AllReadyIn.nil))); (case' ybd => (go_simp; refine hK _ _ ?_; clear hK K; refine wpAnyIn_ready (rs := [8]) (by kernel_rfl) (by simp) ?_; refine (AllReadyIn.cons rfl (fun K hK => ?ybf) (AllReadyIn.nil)); go_simp; refine hK _ _ ?_; clear hK K)); (case' ybe => (go_simp; refine hK _ _ ?_; clear hK K; refine wpAnyIn_ready (rs := [0]) (by kernel_rfl) (by simp) ?_; refine (AllReadyIn.cons rfl (fun K hK => ?ybg) (AllReadyIn.nil)); go_simp; refine hK _ _ ?_; clear hK K)))
  case' xc => (go_simp; refine hK _ _ ?_; clear hK K; refine wpAnyIn_ready (rs := [0, 4]) (by kernel_rfl) (by simp) ?_; refine (AllReadyIn.cons rfl (fun K hK => ?ycd) (AllReadyIn.cons rfl (fun K hK => ?yce) (AllReadyIn.nil))); (case' ycd => (go_simp; refine hK _ _ ?_; clear hK K; refine wpAnyIn_ready (rs := [4]) (by kernel_rfl) (by simp) ?_; refine (AllReadyIn.cons rfl (fun K hK => ?ycf) (AllReadyIn.nil)); go_simp; refine hK _ _ ?_; clear hK K)); (case' yce => (go_simp; refine hK _ _ ?_; clear hK K; refine wpAnyIn_ready (rs := [0]) (by kernel_rfl) (by simp) ?_; refine (AllReadyIn.cons rfl (fun K hK => ?ycg) (AllReadyIn.nil)); go_simp; refine hK _ _ ?_; clear hK K)))
  all_goals simp only [Act.put, nrA, nrB, nrC]
  all_goals
   refine wpAnyIn_ready (rs := [9]) (by kernel_rfl) (by simp) ?_
   refine AllReadyIn.cons rfl (fun K hK => ?_) AllReadyIn.nil
   go_simp
   refine ⟨trivial, ?_⟩
   refine (callsIn_wide.2 HY.out).mono ?_
   rintro e W' ⟨⟨hcy, hsz'⟩, hkq, b, rfl, hb1, hb2⟩
   have Z : Hid ((Cy W W' ∧ W.heap.size ≤ W'.heap.size) ∧ Kq (fun j => FP cb mv L j ∨ j = w.heap.size ∨ j = w.heap.size + 1) W W' ∧ (b = true → I (pre ++ [x]) W') ∧ (b = false → Ix (pre ++ [x]) W')) := ⟨⟨hcy, hsz'⟩, hkq, hb1, hb2⟩
   clear hcy hsz' hkq hb1 hb2
   refine hK _ _ ?_
   clear hK K
   simp only [Act.put, nrA, nrB, nrC]
   refine wpAnyIn_ready (rs := [10]) (by kernel_rfl) (by simp) ?_
   refine AllReadyIn.cons rfl (fun K hK => ?_) AllReadyIn.nil
   go_simp
   refine hK _ _ ?_
   clear hK K
   simp only [Act.put, nrA, nrB, nrC]
   refine wpAnyIn_done (by kernel_rfl) ?_ _
   cases b
   ·
    gi_wp2
    exact ⟨⟨Z.out.1.2, fun k o _ hk ho => Z.out.1.1 k o hk ho⟩, rfl, Z.out.2.2.2 (by trivial)⟩
   ·
    gi_wp2
    exact ⟨⟨Z.out.1.2, fun k o _ hk ho => Z.out.1.1 k o hk ho⟩, Z.out.2.1, Z.out.2.2.1 (by trivial), ⟨HCA.out.1.keep (fun j hj => Z.out.2.1 j (.inl hj)), Nat.le_trans HSW.out Z.out.1.2⟩, (Z.out.2.1 _ (.inr (.inl rfl))).trans HCA.out.2⟩
 case done =>
  rintro D xs W hD rfl ⟨hi, _, hyb⟩ hK
  gi_wp2
  refine ⟨by simp, .inl ⟨_, _, rfl, run_takeDeferred hK, ?_⟩⟩
  exact ⟨_, results_none rfl _ _ _, ⟨_, rfl⟩, .inl (OwnFrom.putObj hI (.deferred none) hi (by omega) hK rfl)⟩
 case stop =>
  rintro D c pre W hD ⟨k, hk, rfl⟩ ⟨rfl, hx⟩ hK
  gi_wp2
  refine ⟨by simp, .inl ⟨_, _, rfl, run_takeDeferred hK, ?_⟩⟩
  exact ⟨_, results_none rfl _ _ _, ⟨_, rfl⟩, .inr ⟨k, hk, OwnFrom.putObj hIx (.deferred none) hx (by omega) hK rfl⟩⟩
theorem all1_59 {w : World} {cb room : Nat} {mv : Value} {L : List Nat} {nn oo : Nat → Nat} {ky : Nat → Ky} {vl : Nat → Vt} (hC : CA w cb room mv L nn oo ky vl) (hl : L.length ≤ 1048576) (Bc : Nat) (hBc : w.heap[Bc]? = some (.cells #[pt cb] 23 (0, 0)))
  {q0 q1 q2 q3 : Value}
  (I Ix : List {b : Nat // b ∈ L} → World → Prop) (hI : OwnFrom w.heap.size I) (hIx : OwnFrom w.heap.size Ix) (h0 : I [] w)
  (hyld : ∀ pre (x : {b : Nat // b ∈ L}) W, I pre W → pre.length < L.length → CA W cb room mv L nn oo ky vl → w.heap.size + 2 ≤ W.heap.size → Calls Tryz.prog 59 #[kc (ky x.1), vc (vl x.1), q0, q1, q2, q3] W fun r W' =>
   (Cy W W' ∧ W.heap.size ≤ W'.heap.size) ∧ Kq (fun j => FP cb mv L j ∨ j = w.heap.size ∨ j = w.heap.size + 1) W W' ∧ ∃ b, r = .returned (.bool b) ∧ (b = true → I (pre ++ [x]) W') ∧ (b = false → Ix (pre ++ [x]) W')) :
  Calls Tryz.prog 83 #[.func (.func 59) #[] #[q0, q1, q2, q3], .pointer (some ⟨Bc, 0, none⟩)] w fun r w' => (∃ v, r = .returned v) ∧ (I L.attach w' ∨ ∃ k, k ≤ L.length ∧ Ix (L.attach.take k) w') := by
 have c0 : (w.alloc (.cells #[.func (.func 59) #[] #[q0, q1, q2, q3]] 121)).cell? ⟨Bc, 0, none⟩ = some (.pointer (some ⟨cb, 0, none⟩)) := box_cells (((World.grownBy_alloc w _ none).block Bc (Array.getElem?_eq_some_iff.1 hBc).1 (by simp)).trans hBc) 0 _ rfl
 refine (callsIn_wide (n := 5)).1 ?_
 refine callsIn_of_wp_marks Tryz.func83 rfl trivial ?_ rfl
 simp only [Tryz.ntmps83, List.size_toArray, List.length_cons, List.length_nil, Nat.reduceAdd, Nat.reduceSub, Array.replicate_succ, Array.replicate_zero, List.push_toArray, List.append_toArray, List.nil_append, List.cons_append]
 gi_wp2_with (refine ⟨trivial, ?_⟩; gi_at_call 84; refine (inorder_in Fence.wide _ trivial rfl _ _).mono ?_; rintro e w' ⟨rfl, rfl⟩)
 clear c0
 unfold pt
 obtain ⟨W0, hW0⟩ : ∃ W0, W0 = (w.alloc (.cells #[.func (.func 59) #[] #[q0, q1, q2, q3]] 121)).alloc (.cells #[.pointer (some ⟨cb, 0, none⟩)] 23) := ⟨_, rfl⟩
 have hsz : W0.heap.size = w.heap.size + 2 := by rw [hW0]; simp
 have hb0 : Below w.heap.size w W0 := by rw [hW0]; exact ((Below.refl _ _).alloc (Nat.le_refl _) _).alloc (by simp) _
 have hy0 : W0.heap[w.heap.size]? = some (.cells #[.func (.func 59) #[] #[q0, q1, q2, q3]] 121 (0, 0)) := by
  rw [hW0, (World.grownBy_alloc _ _ none).block _ (by simp) (by simp)]
  exact (MapKept.heap_alloc _ _).1
 have hs0 : W0.heap[w.heap.size + 1]? = some (.cells #[pt cb] 23 (0, 0)) := by
  have := (MapKept.heap_alloc (w.alloc (.cells #[.func (.func 59) #[] #[q0, q1, q2, q3]] 121)) (.cells #[.pointer (some ⟨cb, 0, none⟩)] 23)).1
  rw [hW0]
  unfold pt
  simpa using this
 have hi0 : I [] W0 := by rw [hW0]; exact hI.alloc _ (hI.alloc _ h0)
 have hc0 : CA W0 cb room mv L nn oo ky vl := hC.keep (fun j hj => hb0.block j (hC.lt hj))
 rw [← hW0]
 clear hW0
 have hFlt : ∀ j, (FP cb mv L j ∨ j = w.heap.size ∨ j = w.heap.size + 1) → j < W0.heap.size := fun j q => by
  rcases q with q | q | q
  ·
   exact hc0.lt q
  ·
   omega
  ·
   omega
 refine wpIn_rangeFunc_ownG rfl (by omega) (gf := 103) (lb := #[.pointer (some ⟨w.heap.size + 1, 0, none⟩)]) rfl trivial (enters_of Tryz.func103 (by kernel_rfl) rfl)
  (inord_stops Fence.wide _ trivial rfl (by omega) (w.heap.size + 1) (fun j => FP cb mv L j ∨ j = w.heap.size ∨ j = w.heap.size + 1) (fun j q => by
   rcases q with q | q
   ·
    exact .inl q
   ·
    exact .inr (.inr q)) hl W0 hs0 hc0) Kq_t (Kq_b hFlt) (Below.refl _ _) (fun _ => rfl)
  (fun pre W => I pre W ∧ (CA W cb room mv L nn oo ky vl ∧ w.heap.size + 2 ≤ W.heap.size) ∧ W.heap[w.heap.size]? = some (.cells #[.func (.func 59) #[] #[q0, q1, q2, q3]] 121 (0, 0)))
  (fun c pre W => c = .ret ∧ Ix pre W)
  ?hI ?hIx ⟨hi0, ⟨hc0, by omega⟩, hy0⟩
  (fun x => { tmps := #[.func (.func 59) #[] #[q0, q1, q2, q3], .pointer (some ⟨Bc, 0, none⟩), .pointer (some ⟨w.heap.size, 0, none⟩), .pointer (some ⟨x.1, 0, none⟩), .pointer (some ⟨cb, 0, none⟩), .func (.func 103) #[] #[.pointer (some ⟨w.heap.size + 1, 0, none⟩)], .pointer (some ⟨x.1, 0, none⟩), undef, undef, undef, undef, undef, undef, undef, undef, undef, undef, undef], defers := [] }) ?assign ?body ?done ?stop
 case hI =>
  intro s A B row hs hg hr
  have hkeep : ∀ j, j < W0.heap.size → j < A.heap.size → B.heap[j]? = A.heap[j]? := fun j hj hja => hg.block j hja (fun e => by
   have := (hr j e.symm).1
   omega)
  refine ⟨(OwnFrom.up hI (by omega)) s A B row hs.1 hg hr, ⟨hs.2.1.1.keep (fun j hj => hkeep j (hc0.lt hj) (hs.2.1.1.lt hj)), Nat.le_trans hs.2.1.2 hg.size⟩, ?_⟩
  rw [hkeep _ (by omega) (Array.getElem?_eq_some_iff.1 hs.2.2).1]
  exact hs.2.2
 case hIx =>
  intro c s A B row hs hg hr
  exact ⟨hs.1, (OwnFrom.up hIx (by omega)) s A B row hs.2 hg hr⟩
 case assign =>
  intro l x W K hK
  gi_wp2
  exact hK
 case body =>
  rintro l pre x W ⟨hi, ⟨hca, hsw⟩, hyb⟩ hlt
  have y0 : W.cell? ⟨w.heap.size, 0, none⟩ = some (.func (.func 59) #[] #[q0, q1, q2, q3]) := box_cells hyb 0 _ rfl
  have HE := hca.eb x.1 x.2
  have e2 : W.cell? ⟨x.1, 2, none⟩ = some (.string (ky x.1).1) := box_cells HE 2 _ rfl
  have e3 : W.cell? ⟨x.1, 3, none⟩ = some (.int .i64 (ky x.1).2) := box_cells HE 3 _ rfl
  have e4 : W.cell? ⟨x.1, 4, none⟩ = some (vc (vl x.1)) := box_cells HE 4 _ rfl
  have HY : Hid (Calls Tryz.prog 59 #[kc (ky x.1), vc (vl x.1), q0, q1, q2, q3] W.drew fun r W' =>
   (Cy W W' ∧ W.heap.size ≤ W'.heap.size) ∧ Kq (fun j => FP cb mv L j ∨ j = w.heap.size ∨ j = w.heap.size + 1) W W' ∧ ∃ b, r = .returned (.bool b) ∧ (b = true → I (pre ++ [x]) W') ∧ (b = false → Ix (pre ++ [x]) W')) := hyld pre x W.drew (hI pre W W.drew none hi ⟨rfl, rfl, rfl, Nat.le_refl _, fun _ _ _ => rfl⟩ (fun r e => by cases e)) hlt (hca.keep (fun _ _ => rfl)) hsw
  unfold kc vc at HY
  unfold vc at e4
  have HSW : Hid (w.heap.size + 2 ≤ W.heap.size) := hsw
  have HCA : Hid (CA W cb room mv L nn oo ky vl ∧ W.heap[w.heap.size]? = some (.cells #[.func (.func 59) #[] #[q0, q1, q2, q3]] 121 (0, 0))) := ⟨hca, hyb⟩
  clear HE hyld hI hIx hC hl hBc h0 hi0 hc0 hFlt hs0 hy0 hi hca hyb hb0 hsz hsw
  have hmx : Tryz.prog.follows .mixedOrders = true := by kernel_rfl
  gi_wp2
  refine region_round hmx (by kernel_rfl) ?_
  change wpAnyIn _ _ _ _ _ _ 11 #[false, false, false, false, false, false, false, false, false, false, false] _ _
  refine wpAnyIn_take (i := 1) (v := .pointer (some ⟨x.1, 0, none⟩)) rfl rfl (by kernel_rfl) (by kernel_rfl) (by kernel_rfl) (fun _ _ _ h => h) ⟨Or.inl ⟨by rfl, by intro wq; go_simp⟩, fun _ => rfl⟩ ?_
  simp only [Act.put, nrA, nrB, nrC]
  refine wpAnyIn_take (i := 2) (v := .pointer (some ⟨x.1, 0, none⟩)) rfl rfl (by kernel_rfl) (by kernel_rfl) (by kernel_rfl) (fun _ _ _ h => h) ⟨Or.inl ⟨by rfl, by intro wq; go_simp⟩, fun _ => rfl⟩ ?_
  simp only [Act.put, nrA, nrB, nrC]
  refine wpAnyIn_take (i := 3) (v := .pointer (some ⟨x.1, 2, none⟩)) rfl rfl (by kernel_rfl) (by kernel_rfl) (by kernel_rfl) (fun _ _ _ h => h) ⟨Or.inl ⟨by rfl, by intro wq; go_simp⟩, fun _ => rfl⟩ ?_
  simp only [Act.put, nrA, nrB, nrC]
  refine wpAnyIn_take (i := 5) (v := .pointer (some ⟨x.1, 0, none⟩)) rfl rfl (by kernel_rfl) (by kernel_rfl) (by kernel_rfl) (fun _ _ _ h => h) ⟨Or.inl ⟨by rfl, by intro wq; go_simp⟩, fun _ => rfl⟩ ?_
  simp only [Act.put, nrA, nrB, nrC]
  refine wpAnyIn_take (i := 6) (v := .pointer (some ⟨x.1, 0, none⟩)) rfl rfl (by kernel_rfl) (by kernel_rfl) (by kernel_rfl) (fun _ _ _ h => h) ⟨Or.inl ⟨by rfl, by intro wq; go_simp⟩, fun _ => rfl⟩ ?_
  simp only [Act.put, nrA, nrB, nrC]
  refine wpAnyIn_take (i := 7) (v := .pointer (some ⟨x.1, 4, none⟩)) rfl rfl (by kernel_rfl) (by kernel_rfl) (by kernel_rfl) (fun _ _ _ h => h) ⟨Or.inl ⟨by rfl, by intro wq; go_simp⟩, fun _ => rfl⟩ ?_
  simp only [Act.put, nrA, nrB, nrC]
  refine wpAnyIn_ready (rs := [0, 4, 8]) (by kernel_rfl) (by simp) ?_
  refine (AllReadyIn.cons rfl (fun K hK => ?xa) (AllReadyIn.cons rfl (fun K hK => ?xb) (AllReadyIn.cons rfl (fun K hK => ?xc) (AllReadyIn.nil))))
  case' xa => (go_simp; refine hK _ _ ?_; clear hK K; refine wpAnyIn_ready (rs := [4, 8]) (by kernel_rfl) (by simp) ?_; refine (AllReadyIn.cons rfl (fun K hK => ?yad) (AllReadyIn.cons rfl (fun K hK => ?yae) (AllReadyIn.nil))); (case' yad => (go_simp; refine hK _ _ ?_; clear hK K; refine wpAnyIn_ready (rs := [8]) (by kernel_rfl) (by simp) ?_; refine (AllReadyIn.cons rfl (fun K hK => ?yaf) (AllReadyIn.nil)); go_simp; refine hK _ _ ?_; clear hK K)); (case' yae => (go_simp; refine hK _ _ ?_; clear hK K; refine wpAnyIn_ready (rs := [4]) (by kernel_rfl) (by simp) ?_; refine (AllReadyIn.cons rfl (fun K hK => ?yag) (AllReadyIn.nil)); go_simp; refine hK _ _ ?_; clear hK K)))
  case' xb => (go_simp; refine hK _ _ ?_; clear hK K; refine wpAnyIn_ready (rs := [0, 8]) (by kernel_rfl) (by simp) ?_; refine (AllReadyIn.cons rfl (fun K hK => ?ybd) (AllReadyIn.cons rfl (fun K hK => ?ybe) (AllReadyIn.nil))); (case' ybd => (go_simp; refine hK _ _ ?_; clear hK K; refine wpAnyIn_ready (rs := [8]) (by kernel_rfl) (by simp) ?_; refine (AllReadyIn.cons rfl (fun K hK => ?ybf) (AllReadyIn.nil)); go_simp; refine hK _ _ ?_; clear hK K)); (case' ybe => (go_simp; refine hK _ _ ?_; clear hK K; refine wpAnyIn_ready (rs := [0]) (by kernel_rfl) (by simp) ?_; refine (AllReadyIn.cons rfl (fun K hK => ?ybg) (AllReadyIn.nil)); go_simp; refine hK _ _ ?_; clear hK K)))
  case' xc => (go_simp; refine hK _ _ ?_; clear hK K; refine wpAnyIn_ready (rs := [0, 4]) (by kernel_rfl) (by simp) ?_; refine (AllReadyIn.cons rfl (fun K hK => ?ycd) (AllReadyIn.cons rfl (fun K hK => ?yce) (AllReadyIn.nil))); (case' ycd => (go_simp; refine hK _ _ ?_; clear hK K; refine wpAnyIn_ready (rs := [4]) (by kernel_rfl) (by simp) ?_; refine (AllReadyIn.cons rfl (fun K hK => ?ycf) (AllReadyIn.nil)); go_simp; refine hK _ _ ?_; clear hK K)); (case' yce => (go_simp; refine hK _ _ ?_; clear hK K; refine wpAnyIn_ready (rs := [0]) (by kernel_rfl) (by simp) ?_; refine (AllReadyIn.cons rfl (fun K hK => ?ycg) (AllReadyIn.nil)); go_simp; refine hK _ _ ?_; clear hK K)))
  all_goals simp only [Act.put, nrA, nrB, nrC]
  all_goals
   refine wpAnyIn_ready (rs := [9]) (by kernel_rfl) (by simp) ?_
   refine AllReadyIn.cons rfl (fun K hK => ?_) AllReadyIn.nil
   go_simp
   refine ⟨trivial, ?_⟩
   refine (callsIn_wide.2 HY.out).mono ?_
   rintro e W' ⟨⟨hcy, hsz'⟩, hkq, b, rfl, hb1, hb2⟩
   have Z : Hid ((Cy W W' ∧ W.heap.size ≤ W'.heap.size) ∧ Kq (fun j => FP cb mv L j ∨ j = w.heap.size ∨ j = w.heap.size + 1) W W' ∧ (b = true → I (pre ++ [x]) W') ∧ (b = false → Ix (pre ++ [x]) W')) := ⟨⟨hcy, hsz'⟩, hkq, hb1, hb2⟩
   clear hcy hsz' hkq hb1 hb2
   refine hK _ _ ?_
   clear hK K
   simp only [Act.put, nrA, nrB, nrC]
   refine wpAnyIn_ready (rs := [10]) (by kernel_rfl) (by simp) ?_
   refine AllReadyIn.cons rfl (fun K hK => ?_) AllReadyIn.nil
   go_simp
   refine hK _ _ ?_
   clear hK K
   simp only [Act.put, nrA, nrB, nrC]
   refine wpAnyIn_done (by kernel_rfl) ?_ _
   cases b
   ·
    gi_wp2
    exact ⟨⟨Z.out.1.2, fun k o _ hk ho => Z.out.1.1 k o hk ho⟩, rfl, Z.out.2.2.2 (by trivial)⟩
   ·
    gi_wp2
    exact ⟨⟨Z.out.1.2, fun k o _ hk ho => Z.out.1.1 k o hk ho⟩, Z.out.2.1, Z.out.2.2.1 (by trivial), ⟨HCA.out.1.keep (fun j hj => Z.out.2.1 j (.inl hj)), Nat.le_trans HSW.out Z.out.1.2⟩, (Z.out.2.1 _ (.inr (.inl rfl))).trans HCA.out.2⟩
 case done =>
  rintro D xs W hD rfl ⟨hi, _, hyb⟩ hK
  gi_wp2
  refine ⟨by simp, .inl ⟨_, _, rfl, run_takeDeferred hK, ?_⟩⟩
  exact ⟨_, results_none rfl _ _ _, ⟨_, rfl⟩, .inl (OwnFrom.putObj hI (.deferred none) hi (by omega) hK rfl)⟩
 case stop =>
  rintro D c pre W hD ⟨k, hk, rfl⟩ ⟨rfl, hx⟩ hK
  gi_wp2
  refine ⟨by simp, .inl ⟨_, _, rfl, run_takeDeferred hK, ?_⟩⟩
  exact ⟨_, results_none rfl _ _ _, ⟨_, rfl⟩, .inr ⟨k, hk, OwnFrom.putObj hIx (.deferred none) hx (by omega) hK rfl⟩⟩
end Go.Proofs.YtdhinpmjbcohaaaGreat.Ka
