import Derived.RangeFuncBox
import Derived.RangeFuncNested
import Derived.RangeFuncLeaves
import Derived.RangeFuncCalls
import Derived.Shelf.Abstract
import Derived.Shelf.RegionOpen
import Derived.WalkKit
import Derived.OwnWalkIn
import Derived.TacticsInMore
import Derived.LoopNIn
import Derived.LoopIn
import Derived.RegionIn
import Derived.Maps.AppendAt
import Derived.Test.YtdhinpmjbcohaaaGreatKbM
namespace Go.Proofs.YtdhinpmjbcohaaaGreat.Kb
open Go Go.RowKit Go.Shelf
set_option linter.unusedSimpArgs false
set_option linter.unusedVariables false
set_option maxRecDepth 100000
set_option maxHeartbeats 4000000

attribute [local go_sem] Oper.semAt_some

def Kq (S : Nat → Prop) (W W' : World) : Prop := ∀ j, S j → W'.heap[j]? = W.heap[j]?
theorem Kq.refl (S : Nat → Prop) (W : World) : Kq S W W := fun _ _ => rfl
theorem Kq_t {S : Nat → Prop} {A B C : World} (h : Kq S A B) (k : Kq S B C) : Kq S A C := fun j hj => (k j hj).trans (h j hj)
theorem Kq_b {S : Nat → Prop} {w : World} (hS : ∀ j, S j → j < w.heap.size) (W : World) (l : Nat) (o o' : Obj) (hl : w.heap.size ≤ l) (h : W.heap[l]? = some o) (h1 : o.isCells = false) (h2 : o.isWalk = false) : Kq S W (W.putObj l o') := fun j hj =>
 (belowK_b (Nat.le_refl _) W l o o' hl h h1 h2).block j (hS j hj)
theorem seg_older {n o : Nat → Nat} {b : Nat} : ∀ (T : List Nat) (a k : Nat) (hk : k + 1 < (a :: T).length), Seg n o a T b → o (a :: T)[k] = (a :: T)[k + 1]
 | [], a, k, hk, h => by simp at hk
 | y :: T, a, 0, hk, h => h.1
 | y :: T, a, k + 1, hk, h => seg_older T y k (by simpa using hk) h.2.2
theorem ring_older {n o : Nat → Nat} {L : List Nat} (h : Ring n o L) (k : Nat) (hk : k + 1 < L.length) : o L[k] = L[k + 1] := by
 cases L with
 | nil => simp at hk
 | cons a T => exact seg_older T a k hk h

theorem inord_in (F : Fence) (n : Nat) (h8 : F.fn 104) (hro : F.round = none) (hn : 1 ≤ n) (l Bs : Nat) {cb room : Nat} {mv : Value} {L : List Nat} {nn oo : Nat → Nat} {ky : Nat → Ky} {vl : Nat → Vt} (S : Nat → Prop) (hS : ∀ j, FP cb mv L j ∨ j = Bs → S j) (hreach : L.length ≤ 1048576)
  (J Jx : List {b : Nat // b ∈ L} → World → Prop)
  (hY : ∀ pre (x : {b : Nat // b ∈ L}) W, J pre W → pre.length < L.length → YieldAt F (n - 1) Tryz.prog l #[pt x.1] W fun e W' =>
   (e = .returned (.bool true) ∧ J (pre ++ [x]) W' ∧ Kq S W W') ∨ (e = .returned (.bool false) ∧ Jx (pre ++ [x]) W'))
  (W : World) (hBs : W.heap[Bs]? = some (.cells #[pt cb] 32 (0, 0))) (hC : CA W cb room mv L nn oo ky vl) (h0 : J [] W) :
  CallsIn F n Tryz.prog 104 #[.func (.yield l) #[] #[], .pointer (some ⟨Bs, 0, none⟩)] W fun e W' => (∃ v, e = .returned v) ∧
   ((∃ ys, ys = L.attach ∧ J ys W') ∨ (∃ pre, (∃ k, k ≤ L.length ∧ pre = L.attach.take k) ∧ Jx pre W')) := by
 have HC : Hid (∀ W', Kq S W W' → CA W' cb room mv L nn oo ky vl) := fun W' hk => hC.keep (fun j hj => hk j (hS j (.inl hj)))
 have HB : Hid (∀ W', Kq S W W' → W'.heap[Bs]? = some (.cells #[pt cb] 32 (0, 0))) := fun W' hk => (hk Bs (hS Bs (.inr rfl))).trans hBs
 obtain ⟨m, rfl⟩ := mv_map hC.mp
 have b0 : W.cell? ⟨Bs, 0, none⟩ = some (.pointer (some ⟨cb, 0, none⟩)) := box_cells hBs 0 _ rfl
 have b1 : W.cell? ⟨cb, 1, none⟩ = some (hdp L) := box_cells hC.at_ 1 _ rfl
 have b2 : W.cell? ⟨cb, 2, none⟩ = some (.map m) := box_cells hC.at_ 2 _ rfl
 have bl := hC.mp.len 3
 obtain ⟨len, hlen⟩ : ∃ len, len = L.length := ⟨_, rfl⟩
 obtain ⟨hd, hhd⟩ : ∃ p, hdp L = .pointer p := by cases L <;> exact ⟨_, rfl⟩
 rw [hhd] at b1
 rw [← hlen] at hY hreach bl ⊢
 have HL : Hid (len = L.length) := hlen
 have HH : Hid (hdp L = .pointer hd) := hhd
 clear hlen hhd hC hBs
 refine callsIn_of_wp Tryz.func104 rfl h8 ?_ hro
 simp only [Tryz.ntmps104, List.size_toArray, List.length_cons, List.length_nil, Nat.reduceAdd, Nat.reduceSub, Array.replicate_succ, Array.replicate_zero, List.push_toArray, List.append_toArray, List.nil_append, List.cons_append]
 gi_wp2
 gi_loopw [3, 13] (fun e i wr => ∃ k : Nat, k ≤ len ∧ i = .int .i64 k ∧ Hid (∀ hk : k < L.length, e = pt L[k]) ∧ J (L.attach.take k) wr ∧ Kq S W wr)
  (fun _ i _ => (len - (intOf i).toNat))
 case atStart =>
  refine ⟨0, Nat.zero_le _, rfl, fun hk => ?_, h0, Kq.refl _ _⟩
  rw [← HH.out]
  cases L with
  | nil => simp at hk
  | cons a T => rfl
 case round =>
  obtain ⟨k, hk, rfl, HE, hJs, hnx⟩ := hrel
  by_cases hkl : k < len
  ·
   have hk' : k < L.length := by have := HL.out; omega
   have hu := HE.out hk'
   have hCA := HC.out wr hnx
   unfold pt at hu
   subst hu
   have hlt : (k : Int) < (len : Int) := by omega
   have hw1 : IntKind.i64.wrap ((k : Int) + 1) = (k : Int) + 1 := by rw [IntKind.wrap_i64]; omega
   have hin : L[k] ∈ L := List.getElem_mem hk'
   have hat : L.attach.take (k + 1) = L.attach.take k ++ [⟨L[k], hin⟩] := by
    rw [List.take_add_one, List.getElem?_eq_getElem (by simpa using hk')]
    simp
   obtain ⟨fn, tmps, assign, body, hy, hR⟩ := hY _ ⟨L[k], hin⟩ wr hJs (by simp; omega)
   unfold pt at hy
   dsimp only at hy
   gi_wp2
   refine hR.mono ?_
   rintro e W3 (⟨rfl, hJ3, hk3⟩ | ⟨rfl, hJx3⟩)
   ·
    have hC3 := HC.out W3 (Kq_t hnx hk3)
    have c1 : W3.cell? ⟨L[k], 1, none⟩ = some (.pointer (some ⟨oo L[k], 0, none⟩)) := box_cells (hC3.eb _ hin) 1 _ rfl
    have HO : Hid (∀ hk1 : k + 1 < L.length, oo L[k] = L[k + 1]) := fun hk1 => ring_older hC3.ring k hk1
    clear hC3
    gi_wp2
    go_roundw
    case rel => exact ⟨k + 1, by omega, by simp, fun hk1 => by rw [HO.out hk1]; rfl, by rw [hat]; exact hJ3, Kq_t hnx hk3⟩
    case measure => simp [intOf]; omega
   ·
    gi_wp2
    refine bodyPost_ret (results_none rfl _ _ _) rfl ?_
    exact ⟨⟨_, rfl⟩, .inr ⟨_, ⟨k + 1, by omega, hat.symm⟩, hJx3⟩⟩
  ·
   obtain rfl : k = len := by omega
   have hlt : ¬ (k : Int) < (k : Int) := by omega
   have hall : L.attach.take k = L.attach := List.take_of_length_le (by have := HL.out; simp; omega)
   rw [hall] at hJs
   gi_wp2
   go_end0
   first | exact ⟨⟨_, rfl⟩, .inl ⟨_, rfl, hJs⟩⟩ | exact ⟨⟨_, rfl⟩, .inl hJs⟩
end Go.Proofs.YtdhinpmjbcohaaaGreat.Kb
