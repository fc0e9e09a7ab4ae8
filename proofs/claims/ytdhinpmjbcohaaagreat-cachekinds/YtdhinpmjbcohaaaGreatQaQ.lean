import Derived.Test.YtdhinpmjbcohaaaGreatJbhf
import Derived.Test.YtdhinpmjbcohaaaGreatJbhg
import Derived.Laws.Rows
import Derived.Test.YtdhinpmjbcohaaaGreatPa
import Derived.Deep.RegionHeldLaw
import Derived.Deep.RegionWith
import Derived.RegionCalls
import Derived.Deep.RegionLaw
import Derived.Deep.LoopGhost
import Derived.ChangeKeysEq
import Derived.Lib.AppendZeros
import Derived.Maps.AppendAt
namespace Go.Proofs.YtdhinpmjbcohaaaGreat.Jb
open Go Go.RowKit Go.Shelf
set_option linter.unusedSimpArgs false
set_option linter.unusedVariables false
set_option maxRecDepth 100000
set_option maxHeartbeats 4000000
open Rf (e2 e2_len e2_app e2_one e2_at ER own_er own_shape app_many addr0 RS AftR)

structure Rel (l : List (Kb.Ky × Kb.Vt)) (M : List (Int × Int)) (C : List Kb.Ky) (D : List Kb.Vt) (N : Nat) : Prop where
 m : M = l.map (nu C D)
 hC : C = [] ∨ Cod zk C
 hD : D = [] ∨ Cod Qk.z0 D
 iC : ∀ p ∈ l, p.1 ∈ C
 iD : ∀ p ∈ l, p.2 ∈ D
 nl : l.length ≤ N
 nC : C.length ≤ 4 * N
 nD : D.length ≤ 4 * N
theorem Rel.asked {l : List (Kb.Ky × Kb.Vt)} {M : List (Int × Int)} {C : List Kb.Ky} {D : List Kb.Vt} {N : Nat} (h : Rel l M C D N) (k : Kb.Ky) (v : Kb.Vt) : Rel l M (ext zk C k) (ext Qk.z0 D v) (N + 1) := by
 obtain ⟨a, b, c⟩ := nu_stay h.hC h.hD h.iC h.iD k v
 have l1 := ext_len zk C k
 have l2 := ext_len Qk.z0 D v
 exact ⟨h.m.trans a, .inr (cod_ext _ _ _ h.hC), .inr (cod_ext _ _ _ h.hD), b, c, by have := h.nl; omega, by have := h.nC; omega, by have := h.nD; omega⟩
theorem Rel.less {l l' : List (Kb.Ky × Kb.Vt)} {M : List (Int × Int)} {C : List Kb.Ky} {D : List Kb.Vt} {N : Nat} (h : Rel l M C D N) (hs : ∀ p ∈ l', p ∈ l) (hl : l'.length ≤ l.length) : Rel l' (l'.map (nu C D)) C D N :=
 ⟨rfl, h.hC, h.hD, fun p hp => h.iC p (hs p hp), fun p hp => h.iD p (hs p hp), Nat.le_trans hl h.nl, h.nC, h.nD⟩
theorem lout_mem' {l : List (Kb.Ky × Kb.Vt)} {k : Kb.Ky} {p : Kb.Ky × Kb.Vt} (h : p ∈ lout l k) : p ∈ l := (lout_mem.1 h).1
theorem lout_len' (l : List (Kb.Ky × Kb.Vt)) (k : Kb.Ky) : (lout l k).length ≤ l.length := List.length_filter_le _ _
theorem lout_lt {l : List (Kb.Ky × Kb.Vt)} {k : Kb.Ky} {v : Kb.Vt} (h : lget l k = some v) : (lout l k).length < l.length := by
 have hm := lget_some h
 unfold lout
 refine List.length_filter_lt_length_iff_exists.2 ⟨(k, v), hm, ?_⟩
 simp
theorem does_any {w : World} {cb mb kb vb room N : Nat} {l : List (Kb.Ky × Kb.Vt)} {M : List (Int × Int)} {C : List Kb.Ky} {D : List Kb.Vt} {F G1 G2 G3 : Nat → Prop} (kind : Int) (k : Kb.Ky) (v : Kb.Vt) (stop : Int) (h : PR w cb mb kb vb room l M C D F G1 G2 G3) (hr : Rel l M C D N) (hN : N ≤ 3000) (hroom : room ≤ 1048576) (hk : Kb.okK k) :
  Calls Tryz.prog 9 #[.agg #[pt cb, pt mb, pt kb, pt vb], .int .i64 kind, Kb.kc k, Kb.vc v, .int .i64 stop] w fun r w' => r = .returned (.bool true) ∧ ∃ l' M' C' D', PG (fun j => F j ∨ G1 j ∨ G2 j ∨ G3 j) w cb mb kb vb room l' M' C' D' w' ∧ Rel l' M' C' D' (N + 1) := by
 obtain ⟨T, hT⟩ : ∃ T : Nat → Prop, T = fun j => F j ∨ G1 j ∨ G2 j ∨ G3 j := ⟨_, rfl⟩
 rw [← hT]
 have hTl : ∀ j, T j → j < w.heap.size := fun j hj => h.lt (by rw [hT] at hj; exact hj)
 obtain ⟨w1, hw1⟩ : ∃ w1, w1 = ((w.alloc (.cells #[pt cb, pt mb, pt kb, pt vb] 35)).alloc (.cells #[.string v.1, .int .i64 v.2] 31)) := ⟨_, rfl⟩
 have s1 : w1.heap.size = w.heap.size + 1 + 1 := by rw [hw1]; simp
 have n1 : w1.heap[w.heap.size]? = some (.cells #[pt cb, pt mb, pt kb, pt vb] 35 (0, 0)) := by rw [hw1]; exact (Below.heap_alloc _ _ _ (by simp)).trans (heap_alloc_new w _)
 have nk : w1.heap[w.heap.size + 1]? = some (.cells #[.string v.1, .int .i64 v.2] 31 (0, 0)) := by rw [hw1]; have := heap_alloc_new (w.alloc (.cells #[pt cb, pt mb, pt kb, pt vb] 35)) (.cells #[.string v.1, .int .i64 v.2] 31); rw [World.size_alloc] at this; exact this
 have o1 : ∀ j, j < w.heap.size → w1.heap[j]? = w.heap[j]? := fun j hj => by
  rw [hw1]
  exact ((World.grownBy_alloc _ _ none).block j (by simp; omega) (by simp)).trans ((World.grownBy_alloc _ _ none).block j hj (by simp))
 have start : PG T w1 cb mb kb vb room l M C D w1.drew := ⟨F, G1, G2, G3, h.heap (fun j hj => o1 j (h.lt hj)), fun j hj => .inl (by rw [hT]; exact hj), ch_drew _ _⟩
 have bq : ∀ {l M C D W}, PG T w1 cb mb kb vb room l M C D W → BQ W cb mb kb vb w.heap.size v.1 v.2 := fun {l M C D W} hp => by
  obtain ⟨_, _, _, _, _, _, q⟩ := hp
  have n2 := (q.block w.heap.size (by omega) (fun x => by have := hTl _ x; omega)).trans n1
  have n3 := (q.block (w.heap.size + 1) (by omega) (fun x => by have := hTl _ x; omega)).trans nk
  exact ⟨box_cells n2 0 _ rfl, box_cells n2 1 _ rfl, box_cells n2 2 _ rfl, box_cells n2 3 _ rfl, box_cells n3 0 _ rfl, box_cells n3 1 _ rfl⟩
 have back : ∀ {l M C D W}, PG T w1 cb mb kb vb room l M C D W → PG T w cb mb kb vb room l M C D W := fun {l M C D W} hp => by
  obtain ⟨F', G1', G2', G3', q1, q2, q3⟩ := hp
  refine ⟨F', G1', G2', G3', q1, fun j hj => ?_, (by rw [hw1]; exact (ch_alloc T _ _).then (ch_alloc T _ _) : Ch T w w1).then q3⟩
  rcases q2 j hj with q | q
  ·
   exact .inl q
  ·
   exact .inr (by omega)
 obtain ⟨C', hC'⟩ : ∃ C', C' = ext zk C k := ⟨_, rfl⟩
 obtain ⟨D', hD'⟩ : ∃ D', D' = ext Qk.z0 D v := ⟨_, rfl⟩
 have hr' : Rel l M C' D' (N + 1) := by
  rw [hC', hD']
  exact hr.asked k v
 have hkC : k ∈ C' := by rw [hC']; exact ext_mem _ _ _
 have hvD : v ∈ D' := by rw [hD']; exact ext_mem _ _ _
 have cC : Cod zk C' := by rw [hC']; exact cod_ext _ _ _ hr.hC
 have cD : Cod Qk.z0 D' := by rw [hD']; exact cod_ext _ _ _ hr.hD
 have b1 := hr.nC
 have b2 := hr.nD
 have b3 := hr'.nC
 have b4 := hr'.nD
 have b5 := hr'.nl
 have b6 : M.length = l.length := by rw [hr.m]; simp
 have hnl := hr.nl
 have h1 : Calls Tryz.prog 34 #[.pointer (some ⟨kb, 0, none⟩), .int .i64 k] ((w.alloc (.cells #[pt cb, pt mb, pt kb, pt vb] 35)).alloc (.cells #[.string v.1, .int .i64 v.2] 31)).drew fun r w' => r = .returned (.int .i64 (ix k C')) ∧ BQ w' cb mb kb vb w.heap.size v.1 v.2 ∧ PG T w1 cb mb kb vb room l M C' D w' := by
  rw [← hw1]
  refine (start.ofk k (by omega)).mono ?_
  rintro r w' ⟨rfl, q⟩
  rw [← hC'] at q ⊢
  exact ⟨rfl, bq q, q⟩
 have h2 : ∀ W, PG T w1 cb mb kb vb room l M C' D W → Calls Tryz.prog 21 #[.pointer (some ⟨vb, 0, none⟩), .agg #[.string v.1, .int .i64 v.2]] W fun r w' => r = .returned (.int .i64 (ix v D')) ∧ BQ w' cb mb kb vb w.heap.size v.1 v.2 ∧ PG T w1 cb mb kb vb room l M C' D' w' := fun W hW => by
  refine (hW.ofv v (by omega)).mono ?_
  rintro r w' ⟨rfl, q⟩
  rw [← hD'] at q ⊢
  exact ⟨rfl, bq q, q⟩
 have eget : lget M (ix k C' : Int) = (lget l k).map (fun v => (ix v D' : Int)) := by
  rw [hr'.m]
  exact lget_nu hr'.iC hkC
 have eout : lout M (ix k C' : Int) = (lout l k).map (nu C' D') := by
  rw [hr'.m]
  exact lout_nu hr'.iC hkC
 by_cases k1 : kind = 1
 ·
  refine does_get k1 _ h1 h2 (ax := ((lget l k).getD Qk.z0).1) (ai := ((lget l k).getD Qk.z0).2) (b := (lget M (ix k C' : Int)).getD 0) (ok := (lget l k).isSome) (K3 := PG T w1 cb mb kb vb room (Kb.lused l k) M C' D') (K4 := PG T w1 cb mb kb vb room (Kb.lused l k) ((Kb.lused l k).map (nu C' D')) C' D') (fun W hW => ?_) (fun W hW => ?_) (fun W hW => ?_)
  ·
   refine (hW.stepc (fun F' hF => Kb.get_any hF hk)).mono ?_
   rintro r w' ⟨rfl, q⟩
   exact ⟨rfl, bq q, q⟩
  ·
   obtain ⟨W', hW'⟩ : ∃ W', W' = W.alloc (.cells #[.string ((lget l k).getD Qk.z0).1, .int .i64 ((lget l k).getD Qk.z0).2] 31) := ⟨_, rfl⟩
   have hnew : W'.heap[W.heap.size]? = some (.cells #[.string ((lget l k).getD Qk.z0).1, .int .i64 ((lget l k).getD Qk.z0).2] 31 (0, 0)) := by rw [hW']; exact heap_alloc_new W _
   have hbW : Below W.heap.size W W' := by rw [hW']; exact (Below.refl _ _).alloc (Nat.le_refl _) _
   obtain ⟨F', g1', g2', g3', q0, hT0, hC0⟩ := hW
   have q1 := q0.heap (w' := W') (fun j hj => hbW.block j (q0.lt hj))
   have hlt : ¬ g3' W.heap.size := fun x => by have := q0.lt (.inr (.inr (.inr x))); omega
   rw [← hW']
   refine (PG.stepm2 q1 hT0 (hC0.then (Below.ch hbW)) (Rf.rget_any q1.m _ (by omega))).mono ?_
   rintro r w' ⟨rfl, q, hch⟩
   have hn2 : w'.heap[W.heap.size]? = some (.cells #[.string ((lget l k).getD Qk.z0).1, .int .i64 ((lget l k).getD Qk.z0).2] 31 (0, 0)) := (hch.block W.heap.size (by rw [hW']; simp) hlt).trans hnew
   have e : (match lget M (ix k C' : Int) with | some v => ltop (ix k C' : Int) v M | none => M) = (Kb.lused l k).map (nu C' D') := by
    rw [eget]
    unfold Kb.lused
    cases hg : lget l k with
    | none => exact hr'.m
    | some x =>
     show ltop (ix k C' : Int) (ix x D' : Int) M = _
     rw [hr'.m]
     exact ltop_nu hr'.iC hkC
   have q' : PG T w1 cb mb kb vb room (Kb.lused l k) (match lget M (ix k C' : Int) with | some v => ltop (ix k C' : Int) v M | none => M) C' D' w' := q
   rw [e] at q'
   exact ⟨by rw [eget]; cases lget l k <;> rfl, bq q', box_cells hn2 0 _ rfl, box_cells hn2 1 _ rfl, q'⟩
  ·
   refine (hW.ofv _ (by omega)).mono ?_
   rintro r w' ⟨rfl, q⟩
   have hx : (lget l k).getD Qk.z0 ∈ D' ∧ (ix ((lget l k).getD Qk.z0) D' : Int) = (lget M (ix k C' : Int)).getD 0 := by
    rw [eget]
    cases hg : lget l k with
    | none => exact ⟨(cod_zero cD).1, by simp [(cod_zero cD).2]⟩
    | some x => exact ⟨hr'.iD _ (lget_some hg), rfl⟩
   rw [ext_same cD hx.1] at q ⊢
   rw [hx.2]
   refine ⟨rfl, rfl, _, _, _, _, back q, ?_⟩
   unfold Kb.lused
   cases hg : lget l k with
   | none => exact hr'.less (fun p hp => hp) (Nat.le_refl _)
   | some x =>
    refine hr'.less (fun p hp => ?_) ?_
    ·
     rcases List.mem_cons.1 hp with rfl | hp
     ·
      exact lget_some hg
     ·
      exact lout_mem' hp
    ·
     have := lout_lt hg
     simp only [ltop, List.length_cons]
     omega
 by_cases k2 : kind = 2
 ·
  refine does_put (K4 := fun _ => True) k2 _ h1 h2 (K3 := PG T w1 cb mb kb vb room ((ltop k v l).take room) M C' D') (fun W hW => ?_) (fun W hW => ?_)
  ·
   refine (hW.stepc (fun F' hF => Kb.put_any hF hk hroom)).mono ?_
   rintro r w' ⟨rfl, q⟩
   exact ⟨rfl, bq q, q⟩
  ·
   refine (hW.stepm (fun G hG => Rf.rput_any hG _ _ (by omega))).mono ?_
   rintro r w' ⟨rfl, q⟩
   have e : (ltop (ix k C' : Int) (ix v D' : Int) M).take room = ((ltop k v l).take room).map (nu C' D') := by
    rw [hr'.m, ltop_nu hr'.iC hkC, List.map_take]
   rw [e] at q
   have hmem : ∀ p ∈ (ltop k v l).take room, p = (k, v) ∨ p ∈ l := fun p hp => by
    rcases List.mem_cons.1 (List.mem_of_mem_take hp) with rfl | hp
    ·
     exact .inl rfl
    ·
     exact .inr (lout_mem' hp)
   refine ⟨rfl, rfl, _, _, _, _, back q, rfl, hr'.hC, hr'.hD, fun p hp => ?_, fun p hp => ?_, ?_, hr'.nC, hr'.nD⟩
   ·
    rcases hmem p hp with rfl | hp
    ·
     exact hkC
    ·
     exact hr'.iC p hp
   ·
    rcases hmem p hp with rfl | hp
    ·
     exact hvD
    ·
     exact hr'.iD p hp
   ·
    have := lout_len' l k
    simp only [ltop, List.length_take, List.length_cons]
    omega
 by_cases k3 : kind = 3
 ·
  refine does_drop (K4 := fun _ => True) k3 _ h1 h2 (ok := (lget l k).isSome) (K3 := PG T w1 cb mb kb vb room (lout l k) M C' D') (fun W hW => ?_) (fun W hW => ?_)
  ·
   refine (hW.drew.stepc (fun F' hF => Kb.drop_any hF hk)).mono ?_
   rintro r w' ⟨rfl, q⟩
   exact ⟨rfl, bq q, q⟩
  ·
   refine (hW.stepm (fun G hG => Rf.rdrop_any hG _ (by omega))).mono ?_
   rintro r w' ⟨rfl, q⟩
   rw [eout] at q
   exact ⟨by rw [eget]; cases lget l k <;> rfl, bq q, rfl, _, _, _, _, back q, hr'.less (fun p hp => lout_mem' hp) (lout_len' l k)⟩
 by_cases k4 : kind = 4
 ·
  refine does_clear (K4 := fun _ => True) k4 _ h1 h2 (a := (l.length : Int)) (K3 := PG T w1 cb mb kb vb room [] M C' D') (fun W hW => ?_) (fun W hW => ?_)
  ·
   refine (hW.drew.stepc (fun F' hF => Kb.clear_any hF)).mono ?_
   rintro r w' ⟨rfl, q⟩
   exact ⟨rfl, bq q, q⟩
  ·
   refine (hW.stepm (fun G hG => Rf.rclear_any hG)).mono ?_
   rintro r w' ⟨rfl, q⟩
   exact ⟨by rw [b6], bq q, rfl, _, _, _, _, back q, hr'.less (l' := []) (fun p hp => (by cases hp)) (by simp)⟩
 by_cases k5 : kind = 5
 ·
  have hm0 : ∀ W, PG T w1 cb mb kb vb room l M C' D' W → ∃ ad cap, W.cell? ⟨mb, 1, none⟩ = some (.slice ad l.length cap) := fun W hW => by
   obtain ⟨_, _, _, _, q, _⟩ := hW
   obtain ⟨⟨va, q1, q2, _⟩, _⟩ := q.m
   obtain ⟨a, c, rfl⟩ := own_shape q2
   rw [b6] at q1
   exact ⟨a, c, box_cells q1 1 _ rfl⟩
  refine does_len (K3 := fun _ => True) (K4 := fun _ => True) k5 _ h1 h2 (ln := l.length) (fun W hW => ?_) (fun W hW => hm0 W hW)
  have hW0 := hW.drew
  obtain ⟨F', _, _, _, q, _⟩ := hW.drew
  refine (Kb.len_any q.c).mono ?_
  rintro r w' ⟨rfl, rfl⟩
  exact ⟨rfl, rfl, rfl, _, _, _, _, back hW0, hr'⟩
 by_cases k6 : kind = 6
 ·
  have elast : M.getLast? = l.getLast?.map (nu C' D') := by rw [hr'.m, List.getLast?_map]
  refine does_oldest k6 _ h1 h2 (a := (l.getLast?.map (·.1)).getD zk) (b := (M.getLast?.map (·.1)).getD 0) (ok := l.getLast?.isSome) (K3 := PG T w1 cb mb kb vb room l M C' D') (K4 := PG T w1 cb mb kb vb room l M C' D') (fun W hW => ?_) (fun W hW => ?_) (fun W hW => ?_)
  ·
   have hW0 := hW
   obtain ⟨F', _, _, _, q, _⟩ := hW
   refine (Kb.oldest_any q.c).mono ?_
   rintro r w' ⟨rfl, rfl⟩
   exact ⟨rfl, bq hW0, hW0⟩
  ·
   have hW0 := hW
   obtain ⟨F', _, _, _, q, _⟩ := hW
   refine (Rf.roldest_any q.m (by omega)).mono ?_
   rintro r w' ⟨rfl, q2⟩
   have q3 : PG T w1 cb mb kb vb room l M C' D' w' := by
    rcases q2 with rfl | rfl
    ·
     exact hW0
    ·
     exact hW0.drew
   refine ⟨?_, bq q3, q3⟩
   rw [elast]
   cases l.getLast? <;> rfl
  ·
   refine (hW.ofk _ (by omega)).mono ?_
   rintro r w' ⟨rfl, q⟩
   have hx : (l.getLast?.map (·.1)).getD zk ∈ C' ∧ (ix ((l.getLast?.map (·.1)).getD zk) C' : Int) = (M.getLast?.map (·.1)).getD 0 := by
    rw [elast]
    cases hg : l.getLast? with
    | none => exact ⟨(cod_zero cC).1, by simp [(cod_zero cC).2]⟩
    | some x => exact ⟨hr'.iC _ (List.mem_of_getLast? hg), rfl⟩
   rw [ext_same cC hx.1] at q ⊢
   rw [hx.2]
   exact ⟨rfl, rfl, _, _, _, _, back q, hr'⟩
 by_cases k7 : kind = 7
 ·
  refine does_all (K3 := fun _ => True) (K4 := fun _ => True) k7 _ h1 h2 (fun W hW => ?_)
  have hW' : PG T w1 cb mb kb vb room l (l.map (nu C' D')) C' D' W := by
   rw [← hr'.m]
   exact hW
  refine (hW'.alls (by omega) hr'.iC hr'.iD (by omega) (by omega) stop).mono ?_
  rintro r w' ⟨rfl, q⟩
  rw [← hr'.m] at q
  exact ⟨rfl, rfl, _, _, _, _, back q, hr'⟩
 ·
  refine does_else (K3 := fun _ => True) (K4 := fun _ => True) ⟨k1, k2, k3, k4, k5, k6, k7⟩ _ h1 h2 (fun W hW => ?_)
  exact ⟨rfl, _, _, _, _, back hW, hr'⟩
end Go.Proofs.YtdhinpmjbcohaaaGreat.Jb
namespace Go.Proofs.YtdhinpmjbcohaaaGreat.Jb
open Go Go.RowKit Go.Shelf
set_option linter.unusedSimpArgs false
set_option linter.unusedVariables false
set_option maxRecDepth 100000
set_option maxHeartbeats 4000000
open Rf (e2 e2_len e2_app e2_one e2_at ER own_er own_shape app_many addr0 RS AftR)

def bgw (w : World) (rm : Nat) : World := ((((w.alloc (.cells #[pt (w.heap.size + 1), pt (w.heap.size + 1 + 1), pt (w.heap.size + 1 + 1 + 1), pt (w.heap.size + 1 + 1 + 1 + 1)] 35)).alloc (.cells #[.int .i64 rm, .pointer none, .map none] 144)).alloc (.cells #[.int .i64 rm, .slice none 0 0] 92)).alloc (.cells #[.slice none 0 0] 68)).alloc (.cells #[.slice none 0 0] 61)
theorem begin_walk {w : World} {most : Int} {rm : Nat} 
  (h1 : ∀ W, Calls Tryz.prog 18 #[.int .i64 most] W fun r w' => r = .returned (pt W.heap.size) ∧ w' = W.alloc (.cells #[.int .i64 rm, .pointer none, .map none] 144))
  (h2 : ∀ W, Calls Tryz.prog 17 #[.int .i64 most] W fun r w' => r = .returned (pt W.heap.size) ∧ w' = W.alloc (.cells #[.int .i64 rm, .slice none 0 0] 92)) :
  Calls Tryz.prog 5 #[.int .i64 most] w fun r w' => r = .returned (.agg #[pt (w.heap.size + 1), pt (w.heap.size + 1 + 1), pt (w.heap.size + 1 + 1 + 1), pt (w.heap.size + 1 + 1 + 1 + 1)]) ∧ w' = bgw w rm := by
 have H1 := hidi h1
 have H2 := hidi h2
 have H3 : Hid ((bgw w rm).heap[w.heap.size]? = some (.cells #[pt (w.heap.size + 1), pt (w.heap.size + 1 + 1), pt (w.heap.size + 1 + 1 + 1), pt (w.heap.size + 1 + 1 + 1 + 1)] 35 (0, 0))) := by
  have hb : ∀ (A : World) (o : Obj) (j : Nat), j < A.heap.size → (A.alloc o).heap[j]? = A.heap[j]? := fun A o j hj => (World.grownBy_alloc A o none).block j hj (by simp)
  unfold bgw
  show _ = _
  rw [hb _ _ _ (by simp <;> omega), hb _ _ _ (by simp <;> omega), hb _ _ _ (by simp <;> omega), hb _ _ _ (by simp <;> omega)]
  exact (MapKept.heap_alloc _ _).1
 clear h1 h2
 unfold bgw pt at *
 go_enter Tryz.func5, Tryz.ntmps5
 go_wp2_with fail
 go_must (go_at_call 18)
 refine (H1.out _).mono ?_
 rintro e w1 ⟨rfl, rfl⟩
 go_wp2_with fail
 go_must (go_at_call 17)
 refine (H2.out _).mono ?_
 rintro e w2 ⟨rfl, rfl⟩
 go_wp2_with fail
 (try simp only [Exit.inBlock, Exit.then])
 refine bodyPost_ret (results_cell_row rfl _ _ w.heap.size 35 _ (0, 0) _ rfl H3.out Tryz.underlying35 rfl (by kernel_rfl)) rfl ?_
 exact ⟨rfl, rfl⟩
theorem begin_any (w : World) (most : Int) : Calls Tryz.prog 5 #[.int .i64 most] w fun r w' => r = .returned (.agg #[pt (w.heap.size + 1), pt (w.heap.size + 1 + 1), pt (w.heap.size + 1 + 1 + 1), pt (w.heap.size + 1 + 1 + 1 + 1)]) ∧ w'.heap.size = w.heap.size + 5 ∧ Below w.heap.size w w' ∧
  ∃ F G1 G2 G3, PR w' (w.heap.size + 1) (w.heap.size + 1 + 1) (w.heap.size + 1 + 1 + 1) (w.heap.size + 1 + 1 + 1 + 1) (Kb.rm most) [] [] [] [] F G1 G2 G3 ∧ ∀ j, F j ∨ G1 j ∨ G2 j ∨ G3 j → w.heap.size ≤ j := by
 refine (begin_walk (fun W => Kb.new_run most W) (fun W => Rf.rnew_run most _ (Kb.rm_eq most) W)).mono ?_
 rintro r w' ⟨rfl, rfl⟩
 have hb : ∀ (A : World) (o : Obj) (j : Nat), j < A.heap.size → (A.alloc o).heap[j]? = A.heap[j]? := fun A o j hj => (World.grownBy_alloc A o none).block j hj (by simp)
 have hnew : ∀ (A : World) (o : Obj) (j : Nat), j = A.heap.size → (A.alloc o).heap[j]? = some o := fun A o j hj => by
  rw [hj]
  exact (MapKept.heap_alloc A o).1
 have e1 : (bgw w (Kb.rm most)).heap[w.heap.size + 1]? = some (.cells #[.int .i64 (Kb.rm most), .pointer none, .map none] 144 (0, 0)) := by
  unfold bgw
  rw [hb _ _ _ (by simp <;> omega), hb _ _ _ (by simp <;> omega), hb _ _ _ (by simp <;> omega)]
  exact hnew _ _ _ (by simp)
 have e2 : (bgw w (Kb.rm most)).heap[w.heap.size + 1 + 1]? = some (.cells #[.int .i64 (Kb.rm most), .slice none 0 0] 92 (0, 0)) := by
  unfold bgw
  rw [hb _ _ _ (by simp <;> omega), hb _ _ _ (by simp <;> omega)]
  exact hnew _ _ _ (by simp)
 have e3 : (bgw w (Kb.rm most)).heap[w.heap.size + 1 + 1 + 1]? = some (.cells #[.slice none 0 0] 68 (0, 0)) := by
  unfold bgw
  rw [hb _ _ _ (by simp <;> omega)]
  exact hnew _ _ _ (by simp)
 have e4 : (bgw w (Kb.rm most)).heap[w.heap.size + 1 + 1 + 1 + 1]? = some (.cells #[.slice none 0 0] 61 (0, 0)) := by
  unfold bgw
  exact hnew _ _ _ (by simp)
 refine ⟨rfl, by simp [bgw], ?_, (fun j => j = w.heap.size + 1), (fun j => j = w.heap.size + 1 + 1 + 1), (fun j => j = w.heap.size + 1 + 1 + 1 + 1), (fun j => j = w.heap.size + 1 + 1), ⟨?_, ?_, ?_, ?_, ?_, ?_, ?_⟩, ?_⟩
 ·
  unfold bgw
  exact (((((Below.refl _ _).alloc (Nat.le_refl _) _).alloc (by simp) _).alloc (by simp <;> omega) _).alloc (by simp <;> omega) _).alloc (by simp <;> omega) _
 ·
  refine ⟨.map none, [], id, id, fun _ => default, fun _ => Qk.z0, ⟨e1, fun b hb => (by cases hb), List.nodup_nil, trivial, fun a ha => (by cases ha), fun a ha => (by cases ha), .inl ⟨rfl, rfl⟩⟩, rfl, fun j => ?_, by simp⟩
  simp [Kb.FP]
 ·
  exact ⟨_, e3, World.ownsRow_nil _ _ _ _, fun j => by simp [Value.ownBlock], fun _ => rfl⟩
 ·
  exact ⟨_, e4, World.ownsRow_nil _ _ _ _, fun j => by simp [Value.ownBlock], fun _ => rfl⟩
 ·
  exact ⟨⟨_, e2, World.ownsRow_nil _ _ _ _, fun j => by simp [Value.ownBlock]⟩, List.nodup_nil⟩
 ·
  intro j hj
  exact ⟨by omega, by omega, by omega⟩
 ·
  intro j hj
  exact ⟨by omega, by omega⟩
 ·
  intro j hj
  omega
 ·
  intro j hj
  omega
end Go.Proofs.YtdhinpmjbcohaaaGreat.Jb
namespace Go.Proofs.YtdhinpmjbcohaaaGreat.Jb
open Go Go.RowKit Go.Shelf
set_option linter.unusedSimpArgs false
set_option linter.unusedVariables false
open Rf (RS AftR)

theorem Rel.mono {l : List (Kb.Ky × Kb.Vt)} {M : List (Int × Int)} {C : List Kb.Ky} {D : List Kb.Vt} {N : Nat} (h : Rel l M C D N) : Rel l M C D (N + 1) :=
 ⟨h.m, h.hC, h.hD, h.iC, h.iD, by have := h.nl; omega, by have := h.nC; omega, by have := h.nD; omega⟩
def PT (W : World) (cb mb kb vb room N : Nat) (T : Nat → Prop) : Prop := ∃ l M C D F G1 G2 G3, PR W cb mb kb vb room l M C D F G1 G2 G3 ∧ Rel l M C D N ∧ ∀ j, T j ↔ F j ∨ G1 j ∨ G2 j ∨ G3 j
theorem PT.lt {W : World} {cb mb kb vb room N : Nat} {T : Nat → Prop} (h : PT W cb mb kb vb room N T) {j : Nat} (hj : T j) : j < W.heap.size := by
 obtain ⟨l, M, C, D, F, G1, G2, G3, h1, h2, h3⟩ := h
 exact h1.lt ((h3 j).1 hj)
theorem PT.keep {W W' : World} {cb mb kb vb room N : Nat} {T : Nat → Prop} (h : PT W cb mb kb vb room N T) (hk : ∀ j, T j → W'.heap[j]? = W.heap[j]?) : PT W' cb mb kb vb room N T := by
 obtain ⟨l, M, C, D, F, G1, G2, G3, h1, h2, h3⟩ := h
 exact ⟨l, M, C, D, F, G1, G2, G3, h1.heap (fun j hj => hk j ((h3 j).2 hj)), h2, h3⟩
theorem PT.mono {W : World} {cb mb kb vb room N : Nat} {T : Nat → Prop} (h : PT W cb mb kb vb room N T) : PT W cb mb kb vb room (N + 1) T := by
 obtain ⟨l, M, C, D, F, G1, G2, G3, h1, h2, h3⟩ := h
 exact ⟨l, M, C, D, F, G1, G2, G3, h1, h2.mono, h3⟩
theorem PT.does {W : World} {cb mb kb vb room N : Nat} {T : Nat → Prop} (h : PT W cb mb kb vb room N T) (hN : N ≤ 3000) (hroom : room ≤ 1048576) (kind : Int) {k : Kb.Ky} (hk : Kb.okK k) (v : Kb.Vt) (stop : Int) :
  Calls Tryz.prog 9 #[.agg #[pt cb, pt mb, pt kb, pt vb], .int .i64 kind, Kb.kc k, Kb.vc v, .int .i64 stop] W fun r w' => r = .returned (.bool true) ∧ ∃ T', PT w' cb mb kb vb room (N + 1) T' ∧ (∀ j, T' j → T j ∨ W.heap.size ≤ j) ∧ Ch T W w' := by
 obtain ⟨l, M, C, D, F, G1, G2, G3, h1, h2, h3⟩ := h
 refine (does_any kind k v stop h1 h2 hN hroom hk).mono ?_
 rintro r w' ⟨rfl, l', M', C', D', ⟨F', G1', G2', G3', q1, q2, q3⟩, q4⟩
 refine ⟨rfl, _, ⟨l', M', C', D', F', G1', G2', G3', q1, q4, fun j => Iff.rfl⟩, fun j hj => ?_, q3.mono (fun j _ q => (h3 j).2 q)⟩
 rcases q2 j hj with q | q
 ·
  exact .inl ((h3 j).2 q)
 ·
  exact .inr q
theorem PT.all {W : World} {cb mb kb vb room N : Nat} {T : Nat → Prop} (h : PT W cb mb kb vb room N T) (hN : N ≤ 3000) (stop : Int) :
  Calls Tryz.prog 13 #[.agg #[pt cb, pt mb, pt kb, pt vb], .int .i64 stop] W fun r w' => r = .returned (.bool true) ∧ Below W.heap.size W w' := by
 obtain ⟨l, M, C, D, F, G1, G2, G3, h1, h2, h3⟩ := h
 obtain ⟨mv, L, n, o, ky, vl, hca, e, hF, hr⟩ := h1.c
 have e2 : l.map (nu C D) = L.map (num ky vl C D) := by
  rw [e, List.map_map]
  rfl
 have hm := h1.m
 rw [h2.m, e2] at hm
 have hl := h2.nl
 have b1 := h2.nC
 have b2 := h2.nD
 exact all_any hca (by rw [e] at hl; simp at hl; omega) h1.k h1.v (fun b hb => h2.iC _ (by rw [e]; exact List.mem_map.2 ⟨b, hb, rfl⟩)) (fun b hb => h2.iD _ (by rw [e]; exact List.mem_map.2 ⟨b, hb, rfl⟩)) (by omega) (by omega) hm stop
theorem begin_pt (w : World) (most : Int) : Calls Tryz.prog 5 #[.int .i64 most] w fun r w' => r = .returned (.agg #[pt (w.heap.size + 1), pt (w.heap.size + 1 + 1), pt (w.heap.size + 1 + 1 + 1), pt (w.heap.size + 1 + 1 + 1 + 1)]) ∧ w'.heap.size = w.heap.size + 5 ∧ Below w.heap.size w w' ∧
  ∃ T, PT w' (w.heap.size + 1) (w.heap.size + 1 + 1) (w.heap.size + 1 + 1 + 1) (w.heap.size + 1 + 1 + 1 + 1) (Kb.rm most) 0 T ∧ ∀ j, T j → w.heap.size ≤ j := by
 refine (begin_any w most).mono ?_
 rintro r w' ⟨rfl, h1, h2, F, G1, G2, G3, h3, h4⟩
 exact ⟨rfl, h1, h2, _, ⟨[], [], [], [], F, G1, G2, G3, h3, ⟨rfl, .inl rfl, .inl rfl, by simp, by simp, by simp, by simp, by simp⟩, fun j => Iff.rfl⟩, h4⟩
theorem srm_le (most : Int) : Kb.rm most ≤ 1048576 := by
 have := Kb.rm_eq most
 omega
end Go.Proofs.YtdhinpmjbcohaaaGreat.Jb
namespace Go.Proofs.YtdhinpmjbcohaaaGreat.Qa
open Go Go.RowKit
set_option linter.unusedSimpArgs false
set_option linter.unusedVariables false
set_option maxRecDepth 100000
set_option maxHeartbeats 4000000

theorem info5 : ∃ i, Tryz.prog.info? 5 = some i := by
 have h : (Tryz.prog.info? 5).isSome = true := by kernel_rfl
 exact Option.isSome_iff_exists.1 h
theorem eqIn43 (a b i j : Int) (w : World) : (Op.equalIn 10000 43 (.agg #[.int .u8 a, .int .u8 i]) (.agg #[.int .u8 b, .int .u8 j])).run Tryz.prog w = .ok (decide ((a, i) = (b, j))) w := by
 obtain ⟨inf, hinf⟩ := info5
 rw [run_equalIn_array (P := Tryz.prog) w 9999 _ _ Tryz.underlying43 hinf]
 have c5 : Tryz.prog.cellsOf 5 = 1 := by kernel_rfl
 have h1 := run_equalIn_int (P := Tryz.prog) w 9998 5 .u8 .u8 a b Tryz.underlying5
 have h2 := run_equalIn_int (P := Tryz.prog) w 9998 5 .u8 .u8 i j Tryz.underlying5
 have e1 : decide ((a, i) = (b, j)) = ((a == b) && (i == j)) := by
  by_cases h1 : a = b <;> by_cases h2 : i = j <;> simp [h1, h2]
 have p1 : (part 5 #[.int .u8 a, .int .u8 i] 0).run Tryz.prog w = .ok (.int .u8 a) w := by kernel_rfl
 have p2 : (part 5 #[.int .u8 b, .int .u8 j] 0).run Tryz.prog w = .ok (.int .u8 b) w := by kernel_rfl
 have p3 : (part 5 #[.int .u8 a, .int .u8 i] 1).run Tryz.prog w = .ok (.int .u8 i) w := by kernel_rfl
 have p4 : (part 5 #[.int .u8 b, .int .u8 j] 1).run Tryz.prog w = .ok (.int .u8 j) w := by kernel_rfl
 rw [e1, c5]
 simp only [Nat.reduceAdd] at h1 h2
 have r2 : List.range 2 = [0, 1] := rfl
 simp [r2, Op.eqItems, p1, p2, p3, p4, h1, h2, Result.andThen]
 by_cases h1 : a = b <;> by_cases h2 : i = j <;> simp [h1, h2]
abbrev Kt := Int × Int
def mk (k : Kt) : Value := .agg #[.int .u8 k.1, .int .u8 k.2]
def z0 : Kt := (0, 0)
def k2 (C : List Kt) : List Value := C.flatMap (fun p => [.int .u8 p.1, .int .u8 p.2])
theorem k2_app (A B : List Kt) : k2 (A ++ B) = k2 A ++ k2 B := by simp [k2]
theorem k2_one (L : List Kt) : ∀ u ∈ k2 L, u.oneCell' = true := by
 intro u hu
 obtain ⟨p, _, hp⟩ := List.mem_flatMap.1 hu
 simp at hp
 rcases hp with rfl | rfl <;> rfl
theorem k2_at : ∀ (L : List Kt) (j : Nat) (p : Kt), L[j]? = some p → (k2 L)[j * 2]? = some (.int .u8 p.1) ∧ (k2 L)[j * 2 + 1]? = some (.int .u8 p.2)
 | [], j, p, h => by simp at h
 | x :: L, 0, p, h => by
  simp at h
  subst h
  simp [k2]
 | x :: L, j + 1, p, h => by
  have ih := k2_at L j p (by simpa using h)
  have e1 : (j + 1) * 2 = j * 2 + 1 + 1 := by omega
  have e3 : (j + 1) * 2 + 1 = (j * 2 + 1) + 1 + 1 := by omega
  refine ⟨?_, ?_⟩
  ·
   rw [e1]
   simpa [k2] using ih.1
  ·
   rw [e3]
   simpa [k2] using ih.2
def CD (w : World) (kb : Nat) (C : List Kt) (G : Nat → Prop) : Prop := ∃ v, w.heap[kb]? = some (.cells #[v] 72 (0, 0)) ∧ w.ownsRow 0 43 2 v C.length (k2 C) ∧ (∀ j, G j ↔ j = kb ∨ v.ownBlock = some j) ∧ (C = [] → v = .slice none 0 0)
theorem info_el : (Tryz.prog.info? 43).map (fun i => (i.zero, i.size, i.bytes)) = some (some (mk z0), 2, 2) := by kernel_rfl
theorem CD.keep {w w' : World} {kb : Nat} {C : List Kt} {G : Nat → Prop} (h : CD w kb C G) (hk : ∀ j, G j → w'.heap[j]? = w.heap[j]?) : CD w' kb C G := by
 obtain ⟨v, h1, h2, h3, h4⟩ := h
 refine ⟨v, (hk kb ((h3 kb).2 (.inl rfl))).trans h1, ?_, h3, h4⟩
 refine ⟨h2.1, ?_⟩
 rcases h2.2 with h0 | ⟨g, cap, cur, rfl, e1, hg, e2⟩
 ·
  exact .inl h0
 ·
  exact .inr ⟨g, cap, cur, rfl, e1, (hk g ((h3 g).2 (.inr rfl))).trans hg, e2⟩
theorem CD.lt {w : World} {kb : Nat} {C : List Kt} {G : Nat → Prop} (h : CD w kb C G) {j : Nat} (hj : G j) : j < w.heap.size := by
 obtain ⟨v, h1, h2, h3, h4⟩ := h
 rcases (h3 j).1 hj with rfl | q
 ·
  exact (Array.getElem?_eq_some_iff.1 h1).1
 ·
  exact (h2.lt j q).2
theorem own_blk {w : World} {B e s n : Nat} {v : Value} {xs : List Value} (h : w.ownsRow B e s v n xs) {k : Nat} (hk : v.ownBlock = some k) : ∃ c, w.heap[k]? = some (.cells c e (0, 0)) := by
 rcases h.2 with ⟨r, _⟩ | ⟨g, cap, cur, r, _, hg, _⟩
 ·
  rw [r] at hk; cases hk
 ·
  rw [r] at hk
  have e' : g = k := by simpa [Value.ownBlock] using hk
  subst e'
  exact ⟨_, hg⟩
theorem app_one {w : World} {v : Value} {C : List Kt} (ho : w.ownsRow 0 43 2 v C.length (k2 C)) (k : Kt) (hl : C.length ≤ 1000000) : ∃ g' cap' w', (Builtin.append_ #[70, 70] 70 #[v, .slice (some ⟨w.heap.size, 0, none⟩) 1 1]).run Tryz.prog (w.alloc (.cells #[.int .u8 k.1, .int .u8 k.2] 43)) = .ok (.slice (some ⟨g', 0, none⟩) (C.length + 1) cap') w' ∧ w'.ownsRow 0 43 2 (.slice (some ⟨g', 0, none⟩) (C.length + 1) cap') (C ++ [k]).length (k2 (C ++ [k])) ∧ Ch (fun j => v.ownBlock = some j) w w' ∧ (v.ownBlock = some g' ∨ w.heap.size ≤ g') := by
 obtain ⟨i0, hi0, hz⟩ := Option.map_eq_some_iff.1 info_el
 simp only [Prod.mk.injEq] at hz
 obtain ⟨v', w', hr, h2, h3, h4, h5⟩ := run_append_own_at (P := Tryz.prog) (w.alloc (.cells #[.int .u8 k.1, .int .u8 k.2] 43)) 0 70 70 43 i0 (mk z0) 2 2 Tryz.underlying70 hi0 hz.1 hz.2.1 hz.2.2 (by simp [mk, Value.cells]) (by decide) v C.length (k2 C) (ho.alloc _) ⟨w.heap.size, 0, none⟩ 1 1 (k2 [k]) rfl (fun j u hu => by
  have e : (⟨w.heap.size, 0, none⟩ : Addr).add j = ⟨w.heap.size, j, none⟩ := by unfold Addr.add; split <;> simp_all
  rw [e]
  refine box_cells (heap_alloc_new w _) j u ?_
  simpa [k2] using hu) (k2_one _) (by unfold maxLen; omega) (by omega) (by omega)
 rcases h2.2 with ⟨_, q⟩ | ⟨g', cap', cur, rfl, _⟩
 ·
  omega
 ·
  refine ⟨g', cap', w', hr, by rw [k2_app, List.length_append]; exact h2, ?_, ?_⟩
  ·
   exact (ch_alloc _ _ _).then ((ch_grown h3).mono (fun j _ q => q))
  ·
   rcases h5 with q | q
   ·
    exact .inl (by rw [← q]; rfl)
   ·
    simp [Value.ownBlock] at q
    exact .inr (by omega)
theorem set_row {w : World} {kb t B e s n : Nat} {v x : Value} {xs : List Value} {cs : Array Value} (h : w.ownsRow B e s v n xs) (hb : w.heap[kb]? = some (.cells cs t (0, 0))) (ht : t ≠ e) (i : Nat) : (w.setCell ⟨kb, i, none⟩ x).ownsRow B e s v n xs := by
 refine ⟨h.1, ?_⟩
 rcases h.2 with h0 | ⟨g, cap, cur, rfl, e1, hg, e2⟩
 ·
  exact .inl h0
 ·
  refine .inr ⟨g, cap, cur, rfl, e1, (heap_set_ne _ (fun q => ?_)).trans hg, e2⟩
  rw [q, hb] at hg
  simp at hg
  exact ht hg.2
theorem CD.more {w w' : World} {kb g' cap' : Nat} {v : Value} {C : List Kt} {k : Kt} (hb : w.heap[kb]? = some (.cells #[v] 72 (0, 0))) (ho : w.ownsRow 0 43 2 v C.length (k2 C)) (h2 : w'.ownsRow 0 43 2 (.slice (some ⟨g', 0, none⟩) (C.length + 1) cap') (C ++ [k]).length (k2 (C ++ [k]))) (hc : Ch (fun j => v.ownBlock = some j) w w') :
  w'.heap[kb]? = some (.cells #[v] 72 (0, 0)) ∧ CD (w'.setCell ⟨kb, 0, none⟩ (.slice (some ⟨g', 0, none⟩) (C.length + 1) cap')) kb (C ++ [k]) (fun j => j = kb ∨ j = g') := by
 have hb' : w'.heap[kb]? = some (.cells #[v] 72 (0, 0)) := by
  rw [hc.block kb (Array.getElem?_eq_some_iff.1 hb).1 (fun q => by
   obtain ⟨c, hcc⟩ := own_blk ho q
   rw [hb] at hcc
   simp at hcc)]
  exact hb
 refine ⟨hb', _, ?_, set_row h2 hb' (by decide) 0, fun j => ?_, fun q => absurd q (by simp)⟩
 ·
  rw [heap_set hb']
  simp
 ·
  simp [Value.ownBlock, eq_comm]
theorem cell_ltk {w : World} {a : Addr} {v : Value} (h : w.cell? a = some v) : a.block < w.heap.size := by
 unfold World.cell? at h
 rcases hb : w.heap[a.block]? with _ | ob
 ·
  simp [hb] at h
 ·
  exact (Array.getElem?_eq_some_iff.1 hb).1
theorem step_append_runk {P : Program} {ops : Array Oper} {o : Oper} {a : Act} {w : World} {K : Act → World → Prop} {Q : Exit → Act → World → Prop} {E : Prop} (hg : o.guard = none) (s x : Operand) (t tx : TypeId)
  (hop : o.op = Op.call { callee := Callee.builtin Builtin.append, args := #[s, x], argTypes := #[t, tx] }) (vs vx : Value) (hs : a.eval s = vs) (hx : a.eval x = vx) (v : Value) (w' : World)
  (hrun : (Builtin.append_ #[t, tx] o.type #[vs, vx]).run P w = .ok v w') (hK : K (a.put o.dst v) w') : if Region.wanted o (yielded ops a.tmps) = true then Oper.wp P o a w K Q else E := by
 have hw : Region.wanted o (yielded ops a.tmps) = true := by simp [Region.wanted, hg]
 rw [if_pos hw]
 unfold Oper.wp
 simp [execOp, hop, resolve, invoke, builtin, hs, hx, hrun, Result.andThen]
 exact hK
theorem of_walk {w : World} {kb g cap : Nat} {D : List Kt} {k : Kt} (w1 : World) (hb : w1.heap[kb]? = some (.cells #[.slice (some ⟨g, 0, none⟩) D.length cap] 72 (0, 0))) (ho : w1.ownsRow 0 43 2 (.slice (some ⟨g, 0, none⟩) D.length cap) D.length (k2 D)) (hx : w1.heap[w.heap.size]? = some (.cells #[.int .u8 k.1, .int .u8 k.2] 43 (0, 0))) (hl : D.length ≤ 1000000) (hpos : 0 < D.length)
  (hs : (w1 = ((w.alloc (.cells #[.int .u8 k.1, .int .u8 k.2] 43)).alloc (.cells #[.int .u8 0, .int .u8 0] 43)) ∧ w.cell? ⟨kb, 0, none⟩ = some (.slice (some ⟨g, 0, none⟩) D.length cap)) ∨ ∃ wa, w.heap[kb]? = some (.cells #[.slice none 0 0] 72 (0, 0)) ∧ (Builtin.append_ #[70, 70] 70 #[.slice none 0 0, .slice (some ⟨w.heap.size + 1 + 1, 0, none⟩) 1 1]).run Tryz.prog (((w.alloc (.cells #[.int .u8 k.1, .int .u8 k.2] 43)).alloc (.cells #[.int .u8 0, .int .u8 0] 43)).drew.alloc (.cells #[.int .u8 0, .int .u8 0] 43)) = .ok (.slice (some ⟨g, 0, none⟩) D.length cap) wa ∧ wa.heap[kb]? = some (.cells #[.slice none 0 0] 72 (0, 0)) ∧ w1 = wa.setCell ⟨kb, 0, none⟩ (.slice (some ⟨g, 0, none⟩) D.length cap))
  (R : Ending → World → Prop) (hR1 : ∀ j m : Nat, D[j]? = some k → (∀ q, q < j → D[q]? ≠ some k) → R (.returned (.int .i64 j)) (w1.drewN m))
  (hR2 : k ∉ D → ∀ m g' cap' w2, w2.ownsRow 0 43 2 (.slice (some ⟨g', 0, none⟩) (D.length + 1) cap') (D ++ [k]).length (k2 (D ++ [k])) → Ch (fun j => j = g) (w1.drewN m) w2 → (g = g' ∨ w1.heap.size ≤ g') → R (.returned (.int .i64 D.length)) (w2.setCell ⟨kb, 0, none⟩ (.slice (some ⟨g', 0, none⟩) (D.length + 1) cap'))) :
  Calls Tryz.prog 41 #[pt kb, mk k] w R := by
 have HR1 : Hid (∀ j m : Nat, D[j]? = some k → (∀ q, q < j → D[q]? ≠ some k) → R (.returned (.int .i64 j)) (w1.drewN m)) := hR1
 have HR2 : Hid (k ∉ D → ∀ m g' cap' w2, w2.ownsRow 0 43 2 (.slice (some ⟨g', 0, none⟩) (D.length + 1) cap') (D ++ [k]).length (k2 (D ++ [k])) → Ch (fun j => j = g) (w1.drewN m) w2 → (g = g' ∨ w1.heap.size ≤ g') → R (.returned (.int .i64 D.length)) (w2.setCell ⟨kb, 0, none⟩ (.slice (some ⟨g', 0, none⟩) (D.length + 1) cap'))) := hR2
 clear hR1 hR2
 have HB : Hid (w1.heap[kb]? = some (.cells #[.slice (some ⟨g, 0, none⟩) D.length cap] 72 (0, 0))) := hb
 have HOW : Hid (w1.ownsRow 0 43 2 (.slice (some ⟨g, 0, none⟩) D.length cap) D.length (k2 D)) := ho
 have HX : Hid (w1.heap[w.heap.size]? = some (.cells #[.int .u8 k.1, .int .u8 k.2] 43 (0, 0))) := hx
 obtain ⟨n, hn⟩ : ∃ n, D.length = n := ⟨_, rfl⟩
 have HL : Hid (D.length = n ∧ n ≤ 1000000) := ⟨hn, by omega⟩
 obtain ⟨kx, ki⟩ := k
 have hp0 : ((n : Int) == 0) = false := beq_eq_false_iff_ne.2 (by omega)
 have HP : Hid (0 < n) := by show 0 < n; omega
 rw [hn] at hs
 clear hb ho hx hl hpos hn
 unfold mk
 dsimp only at hs HX ⊢
 unfold pt
 rcases hs with ⟨hw1, hs⟩ | ⟨wa, hs, hra, hwa, hw1⟩
 ·
  have HW1 := (show Hid (w1 = ((w.alloc (.cells #[.int .u8 kx, .int .u8 ki] 43)).alloc (.cells #[.int .u8 0, .int .u8 0] 43))) from hw1)
  have kl : kb < w.heap.size := cell_ltk hs
  have e00 : ((w.alloc (.cells #[.int .u8 kx, .int .u8 ki] 43)).alloc (.cells #[.int .u8 0, .int .u8 0] 43)).cell? ⟨kb, 0, none⟩ = some (.slice (some ⟨g, 0, none⟩) n cap) := by rw [World.cell?_alloc_lt, World.cell?_alloc_lt]; exact hs; exact kl; simp; omega
  clear hw1 hs kl
  go_enter Tryz.func41, Tryz.ntmps41
  go_wp2_with fail
  rw [← HW1.out]
  clear HW1 e00
  go_loopg [6] n (fun gk s6 wx => ∃ j : Nat, j + gk = n ∧ s6 = .int .i64 j ∧ Hid (∀ q, q < j → D[q]? ≠ some (kx, ki)) ∧ Hid (∃ m, wx = w1.drewN m))
  case atStart => exact ⟨0, by omega, rfl, fun q hq => absurd hq (Nat.not_lt_zero _), 0, rfl⟩
  case round =>
   obtain ⟨j, hj, rfl, HQ, HW⟩ := hrel
   obtain ⟨m, hm⟩ := HW.out
   have HBr : Hid (wr.heap[kb]? = some (.cells #[.slice (some ⟨g, 0, none⟩) n cap] 72 (0, 0))) := by show _ = _; rw [hm, ← HL.out.1]; exact HB.out
   have HXr : Hid (wr.heap[w.heap.size]? = some (.cells #[.int .u8 kx, .int .u8 ki] 43 (0, 0))) := by show _ = _; rw [hm]; exact HX.out
   have HOr : Hid (wr.ownsRow 0 43 2 (.slice (some ⟨g, 0, none⟩) n cap) D.length (k2 D)) := by show wr.ownsRow _ _ _ _ _ _; rw [hm, ← HL.out.1]; exact HOW.out
   have e0 : wr.cell? ⟨kb, 0, none⟩ = some (.slice (some ⟨g, 0, none⟩) n cap) := box_cells HBr.out 0 _ rfl
   have x0 : wr.cell? ⟨w.heap.size, 0, none⟩ = some (.int .u8 kx) := box_cells HXr.out 0 _ rfl
   have x1 : wr.cell? ⟨w.heap.size, 1, none⟩ = some (.int .u8 ki) := box_cells HXr.out 1 _ rfl
   have HM := (show Hid (wr = w1.drewN m) from hm)
   clear hm HW
   cases gk with
   | zero =>
    obtain rfl : j = n := by omega
    have hz : ¬ (j : Int) < (j : Int) := by omega
    have hnk : (kx, ki) ∉ D := fun q => by
     obtain ⟨a, ha, he⟩ := List.mem_iff_getElem.1 q
     exact HQ.out a (by have := HL.out; omega) (by rw [List.getElem?_eq_getElem ha, he])
    have HNK : Hid ((kx, ki) ∉ D) := hnk
    have HOd : wr.drew.ownsRow 0 43 2 (.slice (some ⟨g, 0, none⟩) j cap) D.length (k2 D) := HOr.out
    obtain ⟨g2, cap2, w2, hrun, ho2, hc2, hg2⟩ := app_one HOd (kx, ki) (by have := HL.out; omega)
    rw [HL.out.1] at hrun
    have hHd : wr.drew.heap[kb]? = some (.cells #[.slice (some ⟨g, 0, none⟩) j cap] 72 (0, 0)) := HBr.out
    have hm2 := CD.more hHd HOd ho2 hc2
    have e2 : w2.cell? ⟨kb, 0, none⟩ = some (.slice (some ⟨g, 0, none⟩) j cap) := box_cells hm2.1 0 _ rfl
    have f2 : w2.frozen? ⟨kb, 0, none⟩ = false := box_frozen hm2.1 0
    have HRN : Hid ((Builtin.append_ #[70, 70] 70 #[.slice (some ⟨g, 0, none⟩) j cap, .slice (some ⟨wr.heap.size, 0, none⟩) 1 1]).run Tryz.prog (wr.drew.alloc (.cells #[.int .u8 kx, .int .u8 ki] 43)) = .ok (.slice (some ⟨g2, 0, none⟩) (j + 1) cap2) w2) := hrun
    have Z2 : Hid (R (.returned (.int .i64 j)) (w2.setCell ⟨kb, 0, none⟩ (.slice (some ⟨g2, 0, none⟩) (j + 1) cap2))) := by
     have h1 := HR2.out HNK.out (m + 1) g2 cap2 w2 ho2 (by
      have e : w1.drewN (m + 1) = wr.drew := by rw [HM.out, ← World.drewN_drewN]; rfl
      rw [e]
      exact hc2.mono (fun j _ q => by simpa [Value.ownBlock, eq_comm] using q)) (by
      rcases hg2 with q | q
      ·
       left; simpa [Value.ownBlock] using q
      ·
       right
       rw [HM.out] at q
       exact q)
     rw [HL.out.1] at h1
     exact h1
    have kbl : kb < wr.drew.heap.size := (Array.getElem?_eq_some_iff.1 hHd).1
    have xl : w.heap.size < wr.drew.heap.size := (Array.getElem?_eq_some_iff.1 HXr.out).1
    have e0d : wr.drew.cell? ⟨kb, 0, none⟩ = some (.slice (some ⟨g, 0, none⟩) j cap) := e0
    have e0a : (wr.drew.alloc (.cells #[.int .u8 kx, .int .u8 ki] 43)).cell? ⟨kb, 0, none⟩ = some (.slice (some ⟨g, 0, none⟩) j cap) := by rw [World.cell?_alloc_lt]; exact e0; exact kbl
    have e0b : (wr.alloc (.cells #[.int .u8 kx, .int .u8 ki] 43)).cell? ⟨kb, 0, none⟩ = some (.slice (some ⟨g, 0, none⟩) j cap) := e0a
    have x0d : wr.drew.cell? ⟨w.heap.size, 0, none⟩ = some (.int .u8 kx) := x0
    have x1d : wr.drew.cell? ⟨w.heap.size, 1, none⟩ = some (.int .u8 ki) := x1
    have hws : IntKind.i64.wrap (((j + 1 : Nat) : Int) - 1) = (j : Int) := by rw [IntKind.wrap_i64]; have := HL.out; omega
    have hws' : IntKind.i64.wrap ((j : Int) + 1 - 1) = (j : Int) := by rw [IntKind.wrap_i64]; have := HL.out; omega
    have hws2 : (j : Int) + 1 - 1 = (j : Int) := by omega
    have hws3 : wrap64 (j : Int) = (j : Int) := by unfold wrap64; have := HL.out; omega
    clear hrun ho2 hc2 hg2 hm2 hnk HOd hHd
    go_wp2_with fail
    go_region_law (refine step_append_runk rfl (.tmp 46) (.tmp 48) 70 70 rfl _ _ rfl rfl _ w2 HRN.out ?_)
    all_goals go_wp2_with fail
    all_goals (try go_ret)
    all_goals first | exact Z2.out | (simp only [hws3]; exact Z2.out)
   | succ gk =>
    have hz : (j : Int) < (n : Int) := by omega
    have hz0 : (0 : Int) ≤ (j : Int) := by omega
    have hjl : j < D.length := by have := HL.out; omega
    have hwj : IntKind.i64.wrap ((j : Int) + 1) = (j : Int) + 1 := by rw [IntKind.wrap_i64]; have := HL.out; omega
    obtain ⟨⟨yx, yi⟩, hy⟩ : ∃ x, D[j]? = some x := ⟨_, List.getElem?_eq_getElem hjl⟩
    have hyc : wr.cell? ⟨g, j * 2, none⟩ = some (.int .u8 yx) ∧ wr.cell? ⟨g, j * 2 + 1, none⟩ = some (.int .u8 yi) := by
     have q := k2_at D j _ hy
     have c1 := HOr.out.cells (g := g) rfl (j * 2) _ q.1
     have c2 := HOr.out.cells (g := g) rfl (j * 2 + 1) _ q.2
     have ad : ∀ t, (⟨g, 0, none⟩ : Addr).add t = ⟨g, t, none⟩ := fun t => by unfold Addr.add; split <;> simp_all
     rw [ad] at c1 c2
     exact ⟨c1, c2⟩
    obtain ⟨y0, y1⟩ := hyc
    have HYY : Hid (D[j]? = some (yx, yi)) := hy
    have HM1 : Hid (wr.drew = w1.drewN (m + 1)) := by show _ = _; rw [HM.out, ← World.drewN_drewN]; rfl
    clear hy
    have HEQ := (show Hid (∀ W, (Op.equalIn 10000 43 (.agg #[.int .u8 yx, .int .u8 yi]) (.agg #[.int .u8 kx, .int .u8 ki])).run Tryz.prog W = .ok (decide ((yx, yi) = (kx, ki))) W) from fun W => eqIn43 yx kx yi ki W)
    by_cases hxk : (yx, yi) = (kx, ki)
    ·
     injection hxk with h1 h2
     subst h1 h2
     have hEQ : ∀ W, (Op.equalIn 10000 43 (.agg #[.int .u8 yx, .int .u8 yi]) (.agg #[.int .u8 yx, .int .u8 yi])).run Tryz.prog W = .ok true W := fun W => by rw [HEQ.out W]; simp
     clear HEQ
     have Z1 : Hid (R (.returned (.int .i64 j)) wr.drew) := by show R _ _; rw [HM1.out]; exact HR1.out j (m + 1) HYY.out HQ.out
     go_wp2_with fail
     go_region
     all_goals go_wp2_with fail
     all_goals (try go_ret)
     all_goals exact Z1.out
    ·
     have HNE : Hid (¬ (yx, yi) = (kx, ki)) := hxk
     have hne : decide ((yx, yi) = (kx, ki)) = false := decide_eq_false hxk
     have hne1 : ¬ (yx = kx ∧ yi = ki) := fun q => hxk (by rw [q.1, q.2])
     have hEQ : ∀ W, (Op.equalIn 10000 43 (.agg #[.int .u8 yx, .int .u8 yi]) (.agg #[.int .u8 kx, .int .u8 ki])).run Tryz.prog W = .ok false W := fun W => by rw [HEQ.out W, hne]
     clear hxk HEQ hne hne1
     go_wp2_with fail
     go_region
     all_goals go_wp2_with fail
     all_goals go_roundg gk
     case measure => omega
     case rel => exact ⟨j + 1, by omega, by first | rfl | simp, fun q hq => by
      by_cases e : q = j
      ·
       rw [e, HYY.out]
       exact fun r => HNE.out (Option.some.inj r)
      ·
       exact HQ.out q (by omega), m + 1, HM1.out⟩
 ·
  have HRA : Hid ((Builtin.append_ #[70, 70] 70 #[.slice none 0 0, .slice (some ⟨w.heap.size + 1 + 1, 0, none⟩) 1 1]).run Tryz.prog (((w.alloc (.cells #[.int .u8 kx, .int .u8 ki] 43)).alloc (.cells #[.int .u8 0, .int .u8 0] 43)).drew.alloc (.cells #[.int .u8 0, .int .u8 0] 43)) = .ok (.slice (some ⟨g, 0, none⟩) n cap) wa) := hra
  have HW1 : Hid (w1 = wa.setCell ⟨kb, 0, none⟩ (.slice (some ⟨g, 0, none⟩) n cap)) := hw1
  have kl : kb < w.heap.size := (Array.getElem?_eq_some_iff.1 hs).1
  have hc0 := box_cells hs 0 _ rfl
  have e00 : ((w.alloc (.cells #[.int .u8 kx, .int .u8 ki] 43)).alloc (.cells #[.int .u8 0, .int .u8 0] 43)).cell? ⟨kb, 0, none⟩ = some (.slice none 0 0) := by rw [World.cell?_alloc_lt, World.cell?_alloc_lt]; exact hc0; exact kl; simp; omega
  have e01 : ((w.alloc (.cells #[.int .u8 kx, .int .u8 ki] 43)).alloc (.cells #[.int .u8 0, .int .u8 0] 43)).drew.cell? ⟨kb, 0, none⟩ = some (.slice none 0 0) := e00
  have e02 : (((w.alloc (.cells #[.int .u8 kx, .int .u8 ki] 43)).alloc (.cells #[.int .u8 0, .int .u8 0] 43)).drew.alloc (.cells #[.int .u8 0, .int .u8 0] 43)).cell? ⟨kb, 0, none⟩ = some (.slice none 0 0) := by rw [World.cell?_alloc_lt]; exact e00; simp; omega
  have e03 : (((w.alloc (.cells #[.int .u8 kx, .int .u8 ki] 43)).alloc (.cells #[.int .u8 0, .int .u8 0] 43)).alloc (.cells #[.int .u8 0, .int .u8 0] 43)).cell? ⟨kb, 0, none⟩ = some (.slice none 0 0) := e02
  have ca := box_cells hwa 0 _ rfl
  have fa := box_frozen hwa 0
  clear hra hw1 hs hwa hc0
  go_enter Tryz.func41, Tryz.ntmps41
  go_wp2_with fail
  go_region_law (refine step_append_runk rfl (.tmp 17) (.tmp 19) 70 70 rfl _ _ rfl rfl _ wa HRA.out ?_)
  all_goals go_wp2_with fail
  all_goals rw [← HW1.out]
  all_goals clear HW1
  all_goals
   go_loopg [6] n (fun gk s6 wx => ∃ j : Nat, j + gk = n ∧ s6 = .int .i64 j ∧ Hid (∀ q, q < j → D[q]? ≠ some (kx, ki)) ∧ Hid (∃ m, wx = w1.drewN m))
   case atStart => exact ⟨0, by omega, rfl, fun q hq => absurd hq (Nat.not_lt_zero _), 0, rfl⟩
   case round =>
    obtain ⟨j, hj, rfl, HQ, HW⟩ := hrel
    obtain ⟨m, hm⟩ := HW.out
    have HBr : Hid (wr.heap[kb]? = some (.cells #[.slice (some ⟨g, 0, none⟩) n cap] 72 (0, 0))) := by show _ = _; rw [hm, ← HL.out.1]; exact HB.out
    have HXr : Hid (wr.heap[w.heap.size]? = some (.cells #[.int .u8 kx, .int .u8 ki] 43 (0, 0))) := by show _ = _; rw [hm]; exact HX.out
    have HOr : Hid (wr.ownsRow 0 43 2 (.slice (some ⟨g, 0, none⟩) n cap) D.length (k2 D)) := by show wr.ownsRow _ _ _ _ _ _; rw [hm, ← HL.out.1]; exact HOW.out
    have e0 : wr.cell? ⟨kb, 0, none⟩ = some (.slice (some ⟨g, 0, none⟩) n cap) := box_cells HBr.out 0 _ rfl
    have x0 : wr.cell? ⟨w.heap.size, 0, none⟩ = some (.int .u8 kx) := box_cells HXr.out 0 _ rfl
    have x1 : wr.cell? ⟨w.heap.size, 1, none⟩ = some (.int .u8 ki) := box_cells HXr.out 1 _ rfl
    have HM := (show Hid (wr = w1.drewN m) from hm)
    clear hm HW
    cases gk with
    | zero =>
     obtain rfl : j = n := by omega
     have hz : ¬ (j : Int) < (j : Int) := by omega
     have hnk : (kx, ki) ∉ D := fun q => by
      obtain ⟨a, ha, he⟩ := List.mem_iff_getElem.1 q
      exact HQ.out a (by have := HL.out; omega) (by rw [List.getElem?_eq_getElem ha, he])
     have HNK : Hid ((kx, ki) ∉ D) := hnk
     have HOd : wr.drew.ownsRow 0 43 2 (.slice (some ⟨g, 0, none⟩) j cap) D.length (k2 D) := HOr.out
     obtain ⟨g2, cap2, w2, hrun, ho2, hc2, hg2⟩ := app_one HOd (kx, ki) (by have := HL.out; omega)
     rw [HL.out.1] at hrun
     have hHd : wr.drew.heap[kb]? = some (.cells #[.slice (some ⟨g, 0, none⟩) j cap] 72 (0, 0)) := HBr.out
     have hm2 := CD.more hHd HOd ho2 hc2
     have e2 : w2.cell? ⟨kb, 0, none⟩ = some (.slice (some ⟨g, 0, none⟩) j cap) := box_cells hm2.1 0 _ rfl
     have f2 : w2.frozen? ⟨kb, 0, none⟩ = false := box_frozen hm2.1 0
     have HRN : Hid ((Builtin.append_ #[70, 70] 70 #[.slice (some ⟨g, 0, none⟩) j cap, .slice (some ⟨wr.heap.size, 0, none⟩) 1 1]).run Tryz.prog (wr.drew.alloc (.cells #[.int .u8 kx, .int .u8 ki] 43)) = .ok (.slice (some ⟨g2, 0, none⟩) (j + 1) cap2) w2) := hrun
     have Z2 : Hid (R (.returned (.int .i64 j)) (w2.setCell ⟨kb, 0, none⟩ (.slice (some ⟨g2, 0, none⟩) (j + 1) cap2))) := by
      have h1 := HR2.out HNK.out (m + 1) g2 cap2 w2 ho2 (by
       have e : w1.drewN (m + 1) = wr.drew := by rw [HM.out, ← World.drewN_drewN]; rfl
       rw [e]
       exact hc2.mono (fun j _ q => by simpa [Value.ownBlock, eq_comm] using q)) (by
       rcases hg2 with q | q
       ·
        left; simpa [Value.ownBlock] using q
       ·
        right
        rw [HM.out] at q
        exact q)
      rw [HL.out.1] at h1
      exact h1
     have kbl : kb < wr.drew.heap.size := (Array.getElem?_eq_some_iff.1 hHd).1
     have xl : w.heap.size < wr.drew.heap.size := (Array.getElem?_eq_some_iff.1 HXr.out).1
     have e0d : wr.drew.cell? ⟨kb, 0, none⟩ = some (.slice (some ⟨g, 0, none⟩) j cap) := e0
     have e0a : (wr.drew.alloc (.cells #[.int .u8 kx, .int .u8 ki] 43)).cell? ⟨kb, 0, none⟩ = some (.slice (some ⟨g, 0, none⟩) j cap) := by rw [World.cell?_alloc_lt]; exact e0; exact kbl
     have e0b : (wr.alloc (.cells #[.int .u8 kx, .int .u8 ki] 43)).cell? ⟨kb, 0, none⟩ = some (.slice (some ⟨g, 0, none⟩) j cap) := e0a
     have x0d : wr.drew.cell? ⟨w.heap.size, 0, none⟩ = some (.int .u8 kx) := x0
     have x1d : wr.drew.cell? ⟨w.heap.size, 1, none⟩ = some (.int .u8 ki) := x1
     have hws : IntKind.i64.wrap (((j + 1 : Nat) : Int) - 1) = (j : Int) := by rw [IntKind.wrap_i64]; have := HL.out; omega
     have hws' : IntKind.i64.wrap ((j : Int) + 1 - 1) = (j : Int) := by rw [IntKind.wrap_i64]; have := HL.out; omega
     have hws2 : (j : Int) + 1 - 1 = (j : Int) := by omega
     have hws3 : wrap64 (j : Int) = (j : Int) := by unfold wrap64; have := HL.out; omega
     clear hrun ho2 hc2 hg2 hm2 hnk HOd hHd
     go_wp2_with fail
     go_region_law (refine step_append_runk rfl (.tmp 46) (.tmp 48) 70 70 rfl _ _ rfl rfl _ w2 HRN.out ?_)
     all_goals go_wp2_with fail
     all_goals (try go_ret)
     all_goals first | exact Z2.out | (simp only [hws3]; exact Z2.out)
    | succ gk =>
     have hz : (j : Int) < (n : Int) := by omega
     have hz0 : (0 : Int) ≤ (j : Int) := by omega
     have hjl : j < D.length := by have := HL.out; omega
     have hwj : IntKind.i64.wrap ((j : Int) + 1) = (j : Int) + 1 := by rw [IntKind.wrap_i64]; have := HL.out; omega
     obtain ⟨⟨yx, yi⟩, hy⟩ : ∃ x, D[j]? = some x := ⟨_, List.getElem?_eq_getElem hjl⟩
     have hyc : wr.cell? ⟨g, j * 2, none⟩ = some (.int .u8 yx) ∧ wr.cell? ⟨g, j * 2 + 1, none⟩ = some (.int .u8 yi) := by
      have q := k2_at D j _ hy
      have c1 := HOr.out.cells (g := g) rfl (j * 2) _ q.1
      have c2 := HOr.out.cells (g := g) rfl (j * 2 + 1) _ q.2
      have ad : ∀ t, (⟨g, 0, none⟩ : Addr).add t = ⟨g, t, none⟩ := fun t => by unfold Addr.add; split <;> simp_all
      rw [ad] at c1 c2
      exact ⟨c1, c2⟩
     obtain ⟨y0, y1⟩ := hyc
     have HYY : Hid (D[j]? = some (yx, yi)) := hy
     have HM1 : Hid (wr.drew = w1.drewN (m + 1)) := by show _ = _; rw [HM.out, ← World.drewN_drewN]; rfl
     clear hy
     have HEQ := (show Hid (∀ W, (Op.equalIn 10000 43 (.agg #[.int .u8 yx, .int .u8 yi]) (.agg #[.int .u8 kx, .int .u8 ki])).run Tryz.prog W = .ok (decide ((yx, yi) = (kx, ki))) W) from fun W => eqIn43 yx kx yi ki W)
     by_cases hxk : (yx, yi) = (kx, ki)
     ·
      injection hxk with h1 h2
      subst h1 h2
      have hEQ : ∀ W, (Op.equalIn 10000 43 (.agg #[.int .u8 yx, .int .u8 yi]) (.agg #[.int .u8 yx, .int .u8 yi])).run Tryz.prog W = .ok true W := fun W => by rw [HEQ.out W]; simp
      clear HEQ
      have Z1 : Hid (R (.returned (.int .i64 j)) wr.drew) := by show R _ _; rw [HM1.out]; exact HR1.out j (m + 1) HYY.out HQ.out
      go_wp2_with fail
      go_region
      all_goals go_wp2_with fail
      all_goals (try go_ret)
      all_goals exact Z1.out
     ·
      have HNE : Hid (¬ (yx, yi) = (kx, ki)) := hxk
      have hne : decide ((yx, yi) = (kx, ki)) = false := decide_eq_false hxk
      have hne1 : ¬ (yx = kx ∧ yi = ki) := fun q => hxk (by rw [q.1, q.2])
      have hEQ : ∀ W, (Op.equalIn 10000 43 (.agg #[.int .u8 yx, .int .u8 yi]) (.agg #[.int .u8 kx, .int .u8 ki])).run Tryz.prog W = .ok false W := fun W => by rw [HEQ.out W, hne]
      clear hxk HEQ hne hne1
      go_wp2_with fail
      go_region
      all_goals go_wp2_with fail
      all_goals go_roundg gk
      case measure => omega
      case rel => exact ⟨j + 1, by omega, by first | rfl | simp, fun q hq => by
       by_cases e : q = j
       ·
        rw [e, HYY.out]
        exact fun r => HNE.out (Option.some.inj r)
       ·
        exact HQ.out q (by omega), m + 1, HM1.out⟩
end Go.Proofs.YtdhinpmjbcohaaaGreat.Qa
