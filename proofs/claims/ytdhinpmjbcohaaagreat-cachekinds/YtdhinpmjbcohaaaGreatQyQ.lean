import Derived.Test.YtdhinpmjbcohaaaGreatJchf
import Derived.Test.YtdhinpmjbcohaaaGreatKcO
import Derived.Laws.Rows
import Derived.Test.YtdhinpmjbcohaaaGreatPa
import Derived.Deep.LoopGhost
import Derived.Lib.AppendZeros
import Derived.Maps.AppendAt
namespace Go.Proofs.YtdhinpmjbcohaaaGreat.Jc
open Go Go.RowKit Go.Shelf
set_option linter.unusedSimpArgs false
set_option linter.unusedVariables false
set_option maxRecDepth 100000
set_option maxHeartbeats 4000000
open Rf (e2 e2_len e2_app e2_one e2_at ER own_er own_shape app_many addr0 RS AftR)

structure Rel (l : List (Kc.Ky × Kc.Vt)) (M : List (Int × Int)) (C : List Kc.Ky) (D : List Kc.Vt) (N : Nat) : Prop where
 m : M = l.map (nu C D)
 hC : C = [] ∨ Cod zk C
 hD : D = [] ∨ Cod false D
 iC : ∀ p ∈ l, p.1 ∈ C
 iD : ∀ p ∈ l, p.2 ∈ D
 nl : l.length ≤ N
 nC : C.length ≤ 4 * N
 nD : D.length ≤ 4 * N
theorem Rel.asked {l : List (Kc.Ky × Kc.Vt)} {M : List (Int × Int)} {C : List Kc.Ky} {D : List Kc.Vt} {N : Nat} (h : Rel l M C D N) (k : Kc.Ky) (v : Kc.Vt) : Rel l M (ext zk C k) (ext false D v) (N + 1) := by
 obtain ⟨a, b, c⟩ := nu_stay h.hC h.hD h.iC h.iD k v
 have l1 := ext_len zk C k
 have l2 := ext_len (false : Bool) D v
 exact ⟨h.m.trans a, .inr (cod_ext _ _ _ h.hC), .inr (cod_ext _ _ _ h.hD), b, c, by have := h.nl; omega, by have := h.nC; omega, by have := h.nD; omega⟩
theorem Rel.less {l l' : List (Kc.Ky × Kc.Vt)} {M : List (Int × Int)} {C : List Kc.Ky} {D : List Kc.Vt} {N : Nat} (h : Rel l M C D N) (hs : ∀ p ∈ l', p ∈ l) (hl : l'.length ≤ l.length) : Rel l' (l'.map (nu C D)) C D N :=
 ⟨rfl, h.hC, h.hD, fun p hp => h.iC p (hs p hp), fun p hp => h.iD p (hs p hp), Nat.le_trans hl h.nl, h.nC, h.nD⟩
theorem lout_mem' {l : List (Kc.Ky × Kc.Vt)} {k : Kc.Ky} {p : Kc.Ky × Kc.Vt} (h : p ∈ lout l k) : p ∈ l := (lout_mem.1 h).1
theorem lout_len' (l : List (Kc.Ky × Kc.Vt)) (k : Kc.Ky) : (lout l k).length ≤ l.length := List.length_filter_le _ _
theorem lout_lt {l : List (Kc.Ky × Kc.Vt)} {k : Kc.Ky} {v : Kc.Vt} (h : lget l k = some v) : (lout l k).length < l.length := by
 have hm := lget_some h
 unfold lout
 refine List.length_filter_lt_length_iff_exists.2 ⟨(k, v), hm, ?_⟩
 simp
theorem does_any {w : World} {cb mb kb vb room N : Nat} {l : List (Kc.Ky × Kc.Vt)} {M : List (Int × Int)} {C : List Kc.Ky} {D : List Kc.Vt} {F G1 G2 G3 : Nat → Prop} (kind : Int) (k : Kc.Ky) (v : Kc.Vt) (stop : Int) (h : PR w cb mb kb vb room l M C D F G1 G2 G3) (hr : Rel l M C D N) (hN : N ≤ 3000) (hroom : room ≤ 1048576) (hk : Kc.okK k) :
  Calls Tryz.prog 10 #[.agg #[pt cb, pt mb, pt kb, pt vb], .int .i64 kind, Kc.kc k, Kc.vc v, .int .i64 stop] w fun r w' => r = .returned (.bool true) ∧ ∃ l' M' C' D', PG (fun j => F j ∨ G1 j ∨ G2 j ∨ G3 j) w cb mb kb vb room l' M' C' D' w' ∧ Rel l' M' C' D' (N + 1) := by
 obtain ⟨T, hT⟩ : ∃ T : Nat → Prop, T = fun j => F j ∨ G1 j ∨ G2 j ∨ G3 j := ⟨_, rfl⟩
 rw [← hT]
 have hTl : ∀ j, T j → j < w.heap.size := fun j hj => h.lt (by rw [hT] at hj; exact hj)
 obtain ⟨w1, hw1⟩ : ∃ w1, w1 = ((w.alloc (.cells #[pt cb, pt mb, pt kb, pt vb] 41)).alloc (.cells #[.int .u8 k.1, .int .u8 k.2] 43)) := ⟨_, rfl⟩
 have s1 : w1.heap.size = w.heap.size + 1 + 1 := by rw [hw1]; simp
 have n1 : w1.heap[w.heap.size]? = some (.cells #[pt cb, pt mb, pt kb, pt vb] 41 (0, 0)) := by rw [hw1]; exact (Below.heap_alloc _ _ _ (by simp)).trans (heap_alloc_new w _)
 have nk : w1.heap[w.heap.size + 1]? = some (.cells #[.int .u8 k.1, .int .u8 k.2] 43 (0, 0)) := by rw [hw1]; have := heap_alloc_new (w.alloc (.cells #[pt cb, pt mb, pt kb, pt vb] 41)) (.cells #[.int .u8 k.1, .int .u8 k.2] 43); rw [World.size_alloc] at this; exact this
 have o1 : ∀ j, j < w.heap.size → w1.heap[j]? = w.heap[j]? := fun j hj => by
  rw [hw1]
  exact ((World.grownBy_alloc _ _ none).block j (by simp; omega) (by simp)).trans ((World.grownBy_alloc _ _ none).block j hj (by simp))
 have start : PG T w1 cb mb kb vb room l M C D w1.drew := ⟨F, G1, G2, G3, h.heap (fun j hj => o1 j (h.lt hj)), fun j hj => .inl (by rw [hT]; exact hj), ch_drew _ _⟩
 have bq : ∀ {l M C D W}, PG T w1 cb mb kb vb room l M C D W → BQ W cb mb kb vb w.heap.size k.1 k.2 := fun {l M C D W} hp => by
  obtain ⟨_, _, _, _, _, _, q⟩ := hp
  have n2 := (q.block w.heap.size (by omega) (fun x => by have := hTl _ x; omega)).trans n1
  have n3 := (q.block (w.heap.size + 1) (by omega) (fun x => by have := hTl _ x; omega)).trans nk
  exact ⟨box_cells n2 0 _ rfl, box_cells n2 1 _ rfl, box_cells n2 2 _ rfl, box_cells n2 3 _ rfl, box_cells n3 0 _ rfl, box_cells n3 1 _ rfl⟩
 have back : ∀ {l M C D W}, PG T w1 cb mb kb vb room l M C D W → PG T w cb mb kb vb room l M C D W := fun {l M C D W} hp => by
  obtain ⟨F', G1', G2', G3', q1, q2, q3⟩ := hp
  refine ⟨F', G1', G2', G3', q1, fun j hj => ?_, (by rw [hw1]; exact (ch_alloc T _ _).then (ch_alloc T _ _) : Ch T w w1).then q3⟩
  rcases q2 j hj with q | q
  ·
   exact .inl q
  ·
   exact .inr (by omega)
 obtain ⟨C', hC'⟩ : ∃ C', C' = ext zk C k := ⟨_, rfl⟩
 obtain ⟨D', hD'⟩ : ∃ D', D' = ext false D v := ⟨_, rfl⟩
 have hr' : Rel l M C' D' (N + 1) := by
  rw [hC', hD']
  exact hr.asked k v
 have hkC : k ∈ C' := by rw [hC']; exact ext_mem _ _ _
 have hvD : v ∈ D' := by rw [hD']; exact ext_mem _ _ _
 have cC : Cod zk C' := by rw [hC']; exact cod_ext _ _ _ hr.hC
 have cD : Cod false D' := by rw [hD']; exact cod_ext _ _ _ hr.hD
 have b1 := hr.nC
 have b2 := hr.nD
 have b3 := hr'.nC
 have b4 := hr'.nD
 have b5 := hr'.nl
 have b6 : M.length = l.length := by rw [hr.m]; simp
 have hnl := hr.nl
 have h1 : Calls Tryz.prog 41 #[.pointer (some ⟨kb, 0, none⟩), .agg #[.int .u8 k.1, .int .u8 k.2]] ((w.alloc (.cells #[pt cb, pt mb, pt kb, pt vb] 41)).alloc (.cells #[.int .u8 k.1, .int .u8 k.2] 43)).drew fun r w' => r = .returned (.int .i64 (ix k C')) ∧ BQ w' cb mb kb vb w.heap.size k.1 k.2 ∧ PG T w1 cb mb kb vb room l M C' D w' := by
  rw [← hw1]
  refine (start.ofk k (by omega)).mono ?_
  rintro r w' ⟨rfl, q⟩
  rw [← hC'] at q ⊢
  exact ⟨rfl, bq q, q⟩
 have h2 : ∀ W, PG T w1 cb mb kb vb room l M C' D W → Calls Tryz.prog 42 #[.pointer (some ⟨vb, 0, none⟩), .bool v] W fun r w' => r = .returned (.int .i64 (ix v D')) ∧ BQ w' cb mb kb vb w.heap.size k.1 k.2 ∧ PG T w1 cb mb kb vb room l M C' D' w' := fun W hW => by
  refine (hW.ofv v (by omega)).mono ?_
  rintro r w' ⟨rfl, q⟩
  rw [← hD'] at q ⊢
  exact ⟨rfl, bq q, q⟩
 have eget : lget M (ix k C' : Int) = (lget l k).map (fun v => (ix v D' : Int)) := by
  rw [hr'.m]
  exact lget_nu hr'.iC hkC
 have eout : lout M (ix k C' : Int) = (lout l k).map (nu C' D') := by
  rw [hr'.m]
  exact lout_nu hr'.iC hkC
 by_cases k1 : kind = 1
 ·
  refine does_get k1 _ h1 h2 (a := (lget l k).getD false) (b := (lget M (ix k C' : Int)).getD 0) (ok := (lget l k).isSome) (K3 := PG T w1 cb mb kb vb room (Kc.lused l k) M C' D') (K4 := PG T w1 cb mb kb vb room (Kc.lused l k) ((Kc.lused l k).map (nu C' D')) C' D') (fun W hW => ?_) (fun W hW => ?_) (fun W hW => ?_)
  ·
   refine (hW.stepc (fun F' hF => Kc.get_any hF hk)).mono ?_
   rintro r w' ⟨rfl, q⟩
   exact ⟨rfl, bq q, q⟩
  ·
   refine (hW.stepm (fun G hG => Rf.rget_any hG _ (by omega))).mono ?_
   rintro r w' ⟨rfl, q⟩
   have e : (match lget M (ix k C' : Int) with | some v => ltop (ix k C' : Int) v M | none => M) = (Kc.lused l k).map (nu C' D') := by
    rw [eget]
    unfold Kc.lused
    cases hg : lget l k with
    | none => exact hr'.m
    | some x =>
     show ltop (ix k C' : Int) (ix x D' : Int) M = _
     rw [hr'.m]
     exact ltop_nu hr'.iC hkC
   have q' : PG T w1 cb mb kb vb room (Kc.lused l k) (match lget M (ix k C' : Int) with | some v => ltop (ix k C' : Int) v M | none => M) C' D' w' := q
   rw [e] at q'
   exact ⟨by rw [eget]; cases lget l k <;> rfl, bq q', q'⟩
  ·
   refine (hW.ofv _ (by omega)).mono ?_
   rintro r w' ⟨rfl, q⟩
   have hx : (lget l k).getD false ∈ D' ∧ (ix ((lget l k).getD false) D' : Int) = (lget M (ix k C' : Int)).getD 0 := by
    rw [eget]
    cases hg : lget l k with
    | none => exact ⟨(cod_zero cD).1, by simp [(cod_zero cD).2]⟩
    | some x => exact ⟨hr'.iD _ (lget_some hg), rfl⟩
   rw [ext_same cD hx.1] at q ⊢
   rw [hx.2]
   refine ⟨rfl, rfl, _, _, _, _, back q, ?_⟩
   unfold Kc.lused
   cases hg : lget l k with
   | none => exact hr'.less (fun p hp => hp) (Nat.le_refl _)
   | some x =>
    refine hr'.less (fun p hp => ?_) ?_
    ·
     rcases List.mem_cons.1 hp with rfl | hp
     ·
      exact lget_some hg
     ·
      exact lout_mem' hp
    ·
     have := lout_lt hg
     simp only [ltop, List.length_cons]
     omega
 by_cases k2 : kind = 2
 ·
  refine does_put (K4 := fun _ => True) k2 _ h1 h2 (K3 := PG T w1 cb mb kb vb room ((ltop k v l).take room) M C' D') (fun W hW => ?_) (fun W hW => ?_)
  ·
   refine (hW.stepc (fun F' hF => Kc.put_any hF hk hroom)).mono ?_
   rintro r w' ⟨rfl, q⟩
   exact ⟨rfl, bq q, q⟩
  ·
   refine (hW.stepm (fun G hG => Rf.rput_any hG _ _ (by omega))).mono ?_
   rintro r w' ⟨rfl, q⟩
   have e : (ltop (ix k C' : Int) (ix v D' : Int) M).take room = ((ltop k v l).take room).map (nu C' D') := by
    rw [hr'.m, ltop_nu hr'.iC hkC, List.map_take]
   rw [e] at q
   have hmem : ∀ p ∈ (ltop k v l).take room, p = (k, v) ∨ p ∈ l := fun p hp => by
    rcases List.mem_cons.1 (List.mem_of_mem_take hp) with rfl | hp
    ·
     exact .inl rfl
    ·
     exact .inr (lout_mem' hp)
   refine ⟨rfl, rfl, _, _, _, _, back q, rfl, hr'.hC, hr'.hD, fun p hp => ?_, fun p hp => ?_, ?_, hr'.nC, hr'.nD⟩
   ·
    rcases hmem p hp with rfl | hp
    ·
     exact hkC
    ·
     exact hr'.iC p hp
   ·
    rcases hmem p hp with rfl | hp
    ·
     exact hvD
    ·
     exact hr'.iD p hp
   ·
    have := lout_len' l k
    simp only [ltop, List.length_take, List.length_cons]
    omega
 by_cases k3 : kind = 3
 ·
  refine does_drop (K4 := fun _ => True) k3 _ h1 h2 (ok := (lget l k).isSome) (K3 := PG T w1 cb mb kb vb room (lout l k) M C' D') (fun W hW => ?_) (fun W hW => ?_)
  ·
   refine (hW.drew.stepc (fun F' hF => Kc.drop_any hF hk)).mono ?_
   rintro r w' ⟨rfl, q⟩
   exact ⟨rfl, bq q, q⟩
  ·
   refine (hW.stepm (fun G hG => Rf.rdrop_any hG _ (by omega))).mono ?_
   rintro r w' ⟨rfl, q⟩
   rw [eout] at q
   exact ⟨by rw [eget]; cases lget l k <;> rfl, bq q, rfl, _, _, _, _, back q, hr'.less (fun p hp => lout_mem' hp) (lout_len' l k)⟩
 by_cases k4 : kind = 4
 ·
  refine does_clear (K4 := fun _ => True) k4 _ h1 h2 (a := (l.length : Int)) (K3 := PG T w1 cb mb kb vb room [] M C' D') (fun W hW => ?_) (fun W hW => ?_)
  ·
   refine (hW.drew.stepc (fun F' hF => Kc.clear_any hF)).mono ?_
   rintro r w' ⟨rfl, q⟩
   exact ⟨rfl, bq q, q⟩
  ·
   refine (hW.stepm (fun G hG => Rf.rclear_any hG)).mono ?_
   rintro r w' ⟨rfl, q⟩
   exact ⟨by rw [b6], bq q, rfl, _, _, _, _, back q, hr'.less (l' := []) (fun p hp => (by cases hp)) (by simp)⟩
 by_cases k5 : kind = 5
 ·
  have hm0 : ∀ W, PG T w1 cb mb kb vb room l M C' D' W → ∃ ad cap, W.cell? ⟨mb, 1, none⟩ = some (.slice ad l.length cap) := fun W hW => by
   obtain ⟨_, _, _, _, q, _⟩ := hW
   obtain ⟨⟨va, q1, q2, _⟩, _⟩ := q.m
   obtain ⟨a, c, rfl⟩ := own_shape q2
   rw [b6] at q1
   exact ⟨a, c, box_cells q1 1 _ rfl⟩
  refine does_len (K3 := fun _ => True) (K4 := fun _ => True) k5 _ h1 h2 (ln := l.length) (fun W hW => ?_) (fun W hW => hm0 W hW)
  have hW0 := hW.drew
  obtain ⟨F', _, _, _, q, _⟩ := hW.drew
  refine (Kc.len_any q.c).mono ?_
  rintro r w' ⟨rfl, rfl⟩
  exact ⟨rfl, rfl, rfl, _, _, _, _, back hW0, hr'⟩
 by_cases k6 : kind = 6
 ·
  have elast : M.getLast? = l.getLast?.map (nu C' D') := by rw [hr'.m, List.getLast?_map]
  refine does_oldest k6 _ h1 h2 (ax := ((l.getLast?.map (·.1)).getD zk).1) (ai := ((l.getLast?.map (·.1)).getD zk).2) (b := (M.getLast?.map (·.1)).getD 0) (ok := l.getLast?.isSome) (K3 := PG T w1 cb mb kb vb room l M C' D') (K4 := PG T w1 cb mb kb vb room l M C' D') (fun W hW => ?_) (fun W hW => ?_) (fun W hW => ?_)
  ·
   have hW0 := hW
   obtain ⟨F', _, _, _, q, _⟩ := hW
   refine (Kc.oldest_any q.c).mono ?_
   rintro r w' ⟨rfl, hb⟩
   have q1 := hW0.same hb
   exact ⟨rfl, bq q1, q1⟩
  ·
   obtain ⟨W', hW'⟩ : ∃ W', W' = W.alloc (.cells #[.int .u8 ((l.getLast?.map (·.1)).getD zk).1, .int .u8 ((l.getLast?.map (·.1)).getD zk).2] 43) := ⟨_, rfl⟩
   have hnew : W'.heap[W.heap.size]? = some (.cells #[.int .u8 ((l.getLast?.map (·.1)).getD zk).1, .int .u8 ((l.getLast?.map (·.1)).getD zk).2] 43 (0, 0)) := by rw [hW']; exact heap_alloc_new W _
   have hW0 : PG T w1 cb mb kb vb room l M C' D' W' := hW.same (by rw [hW']; exact (Below.refl _ _).alloc (Nat.le_refl _) _)
   rw [← hW']
   have hW1 := hW0
   obtain ⟨F', _, _, _, q, _⟩ := hW1
   refine (Rf.roldest_any q.m (by omega)).mono ?_
   rintro r w' ⟨rfl, q2⟩
   have q3 : PG T w1 cb mb kb vb room l M C' D' w' ∧ w'.heap = W'.heap := by
    rcases q2 with rfl | rfl
    ·
     exact ⟨hW0, rfl⟩
    ·
     exact ⟨hW0.drew, rfl⟩
   have hn2 : w'.heap[W.heap.size]? = some (.cells #[.int .u8 ((l.getLast?.map (·.1)).getD zk).1, .int .u8 ((l.getLast?.map (·.1)).getD zk).2] 43 (0, 0)) := by rw [q3.2]; exact hnew
   refine ⟨?_, bq q3.1, box_cells hn2 0 _ rfl, box_cells hn2 1 _ rfl, q3.1⟩
   rw [elast]
   cases l.getLast? <;> rfl
  ·
   refine (hW.ofk _ (by omega)).mono ?_
   rintro r w' ⟨rfl, q⟩
   have hx : (l.getLast?.map (·.1)).getD zk ∈ C' ∧ (ix ((l.getLast?.map (·.1)).getD zk) C' : Int) = (M.getLast?.map (·.1)).getD 0 := by
    rw [elast]
    cases hg : l.getLast? with
    | none => exact ⟨(cod_zero cC).1, by simp [(cod_zero cC).2]⟩
    | some x => exact ⟨hr'.iC _ (List.mem_of_getLast? hg), rfl⟩
   rw [ext_same cC hx.1] at q ⊢
   rw [hx.2]
   exact ⟨rfl, rfl, _, _, _, _, back q, hr'⟩
 by_cases k7 : kind = 7
 ·
  refine does_all (K3 := fun _ => True) (K4 := fun _ => True) k7 _ h1 h2 (fun W hW => ?_)
  have hW' : PG T w1 cb mb kb vb room l (l.map (nu C' D')) C' D' W := by
   rw [← hr'.m]
   exact hW
  refine (hW'.alls (by omega) hr'.iC hr'.iD (by omega) (by omega) stop).mono ?_
  rintro r w' ⟨rfl, q⟩
  rw [← hr'.m] at q
  exact ⟨rfl, rfl, _, _, _, _, back q, hr'⟩
 ·
  refine does_else (K3 := fun _ => True) (K4 := fun _ => True) ⟨k1, k2, k3, k4, k5, k6, k7⟩ _ h1 h2 (fun W hW => ?_)
  exact ⟨rfl, _, _, _, _, back hW, hr'⟩
end Go.Proofs.YtdhinpmjbcohaaaGreat.Jc
namespace Go.Proofs.YtdhinpmjbcohaaaGreat.Jc
open Go Go.RowKit Go.Shelf
set_option linter.unusedSimpArgs false
set_option linter.unusedVariables false
set_option maxRecDepth 100000
set_option maxHeartbeats 4000000
open Rf (e2 e2_len e2_app e2_one e2_at ER own_er own_shape app_many addr0 RS AftR)

def bgw (w : World) (rm : Nat) : World := ((((w.alloc (.cells #[pt (w.heap.size + 1), pt (w.heap.size + 1 + 1), pt (w.heap.size + 1 + 1 + 1), pt (w.heap.size + 1 + 1 + 1 + 1)] 41)).alloc (.cells #[.int .i64 rm, .pointer none, .map none] 148)).alloc (.cells #[.int .i64 rm, .slice none 0 0] 92)).alloc (.cells #[.slice none 0 0] 72)).alloc (.cells #[.slice none 0 0] 75)
theorem begin_walk {w : World} {most : Int} {rm : Nat} 
  (h1 : ∀ W, Calls Tryz.prog 19 #[.int .i64 most] W fun r w' => r = .returned (pt W.heap.size) ∧ w' = W.alloc (.cells #[.int .i64 rm, .pointer none, .map none] 148))
  (h2 : ∀ W, Calls Tryz.prog 17 #[.int .i64 most] W fun r w' => r = .returned (pt W.heap.size) ∧ w' = W.alloc (.cells #[.int .i64 rm, .slice none 0 0] 92)) :
  Calls Tryz.prog 6 #[.int .i64 most] w fun r w' => r = .returned (.agg #[pt (w.heap.size + 1), pt (w.heap.size + 1 + 1), pt (w.heap.size + 1 + 1 + 1), pt (w.heap.size + 1 + 1 + 1 + 1)]) ∧ w' = bgw w rm := by
 have H1 := hidi h1
 have H2 := hidi h2
 have H3 : Hid ((bgw w rm).heap[w.heap.size]? = some (.cells #[pt (w.heap.size + 1), pt (w.heap.size + 1 + 1), pt (w.heap.size + 1 + 1 + 1), pt (w.heap.size + 1 + 1 + 1 + 1)] 41 (0, 0))) := by
  have hb : ∀ (A : World) (o : Obj) (j : Nat), j < A.heap.size → (A.alloc o).heap[j]? = A.heap[j]? := fun A o j hj => (World.grownBy_alloc A o none).block j hj (by simp)
  unfold bgw
  show _ = _
  rw [hb _ _ _ (by simp <;> omega), hb _ _ _ (by simp <;> omega), hb _ _ _ (by simp <;> omega), hb _ _ _ (by simp <;> omega)]
  exact (MapKept.heap_alloc _ _).1
 clear h1 h2
 unfold bgw pt at *
 go_enter Tryz.func6, Tryz.ntmps6
 go_wp2_with fail
 go_must (go_at_call 19)
 refine (H1.out _).mono ?_
 rintro e w1 ⟨rfl, rfl⟩
 go_wp2_with fail
 go_must (go_at_call 17)
 refine (H2.out _).mono ?_
 rintro e w2 ⟨rfl, rfl⟩
 go_wp2_with fail
 (try simp only [Exit.inBlock, Exit.then])
 refine bodyPost_ret (results_cell_row rfl _ _ w.heap.size 41 _ (0, 0) _ rfl H3.out Tryz.underlying41 rfl (by kernel_rfl)) rfl ?_
 exact ⟨rfl, rfl⟩
theorem begin_any (w : World) (most : Int) : Calls Tryz.prog 6 #[.int .i64 most] w fun r w' => r = .returned (.agg #[pt (w.heap.size + 1), pt (w.heap.size + 1 + 1), pt (w.heap.size + 1 + 1 + 1), pt (w.heap.size + 1 + 1 + 1 + 1)]) ∧ w'.heap.size = w.heap.size + 5 ∧ Below w.heap.size w w' ∧
  ∃ F G1 G2 G3, PR w' (w.heap.size + 1) (w.heap.size + 1 + 1) (w.heap.size + 1 + 1 + 1) (w.heap.size + 1 + 1 + 1 + 1) (Kc.rm most) [] [] [] [] F G1 G2 G3 ∧ ∀ j, F j ∨ G1 j ∨ G2 j ∨ G3 j → w.heap.size ≤ j := by
 refine (begin_walk (fun W => Kc.new_run most W) (fun W => Rf.rnew_run most _ (Kc.rm_eq most) W)).mono ?_
 rintro r w' ⟨rfl, rfl⟩
 have hb : ∀ (A : World) (o : Obj) (j : Nat), j < A.heap.size → (A.alloc o).heap[j]? = A.heap[j]? := fun A o j hj => (World.grownBy_alloc A o none).block j hj (by simp)
 have hnew : ∀ (A : World) (o : Obj) (j : Nat), j = A.heap.size → (A.alloc o).heap[j]? = some o := fun A o j hj => by
  rw [hj]
  exact (MapKept.heap_alloc A o).1
 have e1 : (bgw w (Kc.rm most)).heap[w.heap.size + 1]? = some (.cells #[.int .i64 (Kc.rm most), .pointer none, .map none] 148 (0, 0)) := by
  unfold bgw
  rw [hb _ _ _ (by simp <;> omega), hb _ _ _ (by simp <;> omega), hb _ _ _ (by simp <;> omega)]
  exact hnew _ _ _ (by simp)
 have e2 : (bgw w (Kc.rm most)).heap[w.heap.size + 1 + 1]? = some (.cells #[.int .i64 (Kc.rm most), .slice none 0 0] 92 (0, 0)) := by
  unfold bgw
  rw [hb _ _ _ (by simp <;> omega), hb _ _ _ (by simp <;> omega)]
  exact hnew _ _ _ (by simp)
 have e3 : (bgw w (Kc.rm most)).heap[w.heap.size + 1 + 1 + 1]? = some (.cells #[.slice none 0 0] 72 (0, 0)) := by
  unfold bgw
  rw [hb _ _ _ (by simp <;> omega)]
  exact hnew _ _ _ (by simp)
 have e4 : (bgw w (Kc.rm most)).heap[w.heap.size + 1 + 1 + 1 + 1]? = some (.cells #[.slice none 0 0] 75 (0, 0)) := by
  unfold bgw
  exact hnew _ _ _ (by simp)
 refine ⟨rfl, by simp [bgw], ?_, (fun j => j = w.heap.size + 1), (fun j => j = w.heap.size + 1 + 1 + 1), (fun j => j = w.heap.size + 1 + 1 + 1 + 1), (fun j => j = w.heap.size + 1 + 1), ⟨?_, ?_, ?_, ?_, ?_, ?_, ?_⟩, ?_⟩
 ·
  unfold bgw
  exact (((((Below.refl _ _).alloc (Nat.le_refl _) _).alloc (by simp) _).alloc (by simp <;> omega) _).alloc (by simp <;> omega) _).alloc (by simp <;> omega) _
 ·
  refine ⟨.map none, [], id, id, fun _ => default, fun _ => false, ⟨e1, fun b hb => (by cases hb), List.nodup_nil, trivial, fun a ha => (by cases ha), fun a ha => (by cases ha), .inl ⟨rfl, rfl⟩⟩, rfl, fun j => ?_, by simp⟩
  simp [Kc.FP]
 ·
  exact ⟨_, e3, World.ownsRow_nil _ _ _ _, fun j => by simp [Value.ownBlock], fun _ => rfl⟩
 ·
  exact ⟨_, e4, World.ownsRow_nil _ _ _ _, fun j => by simp [Value.ownBlock], fun _ => rfl⟩
 ·
  exact ⟨⟨_, e2, World.ownsRow_nil _ _ _ _, fun j => by simp [Value.ownBlock]⟩, List.nodup_nil⟩
 ·
  intro j hj
  exact ⟨by omega, by omega, by omega⟩
 ·
  intro j hj
  exact ⟨by omega, by omega⟩
 ·
  intro j hj
  omega
 ·
  intro j hj
  omega
end Go.Proofs.YtdhinpmjbcohaaaGreat.Jc
namespace Go.Proofs.YtdhinpmjbcohaaaGreat.Jc
open Go Go.RowKit Go.Shelf
set_option linter.unusedSimpArgs false
set_option linter.unusedVariables false
open Rf (RS AftR)

theorem Rel.mono {l : List (Kc.Ky × Kc.Vt)} {M : List (Int × Int)} {C : List Kc.Ky} {D : List Kc.Vt} {N : Nat} (h : Rel l M C D N) : Rel l M C D (N + 1) :=
 ⟨h.m, h.hC, h.hD, h.iC, h.iD, by have := h.nl; omega, by have := h.nC; omega, by have := h.nD; omega⟩
def PT (W : World) (cb mb kb vb room N : Nat) (T : Nat → Prop) : Prop := ∃ l M C D F G1 G2 G3, PR W cb mb kb vb room l M C D F G1 G2 G3 ∧ Rel l M C D N ∧ ∀ j, T j ↔ F j ∨ G1 j ∨ G2 j ∨ G3 j
theorem PT.lt {W : World} {cb mb kb vb room N : Nat} {T : Nat → Prop} (h : PT W cb mb kb vb room N T) {j : Nat} (hj : T j) : j < W.heap.size := by
 obtain ⟨l, M, C, D, F, G1, G2, G3, h1, h2, h3⟩ := h
 exact h1.lt ((h3 j).1 hj)
theorem PT.keep {W W' : World} {cb mb kb vb room N : Nat} {T : Nat → Prop} (h : PT W cb mb kb vb room N T) (hk : ∀ j, T j → W'.heap[j]? = W.heap[j]?) : PT W' cb mb kb vb room N T := by
 obtain ⟨l, M, C, D, F, G1, G2, G3, h1, h2, h3⟩ := h
 exact ⟨l, M, C, D, F, G1, G2, G3, h1.heap (fun j hj => hk j ((h3 j).2 hj)), h2, h3⟩
theorem PT.mono {W : World} {cb mb kb vb room N : Nat} {T : Nat → Prop} (h : PT W cb mb kb vb room N T) : PT W cb mb kb vb room (N + 1) T := by
 obtain ⟨l, M, C, D, F, G1, G2, G3, h1, h2, h3⟩ := h
 exact ⟨l, M, C, D, F, G1, G2, G3, h1, h2.mono, h3⟩
theorem PT.does {W : World} {cb mb kb vb room N : Nat} {T : Nat → Prop} (h : PT W cb mb kb vb room N T) (hN : N ≤ 3000) (hroom : room ≤ 1048576) (kind : Int) {k : Kc.Ky} (hk : Kc.okK k) (v : Kc.Vt) (stop : Int) :
  Calls Tryz.prog 10 #[.agg #[pt cb, pt mb, pt kb, pt vb], .int .i64 kind, Kc.kc k, Kc.vc v, .int .i64 stop] W fun r w' => r = .returned (.bool true) ∧ ∃ T', PT w' cb mb kb vb room (N + 1) T' ∧ (∀ j, T' j → T j ∨ W.heap.size ≤ j) ∧ Ch T W w' := by
 obtain ⟨l, M, C, D, F, G1, G2, G3, h1, h2, h3⟩ := h
 refine (does_any kind k v stop h1 h2 hN hroom hk).mono ?_
 rintro r w' ⟨rfl, l', M', C', D', ⟨F', G1', G2', G3', q1, q2, q3⟩, q4⟩
 refine ⟨rfl, _, ⟨l', M', C', D', F', G1', G2', G3', q1, q4, fun j => Iff.rfl⟩, fun j hj => ?_, q3.mono (fun j _ q => (h3 j).2 q)⟩
 rcases q2 j hj with q | q
 ·
  exact .inl ((h3 j).2 q)
 ·
  exact .inr q
theorem PT.all {W : World} {cb mb kb vb room N : Nat} {T : Nat → Prop} (h : PT W cb mb kb vb room N T) (hN : N ≤ 3000) (stop : Int) :
  Calls Tryz.prog 14 #[.agg #[pt cb, pt mb, pt kb, pt vb], .int .i64 stop] W fun r w' => r = .returned (.bool true) ∧ Below W.heap.size W w' := by
 obtain ⟨l, M, C, D, F, G1, G2, G3, h1, h2, h3⟩ := h
 obtain ⟨mv, L, n, o, ky, vl, hca, e, hF, hr⟩ := h1.c
 have e2 : l.map (nu C D) = L.map (num ky vl C D) := by
  rw [e, List.map_map]
  rfl
 have hm := h1.m
 rw [h2.m, e2] at hm
 have hl := h2.nl
 have b1 := h2.nC
 have b2 := h2.nD
 exact all_any hca (by rw [e] at hl; simp at hl; omega) h1.k h1.v (fun b hb => h2.iC _ (by rw [e]; exact List.mem_map.2 ⟨b, hb, rfl⟩)) (fun b hb => h2.iD _ (by rw [e]; exact List.mem_map.2 ⟨b, hb, rfl⟩)) (by omega) (by omega) hm stop
theorem begin_pt (w : World) (most : Int) : Calls Tryz.prog 6 #[.int .i64 most] w fun r w' => r = .returned (.agg #[pt (w.heap.size + 1), pt (w.heap.size + 1 + 1), pt (w.heap.size + 1 + 1 + 1), pt (w.heap.size + 1 + 1 + 1 + 1)]) ∧ w'.heap.size = w.heap.size + 5 ∧ Below w.heap.size w w' ∧
  ∃ T, PT w' (w.heap.size + 1) (w.heap.size + 1 + 1) (w.heap.size + 1 + 1 + 1) (w.heap.size + 1 + 1 + 1 + 1) (Kc.rm most) 0 T ∧ ∀ j, T j → w.heap.size ≤ j := by
 refine (begin_any w most).mono ?_
 rintro r w' ⟨rfl, h1, h2, F, G1, G2, G3, h3, h4⟩
 exact ⟨rfl, h1, h2, _, ⟨[], [], [], [], F, G1, G2, G3, h3, ⟨rfl, .inl rfl, .inl rfl, by simp, by simp, by simp, by simp, by simp⟩, fun j => Iff.rfl⟩, h4⟩
theorem srm_le (most : Int) : Kc.rm most ≤ 1048576 := by
 have := Kc.rm_eq most
 omega
end Go.Proofs.YtdhinpmjbcohaaaGreat.Jc
namespace Go.Proofs.YtdhinpmjbcohaaaGreat.Qy
open Go Go.RowKit
set_option linter.unusedSimpArgs false
set_option linter.unusedVariables false
set_option maxRecDepth 100000
set_option maxHeartbeats 4000000

abbrev Kt := Int
def mk (k : Kt) : Value := .int .u8 k
def CD (w : World) (kb : Nat) (C : List Kt) (G : Nat → Prop) : Prop := ∃ v, w.heap[kb]? = some (.cells #[v] 79 (0, 0)) ∧ w.ownsRow 0 5 1 v C.length (C.map mk) ∧ (∀ j, G j ↔ j = kb ∨ v.ownBlock = some j) ∧ (C = [] → v = .slice none 0 0)
theorem info_el : (Tryz.prog.info? 5).map (fun i => (i.zero, i.size, i.bytes)) = some (some (mk 0), 1, 1) := by kernel_rfl
theorem CD.keep {w w' : World} {kb : Nat} {C : List Kt} {G : Nat → Prop} (h : CD w kb C G) (hk : ∀ j, G j → w'.heap[j]? = w.heap[j]?) : CD w' kb C G := by
 obtain ⟨v, h1, h2, h3, h4⟩ := h
 refine ⟨v, (hk kb ((h3 kb).2 (.inl rfl))).trans h1, ?_, h3, h4⟩
 refine ⟨h2.1, ?_⟩
 rcases h2.2 with h0 | ⟨g, cap, cur, rfl, e1, hg, e2⟩
 ·
  exact .inl h0
 ·
  exact .inr ⟨g, cap, cur, rfl, e1, (hk g ((h3 g).2 (.inr rfl))).trans hg, e2⟩
theorem CD.lt {w : World} {kb : Nat} {C : List Kt} {G : Nat → Prop} (h : CD w kb C G) {j : Nat} (hj : G j) : j < w.heap.size := by
 obtain ⟨v, h1, h2, h3, h4⟩ := h
 rcases (h3 j).1 hj with rfl | q
 ·
  exact (Array.getElem?_eq_some_iff.1 h1).1
 ·
  exact (h2.lt j q).2
theorem own_blk {w : World} {B e s n : Nat} {v : Value} {xs : List Value} (h : w.ownsRow B e s v n xs) {k : Nat} (hk : v.ownBlock = some k) : ∃ c, w.heap[k]? = some (.cells c e (0, 0)) := by
 rcases h.2 with ⟨r, _⟩ | ⟨g, cap, cur, r, _, hg, _⟩
 ·
  rw [r] at hk; cases hk
 ·
  rw [r] at hk
  have e' : g = k := by simpa [Value.ownBlock] using hk
  subst e'
  exact ⟨_, hg⟩
theorem app_one {w : World} {v : Value} {C : List Kt} (ho : w.ownsRow 0 5 1 v C.length (C.map mk)) (k : Kt) (hl : C.length ≤ 1000000) : ∃ g' cap' w', (Builtin.append_ #[77, 77] 77 #[v, .slice (some ⟨w.heap.size, 0, none⟩) 1 1]).run Tryz.prog (w.alloc (.cells #[mk k] 5)) = .ok (.slice (some ⟨g', 0, none⟩) (C.length + 1) cap') w' ∧ w'.ownsRow 0 5 1 (.slice (some ⟨g', 0, none⟩) (C.length + 1) cap') (C ++ [k]).length ((C ++ [k]).map mk) ∧ Ch (fun j => v.ownBlock = some j) w w' ∧ (v.ownBlock = some g' ∨ w.heap.size ≤ g') := by
 obtain ⟨i0, hi0, hz⟩ := Option.map_eq_some_iff.1 info_el
 simp only [Prod.mk.injEq] at hz
 obtain ⟨v', w', hr, h2, h3, h4, h5⟩ := run_append_own_at (P := Tryz.prog) (w.alloc (.cells #[mk k] 5)) 0 77 77 5 i0 (mk 0) 1 1 Tryz.underlying77 hi0 hz.1 hz.2.1 hz.2.2 (by simp [mk, Value.cells]) (by decide) v C.length (C.map mk) (ho.alloc _) ⟨w.heap.size, 0, none⟩ 1 1 [mk k] rfl (cell_one_new _ _ _) (by simp [Value.oneCell', mk]) (by unfold maxLen; omega) (by omega) (by omega)
 rcases h2.2 with ⟨_, q⟩ | ⟨g', cap', cur, rfl, _⟩
 ·
  omega
 ·
  refine ⟨g', cap', w', hr, by simpa using h2, ?_, ?_⟩
  ·
   exact (ch_alloc _ _ _).then ((ch_grown h3).mono (fun j _ q => q))
  ·
   rcases h5 with q | q
   ·
    exact .inl (by rw [← q]; rfl)
   ·
    simp [Value.ownBlock] at q
    exact .inr (by omega)
theorem set_row {w : World} {kb t B e s n : Nat} {v x : Value} {xs : List Value} {cs : Array Value} (h : w.ownsRow B e s v n xs) (hb : w.heap[kb]? = some (.cells cs t (0, 0))) (ht : t ≠ e) (i : Nat) : (w.setCell ⟨kb, i, none⟩ x).ownsRow B e s v n xs := by
 refine ⟨h.1, ?_⟩
 rcases h.2 with h0 | ⟨g, cap, cur, rfl, e1, hg, e2⟩
 ·
  exact .inl h0
 ·
  refine .inr ⟨g, cap, cur, rfl, e1, (heap_set_ne _ (fun q => ?_)).trans hg, e2⟩
  rw [q, hb] at hg
  simp at hg
  exact ht hg.2
theorem CD.more {w w' : World} {kb g' cap' : Nat} {v : Value} {C : List Kt} {k : Kt} (hb : w.heap[kb]? = some (.cells #[v] 79 (0, 0))) (ho : w.ownsRow 0 5 1 v C.length (C.map mk)) (h2 : w'.ownsRow 0 5 1 (.slice (some ⟨g', 0, none⟩) (C.length + 1) cap') (C ++ [k]).length ((C ++ [k]).map mk)) (hc : Ch (fun j => v.ownBlock = some j) w w') :
  w'.heap[kb]? = some (.cells #[v] 79 (0, 0)) ∧ CD (w'.setCell ⟨kb, 0, none⟩ (.slice (some ⟨g', 0, none⟩) (C.length + 1) cap')) kb (C ++ [k]) (fun j => j = kb ∨ j = g') := by
 have hb' : w'.heap[kb]? = some (.cells #[v] 79 (0, 0)) := by
  rw [hc.block kb (Array.getElem?_eq_some_iff.1 hb).1 (fun q => by
   obtain ⟨c, hcc⟩ := own_blk ho q
   rw [hb] at hcc
   simp at hcc)]
  exact hb
 refine ⟨hb', _, ?_, set_row h2 hb' (by decide) 0, fun j => ?_, fun q => absurd q (by simp)⟩
 ·
  rw [heap_set hb']
  simp
 ·
  simp [Value.ownBlock, eq_comm]
theorem of_walk {w : World} {kb g cap : Nat} {D : List Kt} {v0 : Value} {k : Kt} (w1 : World) (hb : w1.heap[kb]? = some (.cells #[.slice (some ⟨g, 0, none⟩) D.length cap] 79 (0, 0))) (ho : w1.ownsRow 0 5 1 (.slice (some ⟨g, 0, none⟩) D.length cap) D.length (D.map mk)) (hl : D.length ≤ 1000000) (hpos : 0 < D.length)
  (hs : (w1 = w ∧ w.cell? ⟨kb, 0, none⟩ = some (.slice (some ⟨g, 0, none⟩) D.length cap)) ∨ ∃ wa, w.cell? ⟨kb, 0, none⟩ = some (.slice none 0 0) ∧ (Builtin.append_ #[77, 77] 77 #[.slice none 0 0, .slice (some ⟨w.heap.size, 0, none⟩) 1 1]).run Tryz.prog (w.alloc (.cells #[mk 0] 5)) = .ok (.slice (some ⟨g, 0, none⟩) D.length cap) wa ∧ wa.cell? ⟨kb, 0, none⟩ = some v0 ∧ wa.frozen? ⟨kb, 0, none⟩ = false ∧ w1 = wa.setCell ⟨kb, 0, none⟩ (.slice (some ⟨g, 0, none⟩) D.length cap) ∧ (w.alloc (.cells #[mk 0] 5)).cell? ⟨kb, 0, none⟩ = some (.slice none 0 0))
  (R : Ending → World → Prop) (hR1 : ∀ j : Nat, D[j]? = some k → (∀ q, q < j → D[q]? ≠ some k) → R (.returned (.int .i64 j)) w1)
  (hR2 : k ∉ D → ∀ g' cap' w2, w2.ownsRow 0 5 1 (.slice (some ⟨g', 0, none⟩) (D.length + 1) cap') (D ++ [k]).length ((D ++ [k]).map mk) → Ch (fun j => j = g) w1 w2 → (g = g' ∨ w1.heap.size ≤ g') → R (.returned (.int .i64 D.length)) (w2.setCell ⟨kb, 0, none⟩ (.slice (some ⟨g', 0, none⟩) (D.length + 1) cap'))) :
  Calls Tryz.prog 49 #[pt kb, mk k] w R := by
 have HR1 : Hid (∀ j : Nat, D[j]? = some k → (∀ q, q < j → D[q]? ≠ some k) → R (.returned (.int .i64 j)) w1) := hR1
 have HR2 : Hid (k ∉ D → ∀ g' cap' w2, w2.ownsRow 0 5 1 (.slice (some ⟨g', 0, none⟩) (D.length + 1) cap') (D ++ [k]).length ((D ++ [k]).map mk) → Ch (fun j => j = g) w1 w2 → (g = g' ∨ w1.heap.size ≤ g') → R (.returned (.int .i64 D.length)) (w2.setCell ⟨kb, 0, none⟩ (.slice (some ⟨g', 0, none⟩) (D.length + 1) cap'))) := hR2
 clear hR1 hR2
 have HB : Hid (w1.heap[kb]? = some (.cells #[.slice (some ⟨g, 0, none⟩) D.length cap] 79 (0, 0))) := hb
 have HOW : Hid (w1.ownsRow 0 5 1 (.slice (some ⟨g, 0, none⟩) D.length cap) D.length (D.map mk)) := ho
 have HL : Hid (D.length ≤ 1000000) := hl
 have hp0 : ((D.length : Int) == 0) = false := beq_eq_false_iff_ne.2 (by omega)
 clear hb ho hl hpos
 unfold mk at hs ⊢
 unfold pt
 rcases hs with ⟨rfl, hs⟩ | ⟨wa, hs, hra, ca, fa, hw1, cw⟩
 ·
  go_enter Tryz.func49, Tryz.ntmps49
  go_wp2_with fail
  go_loopg [6] D.length (fun gk s6 wx => ∃ j : Nat, j + gk = D.length ∧ s6 = .int .i64 j ∧ Hid (∀ q, q < j → D[q]? ≠ some k) ∧ Hid (wx = w1))
  case atStart => exact ⟨0, by omega, rfl, fun q hq => absurd hq (Nat.not_lt_zero _), rfl⟩
  case round =>
   obtain ⟨j, hj, rfl, HQ, HX⟩ := hrel
   obtain rfl : wr = w1 := HX.out
   clear HX
   have e0 : wr.cell? ⟨kb, 0, none⟩ = some (.slice (some ⟨g, 0, none⟩) D.length cap) := box_cells HB.out 0 _ rfl
   cases gk with
   | zero =>
    obtain rfl : j = D.length := by omega
    have hz : ¬ (D.length : Int) < (D.length : Int) := by omega
    have hnk : k ∉ D := fun q => by
     obtain ⟨a, ha, he⟩ := List.mem_iff_getElem.1 q
     exact HQ.out a ha (by rw [List.getElem?_eq_getElem ha, he])
    have HNK : Hid (k ∉ D) := hnk
    obtain ⟨g2, cap2, w2, hrun, ho2, hc2, hg2⟩ := app_one HOW.out k HL.out
    have hm := CD.more HB.out HOW.out ho2 hc2
    have e2 : w2.cell? ⟨kb, 0, none⟩ = some (.slice (some ⟨g, 0, none⟩) D.length cap) := box_cells hm.1 0 _ rfl
    have f2 : w2.frozen? ⟨kb, 0, none⟩ = false := box_frozen hm.1 0
    have HRN : Hid ((Builtin.append_ #[77, 77] 77 #[.slice (some ⟨g, 0, none⟩) D.length cap, .slice (some ⟨wr.heap.size, 0, none⟩) 1 1]).run Tryz.prog (wr.alloc (.cells #[.int .u8 k] 5)) = .ok (.slice (some ⟨g2, 0, none⟩) (D.length + 1) cap2) w2) := hrun
    have Z2 : Hid (w2.ownsRow 0 5 1 (.slice (some ⟨g2, 0, none⟩) (D.length + 1) cap2) (D ++ [k]).length ((D ++ [k]).map mk) ∧ Ch (fun j => j = g) wr w2 ∧ (g = g2 ∨ wr.heap.size ≤ g2)) := ⟨ho2, hc2.mono (fun j _ q => by simpa [Value.ownBlock] using q.symm), by simpa [Value.ownBlock] using hg2⟩
    have ha : (wr.alloc (.cells #[.int .u8 k] 5)).cell? ⟨kb, 0, none⟩ = some (.slice (some ⟨g, 0, none⟩) D.length cap) := by rw [World.cell?_alloc_lt]; exact e0; exact (Array.getElem?_eq_some_iff.1 HB.out).1
    have hws : IntKind.i64.wrap (((D.length + 1 : Nat) : Int) - 1) = (D.length : Int) := by rw [IntKind.wrap_i64]; have := HL.out; omega
    have hws' : IntKind.i64.wrap ((D.length : Int) + 1 - 1) = (D.length : Int) := by rw [IntKind.wrap_i64]; have := HL.out; omega
    have hws2 : (D.length : Int) + 1 - 1 = (D.length : Int) := by omega
    have hws3 : wrap64 (D.length : Int) = (D.length : Int) := by unfold wrap64; have := HL.out; omega
    clear hrun ho2 hc2 hg2 hm hnk
    go_wp2_with (at_builtin; refine Lib.wpList_append_run _ rfl (.tmp 46) (.tmp 48) 77 77 rfl _ _ rfl rfl _ w2 HRN.out ?_)
    (try go_ret)
    first | exact HR2.out HNK.out g2 cap2 w2 Z2.out.1 Z2.out.2.1 Z2.out.2.2 | (simp only [hws3]; exact HR2.out HNK.out g2 cap2 w2 Z2.out.1 Z2.out.2.1 Z2.out.2.2)
   | succ gk =>
    have hz : (j : Int) < (D.length : Int) := by omega
    have hz0 : (0 : Int) ≤ (j : Int) := by omega
    have hjl : j < D.length := by omega
    have hwj : IntKind.i64.wrap ((j : Int) + 1) = (j : Int) + 1 := by rw [IntKind.wrap_i64]; have := HL.out; omega
    obtain ⟨x, hx⟩ : ∃ x, D[j]? = some x := ⟨_, List.getElem?_eq_getElem hjl⟩
    have hadd : (⟨g, 0, none⟩ : Addr).add j = ⟨g, j, none⟩ := by unfold Addr.add; split <;> simp_all
    have cx := HOW.out.cells (g := g) rfl j (mk x) (by simp [hx])
    rw [hadd] at cx
    have HXX : Hid (D[j]? = some x) := hx
    unfold mk at cx
    clear hx hadd
    by_cases hxk : x = k
    ·
     subst hxk
     go_wp2_with fail
     (try go_ret)
     exact HR1.out j HXX.out HQ.out
    ·
     have n1 : (x == k) = false := by simpa using hxk
     have HNE : Hid (¬ x = k) := hxk
     clear hxk
     go_wp2_with fail
     go_roundg gk
     case measure => omega
     case rel => exact ⟨j + 1, by omega, by first | rfl | simp, fun q hq => by
      by_cases e : q = j
      ·
       rw [e, HXX.out]
       exact fun r => HNE.out (Option.some.inj r)
      ·
       exact HQ.out q (by omega), rfl⟩
 ·
  have HRA : Hid ((Builtin.append_ #[77, 77] 77 #[.slice none 0 0, .slice (some ⟨w.heap.size, 0, none⟩) 1 1]).run Tryz.prog (w.alloc (.cells #[.int .u8 0] 5)) = .ok (.slice (some ⟨g, 0, none⟩) D.length cap) wa) := hra
  have HW1 : Hid (w1 = wa.setCell ⟨kb, 0, none⟩ (.slice (some ⟨g, 0, none⟩) D.length cap)) := hw1
  clear hra hw1
  go_enter Tryz.func49, Tryz.ntmps49
  go_wp2_with (at_builtin; refine Lib.wpList_append_run _ rfl (.tmp 17) (.tmp 19) 77 77 rfl _ _ rfl rfl _ wa HRA.out ?_)
  rw [← HW1.out]
  clear HW1
  go_loopg [6] D.length (fun gk s6 wx => ∃ j : Nat, j + gk = D.length ∧ s6 = .int .i64 j ∧ Hid (∀ q, q < j → D[q]? ≠ some k) ∧ Hid (wx = w1))
  case atStart => exact ⟨0, by omega, rfl, fun q hq => absurd hq (Nat.not_lt_zero _), rfl⟩
  case round =>
   obtain ⟨j, hj, rfl, HQ, HX⟩ := hrel
   obtain rfl : wr = w1 := HX.out
   clear HX
   have e0 : wr.cell? ⟨kb, 0, none⟩ = some (.slice (some ⟨g, 0, none⟩) D.length cap) := box_cells HB.out 0 _ rfl
   cases gk with
   | zero =>
    obtain rfl : j = D.length := by omega
    have hz : ¬ (D.length : Int) < (D.length : Int) := by omega
    have hnk : k ∉ D := fun q => by
     obtain ⟨a, ha, he⟩ := List.mem_iff_getElem.1 q
     exact HQ.out a ha (by rw [List.getElem?_eq_getElem ha, he])
    have HNK : Hid (k ∉ D) := hnk
    obtain ⟨g2, cap2, w2, hrun, ho2, hc2, hg2⟩ := app_one HOW.out k HL.out
    have hm := CD.more HB.out HOW.out ho2 hc2
    have e2 : w2.cell? ⟨kb, 0, none⟩ = some (.slice (some ⟨g, 0, none⟩) D.length cap) := box_cells hm.1 0 _ rfl
    have f2 : w2.frozen? ⟨kb, 0, none⟩ = false := box_frozen hm.1 0
    have HRN : Hid ((Builtin.append_ #[77, 77] 77 #[.slice (some ⟨g, 0, none⟩) D.length cap, .slice (some ⟨wr.heap.size, 0, none⟩) 1 1]).run Tryz.prog (wr.alloc (.cells #[.int .u8 k] 5)) = .ok (.slice (some ⟨g2, 0, none⟩) (D.length + 1) cap2) w2) := hrun
    have Z2 : Hid (w2.ownsRow 0 5 1 (.slice (some ⟨g2, 0, none⟩) (D.length + 1) cap2) (D ++ [k]).length ((D ++ [k]).map mk) ∧ Ch (fun j => j = g) wr w2 ∧ (g = g2 ∨ wr.heap.size ≤ g2)) := ⟨ho2, hc2.mono (fun j _ q => by simpa [Value.ownBlock] using q.symm), by simpa [Value.ownBlock] using hg2⟩
    have ha : (wr.alloc (.cells #[.int .u8 k] 5)).cell? ⟨kb, 0, none⟩ = some (.slice (some ⟨g, 0, none⟩) D.length cap) := by rw [World.cell?_alloc_lt]; exact e0; exact (Array.getElem?_eq_some_iff.1 HB.out).1
    have hws : IntKind.i64.wrap (((D.length + 1 : Nat) : Int) - 1) = (D.length : Int) := by rw [IntKind.wrap_i64]; have := HL.out; omega
    have hws' : IntKind.i64.wrap ((D.length : Int) + 1 - 1) = (D.length : Int) := by rw [IntKind.wrap_i64]; have := HL.out; omega
    have hws2 : (D.length : Int) + 1 - 1 = (D.length : Int) := by omega
    have hws3 : wrap64 (D.length : Int) = (D.length : Int) := by unfold wrap64; have := HL.out; omega
    clear hrun ho2 hc2 hg2 hm hnk
    go_wp2_with (at_builtin; refine Lib.wpList_append_run _ rfl (.tmp 46) (.tmp 48) 77 77 rfl _ _ rfl rfl _ w2 HRN.out ?_)
    (try go_ret)
    first | exact HR2.out HNK.out g2 cap2 w2 Z2.out.1 Z2.out.2.1 Z2.out.2.2 | (simp only [hws3]; exact HR2.out HNK.out g2 cap2 w2 Z2.out.1 Z2.out.2.1 Z2.out.2.2)
   | succ gk =>
    have hz : (j : Int) < (D.length : Int) := by omega
    have hz0 : (0 : Int) ≤ (j : Int) := by omega
    have hjl : j < D.length := by omega
    have hwj : IntKind.i64.wrap ((j : Int) + 1) = (j : Int) + 1 := by rw [IntKind.wrap_i64]; have := HL.out; omega
    obtain ⟨x, hx⟩ : ∃ x, D[j]? = some x := ⟨_, List.getElem?_eq_getElem hjl⟩
    have hadd : (⟨g, 0, none⟩ : Addr).add j = ⟨g, j, none⟩ := by unfold Addr.add; split <;> simp_all
    have cx := HOW.out.cells (g := g) rfl j (mk x) (by simp [hx])
    rw [hadd] at cx
    have HXX : Hid (D[j]? = some x) := hx
    unfold mk at cx
    clear hx hadd
    by_cases hxk : x = k
    ·
     subst hxk
     go_wp2_with fail
     (try go_ret)
     exact HR1.out j HXX.out HQ.out
    ·
     have n1 : (x == k) = false := by simpa using hxk
     have HNE : Hid (¬ x = k) := hxk
     clear hxk
     go_wp2_with fail
     go_roundg gk
     case measure => omega
     case rel => exact ⟨j + 1, by omega, by first | rfl | simp, fun q hq => by
      by_cases e : q = j
      ·
       rw [e, HXX.out]
       exact fun r => HNE.out (Option.some.inj r)
      ·
       exact HQ.out q (by omega), rfl⟩
theorem of_any {w : World} {kb : Nat} {C : List Kt} {G : Nat → Prop} (h : CD w kb C G) (k : Kt) (hl : C.length ≤ 900000) : Calls Tryz.prog 49 #[pt kb, mk k] w fun r w' => r = .returned (.int .i64 (ix k (ext 0 C k))) ∧ (∃ G', CD w' kb (ext 0 C k) G' ∧ ∀ j, G' j → G j ∨ w.heap.size ≤ j) ∧ Ch G w w' := by
 obtain ⟨v, hb, ho, hG, hnil⟩ := h
 have hkb := (Array.getElem?_eq_some_iff.1 hb).1
 cases C with
 | nil =>
  obtain rfl := hnil rfl
  ·
   obtain ⟨g, cap, wa, hrun, ho2, hc2, hg2⟩ := app_one (C := []) ho 0 (by simp)
   obtain ⟨hba, v1, hb1, ho1, hG1, hnl1⟩ := CD.more hb ho ho2 hc2
   have hgn : w.heap.size ≤ g := hg2.resolve_left (by simp [Value.ownBlock])
   have hc1 : Ch G w (wa.setCell ⟨kb, 0, none⟩ (.slice (some ⟨g, 0, none⟩) 1 cap)) := (hc2.mono (fun j _ q => (hG j).2 (.inr q))).then ((ch_set kb 0 _).mono (fun j _ q => (hG j).2 (.inl q)))
   have hb1' : (wa.setCell ⟨kb, 0, none⟩ (.slice (some ⟨g, 0, none⟩) 1 cap)).heap[kb]? = some (.cells #[.slice (some ⟨g, 0, none⟩) 1 cap] 79 (0, 0)) := by
    rw [heap_set hba]
    simp
   obtain rfl : v1 = .slice (some ⟨g, 0, none⟩) 1 cap := by
    have := hb1.symm.trans hb1'
    simpa using this
   refine of_walk (D := [0]) (v0 := .slice none 0 0) (w := w) _ hb1' ho1 (by simp) (by simp) (.inr ⟨wa, box_cells hb 0 _ rfl, hrun, box_cells hba 0 _ rfl, box_frozen hba 0, rfl, ?_⟩) _ (fun j h1 h2 => ?_) (fun hn g' cap' w2 h1 h2 h3 => ?_)
   ·
    rw [World.cell?_alloc_lt]
    ·
     exact box_cells hb 0 _ rfl
    ·
     exact hkb
   ·
    have hk : k ∈ [0] := List.mem_of_getElem? h1
    have he : ext 0 [] k = [0] := ext_in rfl hk
    rw [he, ix_first h1 h2]
    exact ⟨rfl, ⟨_, ⟨_, hb1', ho1, hG1, fun q => absurd q (by simp)⟩, fun j q => by
     rcases q with q | q
     ·
      exact .inl ((hG j).2 (.inl q))
     ·
      exact .inr (q ▸ hgn)⟩, hc1⟩
   ·
    have he : ext 0 [] k = [0] ++ [k] := ext_out rfl hn
    rw [he, ix_new hn]
    have hm := CD.more (w' := w2) hb1' ho1 h1 (h2.mono (fun j _ q => by rw [q]; rfl))
    have hs1 := hc1.size
    refine ⟨rfl, ⟨_, hm.2, fun j q => ?_⟩, ?_⟩
    ·
     rcases q with q | q
     ·
      exact .inl ((hG j).2 (.inl q))
     ·
      rcases h3 with r | r
      ·
       exact .inr (by omega)
      ·
       exact .inr (by omega)
    ·
     refine (hc1.trans h2 (fun j hj q => ?_)).then ((ch_set kb 0 _).mono (fun j _ q => (hG j).2 (.inl q)))
     omega
 | cons x t =>
  rcases ho.2 with ⟨_, q⟩ | ⟨g, cap, cur, rfl, _⟩
  ·
   simp at q
  ·
   refine of_walk (D := x :: t) (v0 := .slice none 0 0) (w := w) w hb ho (by omega) (by simp) (.inl ⟨rfl, box_cells hb 0 _ rfl⟩) _ (fun j h1 h2 => ?_) (fun hn g' cap' w2 h1 h2 h3 => ?_)
   ·
    have hk : k ∈ x :: t := List.mem_of_getElem? h1
    have he : ext 0 (x :: t) k = x :: t := ext_in rfl hk
    rw [he, ix_first h1 h2]
    exact ⟨rfl, ⟨G, ⟨_, hb, ho, hG, hnil⟩, fun j q => .inl q⟩, Ch.refl _ _⟩
   ·
    have he : ext 0 (x :: t) k = (x :: t) ++ [k] := ext_out rfl hn
    rw [he, ix_new hn]
    have hgG : G g := (hG g).2 (.inr rfl)
    have hm := CD.more (w' := w2) hb ho h1 (h2.mono (fun j _ q => by rw [q]; rfl))
    refine ⟨rfl, ⟨_, hm.2, fun j q => ?_⟩, ?_⟩
    ·
     rcases q with q | q
     ·
      exact .inl ((hG j).2 (.inl q))
     ·
      rcases h3 with r | r
      ·
       exact .inl (by rw [q, ← r]; exact hgG)
      ·
       exact .inr (by omega)
    ·
     exact (h2.mono (fun j _ q => q ▸ hgG)).then ((ch_set kb 0 _).mono (fun j _ q => (hG j).2 (.inl q)))
theorem of_known {w : World} {kb : Nat} {C : List Kt} {G : Nat → Prop} (h : CD w kb C G) {k : Kt} (hk : k ∈ C) (hl : C.length ≤ 900000) : Calls Tryz.prog 49 #[pt kb, mk k] w fun r w' => r = .returned (.int .i64 (ix k C)) ∧ w' = w := by
 obtain ⟨v, hb, ho, hG, hnil⟩ := h
 rcases ho.2 with ⟨_, q⟩ | ⟨g, cap, cur, rfl, _⟩
 ·
  rw [List.length_eq_zero_iff.1 q] at hk
  cases hk
 ·
  refine of_walk (D := C) (v0 := .slice none 0 0) (w := w) w hb ho (by omega) (List.length_pos_of_mem hk) (.inl ⟨rfl, box_cells hb 0 _ rfl⟩) _ (fun j h1 h2 => ?_) (fun hn => absurd hk hn)
  rw [ix_first h1 h2]
  exact ⟨rfl, rfl⟩
end Go.Proofs.YtdhinpmjbcohaaaGreat.Qy
