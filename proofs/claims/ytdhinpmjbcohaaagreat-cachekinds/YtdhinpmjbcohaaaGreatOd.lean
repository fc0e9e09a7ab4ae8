import Derived.Test.YtdhinpmjbcohaaaGreatJdhf
import Derived.Test.YtdhinpmjbcohaaaGreatJdhg
import Derived.Laws.Rows
import Derived.Test.YtdhinpmjbcohaaaGreatPa
import Derived.Test.YtdhinpmjbcohaaaGreatRf
import Derived.Maps.AppendAt
namespace Go.Proofs.YtdhinpmjbcohaaaGreat.Jd
open Go Go.RowKit Go.Shelf
set_option linter.unusedSimpArgs false
set_option linter.unusedVariables false
set_option maxRecDepth 100000
set_option maxHeartbeats 4000000
open Rf (e2 e2_len e2_app e2_one e2_at ER own_er own_shape app_many addr0 RS AftR)

structure Rel (l : List (Kd.Ky × Kd.Vt)) (M : List (Int × Int)) (C : List Kd.Ky) (D : List Kd.Vt) (N : Nat) : Prop where
 m : M = l.map (nu C D)
 hC : C = [] ∨ Cod zk C
 hD : D = [] ∨ Cod 0 D
 iC : ∀ p ∈ l, p.1 ∈ C
 iD : ∀ p ∈ l, p.2 ∈ D
 nl : l.length ≤ N
 nC : C.length ≤ 4 * N
 nD : D.length ≤ 4 * N
theorem Rel.asked {l : List (Kd.Ky × Kd.Vt)} {M : List (Int × Int)} {C : List Kd.Ky} {D : List Kd.Vt} {N : Nat} (h : Rel l M C D N) (k : Kd.Ky) (v : Kd.Vt) : Rel l M (ext zk C k) (ext 0 D v) (N + 1) := by
 obtain ⟨a, b, c⟩ := nu_stay h.hC h.hD h.iC h.iD k v
 have l1 := ext_len zk C k
 have l2 := ext_len (0 : Int) D v
 exact ⟨h.m.trans a, .inr (cod_ext _ _ _ h.hC), .inr (cod_ext _ _ _ h.hD), b, c, by have := h.nl; omega, by have := h.nC; omega, by have := h.nD; omega⟩
theorem Rel.less {l l' : List (Kd.Ky × Kd.Vt)} {M : List (Int × Int)} {C : List Kd.Ky} {D : List Kd.Vt} {N : Nat} (h : Rel l M C D N) (hs : ∀ p ∈ l', p ∈ l) (hl : l'.length ≤ l.length) : Rel l' (l'.map (nu C D)) C D N :=
 ⟨rfl, h.hC, h.hD, fun p hp => h.iC p (hs p hp), fun p hp => h.iD p (hs p hp), Nat.le_trans hl h.nl, h.nC, h.nD⟩
theorem lout_mem' {l : List (Kd.Ky × Kd.Vt)} {k : Kd.Ky} {p : Kd.Ky × Kd.Vt} (h : p ∈ lout l k) : p ∈ l := (lout_mem.1 h).1
theorem lout_len' (l : List (Kd.Ky × Kd.Vt)) (k : Kd.Ky) : (lout l k).length ≤ l.length := List.length_filter_le _ _
theorem lout_lt {l : List (Kd.Ky × Kd.Vt)} {k : Kd.Ky} {v : Kd.Vt} (h : lget l k = some v) : (lout l k).length < l.length := by
 have hm := lget_some h
 unfold lout
 refine List.length_filter_lt_length_iff_exists.2 ⟨(k, v), hm, ?_⟩
 simp
theorem does_any {w : World} {cb mb kb vb room N : Nat} {l : List (Kd.Ky × Kd.Vt)} {M : List (Int × Int)} {C : List Kd.Ky} {D : List Kd.Vt} {F G1 G2 G3 : Nat → Prop} (kind : Int) (k : Kd.Ky) (v : Kd.Vt) (stop : Int) (h : PR w cb mb kb vb room l M C D F G1 G2 G3) (hr : Rel l M C D N) (hN : N ≤ 3000) (hroom : room ≤ 1048576) (hk : Kd.okK k) :
  Calls Tryz.prog 11 #[.agg #[pt cb, pt mb, pt kb, pt vb], .int .i64 kind, Kd.kc k, Kd.vc v, .int .i64 stop] w fun r w' => r = .returned (.bool true) ∧ ∃ l' M' C' D', PG (fun j => F j ∨ G1 j ∨ G2 j ∨ G3 j) w cb mb kb vb room l' M' C' D' w' ∧ Rel l' M' C' D' (N + 1) := by
 obtain ⟨T, hT⟩ : ∃ T : Nat → Prop, T = fun j => F j ∨ G1 j ∨ G2 j ∨ G3 j := ⟨_, rfl⟩
 rw [← hT]
 have hTl : ∀ j, T j → j < w.heap.size := fun j hj => h.lt (by rw [hT] at hj; exact hj)
 obtain ⟨w1, hw1⟩ : ∃ w1, w1 = w.alloc (.cells #[pt cb, pt mb, pt kb, pt vb] 47) := ⟨_, rfl⟩
 have s1 : w1.heap.size = w.heap.size + 1 := by rw [hw1]; simp
 have n1 : w1.heap[w.heap.size]? = some (.cells #[pt cb, pt mb, pt kb, pt vb] 47 (0, 0)) := by rw [hw1]; exact (MapKept.heap_alloc _ _).1
 have o1 : ∀ j, j < w.heap.size → w1.heap[j]? = w.heap[j]? := fun j hj => by
  rw [hw1]
  exact (World.grownBy_alloc _ _ none).block j hj (by simp)
 have start : PG T w1 cb mb kb vb room l M C D w1.drew := ⟨F, G1, G2, G3, h.heap (fun j hj => o1 j (h.lt hj)), fun j hj => .inl (by rw [hT]; exact hj), ch_drew _ _⟩
 have bq : ∀ {l M C D W}, PG T w1 cb mb kb vb room l M C D W → BQ W cb mb kb vb w.heap.size := fun {l M C D W} hp => by
  obtain ⟨_, _, _, _, _, _, q⟩ := hp
  have n2 := (q.block w.heap.size (by omega) (fun x => by have := hTl _ x; omega)).trans n1
  exact ⟨box_cells n2 0 _ rfl, box_cells n2 1 _ rfl, box_cells n2 2 _ rfl, box_cells n2 3 _ rfl⟩
 have back : ∀ {l M C D W}, PG T w1 cb mb kb vb room l M C D W → PG T w cb mb kb vb room l M C D W := fun {l M C D W} hp => by
  obtain ⟨F', G1', G2', G3', q1, q2, q3⟩ := hp
  refine ⟨F', G1', G2', G3', q1, fun j hj => ?_, (by rw [hw1]; exact ch_alloc T _ _ : Ch T w w1).then q3⟩
  rcases q2 j hj with q | q
  ·
   exact .inl q
  ·
   exact .inr (by omega)
 obtain ⟨C', hC'⟩ : ∃ C', C' = ext zk C k := ⟨_, rfl⟩
 obtain ⟨D', hD'⟩ : ∃ D', D' = ext 0 D v := ⟨_, rfl⟩
 have hr' : Rel l M C' D' (N + 1) := by
  rw [hC', hD']
  exact hr.asked k v
 have hkC : k ∈ C' := by rw [hC']; exact ext_mem _ _ _
 have hvD : v ∈ D' := by rw [hD']; exact ext_mem _ _ _
 have cC : Cod zk C' := by rw [hC']; exact cod_ext _ _ _ hr.hC
 have cD : Cod 0 D' := by rw [hD']; exact cod_ext _ _ _ hr.hD
 have b1 := hr.nC
 have b2 := hr.nD
 have b3 := hr'.nC
 have b4 := hr'.nD
 have b5 := hr'.nl
 have b6 : M.length = l.length := by rw [hr.m]; simp
 have hnl := hr.nl
 have h1 : Calls Tryz.prog 42 #[.pointer (some ⟨kb, 0, none⟩), .bool k] (w.alloc (.cells #[pt cb, pt mb, pt kb, pt vb] 47)).drew fun r w' => r = .returned (.int .i64 (ix k C')) ∧ BQ w' cb mb kb vb w.heap.size ∧ PG T w1 cb mb kb vb room l M C' D w' := by
  rw [← hw1]
  refine (start.ofk k (by omega)).mono ?_
  rintro r w' ⟨rfl, q⟩
  rw [← hC'] at q ⊢
  exact ⟨rfl, bq q, q⟩
 have h2 : ∀ W, PG T w1 cb mb kb vb room l M C' D W → Calls Tryz.prog 49 #[.pointer (some ⟨vb, 0, none⟩), .int .u8 v] W fun r w' => r = .returned (.int .i64 (ix v D')) ∧ BQ w' cb mb kb vb w.heap.size ∧ PG T w1 cb mb kb vb room l M C' D' w' := fun W hW => by
  refine (hW.ofv v (by omega)).mono ?_
  rintro r w' ⟨rfl, q⟩
  rw [← hD'] at q ⊢
  exact ⟨rfl, bq q, q⟩
 have eget : lget M (ix k C' : Int) = (lget l k).map (fun v => (ix v D' : Int)) := by
  rw [hr'.m]
  exact lget_nu hr'.iC hkC
 have eout : lout M (ix k C' : Int) = (lout l k).map (nu C' D') := by
  rw [hr'.m]
  exact lout_nu hr'.iC hkC
 by_cases k1 : kind = 1
 ·
  refine does_get k1 _ h1 h2 (a := (lget l k).getD 0) (b := (lget M (ix k C' : Int)).getD 0) (ok := (lget l k).isSome) (K3 := PG T w1 cb mb kb vb room (Kd.lused l k) M C' D') (K4 := PG T w1 cb mb kb vb room (Kd.lused l k) ((Kd.lused l k).map (nu C' D')) C' D') (fun W hW => ?_) (fun W hW => ?_) (fun W hW => ?_)
  ·
   refine (hW.stepc (fun F' hF => Kd.get_any hF hk)).mono ?_
   rintro r w' ⟨rfl, q⟩
   exact ⟨rfl, bq q, q⟩
  ·
   refine (hW.stepm (fun G hG => Rf.rget_any hG _ (by omega))).mono ?_
   rintro r w' ⟨rfl, q⟩
   have e : (match lget M (ix k C' : Int) with | some v => ltop (ix k C' : Int) v M | none => M) = (Kd.lused l k).map (nu C' D') := by
    rw [eget]
    unfold Kd.lused
    cases hg : lget l k with
    | none => exact hr'.m
    | some x =>
     show ltop (ix k C' : Int) (ix x D' : Int) M = _
     rw [hr'.m]
     exact ltop_nu hr'.iC hkC
   have q' : PG T w1 cb mb kb vb room (Kd.lused l k) (match lget M (ix k C' : Int) with | some v => ltop (ix k C' : Int) v M | none => M) C' D' w' := q
   rw [e] at q'
   exact ⟨by rw [eget]; cases lget l k <;> rfl, bq q', q'⟩
  ·
   refine (hW.ofv _ (by omega)).mono ?_
   rintro r w' ⟨rfl, q⟩
   have hx : (lget l k).getD 0 ∈ D' ∧ (ix ((lget l k).getD 0) D' : Int) = (lget M (ix k C' : Int)).getD 0 := by
    rw [eget]
    cases hg : lget l k with
    | none => exact ⟨(cod_zero cD).1, by simp [(cod_zero cD).2]⟩
    | some x => exact ⟨hr'.iD _ (lget_some hg), rfl⟩
   rw [ext_same cD hx.1] at q ⊢
   rw [hx.2]
   refine ⟨rfl, rfl, _, _, _, _, back q, ?_⟩
   unfold Kd.lused
   cases hg : lget l k with
   | none => exact hr'.less (fun p hp => hp) (Nat.le_refl _)
   | some x =>
    refine hr'.less (fun p hp => ?_) ?_
    ·
     rcases List.mem_cons.1 hp with rfl | hp
     ·
      exact lget_some hg
     ·
      exact lout_mem' hp
    ·
     have := lout_lt hg
     simp only [ltop, List.length_cons]
     omega
 by_cases k2 : kind = 2
 ·
  refine does_put (K4 := fun _ => True) k2 _ h1 h2 (K3 := PG T w1 cb mb kb vb room ((ltop k v l).take room) M C' D') (fun W hW => ?_) (fun W hW => ?_)
  ·
   refine (hW.stepc (fun F' hF => Kd.put_any hF hk hroom)).mono ?_
   rintro r w' ⟨rfl, q⟩
   exact ⟨rfl, bq q, q⟩
  ·
   refine (hW.stepm (fun G hG => Rf.rput_any hG _ _ (by omega))).mono ?_
   rintro r w' ⟨rfl, q⟩
   have e : (ltop (ix k C' : Int) (ix v D' : Int) M).take room = ((ltop k v l).take room).map (nu C' D') := by
    rw [hr'.m, ltop_nu hr'.iC hkC, List.map_take]
   rw [e] at q
   have hmem : ∀ p ∈ (ltop k v l).take room, p = (k, v) ∨ p ∈ l := fun p hp => by
    rcases List.mem_cons.1 (List.mem_of_mem_take hp) with rfl | hp
    ·
     exact .inl rfl
    ·
     exact .inr (lout_mem' hp)
   refine ⟨rfl, rfl, _, _, _, _, back q, rfl, hr'.hC, hr'.hD, fun p hp => ?_, fun p hp => ?_, ?_, hr'.nC, hr'.nD⟩
   ·
    rcases hmem p hp with rfl | hp
    ·
     exact hkC
    ·
     exact hr'.iC p hp
   ·
    rcases hmem p hp with rfl | hp
    ·
     exact hvD
    ·
     exact hr'.iD p hp
   ·
    have := lout_len' l k
    simp only [ltop, List.length_take, List.length_cons]
    omega
 by_cases k3 : kind = 3
 ·
  refine does_drop (K4 := fun _ => True) k3 _ h1 h2 (ok := (lget l k).isSome) (K3 := PG T w1 cb mb kb vb room (lout l k) M C' D') (fun W hW => ?_) (fun W hW => ?_)
  ·
   refine (hW.drew.stepc (fun F' hF => Kd.drop_any hF hk)).mono ?_
   rintro r w' ⟨rfl, q⟩
   exact ⟨rfl, bq q, q⟩
  ·
   refine (hW.stepm (fun G hG => Rf.rdrop_any hG _ (by omega))).mono ?_
   rintro r w' ⟨rfl, q⟩
   rw [eout] at q
   exact ⟨by rw [eget]; cases lget l k <;> rfl, bq q, rfl, _, _, _, _, back q, hr'.less (fun p hp => lout_mem' hp) (lout_len' l k)⟩
 by_cases k4 : kind = 4
 ·
  refine does_clear (K4 := fun _ => True) k4 _ h1 h2 (a := (l.length : Int)) (K3 := PG T w1 cb mb kb vb room [] M C' D') (fun W hW => ?_) (fun W hW => ?_)
  ·
   refine (hW.drew.stepc (fun F' hF => Kd.clear_any hF)).mono ?_
   rintro r w' ⟨rfl, q⟩
   exact ⟨rfl, bq q, q⟩
  ·
   refine (hW.stepm (fun G hG => Rf.rclear_any hG)).mono ?_
   rintro r w' ⟨rfl, q⟩
   exact ⟨by rw [b6], bq q, rfl, _, _, _, _, back q, hr'.less (l' := []) (fun p hp => (by cases hp)) (by simp)⟩
 by_cases k5 : kind = 5
 ·
  have hm0 : ∀ W, PG T w1 cb mb kb vb room l M C' D' W → ∃ ad cap, W.cell? ⟨mb, 1, none⟩ = some (.slice ad l.length cap) := fun W hW => by
   obtain ⟨_, _, _, _, q, _⟩ := hW
   obtain ⟨⟨va, q1, q2, _⟩, _⟩ := q.m
   obtain ⟨a, c, rfl⟩ := own_shape q2
   rw [b6] at q1
   exact ⟨a, c, box_cells q1 1 _ rfl⟩
  refine does_len (K3 := fun _ => True) (K4 := fun _ => True) k5 _ h1 h2 (ln := l.length) (fun W hW => ?_) (fun W hW => hm0 W hW)
  have hW0 := hW.drew
  obtain ⟨F', _, _, _, q, _⟩ := hW.drew
  refine (Kd.len_any q.c).mono ?_
  rintro r w' ⟨rfl, rfl⟩
  exact ⟨rfl, rfl, rfl, _, _, _, _, back hW0, hr'⟩
 by_cases k6 : kind = 6
 ·
  have elast : M.getLast? = l.getLast?.map (nu C' D') := by rw [hr'.m, List.getLast?_map]
  refine does_oldest k6 _ h1 h2 (a := (l.getLast?.map (·.1)).getD zk) (b := (M.getLast?.map (·.1)).getD 0) (ok := l.getLast?.isSome) (K3 := PG T w1 cb mb kb vb room l M C' D') (K4 := PG T w1 cb mb kb vb room l M C' D') (fun W hW => ?_) (fun W hW => ?_) (fun W hW => ?_)
  ·
   have hW0 := hW
   obtain ⟨F', _, _, _, q, _⟩ := hW
   refine (Kd.oldest_any q.c).mono ?_
   rintro r w' ⟨rfl, rfl⟩
   exact ⟨rfl, bq hW0, hW0⟩
  ·
   have hW0 := hW
   obtain ⟨F', _, _, _, q, _⟩ := hW
   refine (Rf.roldest_any q.m (by omega)).mono ?_
   rintro r w' ⟨rfl, q2⟩
   have q3 : PG T w1 cb mb kb vb room l M C' D' w' := by
    rcases q2 with rfl | rfl
    ·
     exact hW0
    ·
     exact hW0.drew
   refine ⟨?_, bq q3, q3⟩
   rw [elast]
   cases l.getLast? <;> rfl
  ·
   refine (hW.ofk _ (by omega)).mono ?_
   rintro r w' ⟨rfl, q⟩
   have hx : (l.getLast?.map (·.1)).getD zk ∈ C' ∧ (ix ((l.getLast?.map (·.1)).getD zk) C' : Int) = (M.getLast?.map (·.1)).getD 0 := by
    rw [elast]
    cases hg : l.getLast? with
    | none => exact ⟨(cod_zero cC).1, by simp [(cod_zero cC).2]⟩
    | some x => exact ⟨hr'.iC _ (List.mem_of_getLast? hg), rfl⟩
   rw [ext_same cC hx.1] at q ⊢
   rw [hx.2]
   exact ⟨rfl, rfl, _, _, _, _, back q, hr'⟩
 by_cases k7 : kind = 7
 ·
  refine does_all (K3 := fun _ => True) (K4 := fun _ => True) k7 _ h1 h2 (fun W hW => ?_)
  have hW' : PG T w1 cb mb kb vb room l (l.map (nu C' D')) C' D' W := by
   rw [← hr'.m]
   exact hW
  refine (hW'.alls (by omega) hr'.iC hr'.iD (by omega) (by omega) stop).mono ?_
  rintro r w' ⟨rfl, q⟩
  rw [← hr'.m] at q
  exact ⟨rfl, rfl, _, _, _, _, back q, hr'⟩
 ·
  refine does_else (K3 := fun _ => True) (K4 := fun _ => True) ⟨k1, k2, k3, k4, k5, k6, k7⟩ _ h1 h2 (fun W hW => ?_)
  exact ⟨rfl, _, _, _, _, back hW, hr'⟩
end Go.Proofs.YtdhinpmjbcohaaaGreat.Jd
namespace Go.Proofs.YtdhinpmjbcohaaaGreat.Jd
open Go Go.RowKit Go.Shelf
set_option linter.unusedSimpArgs false
set_option linter.unusedVariables false
set_option maxRecDepth 100000
set_option maxHeartbeats 4000000
open Rf (e2 e2_len e2_app e2_one e2_at ER own_er own_shape app_many addr0 RS AftR)

def bgw (w : World) (rm : Nat) : World := ((((w.alloc (.cells #[pt (w.heap.size + 1), pt (w.heap.size + 1 + 1), pt (w.heap.size + 1 + 1 + 1), pt (w.heap.size + 1 + 1 + 1 + 1)] 47)).alloc (.cells #[.int .i64 rm, .pointer none, .map none] 152)).alloc (.cells #[.int .i64 rm, .slice none 0 0] 92)).alloc (.cells #[.slice none 0 0] 75)).alloc (.cells #[.slice none 0 0] 79)
theorem begin_walk {w : World} {most : Int} {rm : Nat} 
  (h1 : ∀ W, Calls Tryz.prog 20 #[.int .i64 most] W fun r w' => r = .returned (pt W.heap.size) ∧ w' = W.alloc (.cells #[.int .i64 rm, .pointer none, .map none] 152))
  (h2 : ∀ W, Calls Tryz.prog 17 #[.int .i64 most] W fun r w' => r = .returned (pt W.heap.size) ∧ w' = W.alloc (.cells #[.int .i64 rm, .slice none 0 0] 92)) :
  Calls Tryz.prog 7 #[.int .i64 most] w fun r w' => r = .returned (.agg #[pt (w.heap.size + 1), pt (w.heap.size + 1 + 1), pt (w.heap.size + 1 + 1 + 1), pt (w.heap.size + 1 + 1 + 1 + 1)]) ∧ w' = bgw w rm := by
 have H1 := hidi h1
 have H2 := hidi h2
 have H3 : Hid ((bgw w rm).heap[w.heap.size]? = some (.cells #[pt (w.heap.size + 1), pt (w.heap.size + 1 + 1), pt (w.heap.size + 1 + 1 + 1), pt (w.heap.size + 1 + 1 + 1 + 1)] 47 (0, 0))) := by
  have hb : ∀ (A : World) (o : Obj) (j : Nat), j < A.heap.size → (A.alloc o).heap[j]? = A.heap[j]? := fun A o j hj => (World.grownBy_alloc A o none).block j hj (by simp)
  unfold bgw
  show _ = _
  rw [hb _ _ _ (by simp <;> omega), hb _ _ _ (by simp <;> omega), hb _ _ _ (by simp <;> omega), hb _ _ _ (by simp <;> omega)]
  exact (MapKept.heap_alloc _ _).1
 clear h1 h2
 unfold bgw pt at *
 go_enter Tryz.func7, Tryz.ntmps7
 go_wp2_with fail
 go_must (go_at_call 20)
 refine (H1.out _).mono ?_
 rintro e w1 ⟨rfl, rfl⟩
 go_wp2_with fail
 go_must (go_at_call 17)
 refine (H2.out _).mono ?_
 rintro e w2 ⟨rfl, rfl⟩
 go_wp2_with fail
 (try simp only [Exit.inBlock, Exit.then])
 refine bodyPost_ret (results_cell_row rfl _ _ w.heap.size 47 _ (0, 0) _ rfl H3.out Tryz.underlying47 rfl (by kernel_rfl)) rfl ?_
 exact ⟨rfl, rfl⟩
theorem begin_any (w : World) (most : Int) : Calls Tryz.prog 7 #[.int .i64 most] w fun r w' => r = .returned (.agg #[pt (w.heap.size + 1), pt (w.heap.size + 1 + 1), pt (w.heap.size + 1 + 1 + 1), pt (w.heap.size + 1 + 1 + 1 + 1)]) ∧ w'.heap.size = w.heap.size + 5 ∧ Below w.heap.size w w' ∧
  ∃ F G1 G2 G3, PR w' (w.heap.size + 1) (w.heap.size + 1 + 1) (w.heap.size + 1 + 1 + 1) (w.heap.size + 1 + 1 + 1 + 1) (Kd.rm most) [] [] [] [] F G1 G2 G3 ∧ ∀ j, F j ∨ G1 j ∨ G2 j ∨ G3 j → w.heap.size ≤ j := by
 refine (begin_walk (fun W => Kd.new_run most W) (fun W => Rf.rnew_run most _ (Kd.rm_eq most) W)).mono ?_
 rintro r w' ⟨rfl, rfl⟩
 have hb : ∀ (A : World) (o : Obj) (j : Nat), j < A.heap.size → (A.alloc o).heap[j]? = A.heap[j]? := fun A o j hj => (World.grownBy_alloc A o none).block j hj (by simp)
 have hnew : ∀ (A : World) (o : Obj) (j : Nat), j = A.heap.size → (A.alloc o).heap[j]? = some o := fun A o j hj => by
  rw [hj]
  exact (MapKept.heap_alloc A o).1
 have e1 : (bgw w (Kd.rm most)).heap[w.heap.size + 1]? = some (.cells #[.int .i64 (Kd.rm most), .pointer none, .map none] 152 (0, 0)) := by
  unfold bgw
  rw [hb _ _ _ (by simp <;> omega), hb _ _ _ (by simp <;> omega), hb _ _ _ (by simp <;> omega)]
  exact hnew _ _ _ (by simp)
 have e2 : (bgw w (Kd.rm most)).heap[w.heap.size + 1 + 1]? = some (.cells #[.int .i64 (Kd.rm most), .slice none 0 0] 92 (0, 0)) := by
  unfold bgw
  rw [hb _ _ _ (by simp <;> omega), hb _ _ _ (by simp <;> omega)]
  exact hnew _ _ _ (by simp)
 have e3 : (bgw w (Kd.rm most)).heap[w.heap.size + 1 + 1 + 1]? = some (.cells #[.slice none 0 0] 75 (0, 0)) := by
  unfold bgw
  rw [hb _ _ _ (by simp <;> omega)]
  exact hnew _ _ _ (by simp)
 have e4 : (bgw w (Kd.rm most)).heap[w.heap.size + 1 + 1 + 1 + 1]? = some (.cells #[.slice none 0 0] 79 (0, 0)) := by
  unfold bgw
  exact hnew _ _ _ (by simp)
 refine ⟨rfl, by simp [bgw], ?_, (fun j => j = w.heap.size + 1), (fun j => j = w.heap.size + 1 + 1 + 1), (fun j => j = w.heap.size + 1 + 1 + 1 + 1), (fun j => j = w.heap.size + 1 + 1), ⟨?_, ?_, ?_, ?_, ?_, ?_, ?_⟩, ?_⟩
 ·
  unfold bgw
  exact (((((Below.refl _ _).alloc (Nat.le_refl _) _).alloc (by simp) _).alloc (by simp <;> omega) _).alloc (by simp <;> omega) _).alloc (by simp <;> omega) _
 ·
  refine ⟨.map none, [], id, id, fun _ => default, fun _ => 0, ⟨e1, fun b hb => (by cases hb), List.nodup_nil, trivial, fun a ha => (by cases ha), fun a ha => (by cases ha), .inl ⟨rfl, rfl⟩⟩, rfl, fun j => ?_, by simp⟩
  simp [Kd.FP]
 ·
  exact ⟨_, e3, World.ownsRow_nil _ _ _ _, fun j => by simp [Value.ownBlock], fun _ => rfl⟩
 ·
  exact ⟨_, e4, World.ownsRow_nil _ _ _ _, fun j => by simp [Value.ownBlock], fun _ => rfl⟩
 ·
  exact ⟨⟨_, e2, World.ownsRow_nil _ _ _ _, fun j => by simp [Value.ownBlock]⟩, List.nodup_nil⟩
 ·
  intro j hj
  exact ⟨by omega, by omega, by omega⟩
 ·
  intro j hj
  exact ⟨by omega, by omega⟩
 ·
  intro j hj
  omega
 ·
  intro j hj
  omega
end Go.Proofs.YtdhinpmjbcohaaaGreat.Jd
namespace Go.Proofs.YtdhinpmjbcohaaaGreat.Jd
open Go Go.RowKit Go.Shelf
set_option linter.unusedSimpArgs false
set_option linter.unusedVariables false
open Rf (RS AftR)

theorem Rel.mono {l : List (Kd.Ky × Kd.Vt)} {M : List (Int × Int)} {C : List Kd.Ky} {D : List Kd.Vt} {N : Nat} (h : Rel l M C D N) : Rel l M C D (N + 1) :=
 ⟨h.m, h.hC, h.hD, h.iC, h.iD, by have := h.nl; omega, by have := h.nC; omega, by have := h.nD; omega⟩
def PT (W : World) (cb mb kb vb room N : Nat) (T : Nat → Prop) : Prop := ∃ l M C D F G1 G2 G3, PR W cb mb kb vb room l M C D F G1 G2 G3 ∧ Rel l M C D N ∧ ∀ j, T j ↔ F j ∨ G1 j ∨ G2 j ∨ G3 j
theorem PT.lt {W : World} {cb mb kb vb room N : Nat} {T : Nat → Prop} (h : PT W cb mb kb vb room N T) {j : Nat} (hj : T j) : j < W.heap.size := by
 obtain ⟨l, M, C, D, F, G1, G2, G3, h1, h2, h3⟩ := h
 exact h1.lt ((h3 j).1 hj)
theorem PT.keep {W W' : World} {cb mb kb vb room N : Nat} {T : Nat → Prop} (h : PT W cb mb kb vb room N T) (hk : ∀ j, T j → W'.heap[j]? = W.heap[j]?) : PT W' cb mb kb vb room N T := by
 obtain ⟨l, M, C, D, F, G1, G2, G3, h1, h2, h3⟩ := h
 exact ⟨l, M, C, D, F, G1, G2, G3, h1.heap (fun j hj => hk j ((h3 j).2 hj)), h2, h3⟩
theorem PT.mono {W : World} {cb mb kb vb room N : Nat} {T : Nat → Prop} (h : PT W cb mb kb vb room N T) : PT W cb mb kb vb room (N + 1) T := by
 obtain ⟨l, M, C, D, F, G1, G2, G3, h1, h2, h3⟩ := h
 exact ⟨l, M, C, D, F, G1, G2, G3, h1, h2.mono, h3⟩
theorem PT.does {W : World} {cb mb kb vb room N : Nat} {T : Nat → Prop} (h : PT W cb mb kb vb room N T) (hN : N ≤ 3000) (hroom : room ≤ 1048576) (kind : Int) {k : Kd.Ky} (hk : Kd.okK k) (v : Kd.Vt) (stop : Int) :
  Calls Tryz.prog 11 #[.agg #[pt cb, pt mb, pt kb, pt vb], .int .i64 kind, Kd.kc k, Kd.vc v, .int .i64 stop] W fun r w' => r = .returned (.bool true) ∧ ∃ T', PT w' cb mb kb vb room (N + 1) T' ∧ (∀ j, T' j → T j ∨ W.heap.size ≤ j) ∧ Ch T W w' := by
 obtain ⟨l, M, C, D, F, G1, G2, G3, h1, h2, h3⟩ := h
 refine (does_any kind k v stop h1 h2 hN hroom hk).mono ?_
 rintro r w' ⟨rfl, l', M', C', D', ⟨F', G1', G2', G3', q1, q2, q3⟩, q4⟩
 refine ⟨rfl, _, ⟨l', M', C', D', F', G1', G2', G3', q1, q4, fun j => Iff.rfl⟩, fun j hj => ?_, q3.mono (fun j _ q => (h3 j).2 q)⟩
 rcases q2 j hj with q | q
 ·
  exact .inl ((h3 j).2 q)
 ·
  exact .inr q
theorem PT.all {W : World} {cb mb kb vb room N : Nat} {T : Nat → Prop} (h : PT W cb mb kb vb room N T) (hN : N ≤ 3000) (stop : Int) :
  Calls Tryz.prog 15 #[.agg #[pt cb, pt mb, pt kb, pt vb], .int .i64 stop] W fun r w' => r = .returned (.bool true) ∧ Below W.heap.size W w' := by
 obtain ⟨l, M, C, D, F, G1, G2, G3, h1, h2, h3⟩ := h
 obtain ⟨mv, L, n, o, ky, vl, hca, e, hF, hr⟩ := h1.c
 have e2 : l.map (nu C D) = L.map (num ky vl C D) := by
  rw [e, List.map_map]
  rfl
 have hm := h1.m
 rw [h2.m, e2] at hm
 have hl := h2.nl
 have b1 := h2.nC
 have b2 := h2.nD
 exact all_any hca (by rw [e] at hl; simp at hl; omega) h1.k h1.v (fun b hb => h2.iC _ (by rw [e]; exact List.mem_map.2 ⟨b, hb, rfl⟩)) (fun b hb => h2.iD _ (by rw [e]; exact List.mem_map.2 ⟨b, hb, rfl⟩)) (by omega) (by omega) hm stop
theorem begin_pt (w : World) (most : Int) : Calls Tryz.prog 7 #[.int .i64 most] w fun r w' => r = .returned (.agg #[pt (w.heap.size + 1), pt (w.heap.size + 1 + 1), pt (w.heap.size + 1 + 1 + 1), pt (w.heap.size + 1 + 1 + 1 + 1)]) ∧ w'.heap.size = w.heap.size + 5 ∧ Below w.heap.size w w' ∧
  ∃ T, PT w' (w.heap.size + 1) (w.heap.size + 1 + 1) (w.heap.size + 1 + 1 + 1) (w.heap.size + 1 + 1 + 1 + 1) (Kd.rm most) 0 T ∧ ∀ j, T j → w.heap.size ≤ j := by
 refine (begin_any w most).mono ?_
 rintro r w' ⟨rfl, h1, h2, F, G1, G2, G3, h3, h4⟩
 exact ⟨rfl, h1, h2, _, ⟨[], [], [], [], F, G1, G2, G3, h3, ⟨rfl, .inl rfl, .inl rfl, by simp, by simp, by simp, by simp, by simp⟩, fun j => Iff.rfl⟩, h4⟩
theorem srm_le (most : Int) : Kd.rm most ≤ 1048576 := by
 have := Kd.rm_eq most
 omega
end Go.Proofs.YtdhinpmjbcohaaaGreat.Jd
namespace Go.Proofs.YtdhinpmjbcohaaaGreat
open Go Go.RowKit
set_option linter.unusedSimpArgs false
set_option linter.unusedVariables false
open Ka (okK)

structure Op8 where
 kind : Int
 second : Bool
 k : ByteArray × Int
 v : Int
 stop : Int
def opc (p : Op8) : List Value := [.int .i64 p.kind, .bool p.second, .string p.k.1, .int .i64 p.k.2, .int .i64 p.v, .int .i64 p.stop]
def ScR (w : World) (a : Option Addr) (ops : List Op8) : Prop := ops ≠ [] → ∃ g o, a = some ⟨g, o, none⟩ ∧ ∀ j p, ops[j]? = some p → ∀ q u, (opc p)[q]? = some u → w.cell? ⟨g, o + j * 6 + q, none⟩ = some u
def okOp (p : Op8) : Prop := okK p.k ∧ (Lit.int .i64 p.v).wf = true
end Go.Proofs.YtdhinpmjbcohaaaGreat
