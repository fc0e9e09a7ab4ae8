import Derived.Test.YtdhinpmjbcohaaaGreatJahf
import Derived.Test.YtdhinpmjbcohaaaGreatKaO
import Derived.Laws.Rows
import Derived.Test.YtdhinpmjbcohaaaGreatKaG
import Derived.Test.YtdhinpmjbcohaaaGreatQkR
namespace Go.Proofs.YtdhinpmjbcohaaaGreat.Ja
open Go Go.RowKit Go.Shelf
set_option linter.unusedSimpArgs false
set_option linter.unusedVariables false
set_option maxRecDepth 100000
set_option maxHeartbeats 4000000
open Rf (e2 e2_len e2_app e2_one e2_at ER own_er own_shape app_many addr0 RS AftR)

structure Rel (l : List (Ka.Ky × Ka.Vt)) (M : List (Int × Int)) (C : List Ka.Ky) (D : List Ka.Vt) (N : Nat) : Prop where
 m : M = l.map (nu C D)
 hC : C = [] ∨ Cod zk C
 hD : D = [] ∨ Cod ⟨#[]⟩ D
 iC : ∀ p ∈ l, p.1 ∈ C
 iD : ∀ p ∈ l, p.2 ∈ D
 nl : l.length ≤ N
 nC : C.length ≤ 4 * N
 nD : D.length ≤ 4 * N
theorem Rel.asked {l : List (Ka.Ky × Ka.Vt)} {M : List (Int × Int)} {C : List Ka.Ky} {D : List Ka.Vt} {N : Nat} (h : Rel l M C D N) (k : Ka.Ky) (v : Ka.Vt) : Rel l M (ext zk C k) (ext ⟨#[]⟩ D v) (N + 1) := by
 obtain ⟨a, b, c⟩ := nu_stay h.hC h.hD h.iC h.iD k v
 have l1 := ext_len zk C k
 have l2 := ext_len (⟨#[]⟩ : ByteArray) D v
 exact ⟨h.m.trans a, .inr (cod_ext _ _ _ h.hC), .inr (cod_ext _ _ _ h.hD), b, c, by have := h.nl; omega, by have := h.nC; omega, by have := h.nD; omega⟩
theorem Rel.less {l l' : List (Ka.Ky × Ka.Vt)} {M : List (Int × Int)} {C : List Ka.Ky} {D : List Ka.Vt} {N : Nat} (h : Rel l M C D N) (hs : ∀ p ∈ l', p ∈ l) (hl : l'.length ≤ l.length) : Rel l' (l'.map (nu C D)) C D N :=
 ⟨rfl, h.hC, h.hD, fun p hp => h.iC p (hs p hp), fun p hp => h.iD p (hs p hp), Nat.le_trans hl h.nl, h.nC, h.nD⟩
theorem lout_mem' {l : List (Ka.Ky × Ka.Vt)} {k : Ka.Ky} {p : Ka.Ky × Ka.Vt} (h : p ∈ lout l k) : p ∈ l := (lout_mem.1 h).1
theorem lout_len' (l : List (Ka.Ky × Ka.Vt)) (k : Ka.Ky) : (lout l k).length ≤ l.length := List.length_filter_le _ _
theorem lout_lt {l : List (Ka.Ky × Ka.Vt)} {k : Ka.Ky} {v : Ka.Vt} (h : lget l k = some v) : (lout l k).length < l.length := by
 have hm := lget_some h
 unfold lout
 refine List.length_filter_lt_length_iff_exists.2 ⟨(k, v), hm, ?_⟩
 simp
theorem does_any {w : World} {cb mb kb vb room N : Nat} {l : List (Ka.Ky × Ka.Vt)} {M : List (Int × Int)} {C : List Ka.Ky} {D : List Ka.Vt} {F G1 G2 G3 : Nat → Prop} (kind : Int) (k : Ka.Ky) (v : Ka.Vt) (stop : Int) (h : PR w cb mb kb vb room l M C D F G1 G2 G3) (hr : Rel l M C D N) (hN : N ≤ 3000) (hroom : room ≤ 1048576) (hk : Ka.okK k) :
  Calls Tryz.prog 8 #[.agg #[pt cb, pt mb, pt kb, pt vb], .int .i64 kind, Ka.kc k, Ka.vc v, .int .i64 stop] w fun r w' => r = .returned (.bool true) ∧ ∃ l' M' C' D', PG (fun j => F j ∨ G1 j ∨ G2 j ∨ G3 j) w cb mb kb vb room l' M' C' D' w' ∧ Rel l' M' C' D' (N + 1) := by
 obtain ⟨T, hT⟩ : ∃ T : Nat → Prop, T = fun j => F j ∨ G1 j ∨ G2 j ∨ G3 j := ⟨_, rfl⟩
 rw [← hT]
 have hTl : ∀ j, T j → j < w.heap.size := fun j hj => h.lt (by rw [hT] at hj; exact hj)
 obtain ⟨w1, hw1⟩ : ∃ w1, w1 = ((w.alloc (.cells #[pt cb, pt mb, pt kb, pt vb] 28)).alloc (.cells #[.string k.1, .int .i64 k.2] 31)) := ⟨_, rfl⟩
 have s1 : w1.heap.size = w.heap.size + 1 + 1 := by rw [hw1]; simp
 have n1 : w1.heap[w.heap.size]? = some (.cells #[pt cb, pt mb, pt kb, pt vb] 28 (0, 0)) := by rw [hw1]; exact (Below.heap_alloc _ _ _ (by simp)).trans (heap_alloc_new w _)
 have nk : w1.heap[w.heap.size + 1]? = some (.cells #[.string k.1, .int .i64 k.2] 31 (0, 0)) := by rw [hw1]; have := heap_alloc_new (w.alloc (.cells #[pt cb, pt mb, pt kb, pt vb] 28)) (.cells #[.string k.1, .int .i64 k.2] 31); rw [World.size_alloc] at this; exact this
 have o1 : ∀ j, j < w.heap.size → w1.heap[j]? = w.heap[j]? := fun j hj => by
  rw [hw1]
  exact ((World.grownBy_alloc _ _ none).block j (by simp; omega) (by simp)).trans ((World.grownBy_alloc _ _ none).block j hj (by simp))
 have start : PG T w1 cb mb kb vb room l M C D w1.drew := ⟨F, G1, G2, G3, h.heap (fun j hj => o1 j (h.lt hj)), fun j hj => .inl (by rw [hT]; exact hj), ch_drew _ _⟩
 have bq : ∀ {l M C D W}, PG T w1 cb mb kb vb room l M C D W → BQ W cb mb kb vb w.heap.size k.1 k.2 := fun {l M C D W} hp => by
  obtain ⟨_, _, _, _, _, _, q⟩ := hp
  have n2 := (q.block w.heap.size (by omega) (fun x => by have := hTl _ x; omega)).trans n1
  have n3 := (q.block (w.heap.size + 1) (by omega) (fun x => by have := hTl _ x; omega)).trans nk
  exact ⟨box_cells n2 0 _ rfl, box_cells n2 1 _ rfl, box_cells n2 2 _ rfl, box_cells n2 3 _ rfl, box_cells n3 0 _ rfl, box_cells n3 1 _ rfl⟩
 have back : ∀ {l M C D W}, PG T w1 cb mb kb vb room l M C D W → PG T w cb mb kb vb room l M C D W := fun {l M C D W} hp => by
  obtain ⟨F', G1', G2', G3', q1, q2, q3⟩ := hp
  refine ⟨F', G1', G2', G3', q1, fun j hj => ?_, (by rw [hw1]; exact (ch_alloc T _ _).then (ch_alloc T _ _) : Ch T w w1).then q3⟩
  rcases q2 j hj with q | q
  ·
   exact .inl q
  ·
   exact .inr (by omega)
 obtain ⟨C', hC'⟩ : ∃ C', C' = ext zk C k := ⟨_, rfl⟩
 obtain ⟨D', hD'⟩ : ∃ D', D' = ext ⟨#[]⟩ D v := ⟨_, rfl⟩
 have hr' : Rel l M C' D' (N + 1) := by
  rw [hC', hD']
  exact hr.asked k v
 have hkC : k ∈ C' := by rw [hC']; exact ext_mem _ _ _
 have hvD : v ∈ D' := by rw [hD']; exact ext_mem _ _ _
 have cC : Cod zk C' := by rw [hC']; exact cod_ext _ _ _ hr.hC
 have cD : Cod ⟨#[]⟩ D' := by rw [hD']; exact cod_ext _ _ _ hr.hD
 have b1 := hr.nC
 have b2 := hr.nD
 have b3 := hr'.nC
 have b4 := hr'.nD
 have b5 := hr'.nl
 have b6 : M.length = l.length := by rw [hr.m]; simp
 have hnl := hr.nl
 have h1 : Calls Tryz.prog 21 #[.pointer (some ⟨kb, 0, none⟩), .agg #[.string k.1, .int .i64 k.2]] ((w.alloc (.cells #[pt cb, pt mb, pt kb, pt vb] 28)).alloc (.cells #[.string k.1, .int .i64 k.2] 31)).drew fun r w' => r = .returned (.int .i64 (ix k C')) ∧ BQ w' cb mb kb vb w.heap.size k.1 k.2 ∧ PG T w1 cb mb kb vb room l M C' D w' := by
  rw [← hw1]
  refine (start.ofk k (by omega)).mono ?_
  rintro r w' ⟨rfl, q⟩
  rw [← hC'] at q ⊢
  exact ⟨rfl, bq q, q⟩
 have h2 : ∀ W, PG T w1 cb mb kb vb room l M C' D W → Calls Tryz.prog 22 #[.pointer (some ⟨vb, 0, none⟩), .string v] W fun r w' => r = .returned (.int .i64 (ix v D')) ∧ BQ w' cb mb kb vb w.heap.size k.1 k.2 ∧ PG T w1 cb mb kb vb room l M C' D' w' := fun W hW => by
  refine (hW.ofv v (by omega)).mono ?_
  rintro r w' ⟨rfl, q⟩
  rw [← hD'] at q ⊢
  exact ⟨rfl, bq q, q⟩
 have eget : lget M (ix k C' : Int) = (lget l k).map (fun v => (ix v D' : Int)) := by
  rw [hr'.m]
  exact lget_nu hr'.iC hkC
 have eout : lout M (ix k C' : Int) = (lout l k).map (nu C' D') := by
  rw [hr'.m]
  exact lout_nu hr'.iC hkC
 by_cases k1 : kind = 1
 ·
  refine does_get k1 _ h1 h2 (a := (lget l k).getD ⟨#[]⟩) (b := (lget M (ix k C' : Int)).getD 0) (ok := (lget l k).isSome) (K3 := PG T w1 cb mb kb vb room (Ka.lused l k) M C' D') (K4 := PG T w1 cb mb kb vb room (Ka.lused l k) ((Ka.lused l k).map (nu C' D')) C' D') (fun W hW => ?_) (fun W hW => ?_) (fun W hW => ?_)
  ·
   refine (hW.stepc (fun F' hF => Ka.get_any hF hk)).mono ?_
   rintro r w' ⟨rfl, q⟩
   exact ⟨rfl, bq q, q⟩
  ·
   refine (hW.stepm (fun G hG => Rf.rget_any hG _ (by omega))).mono ?_
   rintro r w' ⟨rfl, q⟩
   have e : (match lget M (ix k C' : Int) with | some v => ltop (ix k C' : Int) v M | none => M) = (Ka.lused l k).map (nu C' D') := by
    rw [eget]
    unfold Ka.lused
    cases hg : lget l k with
    | none => exact hr'.m
    | some x =>
     show ltop (ix k C' : Int) (ix x D' : Int) M = _
     rw [hr'.m]
     exact ltop_nu hr'.iC hkC
   have q' : PG T w1 cb mb kb vb room (Ka.lused l k) (match lget M (ix k C' : Int) with | some v => ltop (ix k C' : Int) v M | none => M) C' D' w' := q
   rw [e] at q'
   exact ⟨by rw [eget]; cases lget l k <;> rfl, bq q', q'⟩
  ·
   refine (hW.ofv _ (by omega)).mono ?_
   rintro r w' ⟨rfl, q⟩
   have hx : (lget l k).getD ⟨#[]⟩ ∈ D' ∧ (ix ((lget l k).getD ⟨#[]⟩) D' : Int) = (lget M (ix k C' : Int)).getD 0 := by
    rw [eget]
    cases hg : lget l k with
    | none => exact ⟨(cod_zero cD).1, by simp [(cod_zero cD).2]⟩
    | some x => exact ⟨hr'.iD _ (lget_some hg), rfl⟩
   rw [ext_same cD hx.1] at q ⊢
   rw [hx.2]
   refine ⟨rfl, rfl, _, _, _, _, back q, ?_⟩
   unfold Ka.lused
   cases hg : lget l k with
   | none => exact hr'.less (fun p hp => hp) (Nat.le_refl _)
   | some x =>
    refine hr'.less (fun p hp => ?_) ?_
    ·
     rcases List.mem_cons.1 hp with rfl | hp
     ·
      exact lget_some hg
     ·
      exact lout_mem' hp
    ·
     have := lout_lt hg
     simp only [ltop, List.length_cons]
     omega
 by_cases k2 : kind = 2
 ·
  refine does_put (K4 := fun _ => True) k2 _ h1 h2 (K3 := PG T w1 cb mb kb vb room ((ltop k v l).take room) M C' D') (fun W hW => ?_) (fun W hW => ?_)
  ·
   refine (hW.stepc (fun F' hF => Ka.put_any hF hk hroom)).mono ?_
   rintro r w' ⟨rfl, q⟩
   exact ⟨rfl, bq q, q⟩
  ·
   refine (hW.stepm (fun G hG => Rf.rput_any hG _ _ (by omega))).mono ?_
   rintro r w' ⟨rfl, q⟩
   have e : (ltop (ix k C' : Int) (ix v D' : Int) M).take room = ((ltop k v l).take room).map (nu C' D') := by
    rw [hr'.m, ltop_nu hr'.iC hkC, List.map_take]
   rw [e] at q
   have hmem : ∀ p ∈ (ltop k v l).take room, p = (k, v) ∨ p ∈ l := fun p hp => by
    rcases List.mem_cons.1 (List.mem_of_mem_take hp) with rfl | hp
    ·
     exact .inl rfl
    ·
     exact .inr (lout_mem' hp)
   refine ⟨rfl, rfl, _, _, _, _, back q, rfl, hr'.hC, hr'.hD, fun p hp => ?_, fun p hp => ?_, ?_, hr'.nC, hr'.nD⟩
   ·
    rcases hmem p hp with rfl | hp
    ·
     exact hkC
    ·
     exact hr'.iC p hp
   ·
    rcases hmem p hp with rfl | hp
    ·
     exact hvD
    ·
     exact hr'.iD p hp
   ·
    have := lout_len' l k
    simp only [ltop, List.length_take, List.length_cons]
    omega
 by_cases k3 : kind = 3
 ·
  refine does_drop (K4 := fun _ => True) k3 _ h1 h2 (ok := (lget l k).isSome) (K3 := PG T w1 cb mb kb vb room (lout l k) M C' D') (fun W hW => ?_) (fun W hW => ?_)
  ·
   refine (hW.drew.stepc (fun F' hF => Ka.drop_any hF hk)).mono ?_
   rintro r w' ⟨rfl, q⟩
   exact ⟨rfl, bq q, q⟩
  ·
   refine (hW.stepm (fun G hG => Rf.rdrop_any hG _ (by omega))).mono ?_
   rintro r w' ⟨rfl, q⟩
   rw [eout] at q
   exact ⟨by rw [eget]; cases lget l k <;> rfl, bq q, rfl, _, _, _, _, back q, hr'.less (fun p hp => lout_mem' hp) (lout_len' l k)⟩
 by_cases k4 : kind = 4
 ·
  refine does_clear (K4 := fun _ => True) k4 _ h1 h2 (a := (l.length : Int)) (K3 := PG T w1 cb mb kb vb room [] M C' D') (fun W hW => ?_) (fun W hW => ?_)
  ·
   refine (hW.drew.stepc (fun F' hF => Ka.clear_any hF)).mono ?_
   rintro r w' ⟨rfl, q⟩
   exact ⟨rfl, bq q, q⟩
  ·
   refine (hW.stepm (fun G hG => Rf.rclear_any hG)).mono ?_
   rintro r w' ⟨rfl, q⟩
   exact ⟨by rw [b6], bq q, rfl, _, _, _, _, back q, hr'.less (l' := []) (fun p hp => (by cases hp)) (by simp)⟩
 by_cases k5 : kind = 5
 ·
  have hm0 : ∀ W, PG T w1 cb mb kb vb room l M C' D' W → ∃ ad cap, W.cell? ⟨mb, 1, none⟩ = some (.slice ad l.length cap) := fun W hW => by
   obtain ⟨_, _, _, _, q, _⟩ := hW
   obtain ⟨⟨va, q1, q2, _⟩, _⟩ := q.m
   obtain ⟨a, c, rfl⟩ := own_shape q2
   rw [b6] at q1
   exact ⟨a, c, box_cells q1 1 _ rfl⟩
  refine does_len (K3 := fun _ => True) (K4 := fun _ => True) k5 _ h1 h2 (ln := l.length) (fun W hW => ?_) (fun W hW => hm0 W hW)
  have hW0 := hW.drew
  obtain ⟨F', _, _, _, q, _⟩ := hW.drew
  refine (Ka.len_any q.c).mono ?_
  rintro r w' ⟨rfl, rfl⟩
  exact ⟨rfl, rfl, rfl, _, _, _, _, back hW0, hr'⟩
 by_cases k6 : kind = 6
 ·
  have elast : M.getLast? = l.getLast?.map (nu C' D') := by rw [hr'.m, List.getLast?_map]
  refine does_oldest k6 _ h1 h2 (ax := ((l.getLast?.map (·.1)).getD zk).1) (ai := ((l.getLast?.map (·.1)).getD zk).2) (b := (M.getLast?.map (·.1)).getD 0) (ok := l.getLast?.isSome) (K3 := PG T w1 cb mb kb vb room l M C' D') (K4 := PG T w1 cb mb kb vb room l M C' D') (fun W hW => ?_) (fun W hW => ?_) (fun W hW => ?_)
  ·
   have hW0 := hW
   obtain ⟨F', _, _, _, q, _⟩ := hW
   refine (Ka.oldest_any q.c).mono ?_
   rintro r w' ⟨rfl, hb⟩
   have q1 := hW0.same hb
   exact ⟨rfl, bq q1, q1⟩
  ·
   obtain ⟨W', hW'⟩ : ∃ W', W' = W.alloc (.cells #[.string ((l.getLast?.map (·.1)).getD zk).1, .int .i64 ((l.getLast?.map (·.1)).getD zk).2] 31) := ⟨_, rfl⟩
   have hnew : W'.heap[W.heap.size]? = some (.cells #[.string ((l.getLast?.map (·.1)).getD zk).1, .int .i64 ((l.getLast?.map (·.1)).getD zk).2] 31 (0, 0)) := by rw [hW']; exact heap_alloc_new W _
   have hW0 : PG T w1 cb mb kb vb room l M C' D' W' := hW.same (by rw [hW']; exact (Below.refl _ _).alloc (Nat.le_refl _) _)
   rw [← hW']
   have hW1 := hW0
   obtain ⟨F', _, _, _, q, _⟩ := hW1
   refine (Rf.roldest_any q.m (by omega)).mono ?_
   rintro r w' ⟨rfl, q2⟩
   have q3 : PG T w1 cb mb kb vb room l M C' D' w' ∧ w'.heap = W'.heap := by
    rcases q2 with rfl | rfl
    ·
     exact ⟨hW0, rfl⟩
    ·
     exact ⟨hW0.drew, rfl⟩
   have hn2 : w'.heap[W.heap.size]? = some (.cells #[.string ((l.getLast?.map (·.1)).getD zk).1, .int .i64 ((l.getLast?.map (·.1)).getD zk).2] 31 (0, 0)) := by rw [q3.2]; exact hnew
   refine ⟨?_, bq q3.1, box_cells hn2 0 _ rfl, box_cells hn2 1 _ rfl, q3.1⟩
   rw [elast]
   cases l.getLast? <;> rfl
  ·
   refine (hW.ofk _ (by omega)).mono ?_
   rintro r w' ⟨rfl, q⟩
   have hx : (l.getLast?.map (·.1)).getD zk ∈ C' ∧ (ix ((l.getLast?.map (·.1)).getD zk) C' : Int) = (M.getLast?.map (·.1)).getD 0 := by
    rw [elast]
    cases hg : l.getLast? with
    | none => exact ⟨(cod_zero cC).1, by simp [(cod_zero cC).2]⟩
    | some x => exact ⟨hr'.iC _ (List.mem_of_getLast? hg), rfl⟩
   rw [ext_same cC hx.1] at q ⊢
   rw [hx.2]
   exact ⟨rfl, rfl, _, _, _, _, back q, hr'⟩
 by_cases k7 : kind = 7
 ·
  refine does_all (K3 := fun _ => True) (K4 := fun _ => True) k7 _ h1 h2 (fun W hW => ?_)
  have hW' : PG T w1 cb mb kb vb room l (l.map (nu C' D')) C' D' W := by
   rw [← hr'.m]
   exact hW
  refine (hW'.alls (by omega) hr'.iC hr'.iD (by omega) (by omega) stop).mono ?_
  rintro r w' ⟨rfl, q⟩
  rw [← hr'.m] at q
  exact ⟨rfl, rfl, _, _, _, _, back q, hr'⟩
 ·
  refine does_else (K3 := fun _ => True) (K4 := fun _ => True) ⟨k1, k2, k3, k4, k5, k6, k7⟩ _ h1 h2 (fun W hW => ?_)
  exact ⟨rfl, _, _, _, _, back hW, hr'⟩
end Go.Proofs.YtdhinpmjbcohaaaGreat.Ja
namespace Go.Proofs.YtdhinpmjbcohaaaGreat.Ja
open Go Go.RowKit Go.Shelf
set_option linter.unusedSimpArgs false
set_option linter.unusedVariables false
set_option maxRecDepth 100000
set_option maxHeartbeats 4000000
open Rf (e2 e2_len e2_app e2_one e2_at ER own_er own_shape app_many addr0 RS AftR)

def bgw (w : World) (rm : Nat) : World := ((((w.alloc (.cells #[pt (w.heap.size + 1), pt (w.heap.size + 1 + 1), pt (w.heap.size + 1 + 1 + 1), pt (w.heap.size + 1 + 1 + 1 + 1)] 28)).alloc (.cells #[.int .i64 rm, .pointer none, .map none] 140)).alloc (.cells #[.int .i64 rm, .slice none 0 0] 92)).alloc (.cells #[.slice none 0 0] 61)).alloc (.cells #[.slice none 0 0] 64)
theorem begin_walk {w : World} {most : Int} {rm : Nat} 
  (h1 : ∀ W, Calls Tryz.prog 16 #[.int .i64 most] W fun r w' => r = .returned (pt W.heap.size) ∧ w' = W.alloc (.cells #[.int .i64 rm, .pointer none, .map none] 140))
  (h2 : ∀ W, Calls Tryz.prog 17 #[.int .i64 most] W fun r w' => r = .returned (pt W.heap.size) ∧ w' = W.alloc (.cells #[.int .i64 rm, .slice none 0 0] 92)) :
  Calls Tryz.prog 4 #[.int .i64 most] w fun r w' => r = .returned (.agg #[pt (w.heap.size + 1), pt (w.heap.size + 1 + 1), pt (w.heap.size + 1 + 1 + 1), pt (w.heap.size + 1 + 1 + 1 + 1)]) ∧ w' = bgw w rm := by
 have H1 := hidi h1
 have H2 := hidi h2
 have H3 : Hid ((bgw w rm).heap[w.heap.size]? = some (.cells #[pt (w.heap.size + 1), pt (w.heap.size + 1 + 1), pt (w.heap.size + 1 + 1 + 1), pt (w.heap.size + 1 + 1 + 1 + 1)] 28 (0, 0))) := by
  have hb : ∀ (A : World) (o : Obj) (j : Nat), j < A.heap.size → (A.alloc o).heap[j]? = A.heap[j]? := fun A o j hj => (World.grownBy_alloc A o none).block j hj (by simp)
  unfold bgw
  show _ = _
  rw [hb _ _ _ (by simp <;> omega), hb _ _ _ (by simp <;> omega), hb _ _ _ (by simp <;> omega), hb _ _ _ (by simp <;> omega)]
  exact (MapKept.heap_alloc _ _).1
 clear h1 h2
 unfold bgw pt at *
 go_enter Tryz.func4, Tryz.ntmps4
 go_wp2_with fail
 go_must (go_at_call 16)
 refine (H1.out _).mono ?_
 rintro e w1 ⟨rfl, rfl⟩
 go_wp2_with fail
 go_must (go_at_call 17)
 refine (H2.out _).mono ?_
 rintro e w2 ⟨rfl, rfl⟩
 go_wp2_with fail
 (try simp only [Exit.inBlock, Exit.then])
 refine bodyPost_ret (results_cell_row rfl _ _ w.heap.size 28 _ (0, 0) _ rfl H3.out Tryz.underlying28 rfl (by kernel_rfl)) rfl ?_
 exact ⟨rfl, rfl⟩
theorem begin_any (w : World) (most : Int) : Calls Tryz.prog 4 #[.int .i64 most] w fun r w' => r = .returned (.agg #[pt (w.heap.size + 1), pt (w.heap.size + 1 + 1), pt (w.heap.size + 1 + 1 + 1), pt (w.heap.size + 1 + 1 + 1 + 1)]) ∧ w'.heap.size = w.heap.size + 5 ∧ Below w.heap.size w w' ∧
  ∃ F G1 G2 G3, PR w' (w.heap.size + 1) (w.heap.size + 1 + 1) (w.heap.size + 1 + 1 + 1) (w.heap.size + 1 + 1 + 1 + 1) (Ka.rm most) [] [] [] [] F G1 G2 G3 ∧ ∀ j, F j ∨ G1 j ∨ G2 j ∨ G3 j → w.heap.size ≤ j := by
 refine (begin_walk (fun W => Ka.new_run most W) (fun W => Rf.rnew_run most _ (Ka.rm_eq most) W)).mono ?_
 rintro r w' ⟨rfl, rfl⟩
 have hb : ∀ (A : World) (o : Obj) (j : Nat), j < A.heap.size → (A.alloc o).heap[j]? = A.heap[j]? := fun A o j hj => (World.grownBy_alloc A o none).block j hj (by simp)
 have hnew : ∀ (A : World) (o : Obj) (j : Nat), j = A.heap.size → (A.alloc o).heap[j]? = some o := fun A o j hj => by
  rw [hj]
  exact (MapKept.heap_alloc A o).1
 have e1 : (bgw w (Ka.rm most)).heap[w.heap.size + 1]? = some (.cells #[.int .i64 (Ka.rm most), .pointer none, .map none] 140 (0, 0)) := by
  unfold bgw
  rw [hb _ _ _ (by simp <;> omega), hb _ _ _ (by simp <;> omega), hb _ _ _ (by simp <;> omega)]
  exact hnew _ _ _ (by simp)
 have e2 : (bgw w (Ka.rm most)).heap[w.heap.size + 1 + 1]? = some (.cells #[.int .i64 (Ka.rm most), .slice none 0 0] 92 (0, 0)) := by
  unfold bgw
  rw [hb _ _ _ (by simp <;> omega), hb _ _ _ (by simp <;> omega)]
  exact hnew _ _ _ (by simp)
 have e3 : (bgw w (Ka.rm most)).heap[w.heap.size + 1 + 1 + 1]? = some (.cells #[.slice none 0 0] 61 (0, 0)) := by
  unfold bgw
  rw [hb _ _ _ (by simp <;> omega)]
  exact hnew _ _ _ (by simp)
 have e4 : (bgw w (Ka.rm most)).heap[w.heap.size + 1 + 1 + 1 + 1]? = some (.cells #[.slice none 0 0] 64 (0, 0)) := by
  unfold bgw
  exact hnew _ _ _ (by simp)
 refine ⟨rfl, by simp [bgw], ?_, (fun j => j = w.heap.size + 1), (fun j => j = w.heap.size + 1 + 1 + 1), (fun j => j = w.heap.size + 1 + 1 + 1 + 1), (fun j => j = w.heap.size + 1 + 1), ⟨?_, ?_, ?_, ?_, ?_, ?_, ?_⟩, ?_⟩
 ·
  unfold bgw
  exact (((((Below.refl _ _).alloc (Nat.le_refl _) _).alloc (by simp) _).alloc (by simp <;> omega) _).alloc (by simp <;> omega) _).alloc (by simp <;> omega) _
 ·
  refine ⟨.map none, [], id, id, fun _ => default, fun _ => ⟨#[]⟩, ⟨e1, fun b hb => (by cases hb), List.nodup_nil, trivial, fun a ha => (by cases ha), fun a ha => (by cases ha), .inl ⟨rfl, rfl⟩⟩, rfl, fun j => ?_, by simp⟩
  simp [Ka.FP]
 ·
  exact ⟨_, e3, World.ownsRow_nil _ _ _ _, fun j => by simp [Value.ownBlock], fun _ => rfl⟩
 ·
  exact ⟨_, e4, World.ownsRow_nil _ _ _ _, fun j => by simp [Value.ownBlock], fun _ => rfl⟩
 ·
  exact ⟨⟨_, e2, World.ownsRow_nil _ _ _ _, fun j => by simp [Value.ownBlock]⟩, List.nodup_nil⟩
 ·
  intro j hj
  exact ⟨by omega, by omega, by omega⟩
 ·
  intro j hj
  exact ⟨by omega, by omega⟩
 ·
  intro j hj
  omega
 ·
  intro j hj
  omega
end Go.Proofs.YtdhinpmjbcohaaaGreat.Ja
namespace Go.Proofs.YtdhinpmjbcohaaaGreat.Ja
open Go Go.RowKit Go.Shelf
set_option linter.unusedSimpArgs false
set_option linter.unusedVariables false
open Rf (RS AftR)

theorem Rel.mono {l : List (Ka.Ky × Ka.Vt)} {M : List (Int × Int)} {C : List Ka.Ky} {D : List Ka.Vt} {N : Nat} (h : Rel l M C D N) : Rel l M C D (N + 1) :=
 ⟨h.m, h.hC, h.hD, h.iC, h.iD, by have := h.nl; omega, by have := h.nC; omega, by have := h.nD; omega⟩
def PT (W : World) (cb mb kb vb room N : Nat) (T : Nat → Prop) : Prop := ∃ l M C D F G1 G2 G3, PR W cb mb kb vb room l M C D F G1 G2 G3 ∧ Rel l M C D N ∧ ∀ j, T j ↔ F j ∨ G1 j ∨ G2 j ∨ G3 j
theorem PT.lt {W : World} {cb mb kb vb room N : Nat} {T : Nat → Prop} (h : PT W cb mb kb vb room N T) {j : Nat} (hj : T j) : j < W.heap.size := by
 obtain ⟨l, M, C, D, F, G1, G2, G3, h1, h2, h3⟩ := h
 exact h1.lt ((h3 j).1 hj)
theorem PT.keep {W W' : World} {cb mb kb vb room N : Nat} {T : Nat → Prop} (h : PT W cb mb kb vb room N T) (hk : ∀ j, T j → W'.heap[j]? = W.heap[j]?) : PT W' cb mb kb vb room N T := by
 obtain ⟨l, M, C, D, F, G1, G2, G3, h1, h2, h3⟩ := h
 exact ⟨l, M, C, D, F, G1, G2, G3, h1.heap (fun j hj => hk j ((h3 j).2 hj)), h2, h3⟩
theorem PT.mono {W : World} {cb mb kb vb room N : Nat} {T : Nat → Prop} (h : PT W cb mb kb vb room N T) : PT W cb mb kb vb room (N + 1) T := by
 obtain ⟨l, M, C, D, F, G1, G2, G3, h1, h2, h3⟩ := h
 exact ⟨l, M, C, D, F, G1, G2, G3, h1, h2.mono, h3⟩
theorem PT.does {W : World} {cb mb kb vb room N : Nat} {T : Nat → Prop} (h : PT W cb mb kb vb room N T) (hN : N ≤ 3000) (hroom : room ≤ 1048576) (kind : Int) {k : Ka.Ky} (hk : Ka.okK k) (v : Ka.Vt) (stop : Int) :
  Calls Tryz.prog 8 #[.agg #[pt cb, pt mb, pt kb, pt vb], .int .i64 kind, Ka.kc k, Ka.vc v, .int .i64 stop] W fun r w' => r = .returned (.bool true) ∧ ∃ T', PT w' cb mb kb vb room (N + 1) T' ∧ (∀ j, T' j → T j ∨ W.heap.size ≤ j) ∧ Ch T W w' := by
 obtain ⟨l, M, C, D, F, G1, G2, G3, h1, h2, h3⟩ := h
 refine (does_any kind k v stop h1 h2 hN hroom hk).mono ?_
 rintro r w' ⟨rfl, l', M', C', D', ⟨F', G1', G2', G3', q1, q2, q3⟩, q4⟩
 refine ⟨rfl, _, ⟨l', M', C', D', F', G1', G2', G3', q1, q4, fun j => Iff.rfl⟩, fun j hj => ?_, q3.mono (fun j _ q => (h3 j).2 q)⟩
 rcases q2 j hj with q | q
 ·
  exact .inl ((h3 j).2 q)
 ·
  exact .inr q
theorem PT.all {W : World} {cb mb kb vb room N : Nat} {T : Nat → Prop} (h : PT W cb mb kb vb room N T) (hN : N ≤ 3000) (stop : Int) :
  Calls Tryz.prog 12 #[.agg #[pt cb, pt mb, pt kb, pt vb], .int .i64 stop] W fun r w' => r = .returned (.bool true) ∧ Below W.heap.size W w' := by
 obtain ⟨l, M, C, D, F, G1, G2, G3, h1, h2, h3⟩ := h
 obtain ⟨mv, L, n, o, ky, vl, hca, e, hF, hr⟩ := h1.c
 have e2 : l.map (nu C D) = L.map (num ky vl C D) := by
  rw [e, List.map_map]
  rfl
 have hm := h1.m
 rw [h2.m, e2] at hm
 have hl := h2.nl
 have b1 := h2.nC
 have b2 := h2.nD
 exact all_any hca (by rw [e] at hl; simp at hl; omega) h1.k h1.v (fun b hb => h2.iC _ (by rw [e]; exact List.mem_map.2 ⟨b, hb, rfl⟩)) (fun b hb => h2.iD _ (by rw [e]; exact List.mem_map.2 ⟨b, hb, rfl⟩)) (by omega) (by omega) hm stop
theorem begin_pt (w : World) (most : Int) : Calls Tryz.prog 4 #[.int .i64 most] w fun r w' => r = .returned (.agg #[pt (w.heap.size + 1), pt (w.heap.size + 1 + 1), pt (w.heap.size + 1 + 1 + 1), pt (w.heap.size + 1 + 1 + 1 + 1)]) ∧ w'.heap.size = w.heap.size + 5 ∧ Below w.heap.size w w' ∧
  ∃ T, PT w' (w.heap.size + 1) (w.heap.size + 1 + 1) (w.heap.size + 1 + 1 + 1) (w.heap.size + 1 + 1 + 1 + 1) (Ka.rm most) 0 T ∧ ∀ j, T j → w.heap.size ≤ j := by
 refine (begin_any w most).mono ?_
 rintro r w' ⟨rfl, h1, h2, F, G1, G2, G3, h3, h4⟩
 exact ⟨rfl, h1, h2, _, ⟨[], [], [], [], F, G1, G2, G3, h3, ⟨rfl, .inl rfl, .inl rfl, by simp, by simp, by simp, by simp, by simp⟩, fun j => Iff.rfl⟩, h4⟩
theorem srm_le (most : Int) : Ka.rm most ≤ 1048576 := by
 have := Ka.rm_eq most
 omega
end Go.Proofs.YtdhinpmjbcohaaaGreat.Ja
namespace Go.Proofs.YtdhinpmjbcohaaaGreat.Jb
open Go Go.RowKit
open Qk (step_append_runk cell_ltk)
set_option linter.unusedSimpArgs false
set_option linter.unusedVariables false
abbrev zgv0 : Oper := { dst := some 11, op := Go.Op.load 90 (Go.Operand.tmp 4), type := 90, pos := "exact.go:74", after := #[], guard := none }
abbrev zgv1 : Oper := { dst := some 12, op := Go.Op.fieldAddr 35 (Go.Operand.tmp 5) 2, type := 0, pos := "exact.go:74", after := #[], guard := none }
abbrev zgv2 : Oper := { dst := some 13, op := Go.Op.load 33 (Go.Operand.tmp 12), type := 33, pos := "exact.go:74", after := #[{ on := 1, ground := Go.Ground.data }], guard := none }
abbrev zgv3 : Oper := { dst := some 14, op := Go.Op.move (Go.Operand.tmp 0), type := 3, pos := "exact.go:74", after := #[], guard := none }
abbrev zgv4 : Oper := { dst := some 16, op := Go.Op.fieldAddr 35 (Go.Operand.tmp 5) 3, type := 0, pos := "exact.go:74", after := #[], guard := none }
abbrev zgv5 : Oper := { dst := some 17, op := Go.Op.load 25 (Go.Operand.tmp 16), type := 25, pos := "exact.go:74", after := #[{ on := 5, ground := Go.Ground.data }], guard := none }
abbrev zgv6 : Oper := { dst := some 18, op := Go.Op.load 31 (Go.Operand.tmp 8), type := 31, pos := "exact.go:74", after := #[], guard := none }
abbrev zgv7 : Oper := { dst := some 15, op := Go.Op.call { callee := Go.Callee.value (Go.Operand.func 34), args := #[Go.Operand.tmp 13, Go.Operand.tmp 14], argTypes := #[33, 3] }, type := 3, pos := "exact.go:74", after := #[{ on := 2, ground := Go.Ground.data }, { on := 3, ground := Go.Ground.data }], guard := none }
abbrev zgv8 : Oper := { dst := some 19, op := Go.Op.call { callee := Go.Callee.value (Go.Operand.func 21), args := #[Go.Operand.tmp 17, Go.Operand.tmp 18], argTypes := #[25, 31] }, type := 3, pos := "exact.go:74", after := #[{ on := 6, ground := Go.Ground.data }, { on := 7, ground := Go.Ground.data }, { on := 4, ground := Go.Ground.chain }], guard := none }
abbrev zgv9 : Oper := { dst := some 20, op := Go.Op.build 120 #[(0, Go.Operand.tmp 15), (1, Go.Operand.tmp 19)], type := 120, pos := "exact.go:74", after := #[{ on := 4, ground := Go.Ground.data }, { on := 8, ground := Go.Ground.data }], guard := none }
abbrev zgv10 : Oper := { dst := some 21, op := Go.Op.buildSlice 90 1 #[(0, Go.Operand.tmp 20)], type := 90, pos := "exact.go:74", after := #[{ on := 9, ground := Go.Ground.data }], guard := none }
abbrev zgv11 : Oper := { dst := some 22, op := Go.Op.call { callee := Go.Callee.builtin Go.Builtin.append, args := #[Go.Operand.tmp 11, Go.Operand.tmp 21], argTypes := #[90, 90] }, type := 90, pos := "exact.go:74", after := #[{ on := 0, ground := Go.Ground.data }, { on := 10, ground := Go.Ground.data }, { on := 8, ground := Go.Ground.chain }], guard := none }
abbrev zgv12 : Oper := { dst := none, op := Go.Op.store 90 (Go.Operand.tmp 4) (Go.Operand.tmp 22), type := 0, pos := "exact.go:74", after := #[{ on := 11, ground := Go.Ground.data }, { on := 11, ground := Go.Ground.chain }, { on := 0, ground := Go.Ground.phase }, { on := 1, ground := Go.Ground.phase }, { on := 2, ground := Go.Ground.phase }, { on := 3, ground := Go.Ground.phase }, { on := 4, ground := Go.Ground.phase }, { on := 5, ground := Go.Ground.phase }, { on := 6, ground := Go.Ground.phase }, { on := 7, ground := Go.Ground.phase }, { on := 8, ground := Go.Ground.phase }, { on := 9, ground := Go.Ground.phase }, { on := 10, ground := Go.Ground.phase }, { on := 11, ground := Go.Ground.phase }], guard := none }
set_option maxRecDepth 100000
set_option maxHeartbeats 4000000
theorem hidc {p : Prop} (h : p) : Hid p := h
def Sg (ob pb bx kb vb : Nat) (v : Value) (kx : ByteArray) (ki : Int) (W : World) : Prop := W.cell? ⟨ob, 0, none⟩ = some v ∧ W.cell? ⟨pb, 2, none⟩ = some (.pointer (some ⟨kb, 0, none⟩)) ∧ W.cell? ⟨pb, 3, none⟩ = some (.pointer (some ⟨vb, 0, none⟩)) ∧ W.cell? ⟨bx, 0, none⟩ = some (.string kx) ∧ W.cell? ⟨bx, 1, none⟩ = some (.int .i64 ki)
theorem given1k_walk {W : World} {eb wb ob pb nb kb vb : Nat} {v : Value} {kx : ByteArray} {ki x n kn vn : Int} (R : Ending → World → Prop)
  (c0 : W.cell? ⟨eb, 0, none⟩ = some (.bool false)) (c2 : W.cell? ⟨ob, 0, none⟩ = some v) (c3 : W.cell? ⟨pb, 2, none⟩ = some (pt kb)) (c4 : W.cell? ⟨pb, 3, none⟩ = some (pt vb))
  (h44 : ∀ W', Below (W.alloc (.cells #[.string kx, .int .i64 ki] 31)).heap.size (W.alloc (.cells #[.string kx, .int .i64 ki] 31)) W' → Calls Tryz.prog 21 #[pt vb, .agg #[.string kx, .int .i64 ki]] W' fun r w' => r = .returned (.int .i64 vn) ∧ Below W'.heap.size W' w')
  (h28 : ∀ W', Below (W.alloc (.cells #[.string kx, .int .i64 ki] 31)).heap.size (W.alloc (.cells #[.string kx, .int .i64 ki] 31)) W' → Calls Tryz.prog 34 #[pt kb, .int .i64 x] W' fun r w' => r = .returned (.int .i64 kn) ∧ w' = W')
  (hfin : ∀ W', Below (W.alloc (.cells #[.string kx, .int .i64 ki] 31)).heap.size (W.alloc (.cells #[.string kx, .int .i64 ki] 31)) W' → ∃ va nl ca w9, nl ≤ 1000000 ∧ (Builtin.append_ #[90, 90] 90 #[v, .slice (some ⟨W'.heap.size, 0, none⟩) 1 1]).run Tryz.prog (W'.alloc (.cells #[.int .i64 kn, .int .i64 vn] 120)) = .ok (.slice va nl ca) w9 ∧ Sg ob pb W.heap.size kb vb v kx ki w9 ∧ w9.frozen? ⟨ob, 0, none⟩ = false ∧ (w9.setCell ⟨ob, 0, none⟩ (.slice va nl ca)).cell? ⟨eb, 0, none⟩ = some (.bool false) ∧ (w9.setCell ⟨ob, 0, none⟩ (.slice va nl ca)).cell? ⟨nb, 0, none⟩ = some (.int .i64 n) ∧ (w9.setCell ⟨ob, 0, none⟩ (.slice va nl ca)).frozen? ⟨eb, 0, none⟩ = false ∧ R (.returned (.bool (!((nl : Int) == n)))) ((w9.setCell ⟨ob, 0, none⟩ (.slice va nl ca)).setCell ⟨eb, 0, none⟩ (.bool ((nl : Int) == n)))) :
  Calls Tryz.prog 88 #[.int .i64 x, .agg #[.string kx, .int .i64 ki], pt eb, pt wb, pt ob, pt pb, pt nb] W R := by
 have hb90 : ∀ w', (Instr.build 120 #[(0, .int .i64 kn), (1, .int .i64 vn)]).run Tryz.prog w' = .ok (.agg #[.int .i64 kn, .int .i64 vn]) w' := fun w' => run_build w' 120 _ _ (by kernel_rfl)
 have H44 := hidc h44
 have H28 := hidc h28
 have HF := hidc hfin
 have hol : ob < W.heap.size := cell_ltk c2
 have hpl : pb < W.heap.size := cell_ltk c3
 have hel : eb < W.heap.size := cell_ltk c0
 unfold pt at c3 c4
 have HSG : Hid (∀ W', Below (W.alloc (.cells #[.string kx, .int .i64 ki] 31)).heap.size (W.alloc (.cells #[.string kx, .int .i64 ki] 31)) W' → Sg ob pb W.heap.size kb vb v kx ki W') := fun W' hW => by
  have hs : (W.alloc (.cells #[.string kx, .int .i64 ki] 31)).heap.size = W.heap.size + 1 := by simp
  have k : ∀ {b j : Nat} {u : Value}, W.cell? ⟨b, j, none⟩ = some u → W'.cell? ⟨b, j, none⟩ = some u := fun {b j u} h => by
   have hl := cell_ltk h
   rw [hW.cell (p := ⟨b, j, none⟩) (by rw [hs]; exact Nat.lt_succ_of_lt hl), World.cell?_alloc_lt]
   ·
    exact h
   ·
    exact hl
  have kb2 := heap_alloc_new W (.cells #[.string kx, .int .i64 ki] 31)
  refine ⟨k c2, k c3, k c4, ?_, ?_⟩
  ·
   rw [hW.cell (p := ⟨W.heap.size, 0, none⟩) (by rw [hs]; exact Nat.lt_succ_self _)]
   exact box_cells kb2 0 _ rfl
  ·
   rw [hW.cell (p := ⟨W.heap.size, 1, none⟩) (by rw [hs]; exact Nat.lt_succ_self _)]
   exact box_cells kb2 1 _ rfl
 have c0' : (W.alloc (.cells #[.string kx, .int .i64 ki] 31)).cell? ⟨eb, 0, none⟩ = some (.bool false) := by rw [World.cell?_alloc_lt]; exact c0; exact hel
 have BD := hidc (show Below (W.alloc (.cells #[.string kx, .int .i64 ki] 31)).heap.size (W.alloc (.cells #[.string kx, .int .i64 ki] 31)) (W.alloc (.cells #[.string kx, .int .i64 ki] 31)).drew from (Below.refl _ _).drew)
 clear h44 h28 hfin c0 c2 c3 c4 hol hpl hel
 unfold pt at *
 go_enter Tryz.func88, Tryz.ntmps88
 go_wp2_with fail
 refine wp_region_T (Sg ob pb W.heap.size kb vb v kx ki) 12 (by kernel_rfl) (HSG.out _ BD.out) (fun hHeld => ?_)
 change wpAnyT _ _ _ _ _ _ 13 #[false, false, false, false, false, false, false, false, false, false, false, false, false] _ (World.drew _)
 refine wpAnyT_take (i := 0) (oi := zgv0) (v := v) rfl (by kernel_rfl) (by kernel_rfl) (by kernel_rfl) (by kernel_rfl) (fun _ _ _ h => h) (Or.inl ⟨by kernel_rfl, by intro wq hSw; obtain ⟨s1, s2, s3, s4, s5⟩ := hSw; clear hHeld; go_simp⟩) hHeld ?_
 simp only [Act.put, nrA, nrB, nrC]
 refine wpAnyT_take (i := 1) (oi := zgv1) (v := .pointer (some ⟨pb, 2, none⟩)) rfl (by kernel_rfl) (by kernel_rfl) (by kernel_rfl) (by kernel_rfl) (fun _ _ _ h => h) (Or.inl ⟨by kernel_rfl, by intro wq hSw; obtain ⟨s1, s2, s3, s4, s5⟩ := hSw; clear hHeld; go_simp⟩) hHeld ?_
 simp only [Act.put, nrA, nrB, nrC]
 refine wpAnyT_take (i := 2) (oi := zgv2) (v := .pointer (some ⟨kb, 0, none⟩)) rfl (by kernel_rfl) (by kernel_rfl) (by kernel_rfl) (by kernel_rfl) (fun _ _ _ h => h) (Or.inl ⟨by kernel_rfl, by intro wq hSw; obtain ⟨s1, s2, s3, s4, s5⟩ := hSw; clear hHeld; go_simp⟩) hHeld ?_
 simp only [Act.put, nrA, nrB, nrC]
 refine wpAnyT_take (i := 3) (oi := zgv3) (v := .int .i64 x) rfl (by kernel_rfl) (by kernel_rfl) (by kernel_rfl) (by kernel_rfl) (fun _ _ _ h => h) (Or.inl ⟨by kernel_rfl, by intro wq hSw; obtain ⟨s1, s2, s3, s4, s5⟩ := hSw; clear hHeld; go_simp⟩) hHeld ?_
 simp only [Act.put, nrA, nrB, nrC]
 refine wpAnyT_take (i := 5) (oi := zgv4) (v := .pointer (some ⟨pb, 3, none⟩)) rfl (by kernel_rfl) (by kernel_rfl) (by kernel_rfl) (by kernel_rfl) (fun _ _ _ h => h) (Or.inl ⟨by kernel_rfl, by intro wq hSw; obtain ⟨s1, s2, s3, s4, s5⟩ := hSw; clear hHeld; go_simp⟩) hHeld ?_
 simp only [Act.put, nrA, nrB, nrC]
 refine wpAnyT_take (i := 6) (oi := zgv5) (v := .pointer (some ⟨vb, 0, none⟩)) rfl (by kernel_rfl) (by kernel_rfl) (by kernel_rfl) (by kernel_rfl) (fun _ _ _ h => h) (Or.inl ⟨by kernel_rfl, by intro wq hSw; obtain ⟨s1, s2, s3, s4, s5⟩ := hSw; clear hHeld; go_simp⟩) hHeld ?_
 simp only [Act.put, nrA, nrB, nrC]
 refine wpAnyT_take (i := 7) (oi := zgv6) (v := .agg #[.string kx, .int .i64 ki]) rfl (by kernel_rfl) (by kernel_rfl) (by kernel_rfl) (by kernel_rfl) (fun _ _ _ h => h) (Or.inl ⟨by kernel_rfl, by intro wq hSw; obtain ⟨s1, s2, s3, s4, s5⟩ := hSw; clear hHeld; go_simp⟩) hHeld ?_
 simp only [Act.put, nrA, nrB, nrC]
 refine wpAnyT_ready (rs := [4]) (by kernel_rfl) (by simp) ?_
 refine AllReadyT.cons (o := zgv7) (by rfl) (fun K hK => ?_) AllReadyT.nil
 clear hHeld
 go_simp
 go_wp2_with (go_at_call 34; refine (H28.out _ BD.out).mono ?_; rintro e w5 ⟨rfl, h5⟩; obtain rfl := h5.symm; clear h5)
 refine hK.out _ _ (HSG.out _ BD.out) (fun hHeld => ?_)
 clear hK K
 (try simp only [Act.put, nrA, nrB, nrC])
 refine wpAnyT_ready (rs := [8]) (by kernel_rfl) (by simp) ?_
 refine AllReadyT.cons (o := zgv8) (by rfl) (fun K hK => ?_) AllReadyT.nil
 clear hHeld
 go_simp
 go_wp2_with (go_at_call 21; refine (H44.out _ BD.out).mono ?_; rintro e w4 ⟨rfl, hb4⟩)
 have BWx := hidc (show Below (W.alloc (.cells #[.string kx, .int .i64 ki] 31)).heap.size (W.alloc (.cells #[.string kx, .int .i64 ki] 31)) w4 from (BD.out).trans (hb4.mono (BD.out).size))
 clear hb4
 refine hK.out _ _ (HSG.out _ BWx.out) (fun hHeld => ?_)
 clear hK K
 (try simp only [Act.put, nrA, nrB, nrC])
 refine wpAnyT_take (i := 9) (oi := zgv9) (v := .agg #[.int .i64 kn, .int .i64 vn]) rfl (by kernel_rfl) (by kernel_rfl) (by kernel_rfl) (by kernel_rfl) (fun _ _ _ h => h) (Or.inl ⟨by kernel_rfl, by intro wq hSw; clear hSw hHeld; go_simp⟩) hHeld ?_
 simp only [Act.put, nrA, nrB, nrC]
 refine wpAnyT_ready (rs := [10]) (by kernel_rfl) (by simp) ?_
 refine AllReadyT.cons (o := zgv10) (by rfl) (fun K hK => ?_) AllReadyT.nil
 clear hHeld
 go_simp
 have SA := hidc (HSG.out _ (BWx.out.alloc BWx.out.size (.cells #[.int .i64 kn, .int .i64 vn] 120)))
 refine hK.out _ _ SA.out (fun hHeld => ?_)
 clear hK K
 (try simp only [Act.put, nrA, nrB, nrC])
 obtain ⟨va, nl, ca, w9, hnl, hr, s9, hf9, z1, z2, z3, hZ⟩ := HF.out _ BWx.out
 have HRN := hidc hr
 have HZ := hidc hZ
 clear hr hZ
 refine wpAnyT_ready (rs := [11]) (by kernel_rfl) (by simp) ?_
 refine AllReadyT.cons (o := zgv11) (by rfl) (fun K hK => ?_) AllReadyT.nil
 clear hHeld
 refine step_append_runk rfl (.tmp 11) (.tmp 21) 90 90 rfl _ _ rfl rfl _ w9 HRN.out ?_
 refine hK.out _ _ s9 (fun hHeld => ?_)
 clear hK K
 (try simp only [Act.put, nrA, nrB, nrC])
 refine wpAnyT_ready (rs := [12]) (by kernel_rfl) (by simp) ?_
 refine AllReadyT.last (o := zgv12) (by rfl) (fun K hK => ?_)
 have hHd := hHeld
 obtain ⟨q1, -, -, -, -⟩ := hHd
 clear hHeld
 go_simp
 refine hK.out _ _ ?_
 clear hK K
 (try simp only [Act.put, nrA, nrB, nrC])
 refine wpAnyT_done (by kernel_rfl) ?_ _
 have a0 : (w9.setCell ⟨ob, 0, none⟩ (.slice va nl ca)).cell? ⟨ob, 0, none⟩ = some (.slice va nl ca) := World.cell?_setCell_same _ _ _ q1
 clear q1 s9 SA
 go_wp2_with fail
 (try go_ret)

 exact HZ.out
end Go.Proofs.YtdhinpmjbcohaaaGreat.Jb
