import Derived.Test.YtdhinpmjbcohaaaHf
import Derived.Test.YtdhinpmjbcohaaaHg
namespace Go.Proofs.Ytdhinpmjbcohaaa
open Go Go.RowKit Go.Shelf
set_option linter.unusedSimpArgs false
set_option linter.unusedVariables false
open Rf (e2 e2_len e2_app e2_one e2_at ER own_er own_shape app_many addr0 RS AftR)

/-- Both hold the same; N: how much at most. -/
structure Rel (l : List (Si.Ky × Si.Vt)) (M : List (Int × Int)) (C : List Si.Ky) (D : List Si.Vt) (N : Nat) : Prop where
  m : M = l.map (nu C D)
  hC : C = [] ∨ Cod zk C
  hD : D = [] ∨ Cod 0 D
  iC : ∀ p ∈ l, p.1 ∈ C
  iD : ∀ p ∈ l, p.2 ∈ D
  nl : l.length ≤ N
  nC : C.length ≤ 4 * N
  nD : D.length ≤ 4 * N
theorem Rel.asked {l : List (Si.Ky × Si.Vt)} {M : List (Int × Int)} {C : List Si.Ky} {D : List Si.Vt} {N : Nat} (h : Rel l M C D N) (k : Si.Ky) (v : Si.Vt) : Rel l M (ext zk C k) (ext 0 D v) (N + 1) := by
  obtain ⟨a, b, c⟩ := nu_stay h.hC h.hD h.iC h.iD k v
  have l1 := ext_len zk C k
  have l2 := ext_len (0 : Int) D v
  exact ⟨h.m.trans a, .inr (cod_ext _ _ _ h.hC), .inr (cod_ext _ _ _ h.hD), b, c, by have := h.nl; omega, by have := h.nC; omega, by have := h.nD; omega⟩
/-- A list whose entries are the old ones. -/
theorem Rel.less {l l' : List (Si.Ky × Si.Vt)} {M : List (Int × Int)} {C : List Si.Ky} {D : List Si.Vt} {N : Nat} (h : Rel l M C D N) (hs : ∀ p ∈ l', p ∈ l) (hl : l'.length ≤ l.length) : Rel l' (l'.map (nu C D)) C D N :=
  ⟨rfl, h.hC, h.hD, fun p hp => h.iC p (hs p hp), fun p hp => h.iD p (hs p hp), Nat.le_trans hl h.nl, h.nC, h.nD⟩
theorem lout_mem' {l : List (Si.Ky × Si.Vt)} {k : Si.Ky} {p : Si.Ky × Si.Vt} (h : p ∈ lout l k) : p ∈ l := (lout_mem.1 h).1
theorem lout_len' (l : List (Si.Ky × Si.Vt)) (k : Si.Ky) : (lout l k).length ≤ l.length := List.length_filter_le _ _
theorem lout_lt {l : List (Si.Ky × Si.Vt)} {k : Si.Ky} {v : Si.Vt} (h : lget l k = some v) : (lout l k).length < l.length := by
  have hm := lget_some h
  unfold lout
  refine List.length_filter_lt_length_iff_exists.2 ⟨(k, v), hm, ?_⟩
  simp
set_option maxHeartbeats 1000000 in
/-- DOES, WHOLE: one call of both caches. -/
theorem does_any {w : World} {cb mb kb vb room N : Nat} {l : List (Si.Ky × Si.Vt)} {M : List (Int × Int)} {C : List Si.Ky} {D : List Si.Vt} {F G1 G2 G3 : Nat → Prop} (kind : Int) (k : Si.Ky) (v : Si.Vt) (stop : Int) (h : PR w cb mb kb vb room l M C D F G1 G2 G3) (hr : Rel l M C D N) (hN : N ≤ 1000) (hroom : room ≤ 1048576) (hk : Si.okK k) :
    Calls Try.prog 8 #[.agg #[pt cb, pt mb, pt kb, pt vb], .int .i64 kind, Si.kc k, Si.vc v, .int .i64 stop] w fun r w' => r = .returned (.bool true) ∧ ∃ l' M' C' D', PG (fun j => F j ∨ G1 j ∨ G2 j ∨ G3 j) w cb mb kb vb room l' M' C' D' w' ∧ Rel l' M' C' D' (N + 1) := by
  obtain ⟨T, hT⟩ : ∃ T : Nat → Prop, T = fun j => F j ∨ G1 j ∨ G2 j ∨ G3 j := ⟨_, rfl⟩
  rw [← hT]
  have hTl : ∀ j, T j → j < w.heap.size := fun j hj => h.lt (by rw [hT] at hj; exact hj)
  obtain ⟨w1, hw1⟩ : ∃ w1, w1 = w.alloc (.cells #[pt cb, pt mb, pt kb, pt vb] 28) := ⟨_, rfl⟩
  have s1 : w1.heap.size = w.heap.size + 1 := by rw [hw1]; simp
  have n1 : w1.heap[w.heap.size]? = some (.cells #[pt cb, pt mb, pt kb, pt vb] 28 (0, 0)) := by rw [hw1]; exact (MapKept.heap_alloc _ _).1
  have o1 : ∀ j, j < w.heap.size → w1.heap[j]? = w.heap[j]? := fun j hj => by
    rw [hw1]
    exact (World.grownBy_alloc _ _ none).block j hj (by simp)
  have start : PG T w1 cb mb kb vb room l M C D w1.drew := ⟨F, G1, G2, G3, h.heap (fun j hj => o1 j (h.lt hj)), fun j hj => .inl (by rw [hT]; exact hj), ch_drew _ _⟩
  have bq : ∀ {l M C D W}, PG T w1 cb mb kb vb room l M C D W → BQ W cb mb kb vb w.heap.size := fun {l M C D W} hp => by
    obtain ⟨_, _, _, _, _, _, q⟩ := hp
    have n2 := (q.block w.heap.size (by omega) (fun x => by have := hTl _ x; omega)).trans n1
    exact ⟨box_cells n2 0 _ rfl, box_cells n2 1 _ rfl, box_cells n2 2 _ rfl, box_cells n2 3 _ rfl⟩
  have back : ∀ {l M C D W}, PG T w1 cb mb kb vb room l M C D W → PG T w cb mb kb vb room l M C D W := fun {l M C D W} hp => by
    obtain ⟨F', G1', G2', G3', q1, q2, q3⟩ := hp
    refine ⟨F', G1', G2', G3', q1, fun j hj => ?_, (by rw [hw1]; exact ch_alloc T _ _ : Ch T w w1).then q3⟩
    rcases q2 j hj with q | q
    · exact .inl q
    · exact .inr (by omega)
  obtain ⟨C', hC'⟩ : ∃ C', C' = ext zk C k := ⟨_, rfl⟩
  obtain ⟨D', hD'⟩ : ∃ D', D' = ext 0 D v := ⟨_, rfl⟩
  have hr' : Rel l M C' D' (N + 1) := by
    rw [hC', hD']
    exact hr.asked k v
  have hkC : k ∈ C' := by rw [hC']; exact ext_mem _ _ _
  have hvD : v ∈ D' := by rw [hD']; exact ext_mem _ _ _
  have cC : Cod zk C' := by rw [hC']; exact cod_ext _ _ _ hr.hC
  have cD : Cod 0 D' := by rw [hD']; exact cod_ext _ _ _ hr.hD
  have b1 := hr.nC
  have b2 := hr.nD
  have b3 := hr'.nC
  have b4 := hr'.nD
  have b5 := hr'.nl
  have b6 : M.length = l.length := by rw [hr.m]; simp
  have hnl := hr.nl
  have h1 : Calls Try.prog 27 #[.pointer (some ⟨kb, 0, none⟩), .string k] (w.alloc (.cells #[pt cb, pt mb, pt kb, pt vb] 28)).drew fun r w' => r = .returned (.int .i64 (ix k C')) ∧ BQ w' cb mb kb vb w.heap.size ∧ PG T w1 cb mb kb vb room l M C' D w' := by
    rw [← hw1]
    refine (start.ofk k (by omega)).mono ?_
    rintro r w' ⟨rfl, q⟩
    rw [← hC'] at q ⊢
    exact ⟨rfl, bq q, q⟩
  have h2 : ∀ W, PG T w1 cb mb kb vb room l M C' D W → Calls Try.prog 28 #[.pointer (some ⟨vb, 0, none⟩), .int .i64 v] W fun r w' => r = .returned (.int .i64 (ix v D')) ∧ BQ w' cb mb kb vb w.heap.size ∧ PG T w1 cb mb kb vb room l M C' D' w' := fun W hW => by
    refine (hW.ofv v (by omega)).mono ?_
    rintro r w' ⟨rfl, q⟩
    rw [← hD'] at q ⊢
    exact ⟨rfl, bq q, q⟩
  have eget : lget M (ix k C' : Int) = (lget l k).map (fun v => (ix v D' : Int)) := by
    rw [hr'.m]
    exact lget_nu hr'.iC hkC
  have eout : lout M (ix k C' : Int) = (lout l k).map (nu C' D') := by
    rw [hr'.m]
    exact lout_nu hr'.iC hkC
  by_cases k1 : kind = 1
  · refine does_get k1 _ h1 h2 (a := (lget l k).getD 0) (b := (lget M (ix k C' : Int)).getD 0) (ok := (lget l k).isSome) (K3 := PG T w1 cb mb kb vb room (Si.lused l k) M C' D') (K4 := PG T w1 cb mb kb vb room (Si.lused l k) ((Si.lused l k).map (nu C' D')) C' D') (fun W hW => ?_) (fun W hW => ?_) (fun W hW => ?_)
    · refine (hW.stepc (fun F' hF => Si.get_any hF hk)).mono ?_
      rintro r w' ⟨rfl, q⟩
      exact ⟨rfl, bq q, q⟩
    · refine (hW.stepm (fun G hG => Rf.rget_any hG _ (by omega))).mono ?_
      rintro r w' ⟨rfl, q⟩
      have e : (match lget M (ix k C' : Int) with | some v => ltop (ix k C' : Int) v M | none => M) = (Si.lused l k).map (nu C' D') := by
        rw [eget]
        unfold Si.lused
        cases hg : lget l k with
        | none => exact hr'.m
        | some x =>
          show ltop (ix k C' : Int) (ix x D' : Int) M = _
          rw [hr'.m]
          exact ltop_nu hr'.iC hkC
      have q' : PG T w1 cb mb kb vb room (Si.lused l k) (match lget M (ix k C' : Int) with | some v => ltop (ix k C' : Int) v M | none => M) C' D' w' := q
      rw [e] at q'
      exact ⟨by rw [eget]; cases lget l k <;> rfl, bq q', q'⟩
    · refine (hW.ofv _ (by omega)).mono ?_
      rintro r w' ⟨rfl, q⟩
      have hx : (lget l k).getD 0 ∈ D' ∧ (ix ((lget l k).getD 0) D' : Int) = (lget M (ix k C' : Int)).getD 0 := by
        rw [eget]
        cases hg : lget l k with
        | none => exact ⟨(cod_zero cD).1, by simp [(cod_zero cD).2]⟩
        | some x => exact ⟨hr'.iD _ (lget_some hg), rfl⟩
      rw [ext_same cD hx.1] at q ⊢
      rw [hx.2]
      refine ⟨rfl, rfl, _, _, _, _, back q, ?_⟩
      unfold Si.lused
      cases hg : lget l k with
      | none => exact hr'.less (fun p hp => hp) (Nat.le_refl _)
      | some x =>
        refine hr'.less (fun p hp => ?_) ?_
        · rcases List.mem_cons.1 hp with rfl | hp
          · exact lget_some hg
          · exact lout_mem' hp
        · have := lout_lt hg
          simp only [ltop, List.length_cons]
          omega
  by_cases k2 : kind = 2
  · refine does_put (K4 := fun _ => True) k2 _ h1 h2 (K3 := PG T w1 cb mb kb vb room ((ltop k v l).take room) M C' D') (fun W hW => ?_) (fun W hW => ?_)
    · refine (hW.stepc (fun F' hF => Si.put_any hF hk hroom)).mono ?_
      rintro r w' ⟨rfl, q⟩
      exact ⟨rfl, bq q, q⟩
    · refine (hW.stepm (fun G hG => Rf.rput_any hG _ _ (by omega))).mono ?_
      rintro r w' ⟨rfl, q⟩
      have e : (ltop (ix k C' : Int) (ix v D' : Int) M).take room = ((ltop k v l).take room).map (nu C' D') := by
        rw [hr'.m, ltop_nu hr'.iC hkC, List.map_take]
      rw [e] at q
      have hmem : ∀ p ∈ (ltop k v l).take room, p = (k, v) ∨ p ∈ l := fun p hp => by
        rcases List.mem_cons.1 (List.mem_of_mem_take hp) with rfl | hp
        · exact .inl rfl
        · exact .inr (lout_mem' hp)
      refine ⟨rfl, rfl, _, _, _, _, back q, rfl, hr'.hC, hr'.hD, fun p hp => ?_, fun p hp => ?_, ?_, hr'.nC, hr'.nD⟩
      · rcases hmem p hp with rfl | hp
        · exact hkC
        · exact hr'.iC p hp
      · rcases hmem p hp with rfl | hp
        · exact hvD
        · exact hr'.iD p hp
      · have := lout_len' l k
        simp only [ltop, List.length_take, List.length_cons]
        omega
  by_cases k3 : kind = 3
  · refine does_drop (K4 := fun _ => True) k3 _ h1 h2 (ok := (lget l k).isSome) (K3 := PG T w1 cb mb kb vb room (lout l k) M C' D') (fun W hW => ?_) (fun W hW => ?_)
    · refine (hW.drew.stepc (fun F' hF => Si.drop_any hF hk)).mono ?_
      rintro r w' ⟨rfl, q⟩
      exact ⟨rfl, bq q, q⟩
    · refine (hW.stepm (fun G hG => Rf.rdrop_any hG _ (by omega))).mono ?_
      rintro r w' ⟨rfl, q⟩
      rw [eout] at q
      exact ⟨by rw [eget]; cases lget l k <;> rfl, bq q, rfl, _, _, _, _, back q, hr'.less (fun p hp => lout_mem' hp) (lout_len' l k)⟩
  by_cases k4 : kind = 4
  · refine does_clear (K4 := fun _ => True) k4 _ h1 h2 (a := (l.length : Int)) (K3 := PG T w1 cb mb kb vb room [] M C' D') (fun W hW => ?_) (fun W hW => ?_)
    · refine (hW.drew.stepc (fun F' hF => Si.clear_any hF)).mono ?_
      rintro r w' ⟨rfl, q⟩
      exact ⟨rfl, bq q, q⟩
    · refine (hW.stepm (fun G hG => Rf.rclear_any hG)).mono ?_
      rintro r w' ⟨rfl, q⟩
      exact ⟨by rw [b6], bq q, rfl, _, _, _, _, back q, hr'.less (l' := []) (fun p hp => (by cases hp)) (by simp)⟩
  by_cases k5 : kind = 5
  · have hm0 : ∀ W, PG T w1 cb mb kb vb room l M C' D' W → ∃ ad cap, W.cell? ⟨mb, 1, none⟩ = some (.slice ad l.length cap) := fun W hW => by
      obtain ⟨_, _, _, _, q, _⟩ := hW
      obtain ⟨⟨va, q1, q2, _⟩, _⟩ := q.m
      obtain ⟨a, c, rfl⟩ := own_shape q2
      rw [b6] at q1
      exact ⟨a, c, box_cells q1 1 _ rfl⟩
    refine does_len (K3 := fun _ => True) (K4 := fun _ => True) k5 _ h1 h2 (ln := l.length) (fun W hW => ?_) (fun W hW => hm0 W hW)
    have hW0 := hW.drew
    obtain ⟨F', _, _, _, q, _⟩ := hW.drew
    refine (Si.len_any q.c).mono ?_
    rintro r w' ⟨rfl, rfl⟩
    exact ⟨rfl, rfl, rfl, _, _, _, _, back hW0, hr'⟩
  by_cases k6 : kind = 6
  · have elast : M.getLast? = l.getLast?.map (nu C' D') := by rw [hr'.m, List.getLast?_map]
    refine does_oldest k6 _ h1 h2 (a := (l.getLast?.map (·.1)).getD zk) (b := (M.getLast?.map (·.1)).getD 0) (ok := l.getLast?.isSome) (K3 := PG T w1 cb mb kb vb room l M C' D') (K4 := PG T w1 cb mb kb vb room l M C' D') (fun W hW => ?_) (fun W hW => ?_) (fun W hW => ?_)
    · have hW0 := hW
      obtain ⟨F', _, _, _, q, _⟩ := hW
      refine (Si.oldest_any q.c).mono ?_
      rintro r w' ⟨rfl, rfl⟩
      exact ⟨rfl, bq hW0, hW0⟩
    · have hW0 := hW
      obtain ⟨F', _, _, _, q, _⟩ := hW
      refine (Rf.roldest_any q.m (by omega)).mono ?_
      rintro r w' ⟨rfl, q2⟩
      have q3 : PG T w1 cb mb kb vb room l M C' D' w' := by
        rcases q2 with rfl | rfl
        · exact hW0
        · exact hW0.drew
      refine ⟨?_, bq q3, q3⟩
      rw [elast]
      cases l.getLast? <;> rfl
    · refine (hW.ofk _ (by omega)).mono ?_
      rintro r w' ⟨rfl, q⟩
      have hx : (l.getLast?.map (·.1)).getD zk ∈ C' ∧ (ix ((l.getLast?.map (·.1)).getD zk) C' : Int) = (M.getLast?.map (·.1)).getD 0 := by
        rw [elast]
        cases hg : l.getLast? with
        | none => exact ⟨(cod_zero cC).1, by simp [(cod_zero cC).2]⟩
        | some x => exact ⟨hr'.iC _ (List.mem_of_getLast? hg), rfl⟩
      rw [ext_same cC hx.1] at q ⊢
      rw [hx.2]
      exact ⟨rfl, rfl, _, _, _, _, back q, hr'⟩
  by_cases k7 : kind = 7
  · refine does_all (K3 := fun _ => True) (K4 := fun _ => True) k7 _ h1 h2 (fun W hW => ?_)
    have hW' : PG T w1 cb mb kb vb room l (l.map (nu C' D')) C' D' W := by
      rw [← hr'.m]
      exact hW
    refine (hW'.alls (by omega) hr'.iC hr'.iD (by omega) (by omega) stop).mono ?_
    rintro r w' ⟨rfl, q⟩
    rw [← hr'.m] at q
    exact ⟨rfl, rfl, _, _, _, _, back q, hr'⟩
  · refine does_else (K3 := fun _ => True) (K4 := fun _ => True) ⟨k1, k2, k3, k4, k5, k6, k7⟩ _ h1 h2 (fun W hW => ?_)
    exact ⟨rfl, _, _, _, _, back hW, hr'⟩
end Go.Proofs.Ytdhinpmjbcohaaa
