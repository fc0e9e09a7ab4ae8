import Derived.Test.YtdhinpmjbcohaaaGreatJbhe
namespace Go.Proofs.YtdhinpmjbcohaaaGreat.Jb
open Go Go.RowKit Go.Shelf
set_option linter.unusedSimpArgs false
set_option linter.unusedVariables false
open Rf (e2 e2_len e2_app e2_one e2_at ER own_er own_shape app_many addr0 RS AftR)

section
variable {K V : Type} [DecidableEq K] [DecidableEq V]
def nu (C : List K) (D : List V) (p : K × V) : Int × Int := ((ix p.1 C : Int), (ix p.2 D : Int))
theorem nu_key {C : List K} {D : List V} {p : K × V} {k : K} (hp : p.1 ∈ C) (hk : k ∈ C) : decide ((nu C D p).1 = (ix k C : Int)) = decide (p.1 = k) := by
 by_cases h : p.1 = k
 ·
  subst h
  simp [nu]
 ·
  rw [decide_eq_false h, decide_eq_false]
  intro q
  have q : (ix p.1 C : Int) = (ix k C : Int) := q
  exact h (ix_inj hp hk (by omega))
theorem lget_nu {C : List K} {D : List V} : ∀ {l : List (K × V)} {k : K}, (∀ p ∈ l, p.1 ∈ C) → k ∈ C → lget (l.map (nu C D)) (ix k C : Int) = (lget l k).map (fun v => (ix v D : Int))
 | [], k, _, _ => rfl
 | p :: l, k, h, hk => by
  have ih := lget_nu (D := D) (l := l) (k := k) (fun q hq => h q (by simp [hq])) hk
  unfold lget at ih ⊢
  rw [List.map_cons, List.find?_cons, List.find?_cons, nu_key (h p (by simp)) hk]
  by_cases e : p.1 = k
  ·
   simp [e, nu]
  ·
   simp only [decide_eq_false e]
   exact ih
theorem lout_nu {C : List K} {D : List V} {l : List (K × V)} {k : K} (h : ∀ p ∈ l, p.1 ∈ C) (hk : k ∈ C) : lout (l.map (nu C D)) (ix k C : Int) = (lout l k).map (nu C D) := by
 unfold lout
 rw [List.filter_map]
 congr 1
 refine List.filter_congr (fun p hp => ?_)
 simp only [Function.comp]
 rw [nu_key (h p hp) hk]
theorem ltop_nu {C : List K} {D : List V} {l : List (K × V)} {k : K} {v : V} (h : ∀ p ∈ l, p.1 ∈ C) (hk : k ∈ C) : ltop (ix k C : Int) (ix v D : Int) (l.map (nu C D)) = (ltop k v l).map (nu C D) := by
 unfold ltop
 rw [lout_nu h hk]
 rfl
theorem nu_stay {zk : K} {zv : V} {C : List K} {D : List V} {l : List (K × V)} (hC : C = [] ∨ Cod zk C) (hD : D = [] ∨ Cod zv D) (iC : ∀ p ∈ l, p.1 ∈ C) (iD : ∀ p ∈ l, p.2 ∈ D) (k : K) (v : V) :
  l.map (nu C D) = l.map (nu (ext zk C k) (ext zv D v)) ∧ (∀ p ∈ l, p.1 ∈ ext zk C k) ∧ ∀ p ∈ l, p.2 ∈ ext zv D v := by
 have a : ∀ p ∈ l, p.1 ∈ ext zk C k ∧ ix p.1 (ext zk C k) = ix p.1 C := fun p hp => by
  rcases hC with rfl | h
  ·
   cases iC p hp
  ·
   exact ext_stay h k (iC p hp)
 have b : ∀ p ∈ l, p.2 ∈ ext zv D v ∧ ix p.2 (ext zv D v) = ix p.2 D := fun p hp => by
  rcases hD with rfl | h
  ·
   cases iD p hp
  ·
   exact ext_stay h v (iD p hp)
 refine ⟨List.map_congr_left (fun p hp => ?_), fun p hp => (a p hp).1, fun p hp => (b p hp).1⟩
 unfold nu
 rw [(a p hp).2, (b p hp).2]
end

abbrev zk : Kb.Ky := 0
structure PR (w : World) (cb mb kb vb room : Nat) (l : List (Kb.Ky × Kb.Vt)) (M : List (Int × Int)) (C : List Kb.Ky) (D : List Kb.Vt) (F G1 G2 G3 : Nat → Prop) : Prop where
 c : Kb.CS w cb room l F
 k : Qi.CD w kb C G1
 v : Qk.CD w vb D G2
 m : RS w mb room M G3
 d1 : ∀ j, F j → ¬ G1 j ∧ ¬ G2 j ∧ ¬ G3 j
 d2 : ∀ j, G1 j → ¬ G2 j ∧ ¬ G3 j
 d3 : ∀ j, G2 j → ¬ G3 j
def PG (T : Nat → Prop) (w0 : World) (cb mb kb vb room : Nat) (l : List (Kb.Ky × Kb.Vt)) (M : List (Int × Int)) (C : List Kb.Ky) (D : List Kb.Vt) (w : World) : Prop :=
 ∃ F G1 G2 G3, PR w cb mb kb vb room l M C D F G1 G2 G3 ∧ (∀ j, F j ∨ G1 j ∨ G2 j ∨ G3 j → T j ∨ w0.heap.size ≤ j) ∧ Ch T w0 w
theorem PR.heap {w w' : World} {cb mb kb vb room : Nat} {l : List (Kb.Ky × Kb.Vt)} {M : List (Int × Int)} {C : List Kb.Ky} {D : List Kb.Vt} {F G1 G2 G3 : Nat → Prop} (h : PR w cb mb kb vb room l M C D F G1 G2 G3) (hk : ∀ j, F j ∨ G1 j ∨ G2 j ∨ G3 j → w'.heap[j]? = w.heap[j]?) : PR w' cb mb kb vb room l M C D F G1 G2 G3 := by
 refine ⟨?_, h.k.keep (fun j hj => hk j (.inr (.inl hj))), h.v.keep (fun j hj => hk j (.inr (.inr (.inl hj)))), h.m.keep (fun j hj => hk j (.inr (.inr (.inr hj)))), h.d1, h.d2, h.d3⟩
 obtain ⟨mv, L, n, o, ky, vl, h1, e, hF, hl⟩ := h.c
 exact ⟨mv, L, n, o, ky, vl, h1.keep (fun j hj => hk j (.inl ((hF j).2 hj))), e, hF, hl⟩
theorem PR.lt {w : World} {cb mb kb vb room : Nat} {l : List (Kb.Ky × Kb.Vt)} {M : List (Int × Int)} {C : List Kb.Ky} {D : List Kb.Vt} {F G1 G2 G3 : Nat → Prop} (h : PR w cb mb kb vb room l M C D F G1 G2 G3) {j : Nat} (hj : F j ∨ G1 j ∨ G2 j ∨ G3 j) : j < w.heap.size := by
 rcases hj with q | q | q | q
 ·
  exact h.c.lt q
 ·
  exact h.k.lt q
 ·
  exact h.v.lt q
 ·
  exact h.m.lt q
theorem PG.same {T : Nat → Prop} {w0 w w' : World} {cb mb kb vb room : Nat} {l : List (Kb.Ky × Kb.Vt)} {M : List (Int × Int)} {C : List Kb.Ky} {D : List Kb.Vt} (h : PG T w0 cb mb kb vb room l M C D w) (hb : Below w.heap.size w w') : PG T w0 cb mb kb vb room l M C D w' := by
 obtain ⟨F, G1, G2, G3, h1, h2, h3⟩ := h
 exact ⟨F, G1, G2, G3, h1.heap (fun j hj => hb.block j (h1.lt hj)), h2, h3.then (Below.ch hb)⟩
theorem PG.drew {T : Nat → Prop} {w0 w : World} {cb mb kb vb room : Nat} {l : List (Kb.Ky × Kb.Vt)} {M : List (Int × Int)} {C : List Kb.Ky} {D : List Kb.Vt} (h : PG T w0 cb mb kb vb room l M C D w) : PG T w0 cb mb kb vb room l M C D w.drew := h.same (Below.drew (Below.refl _ _))
theorem PG.ch {T : Nat → Prop} {w0 w w' : World} {cb mb kb vb room : Nat} {S : Nat → Prop} {F G1 G2 G3 F' G1' G2' G3' : Nat → Prop} {l' : List (Kb.Ky × Kb.Vt)} {M' : List (Int × Int)} {C' : List Kb.Ky} {D' : List Kb.Vt} (h2 : ∀ j, F j ∨ G1 j ∨ G2 j ∨ G3 j → T j ∨ w0.heap.size ≤ j) (h3 : Ch T w0 w)
  (hS : ∀ j, S j → F j ∨ G1 j ∨ G2 j ∨ G3 j) (hc : Ch S w w') (hp : PR w' cb mb kb vb room l' M' C' D' F' G1' G2' G3') (hn : ∀ j, F' j ∨ G1' j ∨ G2' j ∨ G3' j → (F j ∨ G1 j ∨ G2 j ∨ G3 j) ∨ w.heap.size ≤ j) : PG T w0 cb mb kb vb room l' M' C' D' w' := by
 refine ⟨F', G1', G2', G3', hp, fun j hj => ?_, h3.trans hc (fun j hj q => ?_)⟩
 ·
  rcases hn j hj with q | q
  ·
   exact h2 j q
  ·
   exact .inr (Nat.le_trans h3.size q)
 ·
  rcases h2 j (hS j q) with q | q
  ·
   exact q
  ·
   omega
theorem PG.stepc {T : Nat → Prop} {w0 w : World} {cb mb kb vb room f : Nat} {l l' : List (Kb.Ky × Kb.Vt)} {M : List (Int × Int)} {C : List Kb.Ky} {D : List Kb.Vt} {e : Ending} {args : Array Value} (h : PG T w0 cb mb kb vb room l M C D w)
  (hc : ∀ F, Kb.CS w cb room l F → Calls Tryz.prog f args w fun r w' => r = e ∧ Kb.Aft w cb room F l' w') : Calls Tryz.prog f args w fun r w' => r = e ∧ PG T w0 cb mb kb vb room l' M C D w' := by
 obtain ⟨F, G1, G2, G3, h1, h2, h3⟩ := h
 refine (hc F h1.c).mono ?_
 rintro r w' ⟨rfl, ⟨F', a1, a2⟩, a3⟩
 have k1 : ∀ j, G1 j → w'.heap[j]? = w.heap[j]? := fun j hj => a3.block j (h1.k.lt hj) (fun q => (h1.d1 j q).1 hj)
 have k2 : ∀ j, G2 j → w'.heap[j]? = w.heap[j]? := fun j hj => a3.block j (h1.v.lt hj) (fun q => (h1.d1 j q).2.1 hj)
 have k3 : ∀ j, G3 j → w'.heap[j]? = w.heap[j]? := fun j hj => a3.block j (h1.m.lt hj) (fun q => (h1.d1 j q).2.2 hj)
 refine ⟨rfl, PG.ch h2 h3 (fun j q => .inl q) a3 ⟨a1, h1.k.keep k1, h1.v.keep k2, h1.m.keep k3, fun j hj => ?_, h1.d2, h1.d3⟩ (fun j hj => ?_)⟩
 ·
  rcases a2 j hj with q | q
  ·
   exact h1.d1 j q
  ·
   exact ⟨fun x => by have := h1.k.lt x; omega, fun x => by have := h1.v.lt x; omega, fun x => by have := h1.m.lt x; omega⟩
 ·
  rcases hj with q | q | q | q
  ·
   rcases a2 j q with q | q
   ·
    exact .inl (.inl q)
   ·
    exact .inr q
  ·
   exact .inl (.inr (.inl q))
  ·
   exact .inl (.inr (.inr (.inl q)))
  ·
   exact .inl (.inr (.inr (.inr q)))
theorem PG.stepm {T : Nat → Prop} {w0 w : World} {cb mb kb vb room f : Nat} {l : List (Kb.Ky × Kb.Vt)} {M M' : List (Int × Int)} {C : List Kb.Ky} {D : List Kb.Vt} {e : Ending} {args : Array Value} (h : PG T w0 cb mb kb vb room l M C D w)
  (hc : ∀ G, RS w mb room M G → Calls Tryz.prog f args w fun r w' => r = e ∧ AftR w mb room G M' w') : Calls Tryz.prog f args w fun r w' => r = e ∧ PG T w0 cb mb kb vb room l M' C D w' := by
 obtain ⟨F, G1, G2, G3, h1, h2, h3⟩ := h
 refine (hc G3 h1.m).mono ?_
 rintro r w' ⟨rfl, ⟨G', a1, a2⟩, a3⟩
 have k1 : ∀ j, G1 j → w'.heap[j]? = w.heap[j]? := fun j hj => a3.block j (h1.k.lt hj) (fun q => (h1.d2 j hj).2 q)
 have k2 : ∀ j, G2 j → w'.heap[j]? = w.heap[j]? := fun j hj => a3.block j (h1.v.lt hj) (fun q => (h1.d3 j hj) q)
 refine ⟨rfl, PG.ch h2 h3 (fun j q => .inr (.inr (.inr q))) a3 ⟨h1.c.ch a3 (fun j hj => (h1.d1 j hj).2.2), h1.k.keep k1, h1.v.keep k2, a1, fun j hj => ⟨(h1.d1 j hj).1, (h1.d1 j hj).2.1, fun q => ?_⟩, fun j hj => ⟨(h1.d2 j hj).1, fun q => ?_⟩, fun j hj q => ?_⟩ (fun j hj => ?_)⟩
 ·
  rcases a2 j q with q | q
  ·
   exact (h1.d1 j hj).2.2 q
  ·
   have := h1.c.lt hj
   omega
 ·
  rcases a2 j q with q | q
  ·
   exact (h1.d2 j hj).2 q
  ·
   have := h1.k.lt hj
   omega
 ·
  rcases a2 j q with q | q
  ·
   exact (h1.d3 j hj) q
  ·
   have := h1.v.lt hj
   omega
 ·
  rcases hj with q | q | q | q
  ·
   exact .inl (.inl q)
  ·
   exact .inl (.inr (.inl q))
  ·
   exact .inl (.inr (.inr (.inl q)))
  ·
   rcases a2 j q with q | q
   ·
    exact .inl (.inr (.inr (.inr q)))
   ·
    exact .inr q
theorem PG.stepm2 {F G1 G2 G3 : Nat → Prop} {T : Nat → Prop} {w0 w : World} {cb mb kb vb room f : Nat} {l : List (Kb.Ky × Kb.Vt)} {M M' : List (Int × Int)} {C : List Kb.Ky} {D : List Kb.Vt} {e : Ending} {args : Array Value} (h1 : PR w cb mb kb vb room l M C D F G1 G2 G3) (h2 : ∀ j, F j ∨ G1 j ∨ G2 j ∨ G3 j → T j ∨ w0.heap.size ≤ j) (h3 : Ch T w0 w)
  (hc : Calls Tryz.prog f args w fun r w' => r = e ∧ AftR w mb room G3 M' w') : Calls Tryz.prog f args w fun r w' => r = e ∧ PG T w0 cb mb kb vb room l M' C D w' ∧ Ch G3 w w' := by
 refine hc.mono ?_
 rintro r w' ⟨rfl, ⟨G', a1, a2⟩, a3⟩
 have k1 : ∀ j, G1 j → w'.heap[j]? = w.heap[j]? := fun j hj => a3.block j (h1.k.lt hj) (fun q => (h1.d2 j hj).2 q)
 have k2 : ∀ j, G2 j → w'.heap[j]? = w.heap[j]? := fun j hj => a3.block j (h1.v.lt hj) (fun q => (h1.d3 j hj) q)
 refine ⟨rfl, PG.ch h2 h3 (fun j q => .inr (.inr (.inr q))) a3 ⟨h1.c.ch a3 (fun j hj => (h1.d1 j hj).2.2), h1.k.keep k1, h1.v.keep k2, a1, fun j hj => ⟨(h1.d1 j hj).1, (h1.d1 j hj).2.1, fun q => ?_⟩, fun j hj => ⟨(h1.d2 j hj).1, fun q => ?_⟩, fun j hj q => ?_⟩ (fun j hj => ?_), a3⟩
 ·
  rcases a2 j q with q | q
  ·
   exact (h1.d1 j hj).2.2 q
  ·
   have := h1.c.lt hj
   omega
 ·
  rcases a2 j q with q | q
  ·
   exact (h1.d2 j hj).2 q
  ·
   have := h1.k.lt hj
   omega
 ·
  rcases a2 j q with q | q
  ·
   exact (h1.d3 j hj) q
  ·
   have := h1.v.lt hj
   omega
 ·
  rcases hj with q | q | q | q
  ·
   exact .inl (.inl q)
  ·
   exact .inl (.inr (.inl q))
  ·
   exact .inl (.inr (.inr (.inl q)))
  ·
   rcases a2 j q with q | q
   ·
    exact .inl (.inr (.inr (.inr q)))
   ·
    exact .inr q
theorem PG.ofk {T : Nat → Prop} {w0 w : World} {cb mb kb vb room : Nat} {l : List (Kb.Ky × Kb.Vt)} {M : List (Int × Int)} {C : List Kb.Ky} {D : List Kb.Vt} (h : PG T w0 cb mb kb vb room l M C D w) (k : Kb.Ky) (hl : C.length ≤ 900000) :
  Calls Tryz.prog 34 #[pt kb, Kb.kc k] w fun r w' => r = .returned (.int .i64 (ix k (ext zk C k))) ∧ PG T w0 cb mb kb vb room l M (ext zk C k) D w' := by
 obtain ⟨F, G1, G2, G3, h1, h2, h3⟩ := h
 refine (Qi.of_any h1.k k hl).mono ?_
 rintro r w' ⟨rfl, ⟨G', a1, a2⟩, a3⟩
 have k2 : ∀ j, G2 j → w'.heap[j]? = w.heap[j]? := fun j hj => a3.block j (h1.v.lt hj) (fun q => (h1.d2 j q).1 hj)
 have k3 : ∀ j, G3 j → w'.heap[j]? = w.heap[j]? := fun j hj => a3.block j (h1.m.lt hj) (fun q => (h1.d2 j q).2 hj)
 refine ⟨rfl, PG.ch h2 h3 (fun j q => .inr (.inl q)) a3 ⟨h1.c.ch a3 (fun j hj => (h1.d1 j hj).1), a1, h1.v.keep k2, h1.m.keep k3, fun j hj => ⟨fun q => ?_, (h1.d1 j hj).2⟩, fun j hj => ?_, h1.d3⟩ (fun j hj => ?_)⟩
 ·
  rcases a2 j q with q | q
  ·
   exact (h1.d1 j hj).1 q
  ·
   have := h1.c.lt hj
   omega
 ·
  rcases a2 j hj with q | q
  ·
   exact h1.d2 j q
  ·
   exact ⟨fun x => by have := h1.v.lt x; omega, fun x => by have := h1.m.lt x; omega⟩
 ·
  rcases hj with q | q | q | q
  ·
   exact .inl (.inl q)
  ·
   rcases a2 j q with q | q
   ·
    exact .inl (.inr (.inl q))
   ·
    exact .inr q
  ·
   exact .inl (.inr (.inr (.inl q)))
  ·
   exact .inl (.inr (.inr (.inr q)))
theorem PG.ofv {T : Nat → Prop} {w0 w : World} {cb mb kb vb room : Nat} {l : List (Kb.Ky × Kb.Vt)} {M : List (Int × Int)} {C : List Kb.Ky} {D : List Kb.Vt} (h : PG T w0 cb mb kb vb room l M C D w) (v : Kb.Vt) (hl : D.length ≤ 900000) :
  Calls Tryz.prog 21 #[pt vb, Kb.vc v] w fun r w' => r = .returned (.int .i64 (ix v (ext Qk.z0 D v))) ∧ PG T w0 cb mb kb vb room l M C (ext Qk.z0 D v) w' := by
 obtain ⟨F, G1, G2, G3, h1, h2, h3⟩ := h
 refine (Qk.of_any h1.v v hl).mono ?_
 rintro r w' ⟨rfl, ⟨G', a1, a2⟩, a3⟩
 have k1 : ∀ j, G1 j → w'.heap[j]? = w.heap[j]? := fun j hj => a3.block j (h1.k.lt hj) (fun q => (h1.d2 j hj).1 q)
 have k3 : ∀ j, G3 j → w'.heap[j]? = w.heap[j]? := fun j hj => a3.block j (h1.m.lt hj) (fun q => (h1.d3 j q) hj)
 refine ⟨rfl, PG.ch h2 h3 (fun j q => .inr (.inr (.inl q))) a3 ⟨h1.c.ch a3 (fun j hj => (h1.d1 j hj).2.1), h1.k.keep k1, a1, h1.m.keep k3, fun j hj => ⟨(h1.d1 j hj).1, fun q => ?_, (h1.d1 j hj).2.2⟩, fun j hj => ⟨fun q => ?_, (h1.d2 j hj).2⟩, fun j hj => ?_⟩ (fun j hj => ?_)⟩
 ·
  rcases a2 j q with q | q
  ·
   exact (h1.d1 j hj).2.1 q
  ·
   have := h1.c.lt hj
   omega
 ·
  rcases a2 j q with q | q
  ·
   exact (h1.d2 j hj).1 q
  ·
   have := h1.k.lt hj
   omega
 ·
  rcases a2 j hj with q | q
  ·
   exact h1.d3 j q
  ·
   exact fun x => by have := h1.m.lt x; omega
 ·
  rcases hj with q | q | q | q
  ·
   exact .inl (.inl q)
  ·
   exact .inl (.inr (.inl q))
  ·
   rcases a2 j q with q | q
   ·
    exact .inl (.inr (.inr (.inl q)))
   ·
    exact .inr q
  ·
   exact .inl (.inr (.inr (.inr q)))
theorem PG.alls {T : Nat → Prop} {w0 w : World} {cb mb kb vb room : Nat} {l : List (Kb.Ky × Kb.Vt)} {C : List Kb.Ky} {D : List Kb.Vt} (h : PG T w0 cb mb kb vb room l (l.map (nu C D)) C D w) (hl : l.length ≤ 100000) (iC : ∀ p ∈ l, p.1 ∈ C) (iD : ∀ p ∈ l, p.2 ∈ D) (lC : C.length ≤ 900000) (lD : D.length ≤ 900000) (stop : Int) :
  Calls Tryz.prog 13 #[.agg #[pt cb, pt mb, pt kb, pt vb], .int .i64 stop] w fun r w' => r = .returned (.bool true) ∧ PG T w0 cb mb kb vb room l (l.map (nu C D)) C D w' := by
 have h0 := h
 obtain ⟨F, G1, G2, G3, h1, h2, h3⟩ := h
 obtain ⟨mv, L, n, o, ky, vl, hca, e, hF, hr⟩ := h1.c
 have e2 : l.map (nu C D) = L.map (num ky vl C D) := by
  rw [e, List.map_map]
  rfl
 have hm := h1.m
 rw [e2] at hm
 refine (all_any hca (by rw [e] at hl; simpa using hl) h1.k h1.v (fun b hb => iC _ (by rw [e]; exact List.mem_map.2 ⟨b, hb, rfl⟩)) (fun b hb => iD _ (by rw [e]; exact List.mem_map.2 ⟨b, hb, rfl⟩)) lC lD hm stop).mono ?_
 rintro r w' ⟨rfl, q1⟩
 exact ⟨rfl, h0.same q1⟩
end Go.Proofs.YtdhinpmjbcohaaaGreat.Jb
