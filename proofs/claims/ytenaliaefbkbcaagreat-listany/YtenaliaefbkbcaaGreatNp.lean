import Derived.Test.YtenaliaefbkbcaaGreatNl
import Derived.Test.YtenaliaefbkbcaaGreatNm
import Derived.Test.YtenaliaefbkbcaaGreatMv
namespace Go.Proofs.YtenaliaefbkbcaaGreat.Li
open Go Go.RowKit Go.Shelf
set_option linter.unusedSimpArgs false
set_option linter.unusedVariables false
set_option maxRecDepth 100000
abbrev tPB : ByteArray := { data := #[43, 47, 98] }
abbrev tAH : ByteArray := { data := #[97, 47, 35] }
abbrev tH : ByteArray := { data := #[35] }
abbrev tA : ByteArray := { data := #[97] }
abbrev tAx : ByteArray := { data := #[97, 35] }
abbrev tX : ByteArray := { data := #[120] }
abbrev tY : ByteArray := { data := #[121] }
abbrev tAB : ByteArray := { data := #[97, 47, 98] }
abbrev tDAB : ByteArray := { data := #[36, 97, 47, 98] }
abbrev tDA : ByteArray := { data := #[36, 97] }
theorem r1 : rfc tPB = 0 := by decide +kernel
theorem r2 : rfc tAH = 0 := by decide +kernel
theorem r3 : rfc tH = 0 := by decide +kernel
theorem r4 : rfc tA = 0 := by decide +kernel
theorem r5 : rfc tAx ≠ 0 := by decide +kernel
theorem m1 : mch tPB tAB = true := by decide +kernel
theorem m2 : mch tAH tAB = true := by decide +kernel
theorem m3 : mch tH tAB = true := by decide +kernel
theorem m4 : mch tPB tDAB = false := by decide +kernel
theorem m5 : mch tAH tDAB = false := by decide +kernel
theorem m6 : mch tH tDAB = false := by decide +kernel
theorem m7 : mch tH tDA = false := by decide +kernel
theorem q1 : tcode tAB = 0 := by decide +kernel
theorem q2 : tcode tDA = 0 := by decide +kernel
end Go.Proofs.YtenaliaefbkbcaaGreat.Li
namespace Go.Proofs.YtenaliaefbkbcaaGreat.Li
open Go Go.RowKit Go.Shelf
set_option linter.unusedSimpArgs false
set_option linter.unusedVariables false
set_option maxRecDepth 100000
theorem found_pure {ys : List En} (hp : ys.Perm [(tX, 0), (tX, 2), (tY, 1)]) (hs : ByF ys) : cmpct ys = [(tX, 2), (tY, 1)] := by
  obtain ⟨p1, p2⟩ := cmpct_spec ys hs
  have hm : ∀ k q, (k, q) ∈ ys ↔ (k, q) ∈ ([(tX, 0), (tX, 2), (tY, 1)] : List En) := fun k q => hp.mem_iff
  have hxy : tX ≠ tY := by decide
  have mem : ∀ z : En, z ∈ cmpct ys ↔ z = (tX, 2) ∨ z = (tY, 1) := fun z => by
    obtain ⟨k, q⟩ := z
    rw [p2]
    constructor
    · rintro ⟨h1, h2⟩
      rw [hm] at h1
      simp only [List.mem_cons, Prod.mk.injEq, List.not_mem_nil, or_false] at h1
      rcases h1 with ⟨rfl, rfl⟩ | ⟨rfl, rfl⟩ | ⟨rfl, rfl⟩
      · have := h2 2 (by rw [hm]; simp)
        omega
      · exact .inl rfl
      · exact .inr rfl
    · rintro (h | h)
      · simp only [Prod.mk.injEq] at h
        obtain ⟨rfl, rfl⟩ := h
        refine ⟨by rw [hm]; simp, fun q' hq' => ?_⟩
        rw [hm] at hq'
        simp only [List.mem_cons, Prod.mk.injEq, List.not_mem_nil, or_false] at hq'
        rcases hq' with ⟨_, rfl⟩ | ⟨_, rfl⟩ | ⟨h, _⟩
        · omega
        · omega
        · exact absurd h hxy
      · simp only [Prod.mk.injEq] at h
        obtain ⟨rfl, rfl⟩ := h
        refine ⟨by rw [hm]; simp, fun q' hq' => ?_⟩
        rw [hm] at hq'
        simp only [List.mem_cons, Prod.mk.injEq, List.not_mem_nil, or_false] at hq'
        rcases hq' with ⟨h, _⟩ | ⟨h, _⟩ | ⟨_, rfl⟩
        · exact absurd h.symm hxy
        · exact absurd h.symm hxy
        · omega
  have kxx : ¬ kl1 tX tX < 0 := by decide +kernel
  have kyx : ¬ kl1 tY tX < 0 := by decide +kernel
  have kyy : ¬ kl1 tY tY < 0 := by decide +kernel
  generalize cmpct ys = R at p1 mem
  match R, p1, mem with
  | [], _, mem => exact absurd ((mem (tX, 2)).2 (.inl rfl)) (by simp)
  | [a], _, mem =>
    have h1 := (mem (tX, 2)).2 (.inl rfl)
    have h2 := (mem (tY, 1)).2 (.inr rfl)
    simp only [List.mem_singleton] at h1 h2
    rw [← h1] at h2
    simp at h2
  | a :: b :: r, p1, mem =>
    rw [List.pairwise_cons] at p1
    obtain ⟨q1, q2⟩ := p1
    rw [List.pairwise_cons] at q2
    have ma := (mem a).1 (by simp)
    have mb := (mem b).1 (by simp)
    have ab := q1 b (by simp)
    have hr : r = [] := by
      cases r with
      | nil => rfl
      | cons c r' =>
        have mcc := (mem c).1 (by simp)
        have bc := q2.1 c (by simp)
        exfalso
        rcases ma with rfl | rfl <;> rcases mb with rfl | rfl <;> rcases mcc with rfl | rfl <;> first | exact kxx ab | exact kyx ab | exact kyy ab | exact kxx bc | exact kyx bc | exact kyy bc
    subst hr
    rcases ma with rfl | rfl <;> rcases mb with rfl | rfl <;> first | rfl | exact absurd ab kxx | exact absurd ab kyx | exact absurd ab kyy
def P3 : List Fp := [(tPB, [(tX, 0)]), (tAH, [(tX, 2)]), (tH, [(tY, 1)])]
structure KN (w : World) (P : List Fp) (ts : List ByteArray) (X : World) : Prop where
  ex : ∃ v L, SL w.heap.size X w.heap.size v L ∧ L.map Fl.p = P
  kx : ∃ v, KS w.heap.size X (w.heap.size + 1) v ts
  bel : Below w.heap.size w X
section
variable {w X X' : World} {P : List Fp} {ts : List ByteArray}
theorem KN.below (h : KN w P ts X) (hb : Below X.heap.size X X') : KN w P ts X' := by
  obtain ⟨v, L, h1, h2⟩ := h.ex
  obtain ⟨u, h3⟩ := h.kx
  exact ⟨⟨v, L, h1.below hb, h2⟩, ⟨u, h3.below hb⟩, h.bel.trans (hb.mono h.bel.size)⟩
theorem KN.kl {v' : Value} {L' : List Fl} (h : KN w P ts X) (hs : SL w.heap.size X' w.heap.size v' L') (hk : KL w.heap.size X X') : KN w (L'.map Fl.p) ts X' := by
  obtain ⟨u, h3⟩ := h.kx
  have nl : ∀ (j : Nat) (cs : Array Value) (t : TypeId), X.heap[j]? = some (Obj.cells cs t (0, 0)) → (t = 91 ∨ t = 30) → X'.heap[j]? = X.heap[j]? := fun j cs t hj ht => by
    refine hk.block j (Array.getElem?_eq_some_iff.1 hj).1 (.inr (fun ⟨c, t', z, e1, e2⟩ => ?_))
    rw [hj] at e1
    injection e1 with e1
    injection e1 with e3 e4 e5
    subst e4
    rcases ht with rfl | rfl <;> revert e2 <;> decide
  refine ⟨⟨v', L', hs, rfl⟩, ⟨u, (nl _ _ _ h3.at_ (.inl rfl)).trans h3.at_, ⟨h3.own.1, ?_⟩, h3.ge⟩, h.bel.trans ⟨hk.os, hk.tape, hk.output, hk.size, fun j hj => hk.block j (Nat.lt_of_lt_of_le hj h.bel.size) (.inl hj)⟩⟩
  rcases h3.own.2 with q | ⟨g, cap, cur, k1, k2, k3, k4⟩
  · exact .inl q
  · exact .inr ⟨g, cap, cur, k1, k2, (nl g cur 30 k3 (.inr rfl)).trans k3, k4⟩
theorem kn_put (h : KN w P ts X) (f k : ByteArray) (q : Int) (hf : rfc f = 0) (hq : 0 ≤ q ∧ q ≤ 2) (hfs : f.size ≤ 1000) (hks : k.size ≤ 1000) (hP : P.length ≤ 900) (hE : ∀ x ∈ P, x.2.length ≤ 900) :
    Calls Tryz.prog 8 #[.pointer (some ⟨w.heap.size, 0, none⟩), .string f, .string k, .int .i64 q] X fun e X' => e = .returned (.tuple #[.int .i64 (pPut P f k q).2, .int .i64 0]) ∧ KN w (pPut P f k q).1 ts X' := by
  obtain ⟨v, L, h1, h2⟩ := h.ex
  have hL : L.length = P.length := by rw [← h2, List.length_map]
  refine (put_any h1 f k q hf (by omega) hq (by omega) (fun x hx => by have := hE x.p (by rw [← h2]; exact List.mem_map.2 ⟨x, hx, rfl⟩); exact Nat.le_trans this (by omega)) (by omega) (Nat.le_of_lt h1.lt)).mono ?_
  rintro e X' ⟨rfl, v', L', g1, g2, g3⟩
  rw [h2] at g2 ⊢
  exact ⟨rfl, g2 ▸ h.kl g1 g3⟩
theorem kn_kput (h : KN w P ts X) (t : ByteArray) (hm : ts.length ≤ 1000) (ht : t ∉ ts) (hc : tcode t = 0) (hs : t.size ≤ 1000) :
    Calls Tryz.prog 19 #[.pointer (some ⟨w.heap.size + 1, 0, none⟩), mv t] X fun e X' => e = .returned (.tuple #[.bool false, .int .i64 0]) ∧ KN w P (ts ++ [t]) X' := by
  obtain ⟨v, L, h1, h2⟩ := h.ex
  obtain ⟨u, h3⟩ := h.kx
  refine (kput_new h3 hm t ht hc (by omega) (Nat.le_of_lt h1.lt)).mono ?_
  rintro e X' ⟨rfl, v', g1, g2⟩
  refine ⟨rfl, ⟨v, L, h1.keep (fun j hj => ?_), h2⟩, ⟨v', g1⟩, h.bel.trans ⟨g2.os, g2.tape, g2.output, g2.size, fun j hj => g2.block j (Nat.lt_of_lt_of_le hj h.bel.size) (fun q => ?_)⟩⟩
  · obtain ⟨c, t', z, e1, e2⟩ := hj
    refine g2.block j (Array.getElem?_eq_some_iff.1 e1).1 (fun q => ?_)
    rcases q with q | q
    · rw [q, h3.at_] at e1
      injection e1 with e1
      injection e1 with e3 e4 e5
      subst e4
      revert e2; decide
    · obtain ⟨cu, hcu⟩ := own_lt h3.own q
      rw [hcu] at e1
      injection e1 with e1
      injection e1 with e3 e4 e5
      subst e4
      revert e2; decide
  · rcases q with q | q
    · omega
    · have := row_ge h3.own q
      omega
theorem kn_three (h : KN w P3 ts X) : ∃ v a0 a1 a2, SL w.heap.size X w.heap.size v [a0, a1, a2] ∧ a0.f = tPB ∧ a0.es = [(tX, 0)] ∧ a1.f = tAH ∧ a1.es = [(tX, 2)] ∧ a2.f = tH ∧ a2.es = [(tY, 1)] := by
  obtain ⟨v, L, h1, h2⟩ := h.ex
  match L, h1, h2 with
  | [a0, a1, a2], h1, h2 =>
    simp only [List.map_cons, List.map_nil, P3, List.cons.injEq, Fl.p, Prod.mk.injEq, and_true] at h2
    exact ⟨v, a0, a1, a2, h1, h2.1.1, h2.1.2, h2.2.1.1, h2.2.1.2, h2.2.2.1, h2.2.2.2⟩
  | [], h1, h2 => simp [P3] at h2
  | [_], h1, h2 => simp [P3] at h2
  | [_, _], h1, h2 => simp [P3] at h2
  | _ :: _ :: _ :: _ :: _, h1, h2 => simp [P3] at h2
theorem kn_find1 (h : KN w P3 ts X) : Calls Tryz.prog 11 #[.pointer (some ⟨w.heap.size, 0, none⟩), .string tAB] X fun e X' => ∃ g c, e = .returned (.slice (some ⟨g, 0, none⟩) 2 c) ∧ (∀ i (hi : i < ([(tX, 2), (tY, 1)] : List En).length), X'.cell? ⟨g, i * 2, none⟩ = some (.string ([(tX, 2), (tY, 1)] : List En)[i].1) ∧ X'.cell? ⟨g, i * 2 + 1, none⟩ = some (.int .i64 ([(tX, 2), (tY, 1)] : List En)[i].2)) ∧ Below X.heap.size X X' := by
  obtain ⟨v, a0, a1, a2, h1, f0, s0, f1, s1, f2, s2⟩ := kn_three h
  refine (sfind_any h1 tAB (by simp) (fun x hx => ?_) (fun x hx => ?_)).mono ?_
  · simp only [List.mem_cons, List.not_mem_nil, or_false] at hx
    rcases hx with rfl | rfl | rfl <;> simp [s0, s1, s2]
  · simp only [List.mem_cons, List.not_mem_nil, or_false] at hx
    rcases hx with rfl | rfl | rfl <;> simp [s0, s1, s2]
  · rintro e X' ⟨v', ys, rfl, hp, hby, ho, hb⟩
    have e1 : ents (ms [a0, a1, a2] tAB) = [(tX, 0), (tX, 2), (tY, 1)] := by simp [ms, ents, f0, f1, f2, m1, m2, m3, s0, s1, s2]
    rw [e1] at hp
    rw [found_pure hp hby] at ho
    rw [arow_prow] at ho
    have ho' : X'.ownsRow X.heap.size 44 2 v' (([(tX, 2), (tY, 1)] : List En).map epv).length (prow (([(tX, 2), (tY, 1)] : List En).map epv)) := ho
    obtain ⟨g, c, hv, -, hc⟩ := prow_cell ho' (j := 0) (by simp)
    refine ⟨g, c, by rw [hv]; rfl, fun i hi => ?_, hb⟩
    have hi2 : i = 0 ∨ i = 1 := by simp at hi; omega
    rcases hi2 with rfl | rfl
    · exact hc 0 (by simp)
    · exact hc 1 (by simp)
theorem kn_find2 (h : KN w P3 ts X) : Calls Tryz.prog 11 #[.pointer (some ⟨w.heap.size, 0, none⟩), .string tDAB] X fun e X' => ∃ a c, e = .returned (.slice a 0 c) ∧ Below X.heap.size X X' := by
  obtain ⟨v, a0, a1, a2, h1, f0, s0, f1, s1, f2, s2⟩ := kn_three h
  refine (sfind_any h1 tDAB (by simp) (fun x hx => ?_) (fun x hx => ?_)).mono ?_
  · simp only [List.mem_cons, List.not_mem_nil, or_false] at hx
    rcases hx with rfl | rfl | rfl <;> simp [s0, s1, s2]
  · simp only [List.mem_cons, List.not_mem_nil, or_false] at hx
    rcases hx with rfl | rfl | rfl <;> simp [s0, s1, s2]
  · rintro e X' ⟨v', ys, rfl, hp, hby, ho, hb⟩
    have e1 : ents (ms [a0, a1, a2] tDAB) = [] := by simp [ms, ents, f0, f1, f2, m4, m5, m6]
    rw [e1] at hp
    rw [hp.eq_nil] at ho
    obtain ⟨a, c, hv⟩ := own_sl ho
    exact ⟨a, c, by rw [hv]; rfl, hb⟩
theorem kn_len (h : KN w P ts X) : Calls Tryz.prog 13 #[.pointer (some ⟨w.heap.size, 0, none⟩)] X fun e X' => e = .returned (.int .i64 (P.length : Int)) ∧ X' = X := by
  obtain ⟨v, L, h1, h2⟩ := h.ex
  have hL : P.length = L.length := by rw [← h2, List.length_map]
  rw [hL]
  exact slen_any h1
theorem kn_klen (h : KN w P ts X) : Calls Tryz.prog 21 #[.pointer (some ⟨w.heap.size + 1, 0, none⟩)] X fun e X' => e = .returned (.int .i64 (ts.length : Int)) ∧ X' = X := by
  obtain ⟨u, h3⟩ := h.kx
  obtain ⟨a, c, rfl⟩ := own_sl h3.own
  exact klen_any (box_cells h3.at_ 0 _ rfl)
theorem kn_leave (h : KN w P3 ts X) : Calls Tryz.prog 22 #[.pointer (some ⟨w.heap.size, 0, none⟩), .string tX] X fun e X' => e = .returned (.int .i64 2) ∧ KN w [(tH, [(tY, 1)])] ts X' ∧ (∀ (j : Nat) (o : Obj), X.heap[j]? = some o → o.isCells = false → X'.heap[j]? = some o) := by
  obtain ⟨v, a0, a1, a2, h1, f0, s0, f1, s1, f2, s2⟩ := kn_three h
  refine (leave_known h1 (Nat.le_of_lt h1.lt) s0 s1 s2 rfl rfl (by decide)).mono ?_
  rintro e X' ⟨rfl, v', g1, g2⟩
  have := h.kl g1 g2
  simp only [List.map_cons, List.map_nil, Fl.p, f2, s2] at this
  refine ⟨rfl, this, fun j o hj ho => (g2.block j (Array.getElem?_eq_some_iff.1 hj).1 (.inr (fun ⟨c, t', z, e1, e2⟩ => ?_))).trans hj⟩
  rw [hj] at e1
  cases e1
  simp [Obj.isCells] at ho
theorem KN.other {cb : Nat} {cs : Array Value} (h : KN w P ts X) (hc : X.heap[cb]? = some (Obj.cells cs 3 (0, 0))) (hw : w.heap.size ≤ cb) (u : Value) : KN w P ts (X.setCell ⟨cb, 0, none⟩ u) := by
  obtain ⟨v, L, h1, h2⟩ := h.ex
  obtain ⟨r, h3⟩ := h.kx
  have ch := ch_set (w := X) cb 0 u
  have ne : ∀ (j : Nat) (c : Array Value) (t : TypeId) (z : Nat × Nat), X.heap[j]? = some (Obj.cells c t z) → t ≠ 3 → j ≠ cb := fun j c t z hj ht q => by
    rw [q, hc] at hj
    injection hj with e1
    injection e1 with e3 e4 e5
    exact ht e4.symm
  refine ⟨⟨v, L, h1.keep (fun j ⟨c, t, z, e1, e2⟩ => heap_set_ne _ (ne j c t z e1 (by rcases e2 with rfl | rfl | rfl <;> decide))), h2⟩, ⟨r, (heap_set_ne _ (ne _ _ _ _ h3.at_ (by decide))).trans h3.at_, own_ch h3.own ch (fun g hg q => ?_), h3.ge⟩, h.bel.trans ⟨ch.os, ch.tape, ch.output, ch.size, fun j hj => heap_set_ne _ (by omega)⟩⟩
  obtain ⟨cu, hcu⟩ := own_lt h3.own hg
  exact ne g cu 30 _ hcu (by decide) q
theorem KN.grown {row : Option Nat} (h : KN w P ts X) (hg : X.grownBy X' row) (hr : ∀ r, row = some r → w.heap.size ≤ r ∧ ∃ o : Obj, X.heap[r]? = some o ∧ o.isCells = false) : KN w P ts X' := by
  obtain ⟨v, L, h1, h2⟩ := h.ex
  obtain ⟨u, h3⟩ := h.kx
  have kc : ∀ (j : Nat) (cs : Array Value) (t : TypeId) (z : Nat × Nat), X.heap[j]? = some (Obj.cells cs t z) → X'.heap[j]? = X.heap[j]? := fun j cs t z hj => hg.block j (Array.getElem?_eq_some_iff.1 hj).1 (fun e => by
    obtain ⟨-, o, ho, hc⟩ := hr j e.symm
    rw [hj] at ho
    cases ho
    simp [Obj.isCells] at hc)
  exact ⟨⟨v, L, h1.keep (fun j ⟨c, t, z, e1, _⟩ => kc j c t z e1), h2⟩, ⟨u, (kc _ _ _ _ h3.at_).trans h3.at_, own_grown h3.own hg (fun r e => (hr r e).2), h3.ge⟩, h.bel.trans ⟨hg.os, hg.tape, hg.output, hg.size, fun k hk => hg.block k (Nat.lt_of_lt_of_le hk h.bel.size) (fun e => by have := (hr k e.symm).1; omega)⟩⟩
end
end Go.Proofs.YtenaliaefbkbcaaGreat.Li
namespace Go.Proofs.YtenaliaefbkbcaaGreat.Li
open Go Go.RowKit Go.Shelf
set_option linter.unusedSimpArgs false
set_option linter.unusedVariables false
attribute [local go_sem] Oper.semAt_some
set_option maxRecDepth 100000 in
set_option maxHeartbeats 8000000 in
theorem known_ok : KnownOk := fun w => by
  have N1 := hidi (fun w => newSubs_any w)
  have N2 := hidi (fun w => newKept_any w)
  have NU := hidi (fun n w => num_any n w)
  have Q1 := hidi (fun X (h : KN w [] [] X) => (show Calls Tryz.prog 8 #[.pointer (some ⟨w.heap.size, 0, none⟩), .string tPB, .string tX, .int .i64 0] X fun e X' => e = .returned (.tuple #[.int .i64 (-1), .int .i64 0]) ∧ KN w [(tPB, [(tX, 0)])] [] X' from kn_put h tPB tX 0 r1 (by omega) (by decide) (by decide) (by simp) (by simp)))
  have Q2 := hidi (fun X (h : KN w [(tPB, [(tX, 0)])] [] X) => (show Calls Tryz.prog 8 #[.pointer (some ⟨w.heap.size, 0, none⟩), .string tAH, .string tX, .int .i64 2] X fun e X' => e = .returned (.tuple #[.int .i64 (-1), .int .i64 0]) ∧ KN w [(tPB, [(tX, 0)]), (tAH, [(tX, 2)])] [] X' from by
    have e : pPut [(tPB, [(tX, 0)])] tAH tX 2 = ([(tPB, [(tX, 0)]), (tAH, [(tX, 2)])], -1) := by decide
    have := kn_put h tAH tX 2 r2 (by omega) (by decide) (by decide) (by simp) (by simp)
    rw [e] at this
    exact this))
  have Q3 := hidi (fun X (h : KN w [(tPB, [(tX, 0)]), (tAH, [(tX, 2)])] [] X) => (show Calls Tryz.prog 8 #[.pointer (some ⟨w.heap.size, 0, none⟩), .string tH, .string tY, .int .i64 1] X fun e X' => e = .returned (.tuple #[.int .i64 (-1), .int .i64 0]) ∧ KN w P3 [] X' from by
    have e : pPut [(tPB, [(tX, 0)]), (tAH, [(tX, 2)])] tH tY 1 = (P3, -1) := by decide
    have := kn_put h tH tY 1 r3 (by omega) (by decide) (by decide) (by simp) (by simp)
    rw [e] at this
    exact this))
  have Q4 := hidi (fun (X : World) => put_71 (w := X) tA tX 3 (.pointer (some ⟨w.heap.size, 0, none⟩)) r4 (by omega))
  have Q5 := hidi (fun (X : World) => put_70 (w := X) tAx tX 0 (.pointer (some ⟨w.heap.size, 0, none⟩)) r5)
  have K0 : KN w [] [] ((w.alloc (.cells #[.slice none 0 0] 71)).alloc (.cells #[.slice none 0 0] 91)) := by
    have s1 : (w.alloc (.cells #[.slice none 0 0] 71)).heap.size = w.heap.size + 1 := size_alloc _ _
    have b1 : Below w.heap.size w (w.alloc (.cells #[.slice none 0 0] 71)) := (Below.refl _ _).alloc (Nat.le_refl _) _
    have b2 : Below (w.alloc (.cells #[.slice none 0 0] 71)).heap.size (w.alloc (.cells #[.slice none 0 0] 71)) ((w.alloc (.cells #[.slice none 0 0] 71)).alloc (.cells #[.slice none 0 0] 91)) := (Below.refl _ _).alloc (Nat.le_refl _) _
    refine ⟨⟨_, [], (sl_new w).below b2, rfl⟩, ⟨.slice none 0 0, ?_, ⟨rfl, .inl ⟨rfl, rfl⟩⟩, by omega⟩, b1.trans (b2.mono b1.size)⟩
    rw [← s1, heap_alloc_new]
  have HK0 := hidi K0
  clear K0
  refine (callsIn_wide (n := 9)).1 ?_
  refine callsIn_of_wp_marks Tryz.func5 rfl trivial ?_ rfl
  simp only [Tryz.ntmps5, List.size_toArray, List.length_cons, List.length_nil, Nat.reduceAdd, Nat.reduceSub, Array.replicate_succ, Array.replicate_zero, List.push_toArray, List.append_toArray, List.nil_append, List.cons_append]
  gi_wp2_with (first
    | (refine ⟨trivial, ?_⟩; gi_at_call 7; refine ((callsIn_wide (n := _)).2 (N1.out _)).mono ?_; rintro e w1 ⟨rfl, rfl⟩)
    | (refine ⟨trivial, ?_⟩; gi_at_call 18; refine ((callsIn_wide (n := _)).2 (N2.out _)).mono ?_; rintro e w2 ⟨rfl, rfl⟩))
  refine ⟨trivial, ?_⟩
  refine ((callsIn_wide (n := _)).2 (Q1.out _ HK0.out)).mono ?_
  rintro e X1 ⟨rfl, k1⟩
  have K1 := hidi k1
  clear k1 HK0 Q1 N1 N2
  gi_wp2_with fail
  refine ⟨trivial, ?_⟩
  refine ((callsIn_wide (n := _)).2 (Q2.out _ K1.out)).mono ?_
  rintro e X2 ⟨rfl, k2⟩
  have K2 := hidi k2
  clear k2 K1 Q2
  gi_wp2_with fail
  refine ⟨trivial, ?_⟩
  refine ((callsIn_wide (n := _)).2 (Q3.out _ K2.out)).mono ?_
  rintro e X3 ⟨rfl, k3⟩
  have K3 := hidi k3
  clear k3 K2 Q3
  gi_wp2_with fail
  refine ⟨trivial, ?_⟩
  refine ((callsIn_wide (n := _)).2 (Q4.out _)).mono ?_
  rintro e X4 ⟨rfl, b4⟩
  have K4 := hidi (K3.out.below b4)
  clear b4 K3 Q4
  gi_wp2_with fail
  refine ⟨trivial, ?_⟩
  refine ((callsIn_wide (n := _)).2 (Q5.out _)).mono ?_
  rintro e X5 ⟨rfl, b5⟩
  have K5 := hidi (K4.out.below b5)
  clear b5 K4 Q5
  have F1 := hidi (kn_find1 K5.out)
  gi_wp2_with (first
    | (refine ⟨trivial, ?_⟩; gi_at_call 9; refine ((callsIn_wide (n := _)).2 (NU.out _ _)).mono ?_; rintro e w' ⟨rfl, he⟩; obtain rfl := he.symm; clear he)
    | (refine ⟨trivial, ?_⟩; gi_at_call 11; refine ((callsIn_wide (n := _)).2 F1.out).mono ?_; rintro e X6 ⟨g, c, rfl, hc6, b6⟩; have K6 := hidi (K5.out.below b6); have HC6 := hidi hc6; clear b6 hc6))
  have S7 : Hid (Calls Tryz.prog 12 #[.slice (some ⟨g, 0, none⟩) 2 c, .slice (some ⟨X6.heap.size, 0, none⟩) 2 2] (X6.alloc (.cells #[.string tX, .int .i64 2, .string tY, .int .i64 1] 44)) fun e w' => e = .returned (.bool true) ∧ Below (X6.alloc (.cells #[.string tX, .int .i64 2, .string tY, .int .i64 1] 44)).heap.size (X6.alloc (.cells #[.string tX, .int .i64 2, .string tY, .int .i64 1] 44)) w') := by
    have bA : Below X6.heap.size X6 (X6.alloc (.cells #[.string tX, .int .i64 2, .string tY, .int .i64 1] 44)) := (Below.refl _ _).alloc (Nat.le_refl _) _
    have hn := heap_alloc_new X6 (.cells #[.string tX, .int .i64 2, .string tY, .int .i64 1] 44)
    refine same_any (xs := [(tX, 2), (tY, 1)]) rfl (by omega) (fun i hi => ?_) (fun i hi => ?_)
    · obtain ⟨h1, h2⟩ := HC6.out i hi
      exact ⟨(bA.cell (p := ⟨g, i * 2, none⟩) (World.block_lt_of_cell? _ _ h1)).trans h1, (bA.cell (p := ⟨g, i * 2 + 1, none⟩) (World.block_lt_of_cell? _ _ h2)).trans h2⟩
    · have hi2 : i = 0 ∨ i = 1 := by simp at hi; omega
      rcases hi2 with rfl | rfl
      · exact ⟨box_cells hn 0 _ rfl, box_cells hn 1 _ rfl⟩
      · exact ⟨box_cells hn 2 _ rfl, box_cells hn 3 _ rfl⟩
  refine ⟨trivial, ?_⟩
  refine ((callsIn_wide (n := _)).2 S7.out).mono ?_
  rintro e X7 ⟨rfl, b7⟩
  have K7 : Hid (KN w P3 [] X7) := (K6.out.below ((Below.refl _ _).alloc (Nat.le_refl _) _)).below b7
  clear b7 S7 HC6 K6 K5 F1
  have F2 := hidi (kn_find2 K7.out)
  gi_wp2_with (refine ⟨trivial, ?_⟩; gi_at_call 11; refine ((callsIn_wide (n := _)).2 F2.out).mono ?_; rintro e X8 ⟨a8, c8, rfl, b8⟩; have K8 := hidi (K7.out.below b8); have L8 := hidi (kn_len (K7.out.below b8)); clear b8)
  refine ⟨trivial, ?_⟩
  refine ((callsIn_wide (n := _)).2 L8.out).mono ?_
  rintro e w' ⟨rfl, he⟩
  obtain rfl := he.symm
  clear he L8 F2 K7
  have e3 : ((P3.length : Nat) : Int) = 3 := rfl
  rw [e3]
  have P9 := hidi (kn_kput K8.out tAB (by simp) (by simp) q1 (by decide))
  unfold mv at P9
  gi_wp2_with fail
  refine ⟨trivial, ?_⟩
  refine ((callsIn_wide (n := _)).2 P9.out).mono ?_
  rintro e X9 ⟨rfl, k9⟩
  have K9 := hidi k9
  clear k9 K8 P9
  have P10 := hidi (kn_kput K9.out tDA (by simp) (by simp only [List.nil_append, List.mem_singleton]; decide) q2 (by decide))
  unfold mv at P10
  gi_wp2_with fail
  refine ⟨trivial, ?_⟩
  refine ((callsIn_wide (n := _)).2 P10.out).mono ?_
  rintro e X10 ⟨rfl, k10⟩
  have K10 : Hid (KN w P3 [tAB, tDA] X10) := k10
  clear k10 K9 P10
  gi_wp2_with fail
  refine ⟨trivial, ?_⟩
  refine ((callsIn_wide (n := _)).2 (kfind_any (w.heap.size + 1) tH (X10.alloc (.cells #[.int .i64 0] 3)))).mono ?_
  rintro e Z ⟨rfl, hZ⟩
  have y1 : (X10.alloc (.cells #[.int .i64 0] 3)).heap.size = X10.heap.size + 1 := size_alloc _ _
  obtain ⟨Y, hY⟩ : ∃ Y, Y = X10.alloc (.cells #[.int .i64 0] 3) := ⟨_, rfl⟩
  rw [← hY] at hZ y1 ⊢
  have bY : Below X10.heap.size X10 Y := by rw [hY]; exact (Below.refl _ _).alloc (Nat.le_refl _) _
  have cY : Y.heap[X10.heap.size]? = some (.cells #[.int .i64 0] 3) := by rw [hY, heap_alloc_new]
  have z1 : (Y.alloc (.cells #[.pointer (some ⟨w.heap.size + 1, 0, none⟩)] 57)).heap.size = Y.heap.size + 1 := size_alloc _ _
  have z2 : ((Y.alloc (.cells #[.pointer (some ⟨w.heap.size + 1, 0, none⟩)] 57)).alloc (.cells #[.string tH] 9)).heap.size = Y.heap.size + 1 + 1 := by rw [size_alloc, z1]
  have z3 : Z.heap.size = Y.heap.size + 1 + 1 + 1 := by rw [hZ, size_alloc, z2]
  have bZ : Below Y.heap.size Y Z := by rw [hZ]; exact (((Below.refl _ _).alloc (Nat.le_refl _) _).alloc (by omega) _).alloc (by omega) _
  have o1 : Z.heap[Y.heap.size]? = some (.cells #[.pointer (some ⟨w.heap.size + 1, 0, none⟩)] 57) := by rw [hZ, heap_alloc_old _ _ (by omega), heap_alloc_old _ _ (by omega), heap_alloc_new]
  have o2 : Z.heap[Y.heap.size + 1]? = some (.cells #[.string tH] 9) := by rw [hZ, heap_alloc_old _ _ (by omega), ← z1, heap_alloc_new]
  have o3 : Z.heap[Y.heap.size + 1 + 1]? = some (.cells #[.func (.func 72) #[] #[.pointer (some ⟨Y.heap.size, 0, none⟩), .pointer (some ⟨Y.heap.size + 1, 0, none⟩)]] 62) := by rw [hZ, ← z2, heap_alloc_new]
  have cZ : Z.heap[X10.heap.size]? = some (.cells #[.int .i64 0] 3) := later_at cY bZ
  have KZ := (K10.out.below bY).below bZ
  obtain ⟨vk, hks⟩ := KZ.kx
  have hwZ : w.heap.size ≤ Z.heap.size := KZ.bel.size
  have HX10 := hidi K10.out.bel.size
  have hcZ : X10.heap.size < Z.heap.size := (Array.getElem?_eq_some_iff.1 cZ).1
  have ST := inord_stops hks (by simp) o1 o2 o3 (t := tAB) (by simp [m3, m7]) (9 - 1) (by omega)
  have HZZ := hidi z3
  clear hZ hY cY bY bZ z1 z2 z3 y1 K10 o1 o2 o3
  gi_wp2_with fail
  refine wpIn_rangeFunc_ownG rfl (by omega) (gf := 69) (lb := #[.pointer (some ⟨Y.heap.size + 1 + 1, 0, none⟩)]) rfl trivial (enters_of Tryz.func69 (by kernel_rfl) rfl) ST (fun _ _ => trivial) (fun _ _ _ _ _ _ _ _ => trivial) (Below.refl _ _) (fun _ => rfl)
    (fun pre X => X.heap[X10.heap.size]? = some (.cells #[.int .i64 (pre.length : Int)] 3 (0, 0)) ∧ KN w P3 [tAB, tDA] X) (fun _ _ _ => False) ?hI (fun _ _ _ _ _ hs _ _ => hs) ⟨cZ, KZ⟩ ?a1 ?assign ?body ?done ?stop
  case assign =>
    intro l x X K hK
    gi_wp2
    exact hK
  case hI =>
    rintro pre A A' row ⟨h1, h2⟩ hg hr
    refine ⟨(hg.block _ (Array.getElem?_eq_some_iff.1 h1).1 (fun e => ?_)).trans h1, h2.grown hg (fun r e => ⟨by have := (hr r e).1; omega, (hr r e).2⟩)⟩
    have := (hr _ e.symm).1
    omega
  case body =>
    rintro l pre x X ⟨h1, h2⟩ hlen
    obtain rfl : pre = [] := by cases pre with | nil => rfl | cons _ _ => simp at hlen
    have c0 := box_cells h1 0 _ rfl
    have f0 := box_frozen h1 0
    have H := hidi (And.intro h1 h2)
    clear h1 h2
    simp only [List.length_nil] at c0
    gi_wp2
    obtain ⟨h1, h2⟩ := H.out
    refine ⟨⟨(ch_set _ 0 _).size, fun k o hk ho hc => (heap_set_ne _ (by omega)).trans ho⟩, trivial, heap_set h1 _, h2.other h1 HX10.out _⟩
  case done =>
    rintro D ys X hD hys ⟨h1, h2⟩ hK
    obtain rfl : ys = [tAB] := hys
    have c0 := box_cells h1 0 _ rfl
    simp only [List.length_singleton] at c0
    have KL1 := hidi (kn_klen h2)
    have LV := hidi (kn_leave h2)
    have H := hidi (And.intro h2 hK)
    clear h1 h2 hK
    gi_wp2_with (first
      | (refine ⟨trivial, ?_⟩; gi_at_call 21; refine ((callsIn_wide (n := _)).2 KL1.out).mono ?_; rintro e w' ⟨rfl, he⟩; obtain rfl := he.symm; clear he)
      | (refine ⟨trivial, ?_⟩; gi_at_call 22; refine ((callsIn_wide (n := _)).2 LV.out).mono ?_; rintro e V ⟨rfl, k11, d11⟩; have K11 := hidi (And.intro k11 (d11 D _ H.out.2 rfl)); have LN := hidi (kn_len k11); clear k11 d11)
      | (refine ⟨trivial, ?_⟩; gi_at_call 13; refine ((callsIn_wide (n := _)).2 LN.out).mono ?_; rintro e w' ⟨rfl, he⟩; obtain rfl := he.symm; clear he))
    refine ⟨by simp, .inl ⟨_, _, rfl, run_takeDeferred K11.out.2, ?_⟩⟩
    refine ⟨_, results_tmp rfl _ _ _, rfl, ?_⟩
    exact K11.out.1.bel.trans (belowK_b (w := Z) hwZ V D _ _ hD K11.out.2 rfl rfl)
  case stop =>
    rintro D c pre X _ _ h _
    exact h.elim
end Go.Proofs.YtenaliaefbkbcaaGreat.Li
