import Derived.Test.YtepjcfhbbcaldaaGreatKpg
import Derived.Test.YtepjcfhbbcaldaaGreatKpa
import Derived.Test.YtepjcfhbbcaldaaGreatKng
import Derived.Deep.RegionHeldLaw
import Derived.Test.YtepjcfhbbcaldaaGreatKma
namespace Go.Proofs.YtepjcfhbbcaldaaGreat.Li
open Go Go.RowKit
set_option linter.unusedSimpArgs false
set_option linter.unusedVariables false
variable {w : World} {tb m r P : Nat} {nf nn : Int} {T : List Fn} {f x : ByteArray}
/-- LEAVE, below the root. -/
theorem leave_any (hP : P ≤ 100000) (hx : okT x) : ∀ N, LeaveOk tb m r P x N
  | 0 => fun w nf T f d y0 hN h b hf hd ha => by
    have := (h.ok f hf).2
    omega
  | N + 1 => fun w nf T f d y0 hN h b hf hd ha => by
    refine leave_core (leave_any hP hx N) h b ha.2.1.goes hP hx hf (by omega) (fun w2 T2 nf2 f2 u hc => (u.tidy b hd ha (h.inv.le f.s (List.mem_map_of_mem hf)).1 hc).mono ?_)
    rintro e w' ⟨res, rfl, a, c⟩
    exact ⟨res, rfl, a, c⟩
/-- A trie that a key left. -/
structure Gn (w w' : World) (tb m r P : Nat) (T : List Fn) (x : ByteArray) : Prop where
  ex : ∃ T' nf', TM w' tb m r nf' (T'.length : Int) T' ∧ QS tb P nf' T T' (fun _ => True) x []
  ch : Ch (isT tb T) w w'
theorem leave_root (h : TM w tb m r nf (T.length : Int) T) (b : Bs P nf T) (hP : P ≤ 100000) (hx : okT x) :
    Calls Tryz.prog 27 #[ptr tb, ptr r, .string x] w fun e w' => ∃ c : Nat, e = .returned (.tuple #[ptr r, .int .i64 (c : Int)]) ∧ Gn w w' tb m r P T x := by
  obtain ⟨f, hf, f0, fp⟩ := h.rt
  have all : (fun F' : List ByteArray => f.s.A <+: F') = fun _ => True := by
    funext F'
    rw [f0]
    simp
  have ti : TidyOk tb m r P T f (fun F' => f.s.A <+: F') x w (fun res w' => res = ptr r ∧ Gn w w' tb m r P T x) := fun w2 T2 nf2 f2 u hc => by
    obtain ⟨nk, kd, b1, b2, b3⟩ := (u.tm.nd f2 u.mem).kv
    have := tidy_stay u.tm u.mem b2 (.inl (root_m u.tm u.mem (by rw [u.s]; exact f0)))
    rw [u.s, fp] at this
    rw [fp]
    refine this.mono ?_
    rintro e w' ⟨rfl, rfl⟩
    refine ⟨_, rfl, rfl, ⟨T2, nf2, u.tm, ?_⟩, hc⟩
    have q := u.q
    rw [all, f0] at q
    exact q
  have := leave_core (leave_any hP hx 65537) h b List.nil_prefix hP hx hf (by omega) ti
  rw [fp] at this
  refine this.mono ?_
  rintro e w' ⟨res, Fs, rfl, nd, hF, c⟩
  rcases c with ⟨c1, rfl, c3⟩ | ⟨c1, rfl, c3⟩
  · refine ⟨_, by rw [fp], ⟨T, nf, h.below c3, ⟨fun F' y z => ⟨fun c => ⟨c, ?_⟩, fun c => c.1⟩, fun j c => c, b.frm, b.cn, b.few, Nat.le_refl _, b.ok⟩⟩, Below.ch c3⟩
    rintro ⟨_, rfl⟩
    have := (hF F').2 ⟨by rw [f0]; exact List.nil_prefix, z, c⟩
    rw [c1] at this
    cases this
  · exact ⟨_, rfl, c3⟩
set_option maxRecDepth 100000 in
set_option maxHeartbeats 4000000 in
/-- LEAVE. -/
theorem Leave_any (h : TM w tb m r nf (T.length : Int) T) (b : Bs P nf T) (hP : P ≤ 100000) (hx : okT x) :
    Calls Tryz.prog 11 #[ptr tb, .string x] w fun e w' => ∃ c : Nat, e = .returned (.int .i64 (c : Int)) ∧ Gn w w' tb m r P T x := by
  have c0 : w.cell? ⟨tb, 0, none⟩ = some (ptr r) := box_cells h.tr 0 _ rfl
  have LR := hidi (leave_root h b hP hx)
  have FIN := hidi (fun (w3 : World) (dr : Gn w w3 tb m r P T x) => (show Gn w (w3.setCell ⟨tb, 0, none⟩ (ptr r)) tb m r P T x ∧ w3.cell? ⟨tb, 0, none⟩ = some (ptr r) ∧ w3.frozen? ⟨tb, 0, none⟩ = false from by
    obtain ⟨⟨T', nf', tm, qs⟩, hc⟩ := dr
    have c := ch_root tm
    exact ⟨⟨⟨T', nf', tm.keep c (fun q => q) (fun _ _ _ _ q => q) (fun _ q => q.elim), qs⟩, hc.trans c (fun j _ q => q.elim)⟩, box_cells tm.tr 0 _ rfl, box_frozen tm.tr 0⟩))
  unfold ptr at *
  clear h b hP hx
  go_enter Tryz.func11, Tryz.ntmps11
  go_wp2_with (go_at_call 27; refine LR.out.mono ?_; rintro e w3 ⟨c, rfl, dr⟩; obtain ⟨d1, d2, d3⟩ := FIN.out w3 dr; have D1 := hidi d1; clear dr d1 LR FIN c0)
  go_ret
  exact ⟨_, rfl, D1.out⟩
end Go.Proofs.YtepjcfhbbcaldaaGreat.Li
namespace Go.Proofs.YtepjcfhbbcaldaaGreat.Li
open Go Go.RowKit
set_option linter.unusedSimpArgs false
set_option linter.unusedVariables false
/-! ### two tries that stand alike -/
structure Twin (T U : List Fn) : Prop where
  nd : ∀ f ∈ T, ∃ g ∈ U, f.s.A = g.s.A
  nd' : ∀ g ∈ U, ∃ f ∈ T, f.s.A = g.s.A
  m : ∀ f ∈ T, ∀ g ∈ U, f.s.A = g.s.A → f.s.m = g.s.m
  en : ∀ f ∈ T, ∀ g ∈ U, f.s.A = g.s.A → f.en = g.en
  inv : Inv (U.map Fn.s)
  sameT : ∀ a ∈ T, ∀ b ∈ T, a.s.A = b.s.A → a = b
  sameU : ∀ a ∈ U, ∀ b ∈ U, a.s.A = b.s.A → a = b
theorem ks_uniq {L L' : List ByteArray} (h : L.Pairwise fun a b => unB a < unB b) (h' : L'.Pairwise fun a b => unB a < unB b) (e : ∀ x, x ∈ L ↔ x ∈ L') : L = L' := by
  induction L generalizing L' with
  | nil =>
    cases L' with
    | nil => rfl
    | cons a l => have := (e a).2 List.mem_cons_self; cases this
  | cons a l ih =>
    cases L' with
    | nil => have := (e a).1 List.mem_cons_self; cases this
    | cons b l' =>
      obtain ⟨h1, h2⟩ := List.pairwise_cons.1 h
      obtain ⟨h3, h4⟩ := List.pairwise_cons.1 h'
      have ab : a = b := by
        rcases List.mem_cons.1 ((e a).1 List.mem_cons_self) with q | q
        · exact q
        · rcases List.mem_cons.1 ((e b).2 List.mem_cons_self) with q' | q'
          · exact q'.symm
          · exact absurd (h3 a q) (List.lt_asymm (h1 b q'))
      subst ab
      congr 1
      refine ih h2 h4 (fun x => ⟨fun hx => ?_, fun hx => ?_⟩)
      · rcases List.mem_cons.1 ((e x).1 (List.mem_cons_of_mem _ hx)) with q | q
        · subst q; exact absurd (h1 x hx) (List.lt_irrefl _)
        · exact q
      · rcases List.mem_cons.1 ((e x).2 (List.mem_cons_of_mem _ hx)) with q | q
        · subst q; exact absurd (h3 x hx) (List.lt_irrefl _)
        · exact q
theorem Twin.kid {T U : List Fn} (tw : Twin T U) {f g q q' : Fn} (hf : f ∈ T) (hg : g ∈ U) (e : f.s.A = g.s.A) (hq : q ∈ T) (hq' : q' ∈ U) (e' : q.s.A = q'.s.A) : Kid f.s q.s ↔ Kid g.s q'.s := by
  have m := tw.m q hq q' hq' e'
  have t : q.s.top = q'.s.top := by unfold Nd.top; rw [e', m]
  unfold Kid
  rw [m, t, e, e']
theorem kids_mem {T : List Fn} {f : Fn} {L : List ByteArray} {K : List Fn} (ks : KidsOf T f L K) (x : ByteArray) : x ∈ L ↔ ∃ q ∈ T, Kid f.s q.s ∧ q.s.A[q.s.top]? = some x := by
  constructor
  · intro h
    obtain ⟨i, hi⟩ := List.getElem?_of_mem h
    obtain ⟨q, _, hq, ak⟩ := ks.at_ i x hi
    exact ⟨q, hq, ak.2.1, ak.2.2⟩
  · rintro ⟨q, hq, kq, hx⟩
    obtain ⟨i, x', h1, _, h3⟩ := ks.all q hq kq
    rw [hx] at h3
    cases h3
    exact List.mem_of_getElem? h1
theorem Twin.kids {T U : List Fn} (tw : Twin T U) {f g : Fn} (hf : f ∈ T) (hg : g ∈ U) (e : f.s.A = g.s.A) {L L' : List ByteArray} {K K' : List Fn} (ks : KidsOf T f L K) (ks' : KidsOf U g L' K') :
    L' = L ∧ ∀ (i : Nat) (q q' : Fn), K[i]? = some q → K'[i]? = some q' → q ∈ T ∧ q' ∈ U ∧ q.s.A = q'.s.A := by
  have LL : L' = L := ks_uniq ks'.ord ks.ord (fun x => by
    rw [kids_mem ks', kids_mem ks]
    constructor
    · rintro ⟨q', hq', kq, hx⟩
      obtain ⟨q, hq, e'⟩ := tw.nd' q' hq'
      have t : q.s.top = q'.s.top := by unfold Nd.top; rw [e', tw.m q hq q' hq' e']
      exact ⟨q, hq, (tw.kid hf hg e hq hq' e').2 kq, by rw [e', t]; exact hx⟩
    · rintro ⟨q, hq, kq, hx⟩
      obtain ⟨q', hq', e'⟩ := tw.nd q hq
      have t : q.s.top = q'.s.top := by unfold Nd.top; rw [e', tw.m q hq q' hq' e']
      exact ⟨q', hq', (tw.kid hf hg e hq hq' e').1 kq, by rw [← e', ← t]; exact hx⟩)
  refine ⟨LL, fun i q q' hq hq' => ?_⟩
  subst LL
  have hi : i < L'.length := by rw [← ks.len]; exact (List.getElem?_eq_some_iff.1 hq).1
  obtain ⟨x, hx⟩ : ∃ x, L'[i]? = some x := ⟨_, List.getElem?_eq_getElem hi⟩
  obtain ⟨r, r1, r2, r3⟩ := ks.at_ i x hx
  obtain ⟨r', r1', r2', r3'⟩ := ks'.at_ i x hx
  rw [hq] at r1; cases r1
  rw [hq'] at r1'; cases r1'
  obtain ⟨q2, hq2, e2⟩ := tw.nd q r2
  have t : q.s.top = q2.s.top := by unfold Nd.top; rw [e2, tw.m q r2 q2 hq2 e2]
  have ak : AtK (U.map Fn.s) g.s x q2.s := ⟨List.mem_map_of_mem hq2, (tw.kid hf hg e r2 hq2 e2).1 r3.2.1, by rw [← e2, ← t]; exact r3.2.2⟩
  have := tw.inv.atk ak r3'
  exact ⟨r2, r2', by rw [e2, this]⟩
set_option maxRecDepth 100000 in
set_option maxHeartbeats 2000000 in
theorem sameT_big {w : World} {ga gb ca cb n : Nat} {xs : List ByteArray} (hn : n = xs.length) (hm : n ≤ 900000) (ha : ∀ i (x : ByteArray), xs[i]? = some x → w.cell? ⟨ga, i, none⟩ = some (.string x)) (hb : ∀ i (x : ByteArray), xs[i]? = some x → w.cell? ⟨gb, i, none⟩ = some (.string x)) :
    Calls Tryz.prog 44 #[.slice (some ⟨ga, 0, none⟩) n ca, .slice (some ⟨gb, 0, none⟩) n cb] w fun e w' => e = .returned (.bool true) ∧ Below w.heap.size w w' := by
  have HA := hidi (And.intro ha (And.intro hb (And.intro hn hm)))
  clear ha hb hn hm
  go_enter Tryz.func44, Tryz.ntmps44
  go_wp2_with fail
  go_loopg [5] n (fun gk s5 wx => ∃ i : Nat, i + gk = n ∧ s5 = .int .i64 i ∧ Hid (Below w.heap.size w wx))
  case atStart => exact ⟨0, by omega, rfl, Below.refl _ _⟩
  case round =>
    obtain ⟨i, hi, rfl, HI⟩ := hrel
    by_cases hin : i < n
    · have hlt : (i : Int) < (n : Int) := by omega
      have hge : (0 : Int) ≤ (i : Int) := by omega
      obtain ⟨ha, hb, hn, hm⟩ := HA.out
      have hw1 : IntKind.i64.wrap ((i : Int) + 1) = (i : Int) + 1 := by rw [IntKind.wrap_i64]; omega
      obtain ⟨x, hx⟩ : ∃ x, xs[i]? = some x := ⟨_, List.getElem?_eq_getElem (by omega)⟩
      have t0 := ha i x hx
      have u0 := hb i x hx
      have d0 := (HI.out.cell (p := ⟨ga, i, none⟩) (World.block_lt_of_cell? _ _ t0)).trans t0
      have d2 := (HI.out.cell (p := ⟨gb, i, none⟩) (World.block_lt_of_cell? _ _ u0)).trans u0
      clear hx ha hb hn hm t0 u0
      have hxx : (x.toList == x.toList) = true := by simp
      go_wp2_with fail
      go_quiet (fail)
      have HB1 := hidi (below_drewN HI.out (m := nq))
      go_wp2_with fail
      go_roundg (n - (i + 1))
      case measure => omega
      case rel => exact ⟨i + 1, by omega, by first | rfl | simp, HB1.out⟩
    · have hlt : ¬ (i : Int) < (n : Int) := by omega
      go_wp2_with fail
      go_ret
      exact ⟨rfl, HI.out⟩
set_option maxRecDepth 100000 in
theorem sameT_none {w : World} {a b : Option Addr} {ca cb : Nat} : Calls Tryz.prog 44 #[.slice a 0 ca, .slice b 0 cb] w fun e w' => e = .returned (.bool true) ∧ Below w.heap.size w w' := by
  go_enter Tryz.func44, Tryz.ntmps44
  go_wp2_with fail
  go_loopg [5] 0 (fun gk s5 wx => s5 = .int .i64 0 ∧ wx = w)
  case atStart => exact ⟨rfl, rfl⟩
  case round =>
    obtain ⟨rfl, rfl⟩ := hrel
    go_wp2_with fail
    go_ret
    exact ⟨rfl, Below.refl _ _⟩
theorem tcell {w : World} {B n : Nat} {v : Value} {L : List ByteArray} (h : w.ownsRow B 9 1 v n (L.map Value.string)) (h0 : 0 < n) : ∃ g c, v = .slice (some ⟨g, 0, none⟩) n c ∧ ∀ i (x : ByteArray), L[i]? = some x → w.cell? ⟨g, i, none⟩ = some (.string x) := by
  have hl : L.length = n := by simpa using h.1
  rcases h.2 with ⟨_, e⟩ | ⟨g, cap, cur, rfl, _⟩
  · omega
  · refine ⟨g, cap, rfl, fun i x hx => ?_⟩
    have hi := (List.getElem?_eq_some_iff.1 hx).1
    rw [h.cellAt i (by omega), List.getElem?_map, hx]
    rfl
theorem sameT_any {w : World} {B B' n : Nat} {v v' : Value} {L : List ByteArray} (h : w.ownsRow B 9 1 v n (L.map Value.string)) (h' : w.ownsRow B' 9 1 v' n (L.map Value.string)) (hl : n ≤ 900000) :
    Calls Tryz.prog 44 #[v, v'] w fun e w' => e = .returned (.bool true) ∧ Below w.heap.size w w' := by
  by_cases h0 : n = 0
  · obtain ⟨a, c, rfl⟩ := own_sl h
    obtain ⟨a', c', rfl⟩ := own_sl h'
    rw [h0]
    exact sameT_none
  · obtain ⟨g, c, rfl, hc⟩ := tcell h (by omega)
    obtain ⟨g', c', rfl, hc'⟩ := tcell h' (by omega)
    exact sameT_big (by have := h.1; simp at this; exact this.symm) hl hc hc'
end Go.Proofs.YtepjcfhbbcaldaaGreat.Li
namespace Go.Proofs.YtepjcfhbbcaldaaGreat.Li
open Go Go.RowKit
set_option linter.unusedSimpArgs false
set_option linter.unusedVariables false
def agg3 (u : V3) : Value := .agg #[u.1, .bool false, u.2.1, u.2.2]
theorem shc_get : ∀ (l : List V3) (i : Nat) (u : V3), l[i]? = some u → (shc l)[i * 4]? = some u.1 ∧ (shc l)[i * 4 + 1]? = some (.bool false) ∧ (shc l)[i * 4 + 2]? = some u.2.1 ∧ (shc l)[i * 4 + 3]? = some u.2.2
  | [], i, u, h => by simp at h
  | a :: l, 0, u, h => by
    simp at h
    subst h
    exact ⟨rfl, rfl, rfl, rfl⟩
  | a :: l, i + 1, u, h => by
    have := shc_get l i u (by simpa using h)
    have e : shc (a :: l) = [a.1, .bool false, a.2.1, a.2.2] ++ shc l := rfl
    rw [e]
    have q : ∀ j, ([a.1, .bool false, a.2.1, a.2.2] ++ shc l)[(i + 1) * 4 + j]? = (shc l)[i * 4 + j]? := fun j => by
      rw [List.getElem?_append_right (by simp; omega)]
      congr 1
      simp
      omega
    exact ⟨(q 0).trans this.1, (q 1).trans this.2.1, (q 2).trans this.2.2.1, (q 3).trans this.2.2.2⟩
theorem kcell {w : World} {B n : Nat} {v : Value} {l : List V3} (h : w.ownsRow B 49 4 v n (shc l)) (hn : n = l.length) (h0 : 0 < n) : ∃ g c, v = .slice (some ⟨g, 0, none⟩) n c ∧ ∀ (i : Nat) (u : V3), l[i]? = some u → w.cell? ⟨g, i * 4, none⟩ = some u.1 ∧ w.cell? ⟨g, i * 4 + 1, none⟩ = some (.bool false) ∧ w.cell? ⟨g, i * 4 + 2, none⟩ = some u.2.1 ∧ w.cell? ⟨g, i * 4 + 3, none⟩ = some u.2.2 := by
  rcases h.2 with ⟨_, e⟩ | ⟨g, cap, cur, rfl, _⟩
  · omega
  · refine ⟨g, cap, rfl, fun i u hu => ?_⟩
    have hi := (List.getElem?_eq_some_iff.1 hu).1
    obtain ⟨a, b, c, d⟩ := shc_get l i u hu
    rw [h.cellAt (i * 4) (by omega), h.cellAt (i * 4 + 1) (by omega), h.cellAt (i * 4 + 2) (by omega), h.cellAt (i * 4 + 3) (by omega)]
    exact ⟨a, b, c, d⟩
set_option maxRecDepth 100000 in
set_option maxHeartbeats 8000000 in
/-- SAMESHAPE walked, what its calls tell given. -/
theorem sameShape_walk {w2 : World} {l1 l2 e1 e2 : Value} {k1 k2 : Option Addr} {n c1 c2 : Nat} {vs us : List V3} (la : ∃ a m c, l1 = .slice a m c) (lb : ∃ a m c, l2 = .slice a m c) (ea : ∃ a m c, e1 = .slice a m c) (eb : ∃ a m c, e2 = .slice a m c)
    (hT : ∀ w', Below w2.heap.size w2 w' → Calls Tryz.prog 44 #[l1, l2] w' fun e w'' => e = .returned (.bool true) ∧ Below w'.heap.size w' w'') (hE : ∀ w', Below w2.heap.size w2 w' → Calls Tryz.prog 16 #[e1, e2] w' fun e w'' => e = .returned (.bool true) ∧ Below w'.heap.size w' w'')
    (h1 : w2.ownsRow 0 49 4 (.slice k1 n c1) n (shc vs)) (h2 : w2.ownsRow 0 49 4 (.slice k2 n c2) n (shc us)) (n1 : n = vs.length) (n2 : n = us.length) (hn : n ≤ 9223372036854775807)
    (hR : ∀ (i : Nat) (v u : V3), vs[i]? = some v → us[i]? = some u → ∀ w', Below w2.heap.size w2 w' → Calls Tryz.prog 26 #[agg3 v, agg3 u] w' fun e w'' => e = .returned (.bool true) ∧ Below w'.heap.size w' w'') :
    Calls Tryz.prog 26 #[.agg #[l1, .bool false, e1, .slice k1 n c1], .agg #[l2, .bool false, e2, .slice k2 n c2]] w2 fun e w' => e = .returned (.bool true) ∧ Below w2.heap.size w2 w' := by
  obtain ⟨la1, la2, la3, rfl⟩ := la
  obtain ⟨lb1, lb2, lb3, rfl⟩ := lb
  obtain ⟨ea1, ea2, ea3, rfl⟩ := ea
  obtain ⟨eb1, eb2, eb3, rfl⟩ := eb
  have HT := hidi hT
  have HE := hidi hE
  have HR := hidi hR
  have HH := hidi (And.intro h1 (And.intro h2 (And.intro n1 (And.intro n2 hn))))
  obtain ⟨w3, hw3⟩ : ∃ w3, w3 = (w2.alloc (.cells #[.slice la1 la2 la3, .bool false, .slice ea1 ea2 ea3, .slice k1 n c1] 49)).alloc (.cells #[.slice lb1 lb2 lb3, .bool false, .slice eb1 eb2 eb3, .slice k2 n c2] 49) := ⟨_, rfl⟩
  have b3 : Below w2.heap.size w2 w3 := by rw [hw3]; exact ((Below.refl _ _).alloc (Nat.le_refl _) _).alloc (by simp) _
  have q1 : w3.heap[w2.heap.size]? = some (.cells #[.slice la1 la2 la3, .bool false, .slice ea1 ea2 ea3, .slice k1 n c1] 49 (0, 0)) := by
    rw [hw3, (World.grownBy_alloc _ _ none).block _ (by simp) (by simp)]
    exact heap_alloc_new _ _
  have q2 : w3.heap[w2.heap.size + 1]? = some (.cells #[.slice lb1 lb2 lb3, .bool false, .slice eb1 eb2 eb3, .slice k2 n c2] 49 (0, 0)) := by
    have := heap_alloc_new (w2.alloc (.cells #[.slice la1 la2 la3, .bool false, .slice ea1 ea2 ea3, .slice k1 n c1] 49)) (.cells #[.slice lb1 lb2 lb3, .bool false, .slice eb1 eb2 eb3, .slice k2 n c2] 49)
    rw [hw3]
    simpa using this
  obtain ⟨b2, hb2⟩ : ∃ b2, b2 = w2.heap.size + 1 := ⟨_, rfl⟩
  rw [← hb2] at q2
  have CB := hidi (fun (wx : World) (hb : Below w3.heap.size w3 wx) => (show (wx.cell? ⟨w2.heap.size, 0, none⟩ = some (.slice la1 la2 la3) ∧ wx.cell? ⟨w2.heap.size, 1, none⟩ = some (.bool false) ∧ wx.cell? ⟨w2.heap.size, 2, none⟩ = some (.slice ea1 ea2 ea3) ∧ wx.cell? ⟨w2.heap.size, 3, none⟩ = some (.slice k1 n c1)) ∧ wx.cell? ⟨b2, 0, none⟩ = some (.slice lb1 lb2 lb3) ∧ wx.cell? ⟨b2, 1, none⟩ = some (.bool false) ∧ wx.cell? ⟨b2, 2, none⟩ = some (.slice eb1 eb2 eb3) ∧ wx.cell? ⟨b2, 3, none⟩ = some (.slice k2 n c2) from by
    have r1 := later_at q1 hb
    have r2 := later_at q2 hb
    exact ⟨⟨box_cells r1 0 _ rfl, box_cells r1 1 _ rfl, box_cells r1 2 _ rfl, box_cells r1 3 _ rfl⟩, box_cells r2 0 _ rfl, box_cells r2 1 _ rfl, box_cells r2 2 _ rfl, box_cells r2 3 _ rfl⟩))
  have B3 := hidi b3
  clear h1 h2 n1 n2 hT hE hR b3 q1 q2
  go_enter Tryz.func26, Tryz.ntmps26
  go_upto_region 1 with fail
  rw [← hw3, ← hb2]
  obtain ⟨⟨x0, x1, x2, x3⟩, y0, y1, y2, y3⟩ := CB.out w3 (Below.refl _ _)
  have T3 := hidi (HT.out w3 B3.out)
  clear hw3 hb2 HT
  obtain ⟨b1, hb1⟩ : ∃ b1, b1 = w2.heap.size := ⟨_, rfl⟩
  rw [← hb1] at x0 x1 x2 x3 CB ⊢
  clear hb1
  go_wp2_with (first
    | (go_at_call 44; refine T3.out.mono ?_; rintro e w4 ⟨rfl, hb⟩; clear x0 x1 x2 x3 y0 y1 y2 y3; obtain ⟨⟨x0, x1, x2, x3⟩, y0, y1, y2, y3⟩ := CB.out w4 hb; have E4 := hidi (HE.out w4 (B3.out.trans (hb.mono B3.out.size))); have B4 := hidi hb; clear hb T3 HE)
    | (go_at_call 16; refine E4.out.mono ?_; rintro e w5 ⟨rfl, hb⟩; have B5 := hidi (B4.out.trans (hb.mono B4.out.size)); clear x0 x1 x2 x3 y0 y1 y2 y3; obtain ⟨⟨x0, x1, x2, x3⟩, y0, y1, y2, y3⟩ := CB.out w5 B5.out; clear hb E4))
  clear x0 x1 x2 x3 y0 y1 y2 y3
  go_loopg [5] n (fun gg s5 wx => ∃ i : Nat, i + gg = n ∧ s5 = .int .i64 i ∧ Hid (Below w3.heap.size w3 wx))
  case atStart => exact ⟨0, by omega, rfl, B5.out⟩
  case round =>
    obtain ⟨i, hi, rfl, Z⟩ := hrel
    obtain ⟨⟨x0, x1, x2, x3⟩, y0, y1, y2, y3⟩ := CB.out wr Z.out
    by_cases lt : i < n
    · have lt' : (i : Int) < n := by omega
      have ge' : ¬ (i : Int) < 0 := by omega
      have ge2 : (0 : Int) ≤ (i : Int) := by omega
      have hw : IntKind.i64.wrap ((i : Int) + 1) = (i : Int) + 1 := by rw [IntKind.wrap_i64]; omega
      obtain ⟨h1, h2, n1, n2, hn⟩ := HH.out
      obtain ⟨ga, ca, hv1, hc1⟩ := kcell h1 n1 (by omega)
      obtain ⟨gb, cb, hv2, hc2⟩ := kcell h2 n2 (by omega)
      simp only [Value.slice.injEq, true_and] at hv1 hv2
      obtain ⟨rfl, rfl⟩ := hv1
      obtain ⟨rfl, rfl⟩ := hv2
      obtain ⟨⟨v1, v2, v3⟩, hv⟩ : ∃ v, vs[i]? = some v := ⟨_, List.getElem?_eq_getElem (by omega)⟩
      obtain ⟨⟨u1, u2, u3⟩, hu⟩ : ∃ u, us[i]? = some u := ⟨_, List.getElem?_eq_getElem (by omega)⟩
      obtain ⟨p0, p1, p2, p3⟩ := hc1 i _ hv
      obtain ⟨r0, r1, r2, r3⟩ := hc2 i _ hu
      have B0 := hidi ((Below.refl wr.heap.size wr).drew)
      have bz := B3.out.trans (Z.out.mono B3.out.size)
      have kp : ∀ {a : Addr} {v : Value}, w2.cell? a = some v → wr.drew.cell? a = some v := fun {a v} h => ((bz.trans (B0.out.mono bz.size)).cell (World.block_lt_of_cell? _ _ h)).trans h
      have hS0 : wr.drew.cell? ⟨b1, 3, none⟩ = some (.slice (some ⟨ga, 0, none⟩) n c1) ∧ wr.drew.cell? ⟨b2, 3, none⟩ = some (.slice (some ⟨gb, 0, none⟩) n c2) ∧ wr.drew.cell? ⟨ga, i * 4, none⟩ = some v1 ∧ wr.drew.cell? ⟨ga, i * 4 + 1, none⟩ = some (.bool false) ∧ wr.drew.cell? ⟨ga, i * 4 + 2, none⟩ = some v2 ∧ wr.drew.cell? ⟨ga, i * 4 + 3, none⟩ = some v3 ∧ wr.drew.cell? ⟨gb, i * 4, none⟩ = some u1 ∧ wr.drew.cell? ⟨gb, i * 4 + 1, none⟩ = some (.bool false) ∧ wr.drew.cell? ⟨gb, i * 4 + 2, none⟩ = some u2 ∧ wr.drew.cell? ⟨gb, i * 4 + 3, none⟩ = some u3 := ⟨x3, y3, kp p0, kp p1, kp p2, kp p3, kp r0, kp r1, kp r2, kp r3⟩
      have RC := hidi (fun (wq : World) (hb : Below wr.heap.size wr wq) => HR.out i _ _ hv hu wq (bz.trans (hb.mono bz.size)))
      have HSK := hidi (fun (wq : World) (hb : Below wr.drew.heap.size wr.drew wq) => (show wq.cell? ⟨b1, 3, none⟩ = some (.slice (some ⟨ga, 0, none⟩) n c1) ∧ wq.cell? ⟨b2, 3, none⟩ = some (.slice (some ⟨gb, 0, none⟩) n c2) ∧ wq.cell? ⟨ga, i * 4, none⟩ = some v1 ∧ wq.cell? ⟨ga, i * 4 + 1, none⟩ = some (.bool false) ∧ wq.cell? ⟨ga, i * 4 + 2, none⟩ = some v2 ∧ wq.cell? ⟨ga, i * 4 + 3, none⟩ = some v3 ∧ wq.cell? ⟨gb, i * 4, none⟩ = some u1 ∧ wq.cell? ⟨gb, i * 4 + 1, none⟩ = some (.bool false) ∧ wq.cell? ⟨gb, i * 4 + 2, none⟩ = some u2 ∧ wq.cell? ⟨gb, i * 4 + 3, none⟩ = some u3 from by
        have kq : ∀ {a : Addr} {v : Value}, wr.drew.cell? a = some v → wq.cell? a = some v := fun {a v} h => (hb.cell (World.block_lt_of_cell? _ _ h)).trans h
        obtain ⟨s0, s1, s2, s3, s4, s5, s6, s7, s8, s9⟩ := hS0
        exact ⟨kq s0, kq s1, kq s2, kq s3, kq s4, kq s5, kq s6, kq s7, kq s8, kq s9⟩))
      unfold agg3 at RC
      clear x0 x1 x2 y0 y1 y2 hc1 hc2 hv hu p0 p1 p2 p3 r0 r1 r2 r3 bz kp h1 h2 n1 n2 hn
      go_wp2_with fail
      refine wp_region_held_drew (S := fun w' => w'.cell? ⟨b1, 3, none⟩ = some (.slice (some ⟨ga, 0, none⟩) n c1) ∧ w'.cell? ⟨b2, 3, none⟩ = some (.slice (some ⟨gb, 0, none⟩) n c2) ∧ w'.cell? ⟨ga, i * 4, none⟩ = some v1 ∧ w'.cell? ⟨ga, i * 4 + 1, none⟩ = some (.bool false) ∧ w'.cell? ⟨ga, i * 4 + 2, none⟩ = some v2 ∧ w'.cell? ⟨ga, i * 4 + 3, none⟩ = some v3 ∧ w'.cell? ⟨gb, i * 4, none⟩ = some u1 ∧ w'.cell? ⟨gb, i * 4 + 1, none⟩ = some (.bool false) ∧ w'.cell? ⟨gb, i * 4 + 2, none⟩ = some u2 ∧ w'.cell? ⟨gb, i * 4 + 3, none⟩ = some u3) (by kernel_rfl) hS0 (fun hHeld => ?_)
      change wpAnyH _ _ _ _ _ 12 #[false, false, false, false, false, false, false, false, false, false, false, false] _ (World.drew _)
      refine wpAnyH_take (i := 0) (oi := { dst := some 43, op := Go.Op.fieldAddr 49 (Go.Operand.tmp 2) 3, type := 0, pos := "exact.go:76", after := #[], guard := none }) (v := .pointer (some ⟨b1, 3, none⟩)) rfl (by kernel_rfl) (by kernel_rfl) (by kernel_rfl) (fun _ _ _ h => h) (Or.inl ⟨by kernel_rfl, by intro wq hSw; (try dsimp only at hSw); go_simp⟩) hHeld ?_
      (try simp only [Act.put, List.setIfInBounds_toArray, List.set_cons_zero, List.set_cons_succ])
      refine wpAnyH_take (i := 1) (oi := { dst := some 44, op := Go.Op.load 47 (Go.Operand.tmp 43), type := 47, pos := "exact.go:76", after := #[{ on := 0, ground := Go.Ground.data }], guard := none }) (v := .slice (some ⟨ga, 0, none⟩) n c1) rfl (by kernel_rfl) (by kernel_rfl) (by kernel_rfl) (fun _ _ _ h => h) (Or.inl ⟨by kernel_rfl, by intro wq hSw; (try dsimp only at hSw); go_simp⟩) hHeld ?_
      (try simp only [Act.put, List.setIfInBounds_toArray, List.set_cons_zero, List.set_cons_succ])
      refine wpAnyH_take (i := 2) (oi := { dst := some 45, op := Go.Op.move (Go.Operand.tmp 5), type := 3, pos := "exact.go:76", after := #[], guard := none }) (v := .int .i64 (i : Int)) rfl (by kernel_rfl) (by kernel_rfl) (by kernel_rfl) (fun _ _ _ h => h) (Or.inl ⟨by kernel_rfl, by intro wq hSw; (try dsimp only at hSw); go_simp⟩) hHeld ?_
      (try simp only [Act.put, List.setIfInBounds_toArray, List.set_cons_zero, List.set_cons_succ])
      refine wpAnyH_take (i := 3) (oi := { dst := some 46, op := Go.Op.indexAddr 47 (Go.Operand.tmp 44) (Go.Operand.tmp 45), type := 0, pos := "exact.go:76", after := #[{ on := 1, ground := Go.Ground.data }, { on := 2, ground := Go.Ground.data }], guard := none }) (v := .pointer (some ⟨ga, i * 4, none⟩)) rfl (by kernel_rfl) (by kernel_rfl) (by kernel_rfl) (fun _ _ _ h => h) (Or.inl ⟨by kernel_rfl, by intro wq hSw; (try dsimp only at hSw); go_simp⟩) hHeld ?_
      (try simp only [Act.put, List.setIfInBounds_toArray, List.set_cons_zero, List.set_cons_succ])
      refine wpAnyH_take (i := 4) (oi := { dst := some 47, op := Go.Op.load 49 (Go.Operand.tmp 46), type := 49, pos := "exact.go:76", after := #[{ on := 3, ground := Go.Ground.data }], guard := none }) (v := .agg #[v1, .bool false, v2, v3]) rfl (by kernel_rfl) (by kernel_rfl) (by kernel_rfl) (fun _ _ _ h => h) (Or.inl ⟨by kernel_rfl, by intro wq hSw; (try dsimp only at hSw); go_simp⟩) hHeld ?_
      (try simp only [Act.put, List.setIfInBounds_toArray, List.set_cons_zero, List.set_cons_succ])
      refine wpAnyH_take (i := 5) (oi := { dst := some 48, op := Go.Op.fieldAddr 49 (Go.Operand.tmp 3) 3, type := 0, pos := "exact.go:76", after := #[], guard := none }) (v := .pointer (some ⟨b2, 3, none⟩)) rfl (by kernel_rfl) (by kernel_rfl) (by kernel_rfl) (fun _ _ _ h => h) (Or.inl ⟨by kernel_rfl, by intro wq hSw; (try dsimp only at hSw); go_simp⟩) hHeld ?_
      (try simp only [Act.put, List.setIfInBounds_toArray, List.set_cons_zero, List.set_cons_succ])
      refine wpAnyH_take (i := 6) (oi := { dst := some 49, op := Go.Op.load 47 (Go.Operand.tmp 48), type := 47, pos := "exact.go:76", after := #[{ on := 5, ground := Go.Ground.data }], guard := none }) (v := .slice (some ⟨gb, 0, none⟩) n c2) rfl (by kernel_rfl) (by kernel_rfl) (by kernel_rfl) (fun _ _ _ h => h) (Or.inl ⟨by kernel_rfl, by intro wq hSw; (try dsimp only at hSw); go_simp⟩) hHeld ?_
      (try simp only [Act.put, List.setIfInBounds_toArray, List.set_cons_zero, List.set_cons_succ])
      refine wpAnyH_take (i := 7) (oi := { dst := some 50, op := Go.Op.move (Go.Operand.tmp 5), type := 3, pos := "exact.go:76", after := #[], guard := none }) (v := .int .i64 (i : Int)) rfl (by kernel_rfl) (by kernel_rfl) (by kernel_rfl) (fun _ _ _ h => h) (Or.inl ⟨by kernel_rfl, by intro wq hSw; (try dsimp only at hSw); go_simp⟩) hHeld ?_
      (try simp only [Act.put, List.setIfInBounds_toArray, List.set_cons_zero, List.set_cons_succ])
      refine wpAnyH_take (i := 8) (oi := { dst := some 51, op := Go.Op.indexAddr 47 (Go.Operand.tmp 49) (Go.Operand.tmp 50), type := 0, pos := "exact.go:76", after := #[{ on := 6, ground := Go.Ground.data }, { on := 7, ground := Go.Ground.data }], guard := none }) (v := .pointer (some ⟨gb, i * 4, none⟩)) rfl (by kernel_rfl) (by kernel_rfl) (by kernel_rfl) (fun _ _ _ h => h) (Or.inl ⟨by kernel_rfl, by intro wq hSw; (try dsimp only at hSw); go_simp⟩) hHeld ?_
      (try simp only [Act.put, List.setIfInBounds_toArray, List.set_cons_zero, List.set_cons_succ])
      refine wpAnyH_take (i := 9) (oi := { dst := some 52, op := Go.Op.load 49 (Go.Operand.tmp 51), type := 49, pos := "exact.go:76", after := #[{ on := 8, ground := Go.Ground.data }], guard := none }) (v := .agg #[u1, .bool false, u2, u3]) rfl (by kernel_rfl) (by kernel_rfl) (by kernel_rfl) (fun _ _ _ h => h) (Or.inl ⟨by kernel_rfl, by intro wq hSw; (try dsimp only at hSw); go_simp⟩) hHeld ?_
      (try simp only [Act.put, List.setIfInBounds_toArray, List.set_cons_zero, List.set_cons_succ])
      refine wpAnyH_ready (rs := [10]) (by kernel_rfl) (by simp) ?_
      refine AllReadyH.cons (o := { dst := some 53, op := Go.Op.call { callee := Go.Callee.value (Go.Operand.func 26), args := #[Go.Operand.tmp 47, Go.Operand.tmp 52], argTypes := #[49, 49] }, type := 4, pos := "exact.go:76", after := #[{ on := 4, ground := Go.Ground.data }, { on := 9, ground := Go.Ground.data }], guard := none }) (by rfl) (fun K hK => ?_) AllReadyH.nil
      go_simp
      go_wp2_with (go_at_call 26; refine (RC.out _ B0.out).mono ?_; rintro e wq ⟨rfl, hb⟩; have BQ := hidi (Z.out.trans ((B0.out.trans (hb.mono B0.out.size)).mono Z.out.size)); have HQ := hidi (HSK.out _ hb); clear hb)
      refine hK.out _ _ HQ.out (fun hHeld => ?_)
      clear hK K
      (try simp only [Act.put, List.setIfInBounds_toArray, List.set_cons_zero, List.set_cons_succ])
      refine wpAnyH_take (i := 11) (oi := { dst := some 54, op := Go.Op.unOp Go.UnOp.not 4 (Go.Operand.tmp 53), type := 4, pos := "exact.go:76", after := #[{ on := 10, ground := Go.Ground.data }], guard := none }) (v := .bool false) rfl (by kernel_rfl) (by kernel_rfl) (by kernel_rfl) (fun _ _ _ h => h) (Or.inl ⟨by kernel_rfl, by intro wq hSw; (try dsimp only at hSw); go_simp⟩) hHeld ?_
      (try simp only [Act.put, List.setIfInBounds_toArray, List.set_cons_zero, List.set_cons_succ])
      refine wpAnyH_done (by kernel_rfl) ?_ _
      go_wp2_with fail
      go_roundg (n - (i + 1))
      case measure => omega
      case rel => exact ⟨i + 1, by omega, by simp, BQ.out⟩
    · have lt' : ¬ (i : Int) < n := by omega
      have FIN := hidi (B3.out.trans (Z.out.mono B3.out.size))
      go_wp2_with fail
      go_ret
      exact ⟨rfl, FIN.out⟩
end Go.Proofs.YtepjcfhbbcaldaaGreat.Li
namespace Go.Proofs.YtepjcfhbbcaldaaGreat.Li
open Go Go.RowKit
set_option linter.unusedSimpArgs false
set_option linter.unusedVariables false
theorem own_max {w : World} {B e s n : Nat} {v : Value} {xs : List Value} (h : w.ownsRow B e s v n xs) : n ≤ 9223372036854775807 := by
  rcases h.2 with ⟨_, q⟩ | ⟨g, cap, cur, _, _, _, a, b, _⟩
  · omega
  · unfold maxLen at b; omega
/-- SAMESHAPE of what stands alike. -/
theorem sameShape_any {T U : List Fn} (tw : Twin T U) (bd : ∀ f ∈ T, f.s.m ≤ 65536 ∧ f.ne ≤ 100000) {w : World} {V : Nat → Prop} {f : Fn} {u : V3} (h : ShAt w V T f u) : f ∈ T → ∀ (w2 : World), Below w.heap.size w w2 → VC 0 w V → ∀ (V' : Nat → Prop) (g : Fn) (u' : V3), g ∈ U → f.s.A = g.s.A → VC 0 w2 V' → ShAt w2 V' U g u' →
    Calls Tryz.prog 26 #[agg3 u, agg3 u'] w2 fun e w' => e = .returned (.bool true) ∧ Below w2.heap.size w2 w' := by
  induction h with
  | mk f u L K E vs lv lV en eV es ks len kd kV sub ih =>
    intro hf w2 hb vc V' g u' hg e vc' sh'
    cases sh' with
    | mk _ _ L' K' E' vs' lv' lV' en' eV' es' ks' len' kd' kV' sub' =>
      obtain ⟨LL, kk⟩ := tw.kids hf hg e ks ks'
      have EE : E' = E := ks_uniq es'.ord es.ord (fun y => by rw [es'.mem, es.mem, tw.en f hf g hg e])
      have mm := tw.m f hf g hg e
      have edge : g.s.edge = f.s.edge := by unfold Nd.edge Nd.top; rw [e, mm]
      have vl : vs'.length = vs.length := by rw [len', len, ks'.len, ks.len, LL]
      obtain ⟨u1, u2, u3⟩ := u
      obtain ⟨p1, p2, p3⟩ := u'
      simp only at lv en kd lv' en' kd' lV eV kV lV' eV' kV'
      obtain ⟨k1, c1, rfl⟩ := own_sl kd
      obtain ⟨k2, c2, rfl⟩ := own_sl kd'
      obtain ⟨b1, b2⟩ := bd f hf
      have El : E.length ≤ 100000 := by rw [es.len]; exact b2
      subst EE
      rw [← mm, edge] at lv'
      rw [← tw.en f hf g hg e] at en'
      have kd2 := own_below kd hb
      rw [vl] at kd'
      obtain ⟨a1, d1, q1⟩ := own_sl lv
      obtain ⟨a2, d2, q2⟩ := own_sl lv'
      obtain ⟨a3, d3, q3⟩ := own_sl en
      obtain ⟨a4, d4, q4⟩ := own_sl en'
      unfold agg3
      simp only [vl]
      refine sameShape_walk (vs := vs) (us := vs') ⟨_, _, _, q1⟩ ⟨_, _, _, q2⟩ ⟨_, _, _, q3⟩ ⟨_, _, _, q4⟩ (fun w' hb' => sameT_any (own_below (own_below lv hb) hb') (own_below lv' hb') (by omega)) (fun w' hb' => ?_) kd2 kd' rfl vl.symm (own_max kd) (fun i v p hv hp w' hb' => ?_)
      · have x1 := own_below (own_below en hb) hb'
        have x2 := own_below en' hb'
        rw [eL_er] at x1 x2
        exact sameE_any (R := E'.map fun y => (y, (f.en y).getD 0)) (by simpa using x1) (by simpa using x2) (by simp; omega)
      · obtain ⟨q, hq⟩ : ∃ q, K[i]? = some q := ⟨_, List.getElem?_eq_getElem (by have := (List.getElem?_eq_some_iff.1 hv).1; omega)⟩
        obtain ⟨q', hq'⟩ : ∃ q', K'[i]? = some q' := ⟨_, List.getElem?_eq_getElem (by have := (List.getElem?_eq_some_iff.1 hp).1; omega)⟩
        obtain ⟨m1, m2, m3⟩ := kk i q q' hq hq'
        have blk : ∀ k, V' k → w'.heap[k]? = w2.heap[k]? := fun k hk => hb'.block k (vc'.lt hk)
        exact ih i q v hq hv m1 w' (hb.trans (hb'.mono hb.size)) vc V' q' p m2 m3 (vc'.keep blk) ((sub' i q' p hq' hp).keep blk (fun _ e => e))
variable {w w' : World} {tb m r tb' m' r' : Nat} {nf nf' nn nn' : Int} {T U : List Fn}
theorem ne_has (h : TM w tb m r nf nn T) (ok : ∀ F y z, HasE T F y z → okT y) (F : List ByteArray) : (∃ f ∈ T, f.s.A = F ∧ 0 < f.ne) ↔ ∃ y z, HasE T F y z := by
  constructor
  · rintro ⟨f, hf, rfl, h0⟩
    obtain ⟨y, oy, s⟩ := (h.nd f hf).ev.some_ h0
    cases e : f.en y with
    | none => rw [e] at s; cases s
    | some z => exact ⟨y, z, f, hf, rfl, e⟩
  · rintro ⟨y, z, f, hf, e1, e2⟩
    refine ⟨f, hf, e1, ?_⟩
    obtain ⟨K, k1, k2, k3⟩ := (h.nd f hf).ev.keys
    have := List.length_pos_of_mem ((k3 y).2 ⟨ok F y z ⟨f, hf, e1, e2⟩, by show ((f.en y).map _).isSome = true; rw [e2]; rfl⟩)
    omega
theorem nodes_has (h : TM w tb m r nf nn T) (ok : ∀ F y z, HasE T F y z → okT y) (fx : FormX T []) (A : List ByteArray) : (∃ f ∈ T, f.s.A = A) ↔ A = [] ∨ ∃ F G, (∃ y z, HasE T F y z) ∧ (∃ y z, HasE T G y z) ∧ A = lcp F G := by
  rw [nodes_iff h fx A]
  refine or_congr Iff.rfl ⟨?_, ?_⟩
  · rintro ⟨f, hf, g, hg, f0, g0, rfl⟩
    exact ⟨_, _, (ne_has h ok _).1 ⟨f, hf, rfl, f0⟩, (ne_has h ok _).1 ⟨g, hg, rfl, g0⟩, rfl⟩
  · rintro ⟨F, G, a, b, rfl⟩
    obtain ⟨f, hf, rfl, f0⟩ := (ne_has h ok F).2 a
    obtain ⟨g, hg, rfl, g0⟩ := (ne_has h ok G).2 b
    exact ⟨f, hf, g, hg, f0, g0, rfl⟩
theorem top_le {T U : List Fn} (iT : Inv (T.map Fn.s)) (iU : Inv (U.map Fn.s)) (nd : ∀ g ∈ U, ∃ f ∈ T, f.s.A = g.s.A) {f g : Fn} (hf : f ∈ T) (hg : g ∈ U) (e : f.s.A = g.s.A) (fm : 0 < f.s.m) (gm : 0 < g.s.m) : g.s.top ≤ f.s.top := by
  obtain ⟨d, hd, kd⟩ := iT.par f.s (List.mem_map_of_mem hf) fm
  obtain ⟨d', hd', kd'⟩ := iU.par g.s (List.mem_map_of_mem hg) gm
  obtain ⟨q', hq', rfl⟩ := List.mem_map.1 hd'
  obtain ⟨q, hq, eq⟩ := nd q' hq'
  refine Classical.byContradiction fun c => ?_
  have t1 := kd.2.1
  have t2 := kd'.2.1
  have p1 : d.A <+: f.s.A := kd.goes
  have p2 : q.s.A <+: f.s.A := by rw [eq, e]; exact kd'.goes
  have lt := kd'.lt (iU.le g.s (List.mem_map_of_mem hg)).1
  have p3 : d.A <+: q.s.A := prefix_le p1 p2 (by rw [eq]; omega)
  obtain ⟨x, hx, kx, px⟩ := iT.way q.s.A.length q.s (List.mem_map_of_mem hq) (Nat.le_refl _) d hd p3 (by rw [eq]; omega)
  have := iT.kid hx (List.mem_map_of_mem hf) kx kd (L := f.s.A) (.inl (px.trans p2)) (.inl (List.prefix_refl _))
  rw [this] at px
  have := px.length_le
  rw [e, eq] at this
  omega
/-- Two tries that hold the same stand alike. -/
theorem twin_of (hT : TM w tb m r nf nn T) (hU : TM w' tb' m' r' nf' nn' U) (oT : ∀ F y z, HasE T F y z → okT y) (fT : FormX T []) (fU : FormX U []) (e : ∀ F y z, HasE T F y z ↔ HasE U F y z) : Twin T U := by
  have oU : ∀ F y z, HasE U F y z → okT y := fun F y z h => oT F y z ((e F y z).2 h)
  have ex : ∀ F, (∃ y z, HasE T F y z) ↔ ∃ y z, HasE U F y z := fun F => ⟨fun ⟨y, z, h⟩ => ⟨y, z, (e F y z).1 h⟩, fun ⟨y, z, h⟩ => ⟨y, z, (e F y z).2 h⟩⟩
  have nd : ∀ A, (∃ f ∈ T, f.s.A = A) ↔ ∃ g ∈ U, g.s.A = A := fun A => by
    rw [nodes_has hT oT fT A, nodes_has hU oU fU A]
    refine or_congr Iff.rfl ⟨fun ⟨F, G, a, b, c⟩ => ⟨F, G, (ex F).1 a, (ex G).1 b, c⟩, fun ⟨F, G, a, b, c⟩ => ⟨F, G, (ex F).2 a, (ex G).2 b, c⟩⟩
  have n1 : ∀ f ∈ T, ∃ g ∈ U, g.s.A = f.s.A := fun f hf => (nd _).1 ⟨f, hf, rfl⟩
  have n2 : ∀ g ∈ U, ∃ f ∈ T, f.s.A = g.s.A := fun g hg => (nd _).2 ⟨g, hg, rfl⟩
  refine ⟨fun f hf => by obtain ⟨g, hg, q⟩ := n1 f hf; exact ⟨g, hg, q.symm⟩, n2, fun f hf g hg q => ?_, fun f hf g hg q => ?_, hU.inv, fun a ha b hb q => hT.same ha hb q, fun a ha b hb q => hU.same ha hb q⟩
  · obtain ⟨l1, l2⟩ := hT.inv.le f.s (List.mem_map_of_mem hf)
    obtain ⟨l3, l4⟩ := hU.inv.le g.s (List.mem_map_of_mem hg)
    by_cases c : f.s.A = []
    · rw [l2.1 c, l4.1 (q ▸ c)]
    · have fm : 0 < f.s.m := Nat.pos_of_ne_zero (fun z => c (l2.2 z))
      have gm : 0 < g.s.m := Nat.pos_of_ne_zero (fun z => c (q.trans (l4.2 z)))
      have a := top_le hT.inv hU.inv n2 hf hg q fm gm
      have b := top_le hU.inv hT.inv n1 hg hf q.symm gm fm
      have : f.s.top = g.s.top := by omega
      unfold Nd.top at this
      rw [q] at this l1
      omega
  · funext y
    have k : ∀ z, f.en y = some z ↔ g.en y = some z := fun z => by
      constructor
      · intro h
        obtain ⟨g', hg', a, b⟩ := (e f.s.A y z).1 ⟨f, hf, rfl, h⟩
        obtain rfl := hU.same hg' hg (a.trans q)
        exact b
      · intro h
        obtain ⟨f', hf', a, b⟩ := (e g.s.A y z).2 ⟨g, hg, rfl, h⟩
        obtain rfl := hT.same hf' hf (a.trans q.symm)
        exact b
    cases h : f.en y with
    | some z => exact ((k z).1 h).symm
    | none =>
      cases h' : g.en y with
      | none => rfl
      | some z => rw [(k z).2 h'] at h; cases h
theorem twin_len (hT : TM w tb m r nf nn T) (hU : TM w' tb' m' r' nf' nn' U) (tw : Twin T U) : T.length = U.length := by
  have nd : (U.map (fun f => f.s.A)).Nodup := by
    have := hU.inv.dis
    rw [List.pairwise_map] at this
    exact List.pairwise_map.2 this
  have := nodes_len hT nd (fun A => by
    rw [List.mem_map]
    constructor
    · rintro ⟨g, hg, rfl⟩
      exact tw.nd' g hg
    · rintro ⟨f, hf, rfl⟩
      obtain ⟨g, hg, q⟩ := tw.nd f hf
      exact ⟨g, hg, q.symm⟩)
  simpa using this
theorem twin_nf (hT : TM w tb m r nf nn T) (hU : TM w' tb' m' r' nf' nn' U) (oT : ∀ F y z, HasE T F y z → okT y) (e : ∀ F y z, HasE T F y z ↔ HasE U F y z) (c : CN T nf) (c' : CN U nf') : nf = nf' := by
  obtain ⟨Fs, a1, a2, a3⟩ := c
  obtain ⟨Gs, b1, b2, b3⟩ := c'
  have oU : ∀ F y z, HasE U F y z → okT y := fun F y z h => oT F y z ((e F y z).2 h)
  have := len_of a1 b1 (fun F => by
    rw [a2, b2, ne_has hT oT, ne_has hU oU]
    exact ⟨fun ⟨y, z, h⟩ => ⟨y, z, (e F y z).1 h⟩, fun ⟨y, z, h⟩ => ⟨y, z, (e F y z).2 h⟩⟩)
  omega
set_option maxRecDepth 100000 in
set_option maxHeartbeats 4000000 in
/-- SAME, of two tries that stand alike. -/
theorem same_any (hT : TM w tb m r nf nn T) (hU : TM w tb' m' r' nf nn U) (tw : Twin T U) (lT : T.length ≤ 900000) (lU : U.length ≤ 900000) (fT : ∀ f ∈ T, f.ne ≤ 100000) (fU : ∀ f ∈ U, f.ne ≤ 100000) :
    Calls Tryz.prog 10 #[ptr tb, ptr tb'] w fun e w' => e = .returned (.bool true) ∧ Below w.heap.size w w' := by
  have L1 := hidi (len_tm hT)
  have L2 := hidi (len_tm hU)
  have N1 := hidi (nodes_tm hT)
  have N2 := hidi (nodes_tm hU)
  have S1 := hidi (Shape_any hT lT fT)
  have S2 := hidi (fun (wx : World) (hb : Below w.heap.size w wx) => Shape_any (hU.below hb) lU fU)
  have SS := hidi (fun (wx wy : World) (f g : Fn) (u u' : V3) (V V' : Nat → Prop) (hf : f ∈ T) (hg : g ∈ U) (fA : f.s.A = []) (gA : g.s.A = []) (s1 : ShR w wx T f u V) (s2 : ShR wx wy U g u' V') => sameShape_any tw (fun f hf => ⟨by have := (hT.inv.le f.s (List.mem_map_of_mem hf)).1; have := (hT.ok f hf).2; omega, fT f hf⟩) s1.sh hf wy s2.be (fun k hk => ⟨Nat.zero_le _, (s1.vc k hk).2⟩) V' g u' hg (fA.trans gA.symm) (fun k hk => ⟨Nat.zero_le _, (s2.vc k hk).2⟩) s2.sh)
  unfold ptr agg3 at *
  clear hT hU tw lT lU fT fU
  go_enter Tryz.func10, Tryz.ntmps10
  go_wp2_with (first
    | (go_at_call 13; refine L1.out.mono ?_; rintro e w' ⟨rfl, he⟩; obtain rfl := he.symm; clear L1)
    | (go_at_call 13; refine L2.out.mono ?_; rintro e w' ⟨rfl, he⟩; obtain rfl := he.symm; clear L2)
    | (go_at_call 12; refine N1.out.mono ?_; rintro e w' ⟨rfl, he⟩; obtain rfl := he.symm; clear N1)
    | (go_at_call 12; refine N2.out.mono ?_; rintro e w' ⟨rfl, he⟩; obtain rfl := he.symm; clear N2)
    | (go_at_call 18; refine S1.out.mono ?_; rintro e w1 ⟨f, u, V, hf, fA, rfl, s1⟩; have S3 := hidi (S2.out w1 s1.be); have H1 := hidi (And.intro hf (And.intro fA s1)); clear hf fA s1 S1 S2)
    | (go_at_call 18; refine S3.out.mono ?_; rintro e w2 ⟨g, u', V', hg, gA, rfl, s2⟩; have S4 := hidi (SS.out w1 w2 f g u u' V V' H1.out.1 hg H1.out.2.1 gA H1.out.2.2 s2); have B2 := hidi (H1.out.2.2.be.trans (s2.be.mono H1.out.2.2.be.size)); clear hg gA s2 S3 SS)
    | (go_at_call 26; refine S4.out.mono ?_; rintro e w3 ⟨rfl, hb⟩; have B3 := hidi (B2.out.trans (hb.mono B2.out.size)); clear hb S4))
  go_ret
  exact ⟨rfl, B3.out⟩
end Go.Proofs.YtepjcfhbbcaldaaGreat.Li
namespace Go.Proofs.YtepjcfhbbcaldaaGreat.Li
open Go Go.RowKit
set_option linter.unusedSimpArgs false
set_option linter.unusedVariables false
variable {w0 w w1 w2 w3 : World} {tb m r tb' m' r' P : Nat} {nf nf' nfU : Int} {T T' U : List Fn} {E E' : Held}
theorem ts_of (h : TM w tb m r nf (T.length : Int) T) (fx : FormX T []) (cn : CN T nf) (few : ∀ f ∈ T, f.ne ≤ P) (nP : nf ≤ P) : TS w tb m r P nf T := by
  have n0 : 0 ≤ nf := by obtain ⟨Fs, _, _, e⟩ := cn; omega
  have bd := bound_tm h fx cn
  obtain ⟨rf, hrf, _⟩ := h.rt
  have := List.length_pos_of_mem hrf
  refine ⟨h, n0, nP, bd, ?_, few, fun f hf => ?_, cn⟩
  · by_cases c : 0 < nf
    · exact .inl c
    · exact .inr (by omega)
  · rcases fx f hf with c | c | c | c
    · exact .inl c
    · exact .inr (.inl c)
    · exact .inr (.inr c)
    · exact .inl (List.prefix_nil.1 c)
theorem TS.bs (t : TS w tb m r P nf T) (hP : P ≤ 100000) (ok : ∀ F y z, HasE T F y z → okT y) : Bs P nf T := by
  refine ⟨fun f hf => ?_, t.cn, t.few, ok, ?_⟩
  · rcases t.frm f hf with c | c | c
    · exact .inl c
    · exact .inr (.inl c)
    · exact .inr (.inr (.inl c))
  · have := t.cnt; have := t.nP; omega
/-- Fewer entries: no more filters. -/
theorem nf_le (h : TM w tb m r nf (T.length : Int) T) (h' : TM w2 tb m r nf' (T'.length : Int) T') (ok : ∀ F y z, HasE T F y z → okT y) (c : CN T nf) (c' : CN T' nf') (e : ∀ F y z, HasE T' F y z → HasE T F y z) : nf' ≤ nf := by
  obtain ⟨Fs, f1, f2, f3⟩ := c
  obtain ⟨Gs, g1, g2, g3⟩ := c'
  have := nodup_le Gs Fs g1 (fun F hF => by
    obtain ⟨y, z, q⟩ := (ne_has h' (fun F y z q => ok F y z (e F y z q)) F).1 ((g2 F).1 hF)
    exact (f2 F).2 ((ne_has h ok F).2 ⟨y, z, e F y z q⟩))
  omega
/-- A trie that changes, and one beside it that doesn't. -/
structure Two (w0 w : World) (tb m r P : Nat) (E : Held) (tb' m' r' : Nat) (nfU : Int) (U : List Fn) : Prop where
  ex : ∃ T nf, TS w tb m r P nf T ∧ (∀ F y z, HasE T F y z ↔ E F y z) ∧ (∀ j, isT tb T j → w0.heap.size ≤ j) ∧ ∀ j, isT tb T j → ¬ isT tb' U j
  be : Below w0.heap.size w0 w
  tu : TM w tb' m' r' nfU (U.length : Int) U
theorem Two.below (h : Two w0 w tb m r P E tb' m' r' nfU U) (hb : Below w.heap.size w w1) : Two w0 w1 tb m r P E tb' m' r' nfU U := by
  obtain ⟨⟨T, nf, a, b, c, d⟩, e, g⟩ := h
  exact ⟨⟨T, nf, a.below hb, b, c, d⟩, e.trans (hb.mono e.size), g.below hb⟩
theorem Two.congr (h : Two w0 w tb m r P E tb' m' r' nfU U) (e : ∀ F y z, E F y z ↔ E' F y z) : Two w0 w tb m r P E' tb' m' r' nfU U := by
  obtain ⟨⟨T, nf, a, b, c, d⟩, e', g⟩ := h
  exact ⟨⟨T, nf, a, fun F y z => (b F y z).trans (e F y z), c, d⟩, e', g⟩
theorem Two.more (h : Two w0 w tb m r P E tb' m' r' nfU U) {P' : Nat} (hP : P ≤ P') : Two w0 w tb m r P' E tb' m' r' nfU U := by
  obtain ⟨⟨T, nf, a, b, c, d⟩, e', g⟩ := h
  exact ⟨⟨T, nf, ⟨a.tm, a.n0, by have := a.nP; omega, a.cnt, a.one, fun f hf => by have := a.few f hf; omega, a.frm, a.cn⟩, b, c, d⟩, e', g⟩
/-- After a change of the one trie. -/
theorem Two.next {nf' : Int} {P' : Nat} (h : Two w0 w tb m r P E tb' m' r' nfU U) {T : List Fn} (tm : TM w tb m r nf (T.length : Int) T) (c : ∀ j, isT tb T j → w0.heap.size ≤ j) (d : ∀ j, isT tb T j → ¬ isT tb' U j) (hc : Ch (isT tb T) w w2) (t : TS w2 tb m r P' nf' T') (e : ∀ F y z, HasE T' F y z ↔ E' F y z) (is : ∀ j, isT tb T' j → isT tb T j ∨ w.heap.size ≤ j) : Two w0 w2 tb m r P' E' tb' m' r' nfU U := by
  obtain ⟨_, be, tu⟩ := h
  have bs := be.size
  refine ⟨⟨T', nf', t, e, fun j q => (is j q).elim (c j) (fun q => by omega), fun j q u => (is j q).elim (fun q => d j q u) (fun q => by have := tu.islt u; omega)⟩, ?_, ?_⟩
  · exact ⟨hc.os.trans be.os, hc.tape.trans be.tape, hc.output.trans be.output, Nat.le_trans be.size hc.size, fun k hk => (hc.block k (Nat.lt_of_lt_of_le hk be.size) (fun q => by have := c k q; omega)).trans (be.block k hk)⟩
  · exact tu.keep hc (fun q => d tb' q (.inl rfl)) (fun f hf k hk q => d k q (.inr ⟨f, hf, hk⟩)) (fun k q => tm.no9 q)
theorem Two.uniq (h : Two w0 w tb m r P E tb' m' r' nfU U) {F : List ByteArray} {y : ByteArray} {z z' : Int} (a : E F y z) (b : E F y z') : z = z' := by
  obtain ⟨⟨T, nf, t, e, _, _⟩, _, _⟩ := h
  obtain ⟨f, hf, f1, f2⟩ := (e F y z).2 a
  obtain ⟨g, hg, g1, g2⟩ := (e F y z').2 b
  obtain rfl := t.tm.same hf hg (f1.trans g1.symm)
  rw [f2] at g2
  injection g2
/-- Boxes of the law's own stay. -/
def KB29 (w w' : World) : Prop := ∀ (k : Nat) (cs : Array Value), w.heap[k]? = some (Obj.cells cs 29 (0, 0)) → w'.heap[k]? = some (Obj.cells cs 29 (0, 0))
theorem kb_below (hb : Below w.heap.size w w2) : KB29 w w2 := fun k cs e => (hb.block k (Array.getElem?_eq_some_iff.1 e).1).trans e
theorem kb_ch (h : TM w tb m r nf (T.length : Int) T) (hc : Ch (isT tb T) w w2) : KB29 w w2 := fun k cs e => (hc.block k (Array.getElem?_eq_some_iff.1 e).1 (by
  rintro (rfl | ⟨f, hf, rfl | q | q⟩)
  · rw [h.tr] at e; cases e
  · rw [(h.nd f hf).at_] at e; cases e
  · obtain ⟨es, c, q⟩ := (h.nd f hf).ev.block q
    rw [q] at e; cases e
  · obtain ⟨nk, kd, _, hm, _⟩ := (h.nd f hf).kv
    obtain ⟨es, c, q⟩ := hm.block q
    rw [q] at e; cases e)).trans e
theorem Two.put {s : Sb} (h : Two w0 w tb m r P E tb' m' r' nfU U) (hb : Below w.heap.size w w1) (hP : P < 100000) (hx : s.x.size ≤ 1000000) :
    Calls Tryz.prog 7 #[ptr tb, .string s.f, .string s.x, .int .i64 s.q] w1 fun e w' => ∃ o c : Int, e = .returned (.tuple #[.int .i64 o, .int .i64 c]) ∧ KB29 w1 w' ∧ ((c ≠ 0 ∧ ¬ (rfc s.f = 0 ∧ 0 ≤ s.q ∧ s.q ≤ 2) ∧ Two w0 w' tb m r (P + 1) E tb' m' r' nfU U) ∨ (c = 0 ∧ (rfc s.f = 0 ∧ 0 ≤ s.q ∧ s.q ≤ 2) ∧ (E (levels s.f) s.x o ∨ (o = -1 ∧ ∀ z, ¬ E (levels s.f) s.x z)) ∧ Two w0 w' tb m r (P + 1) (stepE E s) tb' m' r' nfU U)) := by
  have h1 := h.below hb
  have h1' := h1
  obtain ⟨⟨T, nf, t, e, c, d⟩, be, tu⟩ := h1'
  by_cases hf : rfc s.f = 0
  · by_cases hq : 0 ≤ s.q ∧ s.q ≤ 2
    · refine (put_right t hf hP hx hq.1 hq.2).mono ?_
      rintro e' w' ⟨o, rfl, pr⟩
      obtain ⟨T', nf', t1, t2, t3⟩ := pr.ex
      refine ⟨o, 0, rfl, kb_ch t.tm pr.ch, .inr ⟨rfl, ⟨hf, hq⟩, ?_, h1.next t.tm c d pr.ch t1 (fun F y z => ?_) t3⟩⟩
      · rcases pr.old with q | ⟨q1, q2⟩
        · exact .inl ((e _ _ _).1 q)
        · exact .inr ⟨q1, fun z q => q2 z ((e _ _ _).2 q)⟩
      · rw [t2]
        unfold stepE
        rw [if_pos ⟨hf, hq⟩, e]
    · refine (put_quality hf (by omega)).mono ?_
      rintro e' w' ⟨rfl, hb⟩
      exact ⟨0, 71, rfl, kb_below hb, .inl ⟨by decide, fun c => hq c.2, (h1.below hb).more (Nat.le_succ _)⟩⟩
  · refine (put_filter hf).mono ?_
    rintro e' w' ⟨rfl, hb⟩
    exact ⟨0, 70, rfl, kb_below hb, .inl ⟨by decide, fun c => hf c.1, (h1.below hb).more (Nat.le_succ _)⟩⟩
theorem Two.bound (h : Two w0 w tb m r P E tb' m' r' nfU U) (hP : P < 100000) : Calls Tryz.prog 8 #[ptr tb] w fun e w' => e = .returned (.bool true) ∧ w' = w := by
  obtain ⟨⟨T, nf, t, _⟩, _, _⟩ := h
  exact bound_any t hP
theorem Two.drop {f x : ByteArray} {q : Int} (h : Two w0 w tb m r P E tb' m' r' nfU U) (hP : P ≤ 100000) (ok : ∀ F y z, E F y z → okT y) (hfs : f.size ≤ 1000000) (hq : E (levels f) x q) :
    Calls Tryz.prog 9 #[ptr tb, .string f, .string x] w fun e w' => e = .returned (.bool true) ∧ KB29 w w' ∧ Two w0 w' tb m r P (fun F y z => E F y z ∧ ¬ (F = levels f ∧ y = x)) tb' m' r' nfU U := by
  have h1 := h
  obtain ⟨⟨T, nf, t, e, c, d⟩, be, tu⟩ := h1
  have okT' : ∀ F y z, HasE T F y z → okT y := fun F y z q => ok F y z ((e F y z).1 q)
  refine (drop_yes t.tm (t.bs hP okT') hP hfs ((e _ _ _).2 hq)).mono ?_
  rintro e' w' ⟨rfl, ⟨T', nf', tm, qs⟩, hc⟩
  refine ⟨rfl, kb_ch t.tm hc, h.next t.tm c d hc (ts_of tm qs.frm qs.cn qs.few ?_) (fun F y z => by rw [qs.has, e]) (fun j q => .inl (qs.is j q))⟩
  have := nf_le t.tm tm okT' t.cn qs.cn (fun F y z q => ((qs.has F y z).1 q).1)
  have := t.nP
  omega
theorem Two.leave {x : ByteArray} (h : Two w0 w tb m r P E tb' m' r' nfU U) (hP : P ≤ 100000) (ok : ∀ F y z, E F y z → okT y) (hx : okT x) :
    Calls Tryz.prog 11 #[ptr tb, .string x] w fun e w' => ∃ c : Nat, e = .returned (.int .i64 (c : Int)) ∧ Two w0 w' tb m r P (fun F y z => E F y z ∧ y ≠ x) tb' m' r' nfU U := by
  have h1 := h
  obtain ⟨⟨T, nf, t, e, c, d⟩, be, tu⟩ := h1
  have okT' : ∀ F y z, HasE T F y z → okT y := fun F y z q => ok F y z ((e F y z).1 q)
  refine (Leave_any t.tm (t.bs hP okT') hP hx).mono ?_
  rintro e' w' ⟨n, rfl, ⟨T', nf', tm, qs⟩, hc⟩
  refine ⟨n, rfl, h.next t.tm c d hc (ts_of tm qs.frm qs.cn qs.few ?_) (fun F y z => by rw [qs.has, e]; simp) (fun j q => .inl (qs.is j q))⟩
  have := nf_le t.tm tm okT' t.cn qs.cn (fun F y z q => ((qs.has F y z).1 q).1)
  have := t.nP
  omega
theorem Two.same (h : Two w0 w tb m r P E tb' m' r' nfU U) (hP : P ≤ 100000) (ok : ∀ F y z, E F y z → okT y) (eU : ∀ F y z, HasE U F y z ↔ E F y z) (fU : FormX U []) (cU : CN U nfU) (few : ∀ f ∈ U, f.ne ≤ 100000) : Calls Tryz.prog 10 #[ptr tb, ptr tb'] w fun e w' => e = .returned (.bool true) ∧ Below w.heap.size w w' := by
  obtain ⟨⟨T, nf, t, e, c, d⟩, be, tu⟩ := h
  have okT' : ∀ F y z, HasE T F y z → okT y := fun F y z q => ok F y z ((e F y z).1 q)
  have b := t.bs hP okT'
  have eq : ∀ F y z, HasE T F y z ↔ HasE U F y z := fun F y z => (e F y z).trans (eU F y z).symm
  have tw := twin_of t.tm tu okT' b.frm fU eq
  have l := twin_len t.tm tu tw
  have n := twin_nf t.tm tu okT' eq b.cn cU
  subst n
  have lT := b.len
  have tm := t.tm
  rw [l] at tm
  exact same_any tm tu tw (by omega) (by omega) (fun f hf => by have := t.few f hf; omega) few
/-- Nothing is held. -/
theorem Two.nodes (h : Two w0 w tb m r P E tb' m' r' nfU U) (no : ∀ F y z, ¬ E F y z) : Calls Tryz.prog 12 #[ptr tb] w (fun e w' => e = .returned (.int .i64 1) ∧ w' = w) ∧ Calls Tryz.prog 13 #[ptr tb] w (fun e w' => e = .returned (.int .i64 0) ∧ w' = w) := by
  obtain ⟨⟨T, nf, t, e, c, d⟩, be, tu⟩ := h
  have noT : ∀ F y z, ¬ HasE T F y z := fun F y z q => no F y z ((e F y z).1 q)
  have nf0 : nf = 0 := by
    obtain ⟨Fs, f1, f2, f3⟩ := t.cn
    cases Fs with
    | nil => simpa using f3
    | cons F Fs =>
      obtain ⟨y, z, q⟩ := (ne_has t.tm (fun F y z q => (noT F y z q).elim) F).1 ((f2 F).1 List.mem_cons_self)
      exact (noT F y z q).elim
  have one : (T.length : Int) = 1 := by
    rcases t.one with c | c
    · omega
    · omega
  have h1 := nodes_tm t.tm
  have h2 := len_tm t.tm
  rw [one] at h1
  rw [nf0] at h2
  exact ⟨h1, h2⟩
theorem two_of {P' : Nat} (h1 : LdR w0 w1 tb m r P E) (h2 : LdR w1 w2 tb' m' r' P' E) : ∃ nfU U, Two w0 w2 tb m r P E tb' m' r' nfU U ∧ (∀ F y z, HasE U F y z ↔ E F y z) ∧ FormX U [] ∧ CN U nfU ∧ ∀ f ∈ U, f.ne ≤ P' := by
  obtain ⟨⟨T, nf, t, e, c⟩, be⟩ := h1
  obtain ⟨⟨U, nfU, tu, eU, cU⟩, beU⟩ := h2
  refine ⟨nfU, U, ⟨⟨T, nf, t.below beU, e, c, fun j q u => by have := t.tm.islt q; have := cU j u; omega⟩, be.trans (beU.mono be.size), tu.tm⟩, eU, fun f hf => ?_, tu.cn, tu.few⟩
  rcases tu.frm f hf with c | c | c
  · exact .inl c
  · exact .inr (.inl c)
  · exact .inr (.inr (.inl c))
theorem hold_ok {l : List Sb} (hx : ∀ s ∈ l, okT s.x) {F : List ByteArray} {y : ByteArray} {z : Int} (h : hold l F y z) : okT y ∧ 0 ≤ z ∧ z ≤ 2 ∧ ∃ s ∈ l, s.x = y := by
  obtain ⟨i, s, a, _, _, b, c, d, e, _⟩ := (hold_iff l F y z).1 h
  have := List.mem_of_getElem? a
  exact ⟨by rw [← b]; exact hx s this, by omega, by omega, s, this, b⟩
theorem step_drop {s : Sb} (v : rfc s.f = 0 ∧ 0 ≤ s.q ∧ s.q ≤ 2) (no : ∀ z, ¬ E (levels s.f) s.x z) (F : List ByteArray) (y : ByteArray) (z : Int) : (stepE E s F y z ∧ ¬ (F = levels s.f ∧ y = s.x)) ↔ E F y z := by
  unfold stepE
  rw [if_pos v]
  constructor
  · rintro ⟨c | c, d⟩
    · exact absurd ⟨c.1, c.2.1⟩ d
    · exact c.2
  · intro c
    have d : ¬ (F = levels s.f ∧ y = s.x) := by
      rintro ⟨rfl, rfl⟩
      exact no z c
    exact ⟨.inr ⟨d, c⟩, d⟩
theorem step_back {s : Sb} {o : Int} (v : rfc s.f = 0 ∧ 0 ≤ s.q ∧ s.q ≤ 2) (ho : E (levels s.f) s.x o) (o0 : 0 ≤ o) (o2 : o ≤ 2) (uq : ∀ z, E (levels s.f) s.x z → z = o) (F : List ByteArray) (y : ByteArray) (z : Int) : stepE (stepE E s) ⟨s.f, s.x, o⟩ F y z ↔ E F y z := by
  unfold stepE
  rw [if_pos v, if_pos ⟨v.1, o0, o2⟩]
  simp only
  constructor
  · rintro (⟨rfl, rfl, rfl⟩ | ⟨d, c | c⟩)
    · exact ho
    · exact absurd ⟨c.1, c.2.1⟩ d
    · exact c.2
  · intro c
    by_cases d : F = levels s.f ∧ y = s.x
    · obtain ⟨rfl, rfl⟩ := d
      exact .inl ⟨rfl, rfl, uq z c⟩
    · exact .inr ⟨d, .inr ⟨d, c⟩⟩
theorem rfc_size {f : ByteArray} (h : rfc f = 0) : f.size ≤ 1000000 := by
  have := (rfc_zero h).1
  omega
end Go.Proofs.YtepjcfhbbcaldaaGreat.Li
