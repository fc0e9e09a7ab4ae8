import Derived.Test.YtepjcfhbbcaldaaGreatKjm
import Derived.Test.YtepjcfhbbcaldaaGreatKib
import Derived.Test.YtepjcfhbbcaldaaGreatKja
import Derived.Test.YtepjcfhbbcaldaaGreatKza
import Derived.Maps.RangeWalk
import Derived.Lib.MinMax
namespace Go.Proofs.YtepjcfhbbcaldaaGreat.Li
open Go Go.RowKit
set_option linter.unusedSimpArgs false
set_option linter.unusedVariables false
variable {w : World} {tb m r P : Nat} {nf nn : Int} {T : List Fn} {f x : ByteArray} {q : Int}
/-- A trie from which a key went. -/
structure Dr (w w' : World) (tb m r P : Nat) (T : List Fn) (F : List ByteArray) (x : ByteArray) : Prop where
  ex : ∃ T' nf', TM w' tb m r nf' (T'.length : Int) T' ∧ QS tb P nf' T T' (fun F' => F' = F) x []
  ch : Ch (isT tb T) w w'
theorem root_m (h : TM w tb m r nf nn T) {f : Fn} (hf : f ∈ T) (h0 : f.s.A = []) : f.s.m = 0 := (h.inv.le f.s (List.mem_map_of_mem hf)).2.1 h0
theorem without_root (h : TM w tb m r nf (T.length : Int) T) (b : Bs P nf T) (hP : P ≤ 100000) {v : Value} {F : List ByteArray} (hF : F ≠ []) (R : Rw w v F) {g : Fn} (hg : g ∈ T) (hgA : g.s.A = F) (hq : g.en x = some q) :
    Calls Tryz.prog 25 #[ptr tb, ptr r, v, .string x] w fun e w' => e = .returned (ptr r) ∧ Dr w w' tb m r P T F x := by
  obtain ⟨f, hf, f0, fp⟩ := h.rt
  have fA : f.s.A ++ F = F := by rw [f0]; rfl
  have ti : TidyOk tb m r P T f (fun F' => F' = F) x w (fun res w' => res = ptr r ∧ Dr w w' tb m r P T F x) := fun w2 T2 nf2 f2 u hc => by
    obtain ⟨nk, kd, b1, b2, b3⟩ := (u.tm.nd f2 u.mem).kv
    have := tidy_stay u.tm u.mem b2 (.inl (root_m u.tm u.mem (by rw [u.s]; exact f0)))
    rw [u.s, fp] at this
    rw [fp]
    refine this.mono ?_
    rintro e w' ⟨rfl, rfl⟩
    exact ⟨_, rfl, rfl, ⟨T2, nf2, u.tm, by have := u.q; rw [f0] at this; exact this⟩, hc⟩
  cases F with
  | nil => exact absurd rfl hF
  | cons z rs =>
    have := without_cons (without_any (tb := tb) (m := m) (r := r) (P := P) (x := x) hP rs.length) h b hf R (Nat.le_refl _) hg (hgA.trans fA.symm) hq (Q := fun res w' => res = ptr r ∧ Dr w w' tb m r P T (z :: rs) x) (by rw [fA]; exact ti)
    rw [fp] at this
    refine this.mono ?_
    rintro e w' ⟨res, rfl, rfl, dr⟩
    exact ⟨rfl, dr⟩
set_option maxRecDepth 100000 in
set_option maxHeartbeats 4000000 in
/-- DROP of what is there. -/
theorem drop_yes (h : TM w tb m r nf (T.length : Int) T) (b : Bs P nf T) (hP : P ≤ 100000) (hfs : f.size ≤ 1000000) (hq : HasE T (levels f) x q) :
    Calls Tryz.prog 9 #[ptr tb, .string f, .string x] w fun e w' => e = .returned (.bool true) ∧ Dr w w' tb m r P T (levels f) x := by
  obtain ⟨g, hg, gA, gx⟩ := hq
  have ox := b.ok _ _ _ ⟨g, hg, gA, gx⟩
  obtain ⟨rf, hrf, rA, rp⟩ := h.rt
  have LV := hidi (fun w => tlevels_any f hfs w)
  have okl : ∀ y ∈ levels f, okT y := fun y hy => by have := levels_size f y hy; unfold okT maxLen; omega
  have lle : (levels f).length ≤ 1000001 := by have := levels_len f; omega
  have hne : levels f ≠ [] := by obtain ⟨a, b, c, _⟩ := levels_head f; rw [c]; simp
  have AT := hidi (fun (w1 : World) (v : Value) (hb : Below w.heap.size w w1) (R : Rw w1 v (levels f)) => (show Calls Tryz.prog 24 #[ptr r, v] w1 fun e w2 => ∃ mo, e = .returned (.map mo) ∧ Below w.heap.size w w2 ∧ Below w1.heap.size w1 w2 ∧ (Instr.lookup 61 (.map mo) (.string x) true).run Tryz.prog w2 = .ok (.tuple #[.int .i64 q, .bool true]) w2 from by
    have := at_any tb m r nf (T.length : Int) T (levels f).length w1 rf v (levels f) (Nat.le_refl _) (h.below hb) hrf R okl lle
    rw [rp, rA] at this
    refine this.mono ?_
    rintro e w2 ⟨mo, rfl, ar, b2⟩
    have bb := hb.trans (b2.mono hb.size)
    refine ⟨mo, rfl, bb, b2, ?_⟩
    rcases ar with ⟨g', hg', e1, e2⟩ | ⟨_, no⟩
    · obtain rfl := h.same hg' hg (e1.trans gA.symm)
      have := ((h.below bb).nd g' hg').ev.look2 Tryz.underlying61 zero3 ox
      rw [gx, ← e2] at this
      exact this
    · exact absurd gA (no g hg)))
  have CR := hidi (fun (w1 : World) (hb : Below w.heap.size w w1) => (show w1.cell? ⟨tb, 0, none⟩ = some (ptr r) from box_cells (h.below hb).tr 0 _ rfl))
  have WO := hidi (fun (w2 : World) (v : Value) (hb : Below w.heap.size w w2) (R : Rw w2 v (levels f)) => without_root (h.below hb) b hP hne R hg gA gx)
  have FIN := hidi (fun (w2 w3 : World) (hb : Below w.heap.size w w2) (dr : Dr w2 w3 tb m r P T (levels f) x) => (show Dr w (w3.setCell ⟨tb, 0, none⟩ (ptr r)) tb m r P T (levels f) x ∧ w3.cell? ⟨tb, 0, none⟩ = some (ptr r) ∧ w3.frozen? ⟨tb, 0, none⟩ = false from by
    obtain ⟨⟨T', nf', tm, qs⟩, hc⟩ := dr
    have c := ch_root tm
    exact ⟨⟨⟨T', nf', tm.keep c (fun q => q) (fun _ _ _ _ q => q) (fun _ q => q.elim), qs⟩, ((Below.ch hb).then hc).trans c (fun j _ q => q.elim)⟩, box_cells tm.tr 0 _ rfl, box_frozen tm.tr 0⟩))
  unfold ptr at *
  clear h b hP hfs hg gA gx ox hrf rA rp okl lle hne
  go_enter Tryz.func9, Tryz.ntmps9
  go_wp2_with (first
    | (go_at_call 23; refine (LV.out _).mono ?_; rintro e w1 ⟨v, rfl, ho, hb⟩; have B1 := hidi hb; have R1 := hidi (rw_own ho); have c0 := CR.out w1 hb; have A1 := hidi (AT.out w1 v hb R1.out); obtain ⟨va, vc, rfl⟩ := own_sl ho; clear hb ho LV AT)
    | (go_at_call 24; refine A1.out.mono ?_; rintro e w2 ⟨mo, rfl, bb, b12, hlook⟩; have B2 := hidi bb; clear c0; have c0 := CR.out w2 bb; have W2 := hidi (WO.out w2 _ bb (R1.out.below b12)); clear bb A1 CR WO b12)
    | (go_at_call 25; refine W2.out.mono ?_; rintro e w3 ⟨rfl, dr⟩; obtain ⟨d1, d2, d3⟩ := FIN.out w2 w3 B2.out dr; have D1 := hidi d1; clear dr d1 W2 FIN c0))
  go_ret
  exact ⟨rfl, D1.out⟩
end Go.Proofs.YtepjcfhbbcaldaaGreat.Li
namespace Go.Proofs.YtepjcfhbbcaldaaGreat.Li
open Go Go.RowKit
set_option linter.unusedSimpArgs false
set_option linter.unusedVariables false
/-- What two filters have in common. -/
def lcp (F G : List ByteArray) : List ByteArray := F.take (alk F G)
theorem alk_ge : ∀ {C F G : List ByteArray}, C <+: F → C <+: G → C.length ≤ alk F G
  | [], _, _, _, _ => Nat.zero_le _
  | c :: C, [], _, h, _ => by have := h.length_le; simp at this
  | c :: C, _ :: _, [], _, h => by have := h.length_le; simp at this
  | c :: C, f :: F, g :: G, h1, h2 => by
    obtain ⟨s, e1⟩ := h1
    obtain ⟨t, e2⟩ := h2
    rw [List.cons_append] at e1 e2
    injection e1 with a1 a2
    injection e2 with b1 b2
    have := alk_ge (C := C) (F := F) (G := G) ⟨s, a2⟩ ⟨t, b2⟩
    unfold alk
    rw [if_pos (a1.symm.trans b1)]
    simp
    omega
theorem lcp_self (F : List ByteArray) : lcp F F = F := by
  unfold lcp
  rw [alk_pre (List.prefix_refl F), List.take_length]
theorem lcp_pre (F G : List ByteArray) : lcp F G <+: F ∧ lcp F G <+: G := by
  refine ⟨List.take_prefix _ _, ?_⟩
  unfold lcp
  rw [alk_take F G]
  exact List.take_prefix _ _
theorem pre_lcp {C F G : List ByteArray} (h1 : C <+: F) (h2 : C <+: G) : C <+: lcp F G := by
  have h3 := alk_ge h1 h2
  refine prefix_le h1 (lcp_pre F G).1 ?_
  unfold lcp
  rw [List.length_take]
  have := h1.length_le
  omega
theorem lcp_fork {A F G : List ByteArray} {x y : ByteArray} (h1 : (A ++ [x]) <+: F) (h2 : (A ++ [y]) <+: G) (ne : x ≠ y) : lcp F G = A := by
  have pA := pre_lcp ((List.prefix_append A [x]).trans h1) ((List.prefix_append A [y]).trans h2)
  obtain ⟨p1, p2⟩ := lcp_pre F G
  by_cases c : (lcp F G).length ≤ A.length
  · obtain ⟨t, e⟩ := pA
    have : t = [] := by
      have := congrArg List.length e
      rw [List.length_append] at this
      exact List.length_eq_zero_iff.1 (by omega)
    rw [← e, this, List.append_nil]
  · have q1 : (A ++ [x]) <+: lcp F G := prefix_le h1 p1 (by simp; omega)
    have q2 : (A ++ [y]) <+: lcp F G := prefix_le h2 p2 (by simp; omega)
    have := prefix_le q1 q2 (by simp)
    obtain ⟨t, e⟩ := this
    have h3 := congrArg List.length e
    simp at h3
    rw [h3, List.append_nil] at e
    have := List.append_cancel_left e
    injection this with this
    exact absurd this ne
variable {w : World} {tb m r : Nat} {nf nn : Int} {T : List Fn}
theorem meet_node (h : TM w tb m r nf nn T) {f g : Fn} (hf : f ∈ T) (hg : g ∈ T) {A : List ByteArray} (hA : A = lcp f.s.A g.s.A) : ∀ (n : Nat) (d : Fn), d ∈ T → d.s.A <+: A → A.length ≤ d.s.A.length + n → ∃ e ∈ T, e.s.A = A
  | 0, d, hd, p, hn => ⟨d, hd, by
    obtain ⟨t, e⟩ := p
    have := congrArg List.length e
    rw [List.length_append] at this
    have : t = [] := List.length_eq_zero_iff.1 (by omega)
    rw [← e, this, List.append_nil]⟩
  | n + 1, d, hd, p, hn => by
    obtain ⟨t, e⟩ := p
    cases t with
    | nil => exact ⟨d, hd, by rw [← e, List.append_nil]⟩
    | cons z t =>
      obtain ⟨p1, p2⟩ := lcp_pre f.s.A g.s.A
      rw [← hA] at p1 p2
      obtain ⟨s1, e1⟩ := p1
      obtain ⟨s2, e2⟩ := p2
      rw [← e, List.append_assoc] at e1 e2
      obtain ⟨q, hq, ka, kp⟩ := atk_rest h hd hf (x := z) (rs := t ++ s1) (by rw [← e1]; simp)
      obtain ⟨q', hq', ka', kp'⟩ := atk_rest h hd hg (x := z) (rs := t ++ s2) (by rw [← e2]; simp)
      have := h.inv.atk ka ka'
      rw [← this] at kp'
      have lt := ka.2.1.lt (h.inv.le q.s ka.1).1
      exact meet_node h hf hg hA n q hq (by rw [hA]; exact pre_lcp kp kp') (by omega)
/-- WHICH NODES ARE THERE. -/
theorem nodes_iff (h : TM w tb m r nf nn T) (fx : FormX T []) (A : List ByteArray) : (∃ f ∈ T, f.s.A = A) ↔ A = [] ∨ ∃ f ∈ T, ∃ g ∈ T, 0 < f.ne ∧ 0 < g.ne ∧ A = lcp f.s.A g.s.A := by
  have frm : ∀ f ∈ T, f.s.A = [] ∨ 0 < f.ne ∨ Fork T f.s.A := fun f hf => by
    rcases fx f hf with c | c | c | c
    · exact .inl c
    · exact .inr (.inl c)
    · exact .inr (.inr c)
    · exact .inl (List.prefix_nil.1 c)
  obtain ⟨rf, hrf, r0, _⟩ := h.rt
  constructor
  · rintro ⟨f, hf, rfl⟩
    rcases frm f hf with c | c | ⟨x, y, a, b, ne, ha, hb, pa, pb⟩
    · exact .inl c
    · exact .inr ⟨f, hf, f, hf, c, c, (lcp_self _).symm⟩
    · have nz : ∀ {z : ByteArray} {a : Fn}, (f.s.A ++ [z]) <+: a.s.A → a.s.A ≠ [] := fun p c => by
        have := p.length_le
        rw [c] at this
        simp at this
      obtain ⟨a', ha', p1, n1⟩ := leads (fun f hf => (h.ok f hf).2) frm 65537 a ha (by omega) (nz pa)
      obtain ⟨b', hb', p2, n2⟩ := leads (fun f hf => (h.ok f hf).2) frm 65537 b hb (by omega) (nz pb)
      exact .inr ⟨a', ha', b', hb', n1, n2, (lcp_fork (pa.trans p1) (pb.trans p2) ne).symm⟩
  · rintro (rfl | ⟨f, hf, g, hg, _, _, rfl⟩)
    · exact ⟨rf, hrf, r0⟩
    · exact meet_node h hf hg rfl _ rf hrf (by rw [r0]; exact List.nil_prefix) (Nat.le_add_left _ _)
/-- HOW MANY NODES ARE THERE. -/
theorem nodes_len (h : TM w tb m r nf nn T) {X : List (List ByteArray)} (hn : X.Nodup) (hX : ∀ A, A ∈ X ↔ ∃ f ∈ T, f.s.A = A) : T.length = X.length := by
  have nd : (T.map (fun f => f.s.A)).Nodup := by
    have := h.inv.dis
    rw [List.pairwise_map] at this
    exact List.pairwise_map.2 this
  have mem : ∀ A, A ∈ T.map (fun f => f.s.A) ↔ A ∈ X := fun A => by
    rw [hX, List.mem_map]
  have h1 := nodup_le _ X nd (fun A hA => (mem A).1 hA)
  have h2 := nodup_le X _ hn (fun A hA => (mem A).2 hA)
  rw [List.length_map] at h1 h2
  omega
end Go.Proofs.YtepjcfhbbcaldaaGreat.Li
namespace Go.Proofs.YtepjcfhbbcaldaaGreat.Li
open Go Go.RowKit
set_option linter.unusedSimpArgs false
set_option linter.unusedVariables false
variable {w : World} {tb m r : Nat} {nf nn : Int} {T : List Fn} {f : ByteArray}
/-- What is at a filter, as a list. -/
structure OfR (w w' : World) (T : List Fn) (F : List ByteArray) (v : Value) (en : ByteArray → Option Int) (n : Nat) (L : List ByteArray) : Prop where
  row : w'.ownsRow w.heap.size 45 2 v L.length (prow (eL en L))
  ks : KsOf (fun y => (en y).map (Value.int .i64)) n L
  at_ : (∃ g ∈ T, g.s.A = F ∧ en = g.en ∧ n = g.ne) ∨ ((∀ g ∈ T, g.s.A ≠ F) ∧ n = 0 ∧ en = fun _ => none)
  be : Below w.heap.size w w'
set_option maxRecDepth 100000 in
set_option maxHeartbeats 4000000 in
/-- OF. -/
theorem of_any (h : TM w tb m r nf nn T) (hfs : f.size ≤ 1000000) (few : ∀ g ∈ T, g.ne ≤ 100000) :
    Calls Tryz.prog 17 #[ptr tb, .string f] w fun e w' => ∃ v, e = .returned v ∧ ∃ en n L, OfR w w' T (levels f) v en n L := by
  obtain ⟨rf, hrf, rA, rp⟩ := h.rt
  have LV := hidi (fun w => tlevels_any f hfs w)
  have okl : ∀ y ∈ levels f, okT y := fun y hy => by have := levels_size f y hy; unfold okT maxLen; omega
  have lle : (levels f).length ≤ 1000001 := by have := levels_len f; omega
  have CR := hidi (fun (w1 : World) (hb : Below w.heap.size w w1) => (show w1.cell? ⟨tb, 0, none⟩ = some (ptr r) from box_cells (h.below hb).tr 0 _ rfl))
  have SO := hidi (fun (w2 : World) (mo : Option Nat) (hb : Below w.heap.size w w2) (ar : AtR T (levels f) (.map mo)) => (show Calls Tryz.prog 28 #[.map mo] w2 fun e w' => ∃ v, e = .returned v ∧ ∃ en n L, OfR w w' T (levels f) v en n L from by
    have go : ∀ (en : ByteArray → Option Int) (n : Nat), MG w2 (.map mo) n (fun y => (en y).map (.int .i64)) → n ≤ 100000 → ((∃ g ∈ T, g.s.A = levels f ∧ en = g.en ∧ n = g.ne) ∨ ((∀ g ∈ T, g.s.A ≠ levels f) ∧ n = 0 ∧ en = fun _ => none)) → Calls Tryz.prog 28 #[.map mo] w2 fun e w' => ∃ v, e = .returned v ∧ ∃ en n L, OfR w w' T (levels f) v en n L := fun en n mg hn ha => by
      refine (sorted_any mg hn).mono ?_
      rintro e w' ⟨v, L, rfl, ho, ks, b'⟩
      exact ⟨v, rfl, en, n, L, row_base ho (fun g hg => by have := row_ge ho hg; have := hb.size; omega), ks, ha, hb.trans (b'.mono hb.size)⟩
    rcases ar with ⟨g, hg, e1, e2⟩ | ⟨e2, no⟩
    · exact go g.en g.ne (by rw [e2]; exact ((h.below hb).nd g hg).ev) (few g hg) (.inl ⟨g, hg, e1, rfl, rfl⟩)
    · exact go (fun _ => none) 0 (by rw [e2]; exact MG.nil w2) (by omega) (.inr ⟨no, rfl, rfl⟩)))
  have AT := hidi (fun (w1 : World) (v : Value) (hb : Below w.heap.size w w1) (R : Rw w1 v (levels f)) => (show Calls Tryz.prog 24 #[ptr r, v] w1 fun e w2 => ∃ mo, e = .returned (.map mo) ∧ Below w.heap.size w w2 ∧ AtR T (levels f) (.map mo) from by
    have := at_any tb m r nf nn T (levels f).length w1 rf v (levels f) (Nat.le_refl _) (h.below hb) hrf R okl lle
    rw [rp, rA] at this
    refine this.mono ?_
    rintro e w2 ⟨mo, rfl, ar, b2⟩
    exact ⟨mo, rfl, hb.trans (b2.mono hb.size), ar⟩))
  have c0 := CR.out w (Below.refl _ _)
  unfold ptr at *
  clear h hfs few hrf rA rp okl lle
  go_enter Tryz.func17, Tryz.ntmps17
  go_wp2_with fail
  go_region_with (first
    | (go_at_call 23; refine (LV.out _).mono ?_; rintro e w1 ⟨v, rfl, ho, hb⟩; have B1 := hidi ((Below.refl w.heap.size w).drew.trans hb); have A1 := hidi (AT.out w1 v B1.out (rw_own ho)); obtain ⟨va, vc, rfl⟩ := own_sl ho; clear c0; have c0 := CR.out w1 B1.out; clear hb ho)
    | (go_at_call 24; refine A1.out.mono ?_; rintro e w2 ⟨mo, rfl, bb, ar⟩; have S1 := hidi (SO.out w2 mo bb ar); clear c0; have c0 := CR.out w2 bb; clear bb ar A1)
    | (go_at_call 28; refine S1.out.mono ?_; rintro e w3 ⟨v3, rfl, of⟩; have OF := hidi of; clear of S1))
  all_goals go_wp2_with fail
  all_goals go_ret
  all_goals exact ⟨v3, rfl, OF.out⟩
end Go.Proofs.YtepjcfhbbcaldaaGreat.Li
namespace Go.Proofs.YtepjcfhbbcaldaaGreat.Li
open Go Go.RowKit
set_option linter.unusedSimpArgs false
set_option linter.unusedVariables false
/-- How much a list of them comes to. -/
def sumS : List Sb → Nat
  | [] => 0
  | s :: l => 1 + s.f.size + s.x.size + sumS l
theorem sumS_app (a b : List Sb) : sumS (a ++ b) = sumS a + sumS b := by
  induction a with
  | nil => simp [sumS]
  | cons s a ih => simp [sumS, ih]; omega
theorem sumS_mem {l : List Sb} {s : Sb} (h : s ∈ l) : s.f.size ≤ sumS l ∧ s.x.size ≤ sumS l := by
  induction l with
  | nil => cases h
  | cons a l ih =>
    unfold sumS
    rcases List.mem_cons.1 h with rfl | h
    · omega
    · have := ih h; omega
/-- What small tells. -/
def SmR (l : List Sb) (b : Bool) : Prop := b = true → l.length ≤ 60 ∧ sumS l ≤ 60000
set_option maxRecDepth 100000 in
set_option maxHeartbeats 4000000 in
theorem small_any {w : World} {v : Value} {l : List Sb} {lb : Nat} (h : SbAt w v l) (hlb : lb < w.heap.size) (c0 : w.cell? ⟨lb, 0, none⟩ = some v) (hx : ∀ s ∈ l, s.f.size ≤ 140737488355328 ∧ s.x.size ≤ 140737488355328) :
    Calls Tryz.prog 4 #[.slice (some ⟨lb, 0, none⟩) 1 1] w fun e w' => ∃ b, e = .returned (.bool b) ∧ SmR l b ∧ Below w.heap.size w w' := by
  obtain ⟨a, n, cap, rfl, hn, hc, hrow⟩ := h.ex
  by_cases big : 60 < n
  · have b1 : (60 : Int) < n := by omega
    have b2 : (n : Int) > 60 := by omega
    have FIN := hidi (show SmR l false from fun c => by cases c)
    clear h hn hc hrow hx hlb
    go_enter Tryz.func4, Tryz.ntmps4
    go_wp2_with fail
    refine wp_loop_rounds 1 ?_
    rw [rounds_succ]
    go_wp2_with fail
    go_ret
    exact ⟨false, rfl, FIN.out, Below.refl _ _⟩
  · have b1 : ¬ (60 : Int) < n := by omega
    have b2 : ¬ (n : Int) > 60 := by omega
    have HN := hidi (show n = l.length ∧ n ≤ cap ∧ n ≤ 60 from ⟨hn, hc, by omega⟩)
    have HR := hidi hrow
    have HX := hidi hx
    have HL := hidi hlb
    clear h hn hc hrow hx big hlb
    go_enter Tryz.func4, Tryz.ntmps4
    go_wp2_with fail
    refine wp_loop_rounds 2 ?_
    rw [rounds_succ]
    go_wp2_with fail
    go_loopg [3, 5] n (fun gg s3 s5 wx => ∃ k : Nat, k ≤ n ∧ gg = n - k ∧ s3 = .int .i64 (sumS (l.take k) : Nat) ∧ s5 = .int .i64 k ∧ Hid (Below w.heap.size w wx ∧ (k = 0 ∨ sumS (l.take (k - 1)) ≤ 60000)))
    case atStart => exact ⟨0, Nat.zero_le _, rfl, rfl, rfl, Below.refl _ _, .inl rfl⟩
    case round =>
      obtain ⟨k, hk, rfl, rfl, rfl, Z⟩ := hrel
      have c1 : wr.cell? ⟨lb, 0, none⟩ = some (.slice a n cap) := by rw [Z.out.1.cell (by exact HL.out)]; exact c0
      obtain ⟨sm, hsm⟩ : ∃ sm, sm = sumS (l.take k) := ⟨_, rfl⟩
      rw [← hsm]
      have HS := hidi hsm
      clear hsm
      have bsm : sm ≤ 60000 + 281474976710657 := by
        rcases Z.out.2 with q | q
        · have := HS.out; rw [q] at this; simp [sumS] at this; omega
        · have h1 := HS.out
          by_cases k0 : k = 0
          · rw [k0] at h1; simp [sumS] at h1; omega
          · obtain ⟨t, ht⟩ : ∃ t, l[k - 1]? = some t := ⟨_, List.getElem?_eq_getElem (by have := HN.out.1; omega)⟩
            have h2 := HX.out t (List.mem_of_getElem? ht)
            rw [show k = (k - 1) + 1 by omega, List.take_add_one, ht, sumS_app] at h1
            simp [sumS] at h1
            omega
      by_cases lt : k < n
      · have lt' : (k : Int) < n := by omega
        by_cases le : sm ≤ 60000
        · have le' : (sm : Int) ≤ 60000 := by omega
          obtain ⟨t, ht⟩ : ∃ t, l[k]? = some t := ⟨_, List.getElem?_eq_getElem (by have := HN.out.1; omega)⟩
          obtain ⟨g, o, rfl, hg, hcells⟩ := HR.out (fun e => by subst e; simp at ht)
          obtain ⟨x1, x2, x3⟩ := hcells k t ht
          have y1 : wr.cell? ⟨g, o + k * 3, none⟩ = some (.string t.f) := by rw [Z.out.1.cell (by exact hg)]; exact x1
          have y2 : wr.cell? ⟨g, o + k * 3 + 1, none⟩ = some (.string t.x) := by rw [Z.out.1.cell (by exact hg)]; exact x2
          have tx := HX.out t (List.mem_of_getElem? ht)
          have hw1 : IntKind.i64.wrap ((sm : Int) + 1) = (sm : Int) + 1 := by rw [IntKind.wrap_i64]; omega
          have hw2 : IntKind.i64.wrap ((sm : Int) + 1 + (t.f.size : Int)) = (sm : Int) + 1 + (t.f.size : Int) := by rw [IntKind.wrap_i64]; omega
          have hw3 : IntKind.i64.wrap ((sm : Int) + 1 + (t.f.size : Int) + (t.x.size : Int)) = (sm : Int) + 1 + (t.f.size : Int) + (t.x.size : Int) := by rw [IntKind.wrap_i64]; omega
          have hw4 : IntKind.i64.wrap ((k : Int) + 1) = (k : Int) + 1 := by rw [IntKind.wrap_i64]; have := HN.out; omega
          have NX := hidi (show sm + 1 + t.f.size + t.x.size = sumS (l.take (k + 1)) ∧ sumS (l.take (k + 1 - 1)) ≤ 60000 from ⟨by rw [List.take_add_one, ht, sumS_app, ← HS.out]; simp [sumS]; omega, by rw [Nat.add_sub_cancel, ← HS.out]; exact le⟩)
          clear ht hcells x1 x2 x3 tx bsm le hg
          go_wp2_with fail
          go_quiet (fail)
          go_wp2_with fail
          go_roundg (n - (k + 1))
          case measure => omega
          case rel => exact ⟨k + 1, by omega, rfl, by rw [← NX.out.1]; simp, by simp, below_drewN Z.out.1, .inr NX.out.2⟩
        · have le' : ¬ (sm : Int) ≤ 60000 := by omega
          go_wp2_with fail
          rw [rounds_succ]
          go_wp2_with fail
          go_ret
          exact ⟨_, rfl, fun c => absurd (of_decide_eq_true c) (by omega), Z.out.1⟩
      · have lt' : ¬ (k : Int) < n := by omega
        obtain rfl : k = n := by omega
        by_cases le : sm ≤ 60000
        · have le' : (sm : Int) ≤ 60000 := by omega
          go_wp2_with fail
          rw [rounds_succ]
          go_wp2_with fail
          go_ret
          exact ⟨true, rfl, fun _ => ⟨by have := HN.out; omega, by have := HS.out; rw [List.take_of_length_le (by have := HN.out; omega)] at this; omega⟩, Z.out.1⟩
        · have le' : ¬ (sm : Int) ≤ 60000 := by omega
          go_wp2_with fail
          rw [rounds_succ]
          go_wp2_with fail
          go_ret
          exact ⟨_, rfl, fun c => absurd (of_decide_eq_true c) (by omega), Z.out.1⟩
end Go.Proofs.YtepjcfhbbcaldaaGreat.Li
namespace Go.Proofs.YtepjcfhbbcaldaaGreat.Li
open Go Go.RowKit
set_option linter.unusedSimpArgs false
set_option linter.unusedVariables false
/-- What does not change while a trie is searched. -/
structure GC (T : List Fn) (K : List ByteArray) : Prop where
  hl : HashLast T
  en : ∀ f ∈ T, ∀ y z, f.en y = some z → y ∈ K ∧ okT y ∧ 0 ≤ z
  few : K.length ≤ 100000
/-- A trie and what was found. -/
structure GS (w : World) (tb m r : Nat) (nf nn : Int) (T : List Fn) (fb : Nat) (K : List ByteArray) (E : ByteArray → Int → Prop) : Prop where
  tm : TM w tb m r nf nn T
  fr : ¬ isT tb T fb
  mg : ∃ (n : Nat) (g : ByteArray → Option Int), MG w (.map (some fb)) n (fun y => (g y).map (.int .i64)) ∧ ∀ y, okT y → Best (E y) (g y)
  ks : ∀ y z, E y z → y ∈ K ∧ 0 ≤ z
variable {w w' : World} {tb m r fb N : Nat} {nf nn : Int} {T : List Fn} {K : List ByteArray} {E E' : ByteArray → Int → Prop} {f : Fn} {L : List ByteArray} {v : Value}
theorem GS.congr (h : GS w tb m r nf nn T fb K E) (e : ∀ y z, E y z ↔ E' y z) : GS w tb m r nf nn T fb K E' := by
  obtain ⟨n, g, m1, m2⟩ := h.mg
  exact ⟨h.tm, h.fr, ⟨n, g, m1, fun y oy => (m2 y oy).congr (e y)⟩, fun y z c => h.ks y z ((e y z).2 c)⟩
theorem GS.no9 (h : GS w tb m r nf nn T fb K E) : No9 w fb := by
  obtain ⟨n, g, m1, m2⟩ := h.mg
  exact m1.no9 rfl
theorem GS.rw (h : GS w tb m r nf nn T fb K E) (R : Rw w v L) (hc : Ch (fun j => j = fb) w w') : Rw w' v L := R.ch hc (fun j hj e => by
  obtain ⟨cur, e1⟩ := R.ty j hj
  rw [e] at e1
  exact h.no9 cur e1)
theorem GS.tmch (h : GS w tb m r nf nn T fb K E) (hc : Ch (fun j => j = fb) w w') : TM w' tb m r nf nn T :=
  h.tm.keep hc (fun e => h.fr (.inl e.symm)) (fun f hf k c e => h.fr (.inr ⟨f, hf, e ▸ c⟩)) (fun k e => e ▸ h.no9)
/-- What gather does, so deep. -/
def GatherOk (tb m r : Nat) (nf nn : Int) (T : List Fn) (fb : Nat) (K : List ByteArray) (N : Nat) : Prop := ∀ (w : World) (f : Fn) (v : Value) (L : List ByteArray) (E : ByteArray → Int → Prop), f ∈ T → 65537 ≤ f.s.A.length + N → GS w tb m r nf nn T fb K E → Rw w v L → (∀ t ∈ L, okT t) → L.length ≤ 65536 →
  Calls Tryz.prog 52 #[ptr f.s.p, v, .map (some fb)] w fun e w' => e = .returned (.tuple #[]) ∧ GS w' tb m r nf nn T fb K (fun y z => E y z ∨ Sel T f L y z) ∧ Ch (fun j => j = fb) w w'
/-- What follow does from a node. -/
def FollowOk (tb m r : Nat) (nf nn : Int) (T : List Fn) (fb : Nat) (K : List ByteArray) (f : Fn) : Prop := ∀ (w : World) (x : ByteArray) (v : Value) (L : List ByteArray) (E : ByteArray → Int → Prop), okT x → GS w tb m r nf nn T fb K E → Rw w v L → (∀ t ∈ L, okT t) → L.length ≤ 65536 →
  Calls Tryz.prog 51 #[ptr f.s.p, .string x, v, .map (some fb)] w fun e w' => e = .returned (.tuple #[]) ∧ GS w' tb m r nf nn T fb K (fun y z => E y z ∨ SelK T f x L y z) ∧ Ch (fun j => j = fb) w w'
set_option maxRecDepth 100000 in
set_option maxHeartbeats 4000000 in
theorem follow_any (IH : GatherOk tb m r nf nn T fb K N) (hf : f ∈ T) (hN : 65536 ≤ f.s.A.length + N) : FollowOk tb m r nf nn T fb K f := fun w x v L E hx h R okL hL => by
  obtain ⟨nk, kd, b1, b2, b3, b4⟩ := h.tm.look hf hx
  have fd := h.tm.nd f hf
  obtain ⟨mo, hmo⟩ : ∃ mo, f.kv = .map mo := by
    rcases b2.mk with e | ⟨mb, e⟩
    · exact ⟨_, e⟩
    · exact ⟨_, e⟩
  have c3 : w.cell? ⟨f.s.p, 3, none⟩ = some (.map mo) := by rw [← hmo]; exact box_cells fd.at_ 3 _ rfl
  have hlook := b2.look2 Tryz.underlying69 zero59 hx
  obtain ⟨a, n, cap, rfl, -, -, -⟩ := R.row
  rcases b4 with ⟨q, hq, hk, e⟩ | ⟨e, no⟩
  · rw [e, hmo] at hlook
    have hlt := hk.2.1.lt (h.tm.inv.le q.s (List.mem_map_of_mem hq)).1
    have GA := hidi (IH w q _ L E hq (by omega) h R okL hL)
    have HS := hidi (fun y z => (show SelK T f x L y z ↔ Sel T q L y z from ⟨fun ⟨q', hq', hk', s⟩ => by
      have := h.tm.inv.atk hk hk'
      obtain rfl := h.tm.same hq hq' (congrArg Nd.A this)
      exact s, fun s => ⟨q, hq, hk, s⟩⟩))
    unfold ptr at *
    clear h R okL hL IH hN hf b1 b2 b3 fd hmo hq hk e hlt hx
    go_enter Tryz.func51, Tryz.ntmps51
    go_wp2_with (go_at_call 52; refine GA.out.mono ?_; rintro e w' ⟨rfl, g1, g2⟩; have G1 := hidi g1; have G2 := hidi g2; clear g1 g2 GA)
    go_end0
    exact ⟨rfl, G1.out.congr (fun y z => by rw [HS.out]), G2.out⟩
  · rw [e, hmo] at hlook
    have H := hidi (h.congr (E' := fun y z => E y z ∨ SelK T f x L y z) (fun y z => ⟨.inl, fun c => c.elim id (fun ⟨q, hq, hk, _⟩ => absurd hk (no _))⟩))
    unfold ptr at *
    clear h R okL hL IH hN hf b1 b2 b3 fd hmo e no hx
    go_enter Tryz.func51, Tryz.ntmps51
    go_wp2_with fail
    go_end0
    exact ⟨rfl, H.out, Ch.refl _ _⟩
end Go.Proofs.YtepjcfhbbcaldaaGreat.Li
namespace Go.Proofs.YtepjcfhbbcaldaaGreat.Li
open Go Go.RowKit
set_option linter.unusedSimpArgs false
set_option linter.unusedVariables false
/-- While the entries of a node are noted. -/
structure EL (w0 wr : World) (mb rb fb ne : Nat) (D : DataW Value) (f : Fn) (E : ByteArray → Int → Prop) (left : Lit → Bool) (cnt n : Nat) (g : ByteArray → Option Int) : Prop where
  rg : wr.ranges Tryz.prog 9 hv mb rb ne D left cnt
  ch : Ch (fun j => j = fb) w0 wr
  mg : MG wr (.map (some fb)) n (fun y => (g y).map (.int .i64))
  bs : ∀ y, okT y → Best (fun z => E y z ∨ (f.en y = some z ∧ left (kt y) = false)) (g y)
theorem kt_same {x y : ByteArray} : (kt y).sameKey (kt x) = true ↔ y = x := by
  constructor
  · intro h
    have h2 : (y.data.toList == x.data.toList) = true := h
    exact un_inj (eq_of_beq h2)
  · intro h
    rw [h]
    simp [Lit.sameKey, kt]
set_option maxRecDepth 100000 in
theorem EL.step {w0 wr w1 : World} {mb rb fb ne : Nat} {D : DataW Value} {f : Fn} {E : ByteArray → Int → Prop} {left : Lit → Bool} {cnt n cnt1 : Nat} {g : ByteArray → Option Int} {K : List ByteArray} {x : ByteArray} {q : Int} (h : EL w0 wr mb rb fb ne D f E left cnt n g)
    (hg : wr.grownBy w1 (some rb)) (hrb : w0.heap.size ≤ rb) (hfb : fb < w0.heap.size) (hmb : mb ≠ fb) (hr : w1.ranges Tryz.prog 9 hv mb rb ne D (fun z => left z && !z.sameKey (kt x)) cnt1) (hx : okT x) (hl : left (kt x) = true) (hq : f.en x = some q)
    (e0 : ∀ y z, E y z → y ∈ K ∧ 0 ≤ z) (n0 : ∀ y z, f.en y = some z → y ∈ K ∧ okT y ∧ 0 ≤ z) (hK : K.length ≤ 100000) :
    (Instr.lookup 61 (.map (some fb)) (.string x) false).run Tryz.prog w1 = .ok (.int .i64 ((g x).getD 0)) w1 ∧ ∃ w2 n' g', (Instr.mapUpdate 61 (.map (some fb)) (.string x) (.int .i64 (max ((g x).getD 0) q))).run Tryz.prog w1 = .ok () w2 ∧ EL w0 w2 mb rb fb ne D f E (fun z => left z && !z.sameKey (kt x)) cnt1 n' g' := by
  have fl : fb < wr.heap.size := Nat.lt_of_lt_of_le hfb h.ch.size
  have m1 : MG w1 (.map (some fb)) n (fun y => (g y).map (.int .i64)) := h.mg.keep (fun b e => by
    cases e
    exact hg.block fb fl (fun e => by injection e with e; omega))
  have hn : n ≤ K.length := m1.few (fun y oy hs => by
    have := h.bs y oy
    cases c : g y with
    | none => rw [c] at hs; cases hs
    | some z =>
      rw [c] at this
      rcases this.1 with e | ⟨e, _⟩
      · exact (e0 y z e).1
      · exact (n0 y z e).1)
  refine ⟨?_, ?_⟩
  · have := m1.look Tryz.underlying61 zero3 hx
    rw [this]
    cases g x <;> rfl
  · obtain ⟨w2, k1, k2, k3⟩ := m1.put (t := 61) Tryz.underlying61 (k := x) hx (.int .i64 (max ((g x).getD 0) q)) (by unfold maxLen; omega)
    refine ⟨w2, _, fun y => if y = x then some (max ((g x).getD 0) q) else g y, k1, ⟨?_, ?_, k2.congr (fun y _ => ?_), fun y oy => ?_⟩⟩
    · obtain ⟨es, clock, since, seen, c0, r1, r2, r3, r4, r5, r6⟩ := hr
      exact ⟨es, clock, since, seen, c0, (k3.block mb (Array.getElem?_eq_some_iff.1 r1).1 hmb).trans r1, r2, r3, r4, (k3.block _ (Array.getElem?_eq_some_iff.1 r5).1 (by omega)).trans r5, r6⟩
    · exact (h.ch.trans (ch_grown hg) (fun j hj e => by injection e with e; omega)).trans k3 (fun j _ e => e)
    · unfold setG
      by_cases c : y = x
      · rw [if_pos c, if_pos c]; rfl
      · rw [if_neg c, if_neg c]
    · have hb := h.bs y oy
      by_cases c : y = x
      · subst c
        rw [if_pos rfl]
        refine (hb.add (n0 y q hq).2.2 (fun z hz => ?_)).congr (fun z => ?_)
        · rcases hz with e | ⟨e, _⟩
          · exact (e0 y z e).2
          · exact (n0 y z e).2.2
        · rw [hl, kt_same.2 rfl]
          constructor
          · rintro ((a | ⟨_, b⟩) | b)
            · exact .inl a
            · cases b
            · exact .inr ⟨by rw [b]; exact hq, rfl⟩
          · rintro (a | ⟨b, _⟩)
            · exact .inl (.inl a)
            · rw [hq] at b
              exact .inr (by injection b with b; exact b.symm)
      · rw [if_neg c]
        refine hb.congr (fun z => ?_)
        have : (kt y).sameKey (kt x) = false := by
          cases d : (kt y).sameKey (kt x) with
          | false => rfl
          | true => exact absurd (kt_same.1 d) c
        rw [this]
        simp
theorem EL.ends {w0 wr : World} {tb m r mb rb fb ne : Nat} {nf nn : Int} {T : List Fn} {K : List ByteArray} {D : DataW Value} {f : Fn} {E : ByteArray → Int → Prop} {left : Lit → Bool} {cnt n : Nat} {g : ByteArray → Option Int} (h : EL w0 wr mb rb fb ne D f E left cnt n g) (g0 : GS w0 tb m r nf nn T fb K E) (hf : f ∈ T) (gc : GC T K) (hl : ∀ kl, left kl = false) : GS wr tb m r nf nn T fb K (fun y z => E y z ∨ f.en y = some z) := by
  refine ⟨g0.tmch h.ch, g0.fr, ⟨n, g, h.mg, fun y oy => (h.bs y oy).congr (fun z => ?_)⟩, fun y z c => ?_⟩
  · rw [hl]; simp
  · rcases c with c | c
    · exact g0.ks y z c
    · have := gc.en f hf y z c
      exact ⟨this.1, this.2.2⟩
theorem EL.start {w0 w1 : World} {tb m r mb fb : Nat} {nf nn : Int} {T : List Fn} {K : List ByteArray} {D : DataW Value} {f : Fn} {E : ByteArray → Int → Prop} (g0 : GS w0 tb m r nf nn T fb K E) (gc : GC T K) (hf : f ∈ T) (hD : ∀ k, okT k → Maps.has D (kt k) = (f.en k).isSome) (hr : w1.ranges Tryz.prog 9 hv mb w0.heap.size f.ne D (Maps.has D) (Maps.size D)) (hg : w0.grownBy w1 none) : ∃ n g, EL w0 w1 mb w0.heap.size fb f.ne D f E (Maps.has D) (Maps.size D) n g := by
  obtain ⟨n, g, m1, m2⟩ := g0.mg
  refine ⟨n, g, hr, (ch_grown hg).mono (fun j _ e => by cases e), m1.keep (fun b e => hg.block b (m1.lt e) (by simp)), fun y oy => (m2 y oy).congr (fun z => ⟨.inl, fun c => c.elim id (fun ⟨a, b⟩ => ?_)⟩)⟩
  rw [hD y oy, a] at b
  cases b
end Go.Proofs.YtepjcfhbbcaldaaGreat.Li
namespace Go.Proofs.YtepjcfhbbcaldaaGreat.Li
open Go Go.RowKit
set_option linter.unusedSimpArgs false
set_option linter.unusedVariables false
theorem Rw.head {w : World} {g o n c : Nat} {y : ByteArray} {ys : List ByteArray} (h : Rw w (.slice (some ⟨g, o, none⟩) n c) (y :: ys)) : w.cell? ⟨g, o, none⟩ = some (.string y) := by
  obtain ⟨g', o', n', c', e, _, _, _, hc, _⟩ := h.row.cons
  injection e with e1 e2 e3
  injection e1 with e1
  injection e1 with e1 e4 e5
  subst e1 e4
  exact hc
theorem okH : okT hsh := by unfold okT maxLen hsh; decide
theorem okP : okT pls := by unfold okT maxLen pls; decide
/-- The loop's state. -/
structure GL (w : World) (edge : List ByteArray) (W : Option (List ByteArray)) (a : Option Addr) (n c k : Nat) (Lk : List ByteArray) : Prop where
  r : Rw w (.slice a n c) Lk
  n : n = Lk.length
  e : wk (edge.drop k) Lk = W
  o : ∀ t ∈ Lk, okT t
  l : Lk.length ≤ 65536
/-- What gather leaves. -/
def GP (w w' : World) (tb m r : Nat) (nf nn : Int) (T : List Fn) (fb : Nat) (K : List ByteArray) (E : ByteArray → Int → Prop) (f : Fn) (L : List ByteArray) : Prop := GS w' tb m r nf nn T fb K (fun y z => E y z ∨ Sel T f L y z) ∧ Ch (fun j => j = fb) w w'
variable {w : World} {tb m r fb : Nat} {nf nn : Int} {T : List Fn} {K : List ByteArray} {E : ByteArray → Int → Prop} {f : Fn} {L : List ByteArray} {v : Value}
theorem fin_cons {w1 w2 w3 : World} {t : ByteArray} {ts : List ByteArray} (h : GS w tb m r nf nn T fb K E) (hl : HashLast T) (hf : f ∈ T) (hW : wk f.s.edge L = some (t :: ts)) (c1 : Ch (fun j => j = fb) w w1) (c2 : Ch (fun j => j = fb) w1 w2) (c3 : Ch (fun j => j = fb) w2 w3)
    (g : GS w3 tb m r nf nn T fb K (fun y z => ((E y z ∨ SelK T f hsh (t :: ts) y z) ∨ SelK T f pls (t :: ts) y z) ∨ SelK T f t (t :: ts) y z)) : GP w w3 tb m r nf nn T fb K E f L := by
  refine ⟨g.congr (fun y z => ?_), (c1.then c2).then c3⟩
  rw [sel_some h.tm hl hf hW]
  constructor
  · rintro (((a | a) | a) | a)
    · exact .inl a
    · exact .inr (.inr (.inl a))
    · exact .inr (.inr (.inr ⟨t, ts, rfl, .inl a⟩))
    · exact .inr (.inr (.inr ⟨t, ts, rfl, .inr a⟩))
  · rintro (a | ⟨a, _⟩ | a | ⟨t', ts', e, a⟩)
    · exact .inl (.inl (.inl a))
    · cases a
    · exact .inl (.inl (.inr a))
    · cases e
      rcases a with a | a
      · exact .inl (.inr a)
      · exact .inr a
theorem fin_nil {w1 w3 : World} (h : GS w tb m r nf nn T fb K E) (hl : HashLast T) (hf : f ∈ T) (hW : wk f.s.edge L = some []) (c1 : Ch (fun j => j = fb) w w1) (c3 : Ch (fun j => j = fb) w1 w3)
    (g : GS w3 tb m r nf nn T fb K (fun y z => (E y z ∨ SelK T f hsh [] y z) ∨ f.en y = some z)) : GP w w3 tb m r nf nn T fb K E f L := by
  refine ⟨g.congr (fun y z => ?_), c1.then c3⟩
  rw [sel_some h.tm hl hf hW]
  constructor
  · rintro ((a | a) | a)
    · exact .inl a
    · exact .inr (.inr (.inl a))
    · exact .inr (.inl ⟨rfl, a⟩)
  · rintro (a | ⟨_, a⟩ | a | ⟨t', ts', e, a⟩)
    · exact .inl (.inl a)
    · exact .inr a
    · exact .inl (.inr a)
    · cases e
theorem fin_none (h : GS w tb m r nf nn T fb K E) (hl : HashLast T) (hf : f ∈ T) (hW : wk f.s.edge L = none) : GP w w tb m r nf nn T fb K E f L :=
  ⟨h.congr (fun y z => ⟨.inl, fun c => c.elim id (fun c => absurd c (sel_none hl hf hW y z))⟩), Ch.refl _ _⟩
theorem GS.entries {w1 : World} (g : GS w1 tb m r nf nn T fb K E) (hf : f ∈ T) {mb : Nat} (he : f.ev = .map (some mb)) : mb ≠ fb ∧ ∃ D, w1.ownsMap Tryz.prog 9 hv mb f.ne D ∧ ∀ k, okT k → Maps.has D (kt k) = (f.en k).isSome ∧ ∀ z, f.en k = some z → ∀ d, D.atKey (kt k) d = .held (.int .i64 z) := by
  refine ⟨fun e => g.fr (.inr ⟨f, hf, .inr (.inl (by rw [he, e]))⟩), ?_⟩
  rcases (g.tm.nd f hf).ev with ⟨e, _⟩ | ⟨mb', D, e, hown, hsz, hD⟩
  · rw [he] at e; cases e
  · rw [he] at e
    cases e
    refine ⟨D, hown, fun k ok => ⟨by rw [(hD k ok).1]; simp, fun z hz d => (hD k ok).2 _ (by show (f.en k).map _ = _; rw [hz]; rfl) d⟩⟩
theorem GS.none_ {w1 : World} (g : GS w1 tb m r nf nn T fb K E) (gc : GC T K) (hf : f ∈ T) (he : f.ev = .map none) (y : ByteArray) (z : Int) : f.en y ≠ some z := fun e => by
  have oy := (gc.en f hf y z e).2.1
  rcases (g.tm.nd f hf).ev with ⟨_, _, h2⟩ | ⟨mb', D, e', _⟩
  · have : (f.en y).map (Value.int .i64) = none := h2 y oy
    rw [e] at this
    cases this
  · rw [he] at e'; cases e'
theorem GS.below {w w' : World} {tb m r fb : Nat} {nf nn : Int} {T : List Fn} {K : List ByteArray} {E : ByteArray → Int → Prop} (h : GS w tb m r nf nn T fb K E) (hb : Below w.heap.size w w') : GS w' tb m r nf nn T fb K E := by
  obtain ⟨n, g, m1, m2⟩ := h.mg
  exact ⟨h.tm.below hb, h.fr, ⟨n, g, m1.keep (fun b e => hb.block b (m1.lt e)), m2⟩, h.ks⟩
theorem GS.lt {w : World} {tb m r fb : Nat} {nf nn : Int} {T : List Fn} {K : List ByteArray} {E : ByteArray → Int → Prop} (h : GS w tb m r nf nn T fb K E) : fb < w.heap.size := by
  obtain ⟨n, g, m1, m2⟩ := h.mg
  exact m1.lt rfl
theorem rw_nil (w : World) : Rw w (.slice none 0 0) [] := ⟨⟨none, 0, 0, rfl, rfl, Nat.le_refl _, fun h => absurd rfl h⟩, fun j hj => by cases hj⟩
set_option maxRecDepth 100000 in
set_option maxHeartbeats 8000000 in
theorem gather_step (FO : FollowOk tb m r nf nn T fb K f) (gc : GC T K) (hf : f ∈ T) (h : GS w tb m r nf nn T fb K E) (R : Rw w v L) (okL : ∀ t ∈ L, okT t) (hL : L.length ≤ 65536) :
    Calls Tryz.prog 52 #[ptr f.s.p, v, .map (some fb)] w fun e w' => e = .returned (.tuple #[]) ∧ GP w w' tb m r nf nn T fb K E f L := by
  have fd := h.tm.nd f hf
  have fm := (h.tm.inv.le f.s (List.mem_map_of_mem hf)).1
  have fo := h.tm.ok f hf
  have el := edge_len f.s fm
  obtain ⟨la, lc, hlv⟩ : ∃ la lc, f.lv = .slice la f.s.m lc := own_sl fd.lv
  have c1 : w.cell? ⟨f.s.p, 1, none⟩ = some (.slice la f.s.m lc) := by rw [← hlv]; exact box_cells fd.at_ 1 _ rfl
  obtain ⟨a0, n0, cap0, rfl, hn0, hc0, -⟩ := R.row
  have ER := hidi (row_own fd.lv)
  rw [hlv] at ER
  have GL0 := hidi (show GL w f.s.edge (wk f.s.edge L) a0 n0 cap0 0 L from ⟨R, hn0, by rw [List.drop_zero], okL, hL⟩)
  have FW := hidi FO
  have H := hidi h
  have HF := hidi hf
  have HC := hidi gc
  have EDG := hidi (And.intro el (And.intro fm fo.2))
  have EV := hidi (fun (w1 : World) (E1 : ByteArray → Int → Prop) (g : GS w1 tb m r nf nn T fb K E1) => (show w1.cell? ⟨f.s.p, 2, none⟩ = some f.ev from box_cells (g.tm.nd f hf).at_ 2 _ rfl))
  obtain ⟨W, hW⟩ : ∃ W, W = wk f.s.edge L := ⟨_, rfl⟩
  rw [← hW] at GL0
  have HW := hidi hW
  have FE : f.ev = .map none ∨ ∃ mb, f.ev = .map (some mb) := fd.ev.mk
  have HE := hidi FE
  unfold ptr at *
  clear h hf gc fd fm fo el hlv R okL hL FO hc0 hW FE hn0
  go_enter Tryz.func52, Tryz.ntmps52
  go_wp2_with fail
  go_step3
  go_wp2_with fail
  go_step3
  go_wp2_with fail
  go_loopg [1, 7, 15, 19, 22] f.s.m (fun gg s1 s7 s15 s19 s22 wx => ∃ (k : Nat) (a : Option Addr) (n c : Nat) (Lk : List ByteArray), k ≤ f.s.m ∧ gg = f.s.m - k ∧ s15 = .int .i64 k ∧ s1 = .slice a n c ∧ w = wx ∧ Hid (GL w f.s.edge W a n c k Lk))
  case atStart => exact ⟨0, a0, n0, cap0, L, Nat.zero_le _, rfl, rfl, rfl, rfl, GL0⟩
  case round =>
    clear GL0 c1
    obtain ⟨k, a, n, c, Lk, hk, rfl, rfl, rfl, rfl, Z⟩ := hrel
    by_cases hlt : k < f.s.m
    · have hlt' : (k : Int) < f.s.m := by omega
      obtain ⟨x, hx⟩ : ∃ x, f.s.edge[k]? = some x := ⟨_, List.getElem?_eq_getElem (by have := EDG.out.1; omega)⟩
      have hdr : f.s.edge.drop k = x :: f.s.edge.drop (k + 1) := by
        obtain ⟨hi, ei⟩ := List.getElem?_eq_some_iff.1 hx
        rw [List.drop_eq_getElem_cons hi, ei]
      obtain ⟨la', n', lc', ev, hn', hc', hrow⟩ := ER.out
      obtain ⟨g2, o2, ea, hg, hcells⟩ := hrow (fun e => by rw [e] at hx; simp at hx)
      injection ev with ev1 ev2 ev3
      rw [ea] at ev1
      subst ev1
      have x1 : w.cell? ⟨g2, o2 + k, none⟩ = some (.string x) := hcells k x hx
      have ZE := Z.out.e
      rw [hdr] at ZE
      unfold wk at ZE
      have hw : IntKind.i64.wrap ((k : Int) + 1) = (k : Int) + 1 := by rw [IntKind.wrap_i64]; have := EDG.out; omega
      clear hcells hg ea hrow ev2 ev3 hc' hn' hdr hx
      by_cases h35 : unB x = [35]
      · rw [if_pos h35] at ZE
        have q1 : (x.toList == (⟨#[35]⟩ : ByteArray).toList) = true := by rw [eq_one]; exact decide_eq_true h35
        have q1' : (x.toList == [35]) = true := by rw [eq_one']; exact decide_eq_true h35
        have HZE := hidi ZE
        have RN := hidi (show Rw w (.slice none 0 0) [] from rw_nil w)
        clear ZE h35 Z ER
        have CC := hidi (FW.out w hsh _ [] E okH H.out RN.out (by simp) (by simp))
        clear FW RN
        rcases HE.out with he | ⟨mb, he⟩
        · clear HE
          go_wp2_with (go_at_call 51; refine CC.out.mono ?_; rintro e w1 ⟨rfl, g1, c1⟩; have G1 := hidi g1; have C1 := hidi c1; have l2 := EV.out w1 _ g1; rw [he] at l2; have hrg := run_range_nilMap (P := Tryz.prog) w1 61 9 3 Tryz.underlying61; have hnx : ∀ ty, (Instr.next (.pointer (some ⟨w1.heap.size, 0, none⟩)) false ty).run Tryz.prog (w1.alloc (.mapIter none 0 #[] 0)) = _ := fun ty => run_next_nilMap _ ty 0 0 #[]; clear g1 c1 CC EV)
          refine wp_loop_rounds 1 ?_
          rw [rounds_succ]
          go_wp2_with fail
          rw [Exit.noGoto_normal]
          refine bodyPost_end (results_none rfl _ _ _) rfl ⟨rfl, ?_⟩
          have bb : Below w1.heap.size w1 (w1.alloc (.mapIter none 0 #[] 0)) := (Below.refl _ _).alloc (Nat.le_refl _) _
          exact fin_nil H.out HC.out.hl HF.out (by rw [← HW.out]; exact HZE.out.symm) C1.out (Below.ch bb) ((G1.out.below bb).congr (fun y z => ⟨.inl, fun c => c.elim id (fun c => absurd c (G1.out.none_ HC.out HF.out he y z))⟩))
        · clear HE
          go_wp2_with (first
            | (go_at_call 51; refine CC.out.mono ?_; rintro e w1 ⟨rfl, g1, c1⟩; have G1 := hidi g1; have C1 := hidi c1; have l2 := EV.out w1 _ g1; rw [he] at l2; obtain ⟨hne, D, hown, hD⟩ := g1.entries HF.out he; have HD := hidi hD; have HNE := hidi hne; clear g1 c1 CC hD hne EV)
            | (at_range; refine wpList_range_own _ rfl _ 61 rfl 9 3 law9 Tryz.underlying61 hv mb f.ne D rfl hown ?_; intro w2 hrg0 hg0 hs0))
          obtain ⟨nn0, gg0, EL0⟩ := EL.start G1.out HC.out HF.out (fun k ok => (HD.out k ok).1) hrg0 hg0
          have E0 := hidi EL0
          clear EL0 hrg0 hg0 hs0 hown l2
          (try go_frame)
          go_loopw [8, 9] (fun s8 s9 wr => ∃ (left : Lit → Bool) (cnt n' : Nat) (gq : ByteArray → Option Int), Hid (EL w1 wr mb w1.heap.size fb f.ne D f (fun y z => E y z ∨ SelK T f hsh [] y z) left cnt n' gq)) (fun _ _ wr => wr.rangeLeft mb w1.heap.size)
          case atStart => exact ⟨_, _, _, _, E0⟩
          case round =>
            clear E0
            obtain ⟨left, cnt, n', gq, Z1⟩ := hrel
            have hrg := Z1.out.rg
            go_wp2_with (at_next; refine wpList_next_ranges _ rfl _ rfl 9 law9 hv Value.string (fun v : Value => v) (fun key kl hk => by obtain ⟨x, hx, _⟩ := Go.WideMaps.string_of_keyOf Tryz.underlying9 hk; exact ⟨x, hx⟩) (fun v y _ => ⟨v, rfl⟩) mb _ f.ne D _ _ rfl hrg ?_ ?_)
            · intro hc0 hl0
              clear hrg
              go_wp2_with fail
              rw [Exit.noGoto_normal]
              refine bodyPost_end (results_none rfl _ _ _) rfl ⟨rfl, ?_⟩
              exact fin_nil H.out HC.out.hl HF.out (by rw [← HW.out]; exact HZE.out.symm) C1.out Z1.out.ch (Z1.out.ends G1.out HF.out HC.out hl0)
            · intro xk cv kl yd yp w2 cnt2 hkey hlk hvv hat hrg2 hlt2 hg2 hs2 hen
              obtain ⟨x', ex, rfl, hwx⟩ := Go.WideMaps.string_of_keyOf Tryz.underlying9 hkey
              cases ex
              have hyd : yd = .held cv := by simp [hv] at hvv; exact hvv.1.symm
              subst hyd
              have hhas : Maps.has D (kt xk) = true := Go.Maps.has_true_of_atKey hat
              obtain ⟨q, hq⟩ : ∃ q, f.en xk = some q := by
                have := (HD.out xk hwx).1
                rw [hhas] at this
                exact Option.isSome_iff_exists.1 this.symm
              have hcv : cv = .int .i64 q := by
                have h1 := hat (.held cv)
                have h2 := (HD.out xk hwx).2 q hq (.held cv)
                rw [show D.atKey (kt xk) (.held cv) = _ from h1] at h2
                injection h2
              subst hcv
              obtain ⟨hlook, w3, n3', g3', hup, E3⟩ := Z1.out.step (K := K) hg2 (Nat.le_refl _) G1.out.lt HNE.out hrg2 hwx hlk hq G1.out.ks (HC.out.en f HF.out) HC.out.few
              obtain ⟨gv, hgv⟩ : ∃ gv, gv = (gq xk).getD 0 := ⟨_, rfl⟩
              rw [← hgv] at hlook hup
              have EN := hidi E3
              have HL := hidi (show w3.rangeLeft mb w1.heap.size < wr.rangeLeft mb w1.heap.size by rw [E3.rg.left_eq, hrg.left_eq]; exact hlt2)
              clear hkey hlk hvv hat hg2 hs2 hwx hrg2 hhas hq hrg E3 Z1 hgv
              go_wp2_with fail
              go_roundw
              case rel => exact ⟨_, _, _, _, EN⟩
              case measure => exact HL.out
      · rw [if_neg h35] at ZE
        have q1 : (x.toList == (⟨#[35]⟩ : ByteArray).toList) = false := by rw [eq_one]; exact decide_eq_false h35
        have q1' : (x.toList == [35]) = false := by rw [eq_one']; exact decide_eq_false h35
        cases Lk with
        | nil =>
          have HZE := hidi (show W = none from ZE.symm)
          have HZN : n = 0 := Z.out.n
          clear ZE h35 Z ER FW EV
          obtain rfl : n = 0 := HZN
          go_wp2_with fail
          try rw [Exit.noGoto_ret]
          exact bodyPost_ret (results_none rfl _ _ _) rfl ⟨rfl, fin_none H.out HC.out.hl HF.out (by rw [← HW.out, HZE.out])⟩
        | cons y ys =>
          simp only at ZE
          obtain ⟨g3, o3, n3, cap3, e3, hn3, hc3, hg3, y1, -⟩ := Z.out.r.row.cons
          injection e3 with e31 e32 e33
          subst e31 e32 e33
          have hpos : ((n : Int) == 0) = false := by rw [beq_eq_false_iff_ne]; omega
          have hpos1 : (0 : Int) < (n : Int) := by omega
          have hpos2 : (1 : Int) ≤ (n : Int) := by omega
          by_cases hd : unB x ≠ [43] ∧ unB x ≠ unB y
          · rw [if_pos hd] at ZE
            have q2 : (x.toList == (⟨#[43]⟩ : ByteArray).toList) = false := by rw [eq_one]; exact decide_eq_false hd.1
            have q2' : (x.toList == [43]) = false := by rw [eq_one']; exact decide_eq_false hd.1
            have q3 : (x.toList == y.toList) = false := by rw [eq_two]; exact decide_eq_false hd.2
            have HZE := hidi (show W = none from ZE.symm)
            clear ZE h35 Z ER FW EV hd hn3 hc3 hg3
            go_wp2_with fail
            try rw [Exit.noGoto_ret]
            exact bodyPost_ret (results_none rfl _ _ _) rfl ⟨rfl, fin_none H.out HC.out.hl HF.out (by rw [← HW.out, HZE.out])⟩
          · rw [if_neg hd] at ZE
            have hpos3 : (1 : Int) ≤ (c : Int) := by omega
            have NX1 := hidi (fun (e : c = 1) => (show GL w f.s.edge W (some ⟨g3, o3, none⟩) (n - 1) 0 (k + 1) ys from ⟨by
              have T := Z.out.r.drop (k := 1) (by omega)
              simp only [List.drop_one, List.tail_cons, if_pos e] at T
              rw [e] at T
              exact T, by omega, ZE, fun t ht => Z.out.o t (List.mem_cons_of_mem _ ht), by have := Z.out.l; simp at this; omega⟩))
            have NX2 := hidi (fun (e : ¬ c = 1) => (show GL w f.s.edge W (some ⟨g3, o3 + 1, none⟩) (n - 1) (c - 1) (k + 1) ys from ⟨by
              have T := Z.out.r.drop (k := 1) (by omega)
              simp only [List.drop_one, List.tail_cons, if_neg e] at T
              exact T, by omega, ZE, fun t ht => Z.out.o t (List.mem_cons_of_mem _ ht), by have := Z.out.l; simp at this; omega⟩))
            have ha : (unB x = [43]) ∨ (¬ unB x = [43] ∧ unB x = unB y) := by
              by_cases e : unB x = [43]
              · exact .inl e
              · exact .inr ⟨e, Classical.byContradiction fun q => hd ⟨e, q⟩⟩
            clear ZE h35 Z hd hn3 hc3 hg3
            rcases ha with h43 | ⟨h43, h3⟩
            · have q2 : (x.toList == (⟨#[43]⟩ : ByteArray).toList) = true := by rw [eq_one]; exact decide_eq_true h43
              have q2' : (x.toList == [43]) = true := by rw [eq_one']; exact decide_eq_true h43
              clear h43
              go_wp2_with fail
              all_goals go_roundg (f.s.m - (k + 1))
              all_goals first
                | omega
                | exact ⟨k + 1, some ⟨g3, o3, none⟩, n - 1, 0, ys, by omega, rfl, rfl, rfl, rfl, NX1.out (by first | assumption | rfl | omega)⟩
                | exact ⟨k + 1, some ⟨g3, o3 + 1, none⟩, n - 1, _, ys, by omega, rfl, rfl, rfl, rfl, NX2.out (by first | assumption | omega)⟩
            · have q2 : (x.toList == (⟨#[43]⟩ : ByteArray).toList) = false := by rw [eq_one]; exact decide_eq_false h43
              have q2' : (x.toList == [43]) = false := by rw [eq_one']; exact decide_eq_false h43
              have q3 : (x.toList == y.toList) = true := by rw [eq_two]; exact decide_eq_true h3
              clear h43 h3
              go_wp2_with fail
              all_goals go_roundg (f.s.m - (k + 1))
              all_goals first
                | omega
                | exact ⟨k + 1, some ⟨g3, o3, none⟩, n - 1, 0, ys, by omega, rfl, rfl, rfl, rfl, NX1.out (by first | assumption | rfl | omega)⟩
                | exact ⟨k + 1, some ⟨g3, o3 + 1, none⟩, n - 1, _, ys, by omega, rfl, rfl, rfl, rfl, NX2.out (by first | assumption | omega)⟩
    · have hlt' : ¬ (k : Int) < f.s.m := by omega
      obtain rfl : k = f.s.m := by omega
      have ZE : W = some Lk := by
        have := Z.out.e
        rw [List.drop_of_length_le (by have := EDG.out.1; omega)] at this
        exact this.symm
      clear ER
      cases Lk with
      | nil =>
        have HZN : n = 0 := Z.out.n
        subst HZN
        have RN := hidi Z.out.r
        have HZE := hidi ZE.symm
        clear ZE Z
        have CC := hidi (FW.out w hsh _ [] E okH H.out RN.out (by simp) (by simp))
        clear FW RN
        rcases HE.out with he | ⟨mb, he⟩
        · clear HE
          go_wp2_with (go_at_call 51; refine CC.out.mono ?_; rintro e w1 ⟨rfl, g1, c1⟩; have G1 := hidi g1; have C1 := hidi c1; have l2 := EV.out w1 _ g1; rw [he] at l2; have hrg := run_range_nilMap (P := Tryz.prog) w1 61 9 3 Tryz.underlying61; have hnx : ∀ ty, (Instr.next (.pointer (some ⟨w1.heap.size, 0, none⟩)) false ty).run Tryz.prog (w1.alloc (.mapIter none 0 #[] 0)) = _ := fun ty => run_next_nilMap _ ty 0 0 #[]; clear g1 c1 CC EV)
          refine wp_loop_rounds 1 ?_
          rw [rounds_succ]
          go_wp2_with fail
          rw [Exit.noGoto_normal]
          refine bodyPost_end (results_none rfl _ _ _) rfl ⟨rfl, ?_⟩
          have bb : Below w1.heap.size w1 (w1.alloc (.mapIter none 0 #[] 0)) := (Below.refl _ _).alloc (Nat.le_refl _) _
          exact fin_nil H.out HC.out.hl HF.out (by rw [← HW.out]; exact HZE.out.symm) C1.out (Below.ch bb) ((G1.out.below bb).congr (fun y z => ⟨.inl, fun c => c.elim id (fun c => absurd c (G1.out.none_ HC.out HF.out he y z))⟩))
        · clear HE
          go_wp2_with (first
            | (go_at_call 51; refine CC.out.mono ?_; rintro e w1 ⟨rfl, g1, c1⟩; have G1 := hidi g1; have C1 := hidi c1; have l2 := EV.out w1 _ g1; rw [he] at l2; obtain ⟨hne, D, hown, hD⟩ := g1.entries HF.out he; have HD := hidi hD; have HNE := hidi hne; clear g1 c1 CC hD hne EV)
            | (at_range; refine wpList_range_own _ rfl _ 61 rfl 9 3 law9 Tryz.underlying61 hv mb f.ne D rfl hown ?_; intro w2 hrg0 hg0 hs0))
          obtain ⟨nn0, gg0, EL0⟩ := EL.start G1.out HC.out HF.out (fun k ok => (HD.out k ok).1) hrg0 hg0
          have E0 := hidi EL0
          clear EL0 hrg0 hg0 hs0 hown l2
          (try go_frame)
          go_loopw [8, 9] (fun s8 s9 wr => ∃ (left : Lit → Bool) (cnt n' : Nat) (gq : ByteArray → Option Int), Hid (EL w1 wr mb w1.heap.size fb f.ne D f (fun y z => E y z ∨ SelK T f hsh [] y z) left cnt n' gq)) (fun _ _ wr => wr.rangeLeft mb w1.heap.size)
          case atStart => exact ⟨_, _, _, _, E0⟩
          case round =>
            clear E0
            obtain ⟨left, cnt, n', gq, Z1⟩ := hrel
            have hrg := Z1.out.rg
            go_wp2_with (at_next; refine wpList_next_ranges _ rfl _ rfl 9 law9 hv Value.string (fun v : Value => v) (fun key kl hk => by obtain ⟨x, hx, _⟩ := Go.WideMaps.string_of_keyOf Tryz.underlying9 hk; exact ⟨x, hx⟩) (fun v y _ => ⟨v, rfl⟩) mb _ f.ne D _ _ rfl hrg ?_ ?_)
            · intro hc0 hl0
              clear hrg
              go_wp2_with fail
              rw [Exit.noGoto_normal]
              refine bodyPost_end (results_none rfl _ _ _) rfl ⟨rfl, ?_⟩
              exact fin_nil H.out HC.out.hl HF.out (by rw [← HW.out]; exact HZE.out.symm) C1.out Z1.out.ch (Z1.out.ends G1.out HF.out HC.out hl0)
            · intro xk cv kl yd yp w2 cnt2 hkey hlk hvv hat hrg2 hlt2 hg2 hs2 hen
              obtain ⟨x', ex, rfl, hwx⟩ := Go.WideMaps.string_of_keyOf Tryz.underlying9 hkey
              cases ex
              have hyd : yd = .held cv := by simp [hv] at hvv; exact hvv.1.symm
              subst hyd
              have hhas : Maps.has D (kt xk) = true := Go.Maps.has_true_of_atKey hat
              obtain ⟨q, hq⟩ : ∃ q, f.en xk = some q := by
                have := (HD.out xk hwx).1
                rw [hhas] at this
                exact Option.isSome_iff_exists.1 this.symm
              have hcv : cv = .int .i64 q := by
                have h1 := hat (.held cv)
                have h2 := (HD.out xk hwx).2 q hq (.held cv)
                rw [show D.atKey (kt xk) (.held cv) = _ from h1] at h2
                injection h2
              subst hcv
              obtain ⟨hlook, w3, n3', g3', hup, E3⟩ := Z1.out.step (K := K) hg2 (Nat.le_refl _) G1.out.lt HNE.out hrg2 hwx hlk hq G1.out.ks (HC.out.en f HF.out) HC.out.few
              obtain ⟨gv, hgv⟩ : ∃ gv, gv = (gq xk).getD 0 := ⟨_, rfl⟩
              rw [← hgv] at hlook hup
              have EN := hidi E3
              have HL := hidi (show w3.rangeLeft mb w1.heap.size < wr.rangeLeft mb w1.heap.size by rw [E3.rg.left_eq, hrg.left_eq]; exact hlt2)
              clear hkey hlk hvv hat hg2 hs2 hwx hrg2 hhas hq hrg E3 Z1 hgv
              go_wp2_with fail
              go_roundw
              case rel => exact ⟨_, _, _, _, EN⟩
              case measure => exact HL.out
      | cons y ys =>
        obtain ⟨g3, o3, n3, cap3, e3, hn3, hc3, hg3, y1, -⟩ := Z.out.r.row.cons
        injection e3 with e31 e32 e33
        subst e31 e32 e33
        have hpos1 : (0 : Int) < (n : Int) := by omega
        have hpos2 : (n : Int) > 0 := by omega
        have RY := hidi Z.out.r
        have OY := hidi (And.intro Z.out.o Z.out.l)
        have CC1 := hidi (FW.out w hsh _ (y :: ys) E okH H.out Z.out.r Z.out.o Z.out.l)
        have HZE := hidi ZE
        clear ZE Z hn3 hc3 hg3 EV HE y1
        go_wp2_with (first
          | (go_at_call 51; refine CC1.out.mono ?_; rintro e w1 ⟨rfl, g1, c1⟩; have C1 := hidi c1; have r1 := H.out.rw RY.out c1; have CC2 := hidi (FW.out w1 pls _ (y :: ys) _ okP g1 r1 OY.out.1 OY.out.2); have R1 := hidi r1; have G1 := hidi g1; clear g1 c1 r1 CC1)
          | (go_at_call 51; refine CC2.out.mono ?_; rintro e w2 ⟨rfl, g2, c2⟩; have C2 := hidi c2; have r2 := G1.out.rw R1.out c2; have l2 := r2.head; have CC3 := hidi (FW.out w2 y _ (y :: ys) _ (OY.out.1 y List.mem_cons_self) g2 r2 OY.out.1 OY.out.2); clear g2 c2 r2 CC2 R1)
          | (go_at_call 51; refine CC3.out.mono ?_; rintro e w3 ⟨rfl, g3, c3⟩; have G3 := hidi g3; have C3 := hidi c3; clear g3 c3 CC3 l2))
        try rw [Exit.noGoto_ret]
        exact bodyPost_ret (results_none rfl _ _ _) rfl ⟨rfl, fin_cons H.out HC.out.hl HF.out (by rw [← HW.out]; exact HZE.out) C1.out C2.out C3.out G3.out⟩
/-- GATHER, from any node. -/
theorem gather_any (tb m r : Nat) (nf nn : Int) (T : List Fn) (fb : Nat) (K : List ByteArray) (gc : GC T K) : ∀ N, GatherOk tb m r nf nn T fb K N
  | 0 => fun w f v L E hf hN h R okL hL => by have := (h.tm.ok f hf).2; omega
  | N + 1 => fun w f v L E hf hN h R okL hL => gather_step (follow_any (gather_any tb m r nf nn T fb K gc N) hf (by omega)) gc hf h R okL hL
end Go.Proofs.YtepjcfhbbcaldaaGreat.Li
