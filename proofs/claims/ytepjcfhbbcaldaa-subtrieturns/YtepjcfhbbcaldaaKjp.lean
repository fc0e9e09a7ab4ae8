import Derived.Test.YtepjcfhbbcaldaaKjm
import Derived.Test.YtepjcfhbbcaldaaKib
namespace Go.Proofs.Ytepjcfhbbcaldaa.Li
open Go Go.RowKit
set_option linter.unusedSimpArgs false
set_option linter.unusedVariables false
variable {w : World} {tb m r P : Nat} {nf nn : Int} {T : List Fn} {f x : ByteArray} {q : Int}
/-- A trie from which a key went. -/
structure Dr (w w' : World) (tb m r P : Nat) (T : List Fn) (F : List ByteArray) (x : ByteArray) : Prop where
  ex : ∃ T' nf', TM w' tb m r nf' (T'.length : Int) T' ∧ QS tb P nf' T T' F x []
  ch : Ch (isT tb T) w w'
theorem root_m (h : TM w tb m r nf nn T) {f : Fn} (hf : f ∈ T) (h0 : f.s.A = []) : f.s.m = 0 := (h.inv.le f.s (List.mem_map_of_mem hf)).2.1 h0
theorem without_root (h : TM w tb m r nf (T.length : Int) T) (b : Bs P nf T) (hP : P ≤ 100000) {v : Value} {F : List ByteArray} (hF : F ≠ []) (R : Rw w v F) {g : Fn} (hg : g ∈ T) (hgA : g.s.A = F) (hq : g.en x = some q) :
    Calls Try.prog 30 #[ptr tb, ptr r, v, .string x] w fun e w' => e = .returned (ptr r) ∧ Dr w w' tb m r P T F x := by
  obtain ⟨f, hf, f0, fp⟩ := h.rt
  have fA : f.s.A ++ F = F := by rw [f0]; rfl
  have ti : TidyOk tb m r P T f F x w (fun res w' => res = ptr r ∧ Dr w w' tb m r P T F x) := fun w2 T2 nf2 f2 u hc => by
    obtain ⟨nk, kd, b1, b2, b3⟩ := (u.tm.nd f2 u.mem).kv
    have := tidy_stay u.tm u.mem b2 (.inl (root_m u.tm u.mem (by rw [u.s]; exact f0)))
    rw [u.s, fp] at this
    rw [fp]
    refine this.mono ?_
    rintro e w' ⟨rfl, rfl⟩
    exact ⟨_, rfl, rfl, ⟨T2, nf2, u.tm, by have := u.q; rw [f0] at this; exact this⟩, hc⟩
  cases F with
  | nil => exact absurd rfl hF
  | cons z rs =>
    have := without_cons (without_any (tb := tb) (m := m) (r := r) (P := P) (x := x) hP rs.length) h b hf R (Nat.le_refl _) hg (hgA.trans fA.symm) hq (Q := fun res w' => res = ptr r ∧ Dr w w' tb m r P T (z :: rs) x) (by rw [fA]; exact ti)
    rw [fp] at this
    refine this.mono ?_
    rintro e w' ⟨res, rfl, rfl, dr⟩
    exact ⟨rfl, dr⟩
set_option maxRecDepth 100000 in
set_option maxHeartbeats 4000000 in
/-- DROP of what is there. -/
theorem drop_yes (h : TM w tb m r nf (T.length : Int) T) (b : Bs P nf T) (hP : P ≤ 100000) (hfs : f.size ≤ 1000000) (hq : HasE T (levels f) x q) :
    Calls Try.prog 17 #[ptr tb, .string f, .string x] w fun e w' => e = .returned (.bool true) ∧ Dr w w' tb m r P T (levels f) x := by
  obtain ⟨g, hg, gA, gx⟩ := hq
  have ox := b.ok _ _ _ ⟨g, hg, gA, gx⟩
  obtain ⟨rf, hrf, rA, rp⟩ := h.rt
  have LV := hidi (fun w => tlevels_any f hfs w)
  have okl : ∀ y ∈ levels f, okT y := fun y hy => by have := levels_size f y hy; unfold okT maxLen; omega
  have lle : (levels f).length ≤ 1000001 := by have := levels_len f; omega
  have hne : levels f ≠ [] := by obtain ⟨a, b, c, _⟩ := levels_head f; rw [c]; simp
  have AT := hidi (fun (w1 : World) (v : Value) (hb : Below w.heap.size w w1) (R : Rw w1 v (levels f)) => (show Calls Try.prog 29 #[ptr r, v] w1 fun e w2 => ∃ mo, e = .returned (.map mo) ∧ Below w.heap.size w w2 ∧ Below w1.heap.size w1 w2 ∧ (Instr.lookup 53 (.map mo) (.string x) true).run Try.prog w2 = .ok (.tuple #[.int .i64 q, .bool true]) w2 from by
    have := at_any tb m r nf (T.length : Int) T (levels f).length w1 rf v (levels f) (Nat.le_refl _) (h.below hb) hrf R okl lle
    rw [rp, rA] at this
    refine this.mono ?_
    rintro e w2 ⟨mo, rfl, ar, b2⟩
    have bb := hb.trans (b2.mono hb.size)
    refine ⟨mo, rfl, bb, b2, ?_⟩
    rcases ar with ⟨g', hg', e1, e2⟩ | ⟨_, no⟩
    · obtain rfl := h.same hg' hg (e1.trans gA.symm)
      have := ((h.below bb).nd g' hg').ev.look2 Try.underlying53 zero3 ox
      rw [gx, ← e2] at this
      exact this
    · exact absurd gA (no g hg)))
  have CR := hidi (fun (w1 : World) (hb : Below w.heap.size w w1) => (show w1.cell? ⟨tb, 0, none⟩ = some (ptr r) from box_cells (h.below hb).tr 0 _ rfl))
  have WO := hidi (fun (w2 : World) (v : Value) (hb : Below w.heap.size w w2) (R : Rw w2 v (levels f)) => without_root (h.below hb) b hP hne R hg gA gx)
  have FIN := hidi (fun (w2 w3 : World) (hb : Below w.heap.size w w2) (dr : Dr w2 w3 tb m r P T (levels f) x) => (show Dr w (w3.setCell ⟨tb, 0, none⟩ (ptr r)) tb m r P T (levels f) x ∧ w3.cell? ⟨tb, 0, none⟩ = some (ptr r) ∧ w3.frozen? ⟨tb, 0, none⟩ = false from by
    obtain ⟨⟨T', nf', tm, qs⟩, hc⟩ := dr
    have c := ch_root tm
    exact ⟨⟨⟨T', nf', tm.keep c (fun q => q) (fun _ _ _ _ q => q) (fun _ q => q.elim), qs⟩, ((Below.ch hb).then hc).trans c (fun j _ q => q.elim)⟩, box_cells tm.tr 0 _ rfl, box_frozen tm.tr 0⟩))
  unfold ptr at *
  clear h b hP hfs hg gA gx ox hrf rA rp okl lle hne
  go_enter Try.func17, Try.ntmps17
  go_wp2_with (first
    | (go_at_call 28; refine (LV.out _).mono ?_; rintro e w1 ⟨v, rfl, ho, hb⟩; have B1 := hidi hb; have R1 := hidi (rw_own ho); have c0 := CR.out w1 hb; have A1 := hidi (AT.out w1 v hb R1.out); obtain ⟨va, vc, rfl⟩ := own_sl ho; clear hb ho LV AT)
    | (go_at_call 29; refine A1.out.mono ?_; rintro e w2 ⟨mo, rfl, bb, b12, hlook⟩; have B2 := hidi bb; clear c0; have c0 := CR.out w2 bb; have W2 := hidi (WO.out w2 _ bb (R1.out.below b12)); clear bb A1 CR WO b12)
    | (go_at_call 30; refine W2.out.mono ?_; rintro e w3 ⟨rfl, dr⟩; obtain ⟨d1, d2, d3⟩ := FIN.out w2 w3 B2.out dr; have D1 := hidi d1; clear dr d1 W2 FIN c0))
  go_ret
  exact ⟨rfl, D1.out⟩
end Go.Proofs.Ytepjcfhbbcaldaa.Li
namespace Go.Proofs.Ytepjcfhbbcaldaa.Li
open Go Go.RowKit
set_option linter.unusedSimpArgs false
set_option linter.unusedVariables false
/-- What two filters have in common. -/
def lcp (F G : List ByteArray) : List ByteArray := F.take (alk F G)
theorem alk_ge : ∀ {C F G : List ByteArray}, C <+: F → C <+: G → C.length ≤ alk F G
  | [], _, _, _, _ => Nat.zero_le _
  | c :: C, [], _, h, _ => by have := h.length_le; simp at this
  | c :: C, _ :: _, [], _, h => by have := h.length_le; simp at this
  | c :: C, f :: F, g :: G, h1, h2 => by
    obtain ⟨s, e1⟩ := h1
    obtain ⟨t, e2⟩ := h2
    rw [List.cons_append] at e1 e2
    injection e1 with a1 a2
    injection e2 with b1 b2
    have := alk_ge (C := C) (F := F) (G := G) ⟨s, a2⟩ ⟨t, b2⟩
    unfold alk
    rw [if_pos (a1.symm.trans b1)]
    simp
    omega
theorem lcp_self (F : List ByteArray) : lcp F F = F := by
  unfold lcp
  rw [alk_pre (List.prefix_refl F), List.take_length]
theorem lcp_pre (F G : List ByteArray) : lcp F G <+: F ∧ lcp F G <+: G := by
  refine ⟨List.take_prefix _ _, ?_⟩
  unfold lcp
  rw [alk_take F G]
  exact List.take_prefix _ _
theorem pre_lcp {C F G : List ByteArray} (h1 : C <+: F) (h2 : C <+: G) : C <+: lcp F G := by
  have h3 := alk_ge h1 h2
  refine prefix_le h1 (lcp_pre F G).1 ?_
  unfold lcp
  rw [List.length_take]
  have := h1.length_le
  omega
theorem lcp_fork {A F G : List ByteArray} {x y : ByteArray} (h1 : (A ++ [x]) <+: F) (h2 : (A ++ [y]) <+: G) (ne : x ≠ y) : lcp F G = A := by
  have pA := pre_lcp ((List.prefix_append A [x]).trans h1) ((List.prefix_append A [y]).trans h2)
  obtain ⟨p1, p2⟩ := lcp_pre F G
  by_cases c : (lcp F G).length ≤ A.length
  · obtain ⟨t, e⟩ := pA
    have : t = [] := by
      have := congrArg List.length e
      rw [List.length_append] at this
      exact List.length_eq_zero_iff.1 (by omega)
    rw [← e, this, List.append_nil]
  · have q1 : (A ++ [x]) <+: lcp F G := prefix_le h1 p1 (by simp; omega)
    have q2 : (A ++ [y]) <+: lcp F G := prefix_le h2 p2 (by simp; omega)
    have := prefix_le q1 q2 (by simp)
    obtain ⟨t, e⟩ := this
    have h3 := congrArg List.length e
    simp at h3
    rw [h3, List.append_nil] at e
    have := List.append_cancel_left e
    injection this with this
    exact absurd this ne
variable {w : World} {tb m r : Nat} {nf nn : Int} {T : List Fn}
theorem meet_node (h : TM w tb m r nf nn T) {f g : Fn} (hf : f ∈ T) (hg : g ∈ T) {A : List ByteArray} (hA : A = lcp f.s.A g.s.A) : ∀ (n : Nat) (d : Fn), d ∈ T → d.s.A <+: A → A.length ≤ d.s.A.length + n → ∃ e ∈ T, e.s.A = A
  | 0, d, hd, p, hn => ⟨d, hd, by
    obtain ⟨t, e⟩ := p
    have := congrArg List.length e
    rw [List.length_append] at this
    have : t = [] := List.length_eq_zero_iff.1 (by omega)
    rw [← e, this, List.append_nil]⟩
  | n + 1, d, hd, p, hn => by
    obtain ⟨t, e⟩ := p
    cases t with
    | nil => exact ⟨d, hd, by rw [← e, List.append_nil]⟩
    | cons z t =>
      obtain ⟨p1, p2⟩ := lcp_pre f.s.A g.s.A
      rw [← hA] at p1 p2
      obtain ⟨s1, e1⟩ := p1
      obtain ⟨s2, e2⟩ := p2
      rw [← e, List.append_assoc] at e1 e2
      obtain ⟨q, hq, ka, kp⟩ := atk_rest h hd hf (x := z) (rs := t ++ s1) (by rw [← e1]; simp)
      obtain ⟨q', hq', ka', kp'⟩ := atk_rest h hd hg (x := z) (rs := t ++ s2) (by rw [← e2]; simp)
      have := h.inv.atk ka ka'
      rw [← this] at kp'
      have lt := ka.2.1.lt (h.inv.le q.s ka.1).1
      exact meet_node h hf hg hA n q hq (by rw [hA]; exact pre_lcp kp kp') (by omega)
/-- WHICH NODES ARE THERE. -/
theorem nodes_iff (h : TM w tb m r nf nn T) (fx : FormX T []) (A : List ByteArray) : (∃ f ∈ T, f.s.A = A) ↔ A = [] ∨ ∃ f ∈ T, ∃ g ∈ T, 0 < f.ne ∧ 0 < g.ne ∧ A = lcp f.s.A g.s.A := by
  have frm : ∀ f ∈ T, f.s.A = [] ∨ 0 < f.ne ∨ Fork T f.s.A := fun f hf => by
    rcases fx f hf with c | c | c | c
    · exact .inl c
    · exact .inr (.inl c)
    · exact .inr (.inr c)
    · exact .inl c
  obtain ⟨rf, hrf, r0, _⟩ := h.rt
  constructor
  · rintro ⟨f, hf, rfl⟩
    rcases frm f hf with c | c | ⟨x, y, a, b, ne, ha, hb, pa, pb⟩
    · exact .inl c
    · exact .inr ⟨f, hf, f, hf, c, c, (lcp_self _).symm⟩
    · have nz : ∀ {z : ByteArray} {a : Fn}, (f.s.A ++ [z]) <+: a.s.A → a.s.A ≠ [] := fun p c => by
        have := p.length_le
        rw [c] at this
        simp at this
      obtain ⟨a', ha', p1, n1⟩ := leads (fun f hf => (h.ok f hf).2) frm 65537 a ha (by omega) (nz pa)
      obtain ⟨b', hb', p2, n2⟩ := leads (fun f hf => (h.ok f hf).2) frm 65537 b hb (by omega) (nz pb)
      exact .inr ⟨a', ha', b', hb', n1, n2, (lcp_fork (pa.trans p1) (pb.trans p2) ne).symm⟩
  · rintro (rfl | ⟨f, hf, g, hg, _, _, rfl⟩)
    · exact ⟨rf, hrf, r0⟩
    · exact meet_node h hf hg rfl _ rf hrf (by rw [r0]; exact List.nil_prefix) (Nat.le_add_left _ _)
/-- HOW MANY NODES ARE THERE. -/
theorem nodes_len (h : TM w tb m r nf nn T) {X : List (List ByteArray)} (hn : X.Nodup) (hX : ∀ A, A ∈ X ↔ ∃ f ∈ T, f.s.A = A) : T.length = X.length := by
  have nd : (T.map (fun f => f.s.A)).Nodup := by
    have := h.inv.dis
    rw [List.pairwise_map] at this
    exact List.pairwise_map.2 this
  have mem : ∀ A, A ∈ T.map (fun f => f.s.A) ↔ A ∈ X := fun A => by
    rw [hX, List.mem_map]
  have h1 := nodup_le _ X nd (fun A hA => (mem A).1 hA)
  have h2 := nodup_le X _ hn (fun A hA => (mem A).2 hA)
  rw [List.length_map] at h1 h2
  omega
end Go.Proofs.Ytepjcfhbbcaldaa.Li
namespace Go.Proofs.Ytepjcfhbbcaldaa.Li
open Go Go.RowKit
set_option linter.unusedSimpArgs false
set_option linter.unusedVariables false
variable {w : World} {tb m r : Nat} {nf nn : Int} {T : List Fn} {f : ByteArray}
/-- What is at a filter, as a list. -/
structure OfR (w w' : World) (T : List Fn) (F : List ByteArray) (v : Value) (en : ByteArray → Option Int) (n : Nat) (L : List ByteArray) : Prop where
  row : w'.ownsRow w.heap.size 31 2 v L.length (prow (eL en L))
  ks : KsOf (fun y => (en y).map (Value.int .i64)) n L
  at_ : (∃ g ∈ T, g.s.A = F ∧ en = g.en ∧ n = g.ne) ∨ ((∀ g ∈ T, g.s.A ≠ F) ∧ n = 0 ∧ en = fun _ => none)
  be : Below w.heap.size w w'
set_option maxRecDepth 100000 in
set_option maxHeartbeats 4000000 in
/-- OF. -/
theorem of_any (h : TM w tb m r nf nn T) (hfs : f.size ≤ 1000000) (few : ∀ g ∈ T, g.ne ≤ 100000) :
    Calls Try.prog 15 #[ptr tb, .string f] w fun e w' => ∃ v, e = .returned v ∧ ∃ en n L, OfR w w' T (levels f) v en n L := by
  obtain ⟨rf, hrf, rA, rp⟩ := h.rt
  have LV := hidi (fun w => tlevels_any f hfs w)
  have okl : ∀ y ∈ levels f, okT y := fun y hy => by have := levels_size f y hy; unfold okT maxLen; omega
  have lle : (levels f).length ≤ 1000001 := by have := levels_len f; omega
  have CR := hidi (fun (w1 : World) (hb : Below w.heap.size w w1) => (show w1.cell? ⟨tb, 0, none⟩ = some (ptr r) from box_cells (h.below hb).tr 0 _ rfl))
  have SO := hidi (fun (w2 : World) (mo : Option Nat) (hb : Below w.heap.size w w2) (ar : AtR T (levels f) (.map mo)) => (show Calls Try.prog 20 #[.map mo] w2 fun e w' => ∃ v, e = .returned v ∧ ∃ en n L, OfR w w' T (levels f) v en n L from by
    have go : ∀ (en : ByteArray → Option Int) (n : Nat), MG w2 (.map mo) n (fun y => (en y).map (.int .i64)) → n ≤ 100000 → ((∃ g ∈ T, g.s.A = levels f ∧ en = g.en ∧ n = g.ne) ∨ ((∀ g ∈ T, g.s.A ≠ levels f) ∧ n = 0 ∧ en = fun _ => none)) → Calls Try.prog 20 #[.map mo] w2 fun e w' => ∃ v, e = .returned v ∧ ∃ en n L, OfR w w' T (levels f) v en n L := fun en n mg hn ha => by
      refine (sorted_any mg hn).mono ?_
      rintro e w' ⟨v, L, rfl, ho, ks, b'⟩
      exact ⟨v, rfl, en, n, L, row_base ho (fun g hg => by have := row_ge ho hg; have := hb.size; omega), ks, ha, hb.trans (b'.mono hb.size)⟩
    rcases ar with ⟨g, hg, e1, e2⟩ | ⟨e2, no⟩
    · exact go g.en g.ne (by rw [e2]; exact ((h.below hb).nd g hg).ev) (few g hg) (.inl ⟨g, hg, e1, rfl, rfl⟩)
    · exact go (fun _ => none) 0 (by rw [e2]; exact MG.nil w2) (by omega) (.inr ⟨no, rfl, rfl⟩)))
  have AT := hidi (fun (w1 : World) (v : Value) (hb : Below w.heap.size w w1) (R : Rw w1 v (levels f)) => (show Calls Try.prog 29 #[ptr r, v] w1 fun e w2 => ∃ mo, e = .returned (.map mo) ∧ Below w.heap.size w w2 ∧ AtR T (levels f) (.map mo) from by
    have := at_any tb m r nf nn T (levels f).length w1 rf v (levels f) (Nat.le_refl _) (h.below hb) hrf R okl lle
    rw [rp, rA] at this
    refine this.mono ?_
    rintro e w2 ⟨mo, rfl, ar, b2⟩
    exact ⟨mo, rfl, hb.trans (b2.mono hb.size), ar⟩))
  have c0 := CR.out w (Below.refl _ _)
  unfold ptr at *
  clear h hfs few hrf rA rp okl lle
  go_enter Try.func15, Try.ntmps15
  go_wp2_with fail
  go_region_with (first
    | (go_at_call 28; refine (LV.out _).mono ?_; rintro e w1 ⟨v, rfl, ho, hb⟩; have B1 := hidi ((Below.refl w.heap.size w).drew.trans hb); have A1 := hidi (AT.out w1 v B1.out (rw_own ho)); obtain ⟨va, vc, rfl⟩ := own_sl ho; clear c0; have c0 := CR.out w1 B1.out; clear hb ho)
    | (go_at_call 29; refine A1.out.mono ?_; rintro e w2 ⟨mo, rfl, bb, ar⟩; have S1 := hidi (SO.out w2 mo bb ar); clear c0; have c0 := CR.out w2 bb; clear bb ar A1)
    | (go_at_call 20; refine S1.out.mono ?_; rintro e w3 ⟨v3, rfl, of⟩; have OF := hidi of; clear of S1))
  all_goals go_wp2_with fail
  all_goals go_ret
  all_goals exact ⟨v3, rfl, OF.out⟩
end Go.Proofs.Ytepjcfhbbcaldaa.Li
