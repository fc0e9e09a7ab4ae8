import Derived.Test.YtenaliaefbkbcaaGreatMm
import Derived.Test.YtenaliaefbkbcaaGreatMn
namespace Go.Proofs.YtenaliaefbkbcaaGreat.Li
open Go Go.RowKit Go.Shelf
set_option linter.unusedSimpArgs false
set_option linter.unusedVariables false
attribute [local go_sem] Oper.semAt_some
def ents (L : List Fl) : List En := L.flatMap (·.es)
theorem ents_app (L M : List Fl) : ents (L ++ M) = ents L ++ ents M := by simp [ents]
/-- What has been found so far. -/
structure FI (n₀ : Nat) (wr : World) (pre : List Fl) (W : World) : Prop where
  ex : ∃ v, W.heap[n₀]? = some (.cells #[v] 41 (0, 0)) ∧ W.ownsRow n₀ 44 2 v ((ents pre).map epv).length (prow ((ents pre).map epv))
  kq : Kq n₀ (n₀ + 1) (n₀ + 2) wr W
theorem own_grown {W W' : World} {B e s n : Nat} {v : Value} {xs : List Value} {row : Option Nat} (h : W.ownsRow B e s v n xs) (hg : W.grownBy W' row) (hr : ∀ r, row = some r → ∃ o : Obj, W.heap[r]? = some o ∧ o.isCells = false) : W'.ownsRow B e s v n xs := by
  refine own_ch h (ch_grown hg) (fun g e1 q => ?_)
  obtain ⟨cur, hc⟩ := own_lt h e1
  obtain ⟨o, h1, h2⟩ := hr g q
  rw [hc] at h1
  cases h1
  simp [Obj.isCells] at h2
theorem FI.own {n₀ : Nat} {wr : World} (hn : n₀ + 3 ≤ wr.heap.size) : OwnFrom (n₀ + 3) (FI n₀ wr) := fun s W W' row h hg hr => by
  obtain ⟨v, h1, h2⟩ := h.ex
  have hr' : ∀ r, row = some r → ∃ o : Obj, W.heap[r]? = some o ∧ o.isCells = false := fun r e => (hr r e).2
  have hsz : n₀ + 3 ≤ W.heap.size := Nat.le_trans hn h.kq.bel.size
  have hb : ∀ k, k < n₀ + 3 → W'.heap[k]? = W.heap[k]? := fun k hk => hg.block k (by omega) (fun e => by have := (hr k e.symm).1; omega)
  exact ⟨⟨v, (hb n₀ (by omega)).trans h1, own_grown h2 hg hr'⟩, h.kq.trans ⟨⟨hg.os, hg.tape, hg.output, hg.size, fun k hk => hb k (by omega)⟩, hb _ (by omega), hb _ (by omega)⟩⟩
theorem info44p : ∃ i, Tryz.prog.info? 44 = some i ∧ i.zero = some (.agg #[.string ⟨#[]⟩, .int .i64 0]) ∧ i.size = 2 ∧ i.bytes = 24 := info_parts info44
theorem match_stops {B : Nat} {w w2 : World} {sb : Nat} {v : Value} {L : List Fl} (h : SL B w sb v L) (t : ByteArray) (hL : L.length ≤ 900000) (n : Nat) (hn : 1 ≤ n) (hw2 : w2 = ((w.alloc (.cells #[.slice none 0 0] 41)).alloc (.cells #[.pointer (some ⟨sb, 0, none⟩)] 25)).alloc (.cells #[.string t] 9)) :
    SeqStopsK Fence.wide n Tryz.prog 79 #[.pointer (some ⟨w.heap.size + 1, 0, none⟩), .pointer (some ⟨w.heap.size + 1 + 1, 0, none⟩)] (fun x : {x : Fl // x ∈ L} => #[.agg #[.string x.1.f, x.1.v]]) (Kq w.heap.size (w.heap.size + 1) (w.heap.size + 2)) (fun ys => ys.map (·.1) = ms L t) (fun _ => True) L.length w2 := fun l J Jx W hW hA _ hY hJ0 => by
  have s1 : (w.alloc (.cells #[.slice none 0 0] 41)).heap.size = w.heap.size + 1 := size_alloc _ _
  have s2 : ((w.alloc (.cells #[.slice none 0 0] 41)).alloc (.cells #[.pointer (some ⟨sb, 0, none⟩)] 25)).heap.size = w.heap.size + 2 := by rw [size_alloc, s1]
  have s3 : w2.heap.size = w.heap.size + 3 := by rw [hw2, size_alloc, s2]
  have b2 : Below w.heap.size w w2 := by rw [hw2]; exact (((Below.refl w.heap.size w).alloc (Nat.le_refl _) _).alloc (by omega) _).alloc (by omega) _
  have x1 : w2.heap[w.heap.size + 1]? = some (.cells #[.pointer (some ⟨sb, 0, none⟩)] 25) := by
    rw [hw2, heap_alloc_old _ _ (by omega), ← s1, heap_alloc_new]
  have x2 : w2.heap[w.heap.size + 2]? = some (.cells #[.string t] 9) := by
    rw [hw2, ← s2, heap_alloc_new]
  have bW : Below w.heap.size w W := b2.trans (hW.mono b2.size)
  have hS := h.below bW
  have hml : (L.map fpv).length = L.length := by simp
  obtain ⟨a, c, hv⟩ := own_sl hS.own
  rw [hml] at hv
  have hx : ∃ F, (0 < L.length → a = some ⟨F, 0, none⟩ ∧ F < w.heap.size ∧ L.length ≤ c ∧ ∀ i (hi : i < L.length), W.cell? ⟨F, i * 2, none⟩ = some (.string L[i].f) ∧ W.cell? ⟨F, i * 2 + 1, none⟩ = some L[i].v) := by
    by_cases hp : 0 < L.length
    · obtain ⟨F, c', hv', hle, hcell⟩ := prow_cell hS.own (j := 0) (by rw [hml]; exact hp)
      rw [hml] at hv' hle
      obtain ⟨cur, hF⟩ := own_lt h.own (g := F) (by rw [hv']; rfl)
      rw [hv] at hv'
      simp only [Value.slice.injEq, true_and] at hv'
      refine ⟨F, fun _ => ⟨hv'.1, (Array.getElem?_eq_some_iff.1 hF).1, by rw [hv'.2]; exact hle, fun i hi => ?_⟩⟩
      have := hcell i (by rw [hml]; exact hi)
      simpa [fpv] using this
    · exact ⟨0, fun q => absurd q hp⟩
  obtain ⟨F, hx⟩ := hx
  refine (match_in n hn l (w.heap.size + 1) (w.heap.size + 2) w.heap.size sb F c L t hL ?_ (fun pre W' => ∃ p : List {x : Fl // x ∈ L}, p.map (·.1) = pre ∧ J p W') (fun pre W' => ∃ p : List {x : Fl // x ∈ L}, p.map (·.1) = pre ∧ Jx p W') ?_ W ?_ ?_ ?_ a ?_ (fun q => ⟨(hx q).1, (hx q).2.1⟩) (Nat.le_trans (Nat.le_trans b2.size (Nat.le_refl _)) hW.size) ?_ ?_ ⟨[], rfl, hJ0⟩).mono ?_
  · by_cases q : 0 < L.length
    · exact (hx q).2.2.1
    · omega
  · rintro pre x W' hx ⟨p, hp1, hp2⟩ hlen
    have := hY p ⟨x, hx⟩ W' hp2 (by rw [← hp1] at hlen; simpa using hlen)
    obtain ⟨fn, tmps, assign, body, hy, hR⟩ := this
    refine ⟨fn, tmps, assign, body, hy, hR.mono ?_⟩
    rintro e W3 (⟨rfl, q1, q2⟩ | ⟨rfl, q1⟩)
    · exact .inl ⟨rfl, ⟨p ++ [⟨x, hx⟩], by simp [hp1], q1⟩, q2⟩
    · exact .inr ⟨rfl, p ++ [⟨x, hx⟩], by simp [hp1], q1⟩
  · rintro s W1 W' row ⟨p, hp1, hp2⟩ hg hr
    exact ⟨p, hp1, hA p W1 W' row hp2 hg hr⟩
  · exact later_at x1 hW
  · exact later_at x2 hW
  · rw [← hv]
    exact box_cells hS.at_ 0 v rfl
  · intro i hi
    exact (hx (by omega)).2.2.2 i hi
  · intro x hx
    obtain ⟨a, c, e⟩ := own_sl (h.es x hx)
    exact ⟨_, _, _, e⟩
  · rintro e W' ⟨he, ⟨ys, rfl, p, hp1, hp2⟩ | ⟨pre, -, p, hp1, hp2⟩⟩
    · exact ⟨he, .inl ⟨p, hp1, hp2⟩⟩
    · exact ⟨he, .inr ⟨p, trivial, hp2⟩⟩
def fAct (sb n₀ : Nat) (t : ByteArray) (b6 : Nat) (x : Fl) : Act := { tmps := #[.pointer (some ⟨sb, 0, none⟩), .string t, undef, undef, .slice none 0 0, .pointer (some ⟨n₀, 0, none⟩), .pointer (some ⟨b6, 0, none⟩), .pointer (some ⟨sb, 0, none⟩), .string t, .func (.func 79) #[] #[.pointer (some ⟨n₀ + 1, 0, none⟩), .pointer (some ⟨n₀ + 1 + 1, 0, none⟩)], .agg #[.string x.f, x.v], undef, undef, undef, undef, undef, undef, undef, undef], defers := [] }
theorem ents_le {L : List Fl} {M : Nat} (hM : ∀ x ∈ L, x.es.length ≤ M) (p : List {x : Fl // x ∈ L}) : (ents (p.map (·.1))).length ≤ p.length * M := by
  induction p with
  | nil => simp [ents]
  | cons x r ih =>
    have := hM x.1 x.2
    simp only [List.map_cons, ents, List.flatMap_cons, List.length_append, List.length_cons, Nat.succ_mul] at ih ⊢
    omega
set_option maxRecDepth 100000 in
set_option maxHeartbeats 4000000 in
theorem find_any {B : Nat} {w : World} {sb : Nat} {v : Value} {L : List Fl} (h : SL B w sb v L) (t : ByteArray) (hL : L.length ≤ 900) (hM : ∀ x ∈ L, x.es.length ≤ 900) (hne : ∀ x ∈ L, x.es ≠ []) :
    Calls Tryz.prog 35 #[.pointer (some ⟨sb, 0, none⟩), .string t] w fun e w' => ∃ v' ys, e = .returned v' ∧ ys.Perm (ents (ms L t)) ∧ ByF ys ∧ w'.ownsRow w.heap.size 44 2 v' (cmpct ys).length (arow (cmpct ys)) ∧ Below w.heap.size w w' := by
  obtain ⟨i0, hi, hz0, hz1, hz2⟩ := info44p
  have HH := hidi (And.intro h (And.intro hL (And.intro hM hne)))
  have MT := hidi (fun w => match_any sb t w)
  clear hL hM hne
  refine (callsIn_wide (n := 9)).1 ?_
  refine callsIn_of_wp_marks Tryz.func35 rfl trivial ?_ rfl
  simp only [Tryz.ntmps35, List.size_toArray, List.length_cons, List.length_nil, Nat.reduceAdd, Nat.reduceSub, Array.replicate_succ, Array.replicate_zero, List.push_toArray, List.append_toArray, List.nil_append, List.cons_append]
  gi_wp2_with (refine ⟨trivial, ?_⟩; gi_at_call 55; refine ((callsIn_wide (n := _)).2 (MT.out _)).mono ?_; rintro e w2 ⟨rfl, hw2⟩; have HW := hidi hw2; clear hw2)
  have s3 : w2.heap.size = w.heap.size + 3 := by rw [HW.out, size_alloc, size_alloc, size_alloc]
  refine wpIn_rangeFunc_ownH rfl (by omega) (gf := 79) (lb := #[.pointer (some ⟨w.heap.size + 1, 0, none⟩), .pointer (some ⟨w.heap.size + 1 + 1, 0, none⟩)]) rfl trivial (enters_of Tryz.func79 (by kernel_rfl) rfl)
    (match_stops HH.out.1 t (by have := HH.out.2.1; omega) _ (by omega) HW.out) (fun h k => Kq.trans h k) ?hKb (Below.refl _ _) (fun _ => rfl)
    (fun p W => FI w.heap.size w2 (p.map (·.1)) W) (fun _ _ _ => False) ?hI (fun _ _ _ _ _ hs _ _ => hs) ?h0
    (fun x a' W => ∃ b6, a' = fAct sb w.heap.size t b6 x.1 ∧ W.heap[b6]? = some (.cells #[.string x.1.f, x.1.v] 76 (0, 0)) ∧ w2.heap.size ≤ b6) ?hAx ?assign ?body ?done ?stop
  case hKb =>
    intro W l o o' hl ho _ _
    refine ⟨belowK_b (w := w2) (by omega) W l o o' hl ho (by assumption) (by assumption), World.putObj_heap_other (by omega), World.putObj_heap_other (by omega)⟩
  case hI =>
    intro s W W' row h1 hg hr
    exact FI.own (by omega) _ W W' row h1 hg (by rw [← s3]; exact hr)
  case h0 =>
    refine ⟨⟨.slice none 0 0, ?_, World.ownsRow_nil _ _ _ _⟩, Kq.refl _ _ _ _⟩
    rw [HW.out, heap_alloc_old _ _ (by rw [size_alloc, size_alloc]; omega), heap_alloc_old _ _ (by rw [size_alloc]; omega), heap_alloc_new]
  case hAx =>
    rintro x a' _ W W' row ⟨b6, h1, h2, h3⟩ hg hr
    refine ⟨b6, h1, (hg.block b6 (Array.getElem?_eq_some_iff.1 h2).1 (fun e => ?_)).trans h2, h3⟩
    obtain ⟨-, o, h4, h5⟩ := hr b6 e.symm
    rw [h2] at h4
    cases h4
    simp [Obj.isCells] at h5
  case assign =>
    intro l pre x W K hI hK
    obtain ⟨⟨f, es, v⟩, hx⟩ := x
    obtain ⟨a, c, hv⟩ := own_sl (HH.out.1.es _ hx)
    obtain ⟨m, hm⟩ : ∃ m, m = (es.map epv).length := ⟨_, rfl⟩
    simp only at hv
    rw [← hm] at hv
    subst hv
    clear hm
    have HK := hidi hK
    have HI := hidi hI
    clear hK hI
    gi_wp2
    have hb : Below W.heap.size W (W.alloc (.cells #[.string f, .slice a m c] 76)) := (Below.refl W.heap.size W).alloc (Nat.le_refl _) _
    have hs3 : w.heap.size + 3 ≤ W.heap.size := by rw [← s3]; exact HI.out.kq.bel.size
    refine HK.out _ _ ⟨hb.size, fun k o _ hk _ => (hb.block k (Array.getElem?_eq_some_iff.1 hk).1).trans hk⟩ (Kq.below hb (by omega) (by omega) (by omega)) ?_ ⟨W.heap.size, rfl, heap_alloc_new _ _, by omega⟩
    exact FI.own (by omega) _ W _ none HI.out (World.grownBy_alloc W _ none) (fun r e => by cases e)
  case body =>
    rintro l pre x a' W hl - HI0 ⟨b6, rfl, hb6, hb6l⟩ hlen
    obtain ⟨⟨f, es, v⟩, hx⟩ := x
    obtain ⟨v0, hv0, hrow⟩ := HI0.ex
    have hs3 : w.heap.size + 3 ≤ W.heap.size := by rw [← s3]; exact HI0.kq.bel.size
    have b2 : Below w.heap.size w w2 := by rw [HW.out]; exact (((Below.refl w.heap.size w).alloc (Nat.le_refl _) _).alloc (by rw [size_alloc]; omega) _).alloc (by rw [size_alloc, size_alloc]; omega) _
    have bW : Below w.heap.size w W := b2.trans HI0.kq.bel
    have hxs := own_below (HH.out.1.es _ hx) bW
    have hxp : 0 < (es.map epv).length := by
      have := HH.out.2.2.2 _ hx
      simp only [ne_eq] at this
      rw [List.length_map]
      exact List.length_pos_iff.2 this
    obtain ⟨gx, cx, hvx, hle, -⟩ := prow_cell hxs hxp
    simp only at hvx
    obtain ⟨m, hm⟩ : ∃ m, m = (es.map epv).length := ⟨_, rfl⟩
    have hcs := own_cells (g := gx) (c := cx) (by simp only at hxs; rw [hvx] at hxs; exact hxs)
    rw [← hm] at hvx
    subst hvx
    have c0 := box_cells hv0 0 v0 rfl
    have f0 := box_frozen hv0 0
    have d0 := box_cells hb6 0 _ rfl
    have d1 := box_cells hb6 1 _ rfl
    obtain ⟨k, hk⟩ : ∃ k, k = ((ents (pre.map (·.1))).map epv).length := ⟨_, rfl⟩
    rw [← hk] at hrow
    have hkb : k ≤ 810000 := by
      have := ents_le (M := 900) HH.out.2.2.1 pre
      have h2 := HH.out.2.1
      rw [hk, List.length_map]
      have h3 : pre.length * 900 ≤ 900 * 900 := Nat.mul_le_mul_right 900 (by omega)
      omega
    have hmb : m ≤ 900 := by rw [hm, List.length_map]; exact HH.out.2.2.1 _ hx
    have hnl : (prow (es.map epv)).length = m * 2 := by rw [prow_len, hm]
    have hone : ∀ u ∈ prow (es.map epv), u.oneCell' = true := fun u hu => by
      simp only [prow, List.mem_flatMap, List.mem_map] at hu
      obtain ⟨y, ⟨z, -, rfl⟩, hu⟩ := hu
      simp only [pcs, epv, List.mem_cons, List.not_mem_nil, or_false] at hu
      rcases hu with rfl | rfl <;> rfl
    have HB := hidi (And.intro HI0 (And.intro hv0 (And.intro hrow (And.intro hm hk))))
    clear HI0 hv0 hm hk
    unfold fAct
    gi_wp2_with (gi_at_builtin; refine wpListIn_append_own _ rfl _ _ 41 rfl w.heap.size 44 i0 _ 2 24 Tryz.underlying41 hi hz0 hz1 hz2 rfl (by decide) v0 k _ rfl hrow ⟨gx, 0, none⟩ m cx (prow (es.map epv)) rfl hnl hcs hone (by unfold maxLen; omega) (by omega) (by omega) ?_; intro v' w1 hown' hgrow _; obtain ⟨a1, c1, hv1⟩ := own_sl hown'; subst hv1; have hn0 : w1.heap[w.heap.size]? = some (.cells #[v0] 41 (0, 0)) := (hgrow.block _ (by omega) (fun e => by obtain ⟨cu, hcu⟩ := own_lt hrow e.symm; rw [HB.out.2.1] at hcu; simp at hcu)).trans HB.out.2.1; have c1' := box_cells hn0 0 v0 rfl; have f1' := box_frozen hn0 0; have HG := hidi (And.intro hown' (And.intro hgrow hn0)); clear hown' hgrow hn0)
    have hg0 : ∀ r, v0.ownBlock = some r → w.heap.size ≤ r ∧ r ≠ w.heap.size ∧ r ≠ w.heap.size + 1 ∧ r ≠ w.heap.size + 2 ∧ ∃ cu, W.heap[r]? = some (.cells cu 44 (0, 0)) := fun r e => by
      obtain ⟨cu, hcu⟩ := own_lt hrow e
      have x0 := HB.out.2.1
      have k1 := HB.out.1.kq.s
      have k2 := HB.out.1.kq.t
      have x1 : w2.heap[w.heap.size + 1]? = some (.cells #[.pointer (some ⟨sb, 0, none⟩)] 25) := by
        rw [HW.out, heap_alloc_old _ _ (by rw [size_alloc, size_alloc]; omega), ← size_alloc w (.cells #[.slice none 0 0] 41), heap_alloc_new]
      have x2 : w2.heap[w.heap.size + 2]? = some (.cells #[.string t] 9) := by
        have := heap_alloc_new ((w.alloc (.cells #[.slice none 0 0] 41)).alloc (.cells #[.pointer (some ⟨sb, 0, none⟩)] 25)) (.cells #[.string t] 9)
        rw [size_alloc, size_alloc] at this
        rw [HW.out]
        exact this
      refine ⟨row_ge hrow e, fun q => ?_, fun q => ?_, fun q => ?_, cu, hcu⟩
      · rw [q, x0] at hcu; simp at hcu
      · rw [q, k1, x1] at hcu; simp at hcu
      · rw [q, k2, x2] at hcu; simp at hcu
    have hbl : ∀ j, j < W.heap.size → j ≠ w.heap.size → v0.ownBlock ≠ some j → (w1.setCell ⟨w.heap.size, 0, none⟩ (.slice a1 (k + m) c1)).heap[j]? = W.heap[j]? := fun j hj h1 h2 => by
      rw [heap_set_ne _ h1]
      exact HG.out.2.1.block j hj (fun e => h2 e.symm)
    have hszw : W.heap.size ≤ (w1.setCell ⟨w.heap.size, 0, none⟩ (.slice a1 (k + m) c1)).heap.size := by
      have := (ch_set (w := w1) w.heap.size 0 (.slice a1 (k + m) c1)).size
      exact Nat.le_trans HG.out.2.1.size this
    have hkq : Kq w.heap.size (w.heap.size + 1) (w.heap.size + 2) W (w1.setCell ⟨w.heap.size, 0, none⟩ (.slice a1 (k + m) c1)) := by
      refine ⟨⟨HG.out.2.1.os, HG.out.2.1.tape, HG.out.2.1.output, hszw, fun j hj => hbl j (by omega) (by omega) (fun e => ?_)⟩, hbl _ (by omega) (by omega) (fun e => (hg0 _ e).2.2.1 rfl), hbl _ (by omega) (by omega) (fun e => (hg0 _ e).2.2.2.1 rfl)⟩
      have := (hg0 j e).1
      omega
    refine ⟨⟨hszw, fun j o hB hj ho => (hbl j (Array.getElem?_eq_some_iff.1 hj).1 (by omega) (fun e => ?_)).trans hj⟩, hkq, ?_⟩
    · obtain ⟨-, -, -, -, cu, hcu⟩ := hg0 j e
      rw [hj] at hcu
      cases hcu
      simp [Obj.isCells] at ho
    · show FI w.heap.size w2 ((pre ++ [(⟨⟨f, es, .slice (some ⟨gx, 0, none⟩) m cx⟩, hx⟩ : {x : Fl // x ∈ L})]).map Subtype.val) _
      refine ⟨⟨.slice a1 (k + m) c1, heap_set HG.out.2.2 _, ?_⟩, HB.out.1.kq.trans hkq⟩
      have e1 : (ents ((pre ++ [(⟨⟨f, es, .slice (some ⟨gx, 0, none⟩) m cx⟩, hx⟩ : {x : Fl // x ∈ L})]).map Subtype.val)).map epv = (ents (pre.map (·.1))).map epv ++ es.map epv := by
        rw [List.map_append, ents_app, List.map_append]
        simp [ents]
      rw [e1, List.length_append, ← HB.out.2.2.2.1, ← HB.out.2.2.2.2, prow_app]
      exact own_ch HG.out.1 (ch_set _ _ _) (fun g e q => by
        obtain ⟨cu, hcu⟩ := own_lt HG.out.1 e
        rw [q, HG.out.2.2] at hcu
        simp at hcu)
  case done =>
    rintro D ys W hD hys HI0 hK
    obtain ⟨v0, hv0, hrow⟩ := HI0.ex
    have hys' : ys.map Subtype.val = ms L t := hys
    rw [show ys.map (fun x => x.1) = ms L t from hys'] at hrow
    have hml : ((ents (ms L t)).map epv).length = (ents (ms L t)).length := by simp
    rw [hml, ← arow_prow] at hrow
    have hel : (ents (ms L t)).length ≤ 810000 := by
      have h1 := ents_le (M := 900) HH.out.2.2.1 ys
      have h2 : ys.length ≤ 900 := by
        have e1 : ys.length = (ms L t).length := by rw [← hys', List.length_map]
        have e2 := List.length_filter_le (fun x => mch x.f t) L
        have := HH.out.2.1
        rw [e1]
        show (List.filter _ _).length ≤ _
        omega
      rw [show ys.map (fun x => x.1) = ms L t from hys'] at h1
      have h3 : ys.length * 900 ≤ 900 * 900 := Nat.mul_le_mul_right 900 h2
      omega
    have hs3 : w.heap.size + 3 ≤ W.heap.size := by rw [← s3]; exact HI0.kq.bel.size
    have b2 : Below w.heap.size w w2 := by rw [HW.out]; exact (((Below.refl w.heap.size w).alloc (Nat.le_refl _) _).alloc (by rw [size_alloc]; omega) _).alloc (by rw [size_alloc, size_alloc]; omega) _
    have bW : Below w.heap.size w W := b2.trans HI0.kq.bel
    have SO := hidi (sortA_any (ents (ms L t)) v0 W w.heap.size hrow (by omega))
    have c0 := box_cells hv0 0 v0 rfl
    have hst : ∀ (u : Value) (n : Nat) (xs : List Value) (A A' : World), A.ownsRow w.heap.size 44 2 u n xs → Ch (fun j => u.ownBlock = some j) A A' → Below w.heap.size w A → (∃ cs, A.heap[w.heap.size]? = some (.cells cs 41 (0, 0)) ∧ cs = #[v0]) → A.heap[D]? = some (.deferred (some [])) → A'.heap[w.heap.size]? = some (.cells #[v0] 41 (0, 0)) ∧ A'.heap[D]? = some (.deferred (some [])) ∧ Below w.heap.size w A' := fun u n xs A A' h1 h2 h3 h4 h5 => by
      obtain ⟨cs, h4, rfl⟩ := h4
      refine ⟨(h2.block _ (Array.getElem?_eq_some_iff.1 h4).1 (fun e => ?_)).trans h4, (h2.block _ (Array.getElem?_eq_some_iff.1 h5).1 (fun e => ?_)).trans h5, h3.trans ⟨h2.os, h2.tape, h2.output, h2.size, fun j hj => h2.block j (Nat.lt_of_lt_of_le hj h3.size) (fun e => ?_)⟩⟩
      · obtain ⟨cu, hcu⟩ := own_lt h1 e
        rw [h4] at hcu
        simp at hcu
      · obtain ⟨cu, hcu⟩ := own_lt h1 e
        rw [h5] at hcu
        simp at hcu
      · have := row_ge h1 e
        omega
    have HST := hidi hst
    have HI1 := hidi (And.intro hrow (And.intro bW (And.intro hv0 hK)))
    clear hst hrow hv0 HI0 hys hys' hml
    gi_wp2_with (first | (refine ⟨trivial, ?_⟩; gi_at_call 56; refine ((callsIn_wide (n := _)).2 SO.out).mono ?_; rintro e w4 ⟨rfl, zs, hp, hby, ho, hch⟩; have H4 := hidi (And.intro hp (And.intro hby (And.intro ho (HST.out v0 _ _ W w4 HI1.out.1 hch HI1.out.2.1 ⟨_, HI1.out.2.2.1, rfl⟩ HI1.out.2.2.2)))); have c4 := box_cells H4.out.2.2.2.1 0 v0 rfl; clear hp hby ho hch) | (refine ⟨trivial, ?_⟩; gi_at_call 58; refine ((callsIn_wide (n := _)).2 (compact_any zs v0 w4 w.heap.size H4.out.2.2.1 (by rw [H4.out.1.length_eq]; omega))).mono ?_; rintro e w5 ⟨v', rfl, ho, hch⟩; have H5 := hidi (And.intro ho (HST.out v0 _ _ w4 w5 H4.out.2.2.1 hch H4.out.2.2.2.2.2 ⟨_, H4.out.2.2.2.1, rfl⟩ H4.out.2.2.2.2.1)); clear ho hch))
    refine ⟨by simp, .inl ⟨_, _, rfl, run_takeDeferred H5.out.2.2.1, ?_⟩⟩
    refine ⟨_, results_tmp rfl _ _ _, v', zs, rfl, H4.out.1, H4.out.2.1, ?_, ?_⟩
    · exact ownsRow_putObj H5.out.1 (.deferred none) H5.out.2.2.1 rfl
    · exact H5.out.2.2.2.trans (belowK_b (w := w2) (by omega) w5 D _ _ hD H5.out.2.2.1 rfl rfl)
  case stop =>
    rintro D c pre W _ _ h _
    exact h.elim
end Go.Proofs.YtenaliaefbkbcaaGreat.Li
namespace Go.Proofs.YtenaliaefbkbcaaGreat.Li
open Go Go.RowKit
set_option linter.unusedSimpArgs false
set_option linter.unusedVariables false
/-! ### What is found, purely -/
abbrev kl1 (a b : ByteArray) : Int := cb a.data.toList b.data.toList
theorem kl_zero {a b : ByteArray} (h : kl1 a b = 0) : a = b := ba_list_inj (cb_zero h)
theorem kl_lt_trans {a b c : ByteArray} (h : kl1 a b < 0) (k : kl1 b c < 0) : kl1 a c < 0 := by
  have t := cb_trans (a := a.data.toList) (b := b.data.toList) (c := c.data.toList) (by show kl1 a b ≤ 0; omega) (by show kl1 b c ≤ 0; omega)
  by_cases e : kl1 a c = 0
  · have := kl_zero e
    subst this
    have f := cb_flip a.data.toList b.data.toList
    change kl1 b a = - kl1 a b at f
    omega
  · change kl1 a c ≤ 0 at t
    omega
def Mx (ys : List En) (k : ByteArray) (q : Int) : Prop := (k, q) ∈ ys ∧ ∀ q', (k, q') ∈ ys → q' ≤ q
theorem cm1_spec : ∀ (r : List En) (p : ByteArray), ByF r → (∀ z ∈ r, kl1 p z.1 ≤ 0) →
    (cm1 p r).Pairwise (fun a b => kl1 a.1 b.1 < 0) ∧ (∀ z ∈ cm1 p r, kl1 p z.1 < 0) ∧ ∀ k q, (k, q) ∈ cm1 p r ↔ k ≠ p ∧ Mx r k q
  | [], p, _, _ => by
    refine ⟨List.Pairwise.nil, fun z hz => (by cases hz), fun k q => ?_⟩
    constructor
    · intro h; cases h
    · rintro ⟨_, h, _⟩; cases h
  | y :: r, p, hs, hp => by
    obtain ⟨h1, h2⟩ := List.pairwise_cons.1 hs
    by_cases e : y.1 = p
    · rw [cm1_eq e]
      obtain ⟨i1, i2, i3⟩ := cm1_spec r y.1 h2 (fun z hz => by rw [e]; exact hp z (List.mem_cons_of_mem _ hz))
      refine ⟨i1, fun z hz => by rw [← e]; exact i2 z hz, fun k q => ?_⟩
      rw [i3, e]
      constructor
      · rintro ⟨a, b, c⟩
        refine ⟨a, List.mem_cons_of_mem _ b, fun q' hq' => ?_⟩
        rcases List.mem_cons.1 hq' with z | z
        · exact absurd (by rw [← e, ← z]) a
        · exact c q' z
      · rintro ⟨a, b, c⟩
        refine ⟨a, ?_, fun q' hq' => c q' (List.mem_cons_of_mem _ hq')⟩
        rcases List.mem_cons.1 b with z | z
        · exact absurd (by rw [← e, ← z]) a
        · exact z
    · rw [cm1_ne e]
      have hpy : kl1 p y.1 < 0 := by
        have := hp y (by simp)
        have : kl1 p y.1 ≠ 0 := fun q => e (kl_zero q).symm
        omega
      have hyr : ∀ z ∈ r, kl1 y.1 z.1 ≤ 0 := fun z hz => by
        rcases (cE_le y z).1 (h1 z hz) with q | q
        · change kl1 y.1 z.1 < 0 at q
          omega
        · rw [q.1]
          exact Int.le_of_eq (cb_self _)
      obtain ⟨i1, i2, i3⟩ := cm1_spec r y.1 h2 hyr
      refine ⟨List.pairwise_cons.2 ⟨i2, i1⟩, fun z hz => ?_, fun k q => ?_⟩
      · rcases List.mem_cons.1 hz with rfl | hz
        · exact hpy
        · exact kl_lt_trans hpy (i2 z hz)
      · rw [List.mem_cons, i3]
        constructor
        · rintro (rfl | ⟨a, b, c⟩)
          · refine ⟨e, by simp, fun q' hq' => ?_⟩
            rcases List.mem_cons.1 hq' with z | z
            · simp at z
              omega
            · rcases (cE_le _ _).1 (h1 _ z) with w | w
              · have : cb k.data.toList k.data.toList < 0 := w
                rw [cb_self] at this
                omega
              · exact w.2
          · have hkp : k ≠ p := fun q2 => by
              have := i2 (k, q) ((i3 k q).2 ⟨a, b, c⟩)
              rw [q2] at this
              have t := kl_lt_trans hpy this
              have : cb p.data.toList p.data.toList < 0 := t
              rw [cb_self] at this
              omega
            refine ⟨hkp, List.mem_cons_of_mem _ b, fun q' hq' => ?_⟩
            rcases List.mem_cons.1 hq' with z | z
            · exact absurd (by rw [← z]) a
            · exact c q' z
        · rintro ⟨a, b, c⟩
          by_cases hk : k = y.1
          · left
            have h3 := c y.2 (by rw [hk]; simp)
            rcases List.mem_cons.1 b with z | z
            · exact z
            · rcases (cE_le _ _).1 (h1 _ z) with w | w
              · have : cb y.1.data.toList k.data.toList < 0 := w
                rw [hk, cb_self] at this
                omega
              · have h4 : q ≤ y.2 := w.2
                have : q = y.2 := by omega
                rw [hk, this]
          · right
            refine ⟨hk, ?_, fun q' hq' => c q' (List.mem_cons_of_mem _ hq')⟩
            rcases List.mem_cons.1 b with z | z
            · exact absurd (by rw [← z]) hk
            · exact z
theorem cmpct_spec (ys : List En) (hs : ByF ys) : (cmpct ys).Pairwise (fun a b => kl1 a.1 b.1 < 0) ∧ ∀ k q, (k, q) ∈ cmpct ys ↔ Mx ys k q := by
  cases ys with
  | nil =>
    refine ⟨List.Pairwise.nil, fun k q => ?_⟩
    constructor
    · intro h; cases h
    · rintro ⟨h, _⟩; cases h
  | cons y r =>
    obtain ⟨h1, h2⟩ := List.pairwise_cons.1 hs
    have hyr : ∀ z ∈ r, kl1 y.1 z.1 ≤ 0 := fun z hz => by
      rcases (cE_le y z).1 (h1 z hz) with q | q
      · change kl1 y.1 z.1 < 0 at q
        omega
      · rw [q.1]
        exact Int.le_of_eq (cb_self _)
    obtain ⟨i1, i2, i3⟩ := cm1_spec r y.1 h2 hyr
    refine ⟨List.pairwise_cons.2 ⟨i2, i1⟩, fun k q => ?_⟩
    show (k, q) ∈ y :: cm1 y.1 r ↔ _
    rw [List.mem_cons, i3]
    constructor
    · rintro (rfl | ⟨a, b, c⟩)
      · refine ⟨by simp, fun q' hq' => ?_⟩
        rcases List.mem_cons.1 hq' with z | z
        · simp at z
          omega
        · rcases (cE_le _ _).1 (h1 _ z) with w | w
          · have : cb k.data.toList k.data.toList < 0 := w
            rw [cb_self] at this
            omega
          · exact w.2
      · refine ⟨List.mem_cons_of_mem _ b, fun q' hq' => ?_⟩
        rcases List.mem_cons.1 hq' with z | z
        · exact absurd (by rw [← z]) a
        · exact c q' z
    · rintro ⟨b, c⟩
      by_cases hk : k = y.1
      · left
        have h3 := c y.2 (by rw [hk]; simp)
        rcases List.mem_cons.1 b with z | z
        · exact z
        · rcases (cE_le _ _).1 (h1 _ z) with w | w
          · have : cb y.1.data.toList k.data.toList < 0 := w
            rw [hk, cb_self] at this
            omega
          · have h4 : q ≤ y.2 := w.2
            have : q = y.2 := by omega
            rw [hk, this]
      · right
        refine ⟨hk, ?_, fun q' hq' => c q' (List.mem_cons_of_mem _ hq')⟩
        rcases List.mem_cons.1 b with z | z
        · exact absurd (by rw [← z]) hk
        · exact z
/-! ### What Put does, purely -/
def Has (L : List Fp) (f k : ByteArray) (q : Int) : Prop := ∃ es, (f, es) ∈ L ∧ (k, q) ∈ es
structure Wf (L : List Fp) : Prop where
  nd : (L.map (·.1)).Nodup
  es : ∀ x ∈ L, (x.2.map (·.1)).Nodup ∧ x.2 ≠ []
theorem nd_inj {α : Type} {l : List (ByteArray × α)} (h : (l.map (·.1)).Nodup) {k : ByteArray} {a b : α} (ha : (k, a) ∈ l) (hb : (k, b) ∈ l) : a = b := by
  obtain ⟨i, hi, ei⟩ := List.mem_iff_getElem.1 ha
  obtain ⟨j, hj, ej⟩ := List.mem_iff_getElem.1 hb
  have := List.pairwise_iff_getElem.1 h
  by_cases e : i = j
  · subst e
    rw [ei] at ej
    simpa using ej
  · exfalso
    rcases Nat.lt_or_gt_of_ne e with q | q
    · exact this i j (by simpa using hi) (by simpa using hj) q (by simp [ei, ej])
    · exact this j i (by simpa using hj) (by simpa using hi) q (by simp [ei, ej])
theorem set_mem {α : Type} {l : List (ByteArray × α)} (h : (l.map (·.1)).Nodup) {i : Nat} {k : ByteArray} (hi : (l.map (·.1))[i]? = some k) (a : α) (k' : ByteArray) (b : α) : (k', b) ∈ l.set i (k, a) ↔ (k' = k ∧ b = a) ∨ (k' ≠ k ∧ (k', b) ∈ l) := by
  rw [List.getElem?_map] at hi
  obtain ⟨⟨k0, a0⟩, h0, rfl⟩ := Option.map_eq_some_iff.1 hi
  have hil : i < l.length := (List.getElem?_eq_some_iff.1 h0).1
  have h0' : l[i] = (k0, a0) := by rw [List.getElem?_eq_getElem hil] at h0; simpa using h0
  constructor
  · intro hm
    obtain ⟨j, hj, ej⟩ := List.mem_iff_getElem.1 hm
    rw [List.getElem_set] at ej
    split at ej
    · simp at ej
      exact .inl ⟨ej.1.symm, ej.2.symm⟩
    · rename_i hne
      have hjl : j < l.length := by simpa using hj
      right
      refine ⟨fun q => ?_, by rw [← ej]; exact List.getElem_mem hjl⟩
      have nd := List.pairwise_iff_getElem.1 h
      simp only at q
      rcases Nat.lt_or_gt_of_ne hne with z | z
      · exact nd i j (by simpa using hil) (by simpa using hjl) z (by simp [h0', ej, q])
      · exact nd j i (by simpa using hjl) (by simpa using hil) z (by simp [h0', ej, q])
  · rintro (⟨rfl, rfl⟩ | ⟨q, hm⟩)
    · exact List.mem_iff_getElem.2 ⟨i, by simpa using hil, by simp⟩
    · obtain ⟨j, hj, ej⟩ := List.mem_iff_getElem.1 hm
      refine List.mem_iff_getElem.2 ⟨j, by simpa using hj, ?_⟩
      rw [List.getElem_set, if_neg (fun z => ?_)]
      · exact ej
      · subst z
        rw [h0'] at ej
        simp at ej
        exact q ej.1.symm
theorem set_keys {α : Type} {l : List (ByteArray × α)} {i : Nat} {k : ByteArray} (hi : (l.map (·.1))[i]? = some k) (a : α) : (l.set i (k, a)).map (·.1) = l.map (·.1) := by
  rw [List.map_set]
  apply List.ext_getElem?
  intro j
  rw [List.getElem?_set]
  split
  · rename_i e
    subst e
    split
    · exact hi.symm
    · rename_i z
      rw [List.getElem?_eq_none (by omega)]
  · rfl
end Go.Proofs.YtenaliaefbkbcaaGreat.Li
namespace Go.Proofs.YtenaliaefbkbcaaGreat.Li
open Go Go.RowKit
set_option linter.unusedSimpArgs false
set_option linter.unusedVariables false
theorem note_some {es : List En} {k : ByteArray} {i : Nat} (q : Int) (h : pos (es.map (·.1)) k = some i) : pNote es k q = (es.set i (k, q), ((es[i]?).map (·.2)).getD 0) := by unfold pNote; rw [h]
theorem note_none {es : List En} {k : ByteArray} (q : Int) (h : pos (es.map (·.1)) k = none) : pNote es k q = (es ++ [(k, q)], -1) := by unfold pNote; rw [h]
theorem note_mem {es : List En} (hn : (es.map (·.1)).Nodup) (k : ByteArray) (q : Int) (k' : ByteArray) (q' : Int) : (k', q') ∈ (pNote es k q).1 ↔ (k' = k ∧ q' = q) ∨ (k' ≠ k ∧ (k', q') ∈ es) := by
  cases h : pos (es.map (·.1)) k with
  | none =>
    rw [note_none q h]
    have hk := pos_none.1 h
    rw [List.mem_append]
    constructor
    · rintro (a | a)
      · exact .inr ⟨fun e => hk (by rw [← e]; exact List.mem_map.2 ⟨_, a, rfl⟩), a⟩
      · simp at a
        exact .inl a
    · rintro (⟨rfl, rfl⟩ | ⟨_, a⟩)
      · exact .inr (by simp)
      · exact .inl a
  | some i =>
    rw [note_some q h]
    exact set_mem hn (pos_some h) q k' q'
theorem note_nd {es : List En} (hn : (es.map (·.1)).Nodup) (k : ByteArray) (q : Int) : ((pNote es k q).1.map (·.1)).Nodup ∧ (pNote es k q).1 ≠ [] ∧ (pNote es k q).1.length ≤ es.length + 1 := by
  cases h : pos (es.map (·.1)) k with
  | none =>
    rw [note_none q h]
    refine ⟨?_, by simp, by simp⟩
    rw [List.map_append]
    refine List.nodup_append.2 ⟨hn, by simp, fun a ha b hb => ?_⟩
    simp at hb
    subst hb
    exact fun e => pos_none.1 h (e ▸ ha)
  | some i =>
    rw [note_some q h]
    have hi := pos_some h
    have hil : i < es.length := by have := (List.getElem?_eq_some_iff.1 hi).1; simpa using this
    refine ⟨by rw [set_keys hi]; exact hn, fun e => ?_, by simp⟩
    have := congrArg List.length e
    simp at this
    rw [this] at hil
    simp at hil
theorem note_old' {es : List En} (hn : (es.map (·.1)).Nodup) (k : ByteArray) (q : Int) : (∃ o, (k, o) ∈ es ∧ (pNote es k q).2 = o) ∨ ((∀ o, (k, o) ∉ es) ∧ (pNote es k q).2 = -1) := by
  cases h : pos (es.map (·.1)) k with
  | none =>
    rw [note_none q h]
    exact .inr ⟨fun o ho => pos_none.1 h (List.mem_map.2 ⟨_, ho, rfl⟩), rfl⟩
  | some i =>
    rw [note_some q h]
    have hi := pos_some h
    rw [List.getElem?_map] at hi
    obtain ⟨⟨k', o⟩, h1, h2⟩ := Option.map_eq_some_iff.1 hi
    simp only at h2
    subst h2
    exact .inl ⟨o, List.mem_of_getElem? h1, by rw [h1]; rfl⟩
theorem put_some {L : List Fp} {f : ByteArray} {i : Nat} {es : List En} (k : ByteArray) (q : Int) (h : pos (L.map (·.1)) f = some i) (hi : L[i]? = some (f, es)) : pPut L f k q = (L.set i (f, (pNote es k q).1), (pNote es k q).2) := by
  unfold pPut
  rw [h]
  simp only [hi, Option.map_some, Option.getD_some]
theorem put_none {L : List Fp} {f : ByteArray} (k : ByteArray) (q : Int) (h : pos (L.map (·.1)) f = none) : pPut L f k q = (L ++ [(f, [(k, q)])], -1) := by unfold pPut; rw [h]
theorem pos_pair {L : List Fp} {f : ByteArray} {i : Nat} (h : pos (L.map (·.1)) f = some i) : ∃ es, L[i]? = some (f, es) := by
  have hi := pos_some h
  rw [List.getElem?_map] at hi
  obtain ⟨⟨f', es⟩, h1, h2⟩ := Option.map_eq_some_iff.1 hi
  simp only at h2
  subst h2
  exact ⟨es, h1⟩
structure PutOk (L L' : List Fp) (f k : ByteArray) (q r : Int) : Prop where
  wf : Wf L'
  has : ∀ f' k' q', Has L' f' k' q' ↔ (f' = f ∧ k' = k ∧ q' = q) ∨ (¬ (f' = f ∧ k' = k) ∧ Has L f' k' q')
  old : (∃ o, Has L f k o ∧ r = o) ∨ ((∀ o, ¬ Has L f k o) ∧ r = -1)
  len : L'.length ≤ L.length + 1
  lens : ∀ M, (∀ x ∈ L, x.2.length ≤ M) → ∀ x ∈ L', x.2.length ≤ M + 1
theorem put_ok {L : List Fp} (hw : Wf L) (f k : ByteArray) (q : Int) : PutOk L (pPut L f k q).1 f k q (pPut L f k q).2 := by
  cases h : pos (L.map (·.1)) f with
  | none =>
    rw [put_none k q h]
    have hf := pos_none.1 h
    have hno : ∀ es, (f, es) ∉ L := fun es he => hf (List.mem_map.2 ⟨_, he, rfl⟩)
    refine ⟨⟨?_, fun x hx => ?_⟩, fun f' k' q' => ?_, .inr ⟨fun o ⟨es, he, _⟩ => hno es he, rfl⟩, by simp, fun M hM x hx => ?_⟩
    · rw [List.map_append]
      refine List.nodup_append.2 ⟨hw.nd, by simp, fun a ha b hb => ?_⟩
      simp at hb
      subst hb
      exact fun e => hf (e ▸ ha)
    · rcases List.mem_append.1 hx with a | a
      · exact hw.es x a
      · simp at a
        subst a
        simp
    · constructor
      · rintro ⟨es, he, hk⟩
        rcases List.mem_append.1 he with a | a
        · exact .inr ⟨fun z => hno es (z.1 ▸ a), es, a, hk⟩
        · simp at a
          obtain ⟨rfl, rfl⟩ := a
          simp at hk
          exact .inl ⟨rfl, hk⟩
      · rintro (⟨rfl, rfl, rfl⟩ | ⟨_, es, he, hk⟩)
        · exact ⟨[(k', q')], by simp, by simp⟩
        · exact ⟨es, List.mem_append.2 (.inl he), hk⟩
    · rcases List.mem_append.1 hx with a | a
      · have := hM x a; omega
      · simp at a
        subst a
        simp
  | some i =>
    obtain ⟨es, hi⟩ := pos_pair h
    rw [put_some k q h hi]
    have hes := hw.es _ (List.mem_of_getElem? hi)
    have hm := fun f' es' => set_mem hw.nd (pos_some h) (pNote es k q).1 f' es'
    have hnd := note_nd hes.1 k q
    have uniq : ∀ es', (f, es') ∈ L → es' = es := fun es' he => nd_inj hw.nd he (List.mem_of_getElem? hi)
    refine ⟨⟨by rw [set_keys (pos_some h)]; exact hw.nd, fun x hx => ?_⟩, fun f' k' q' => ?_, ?_, by simp, fun M hM x hx => ?_⟩
    · obtain ⟨f', es'⟩ := x
      rcases (hm f' es').1 hx with ⟨rfl, rfl⟩ | ⟨_, a⟩
      · exact ⟨hnd.1, hnd.2.1⟩
      · exact hw.es _ a
    · constructor
      · rintro ⟨es', he, hk⟩
        rcases (hm f' es').1 he with ⟨rfl, rfl⟩ | ⟨a, b⟩
        · rcases (note_mem hes.1 k q k' q').1 hk with ⟨rfl, rfl⟩ | ⟨c, d⟩
          · exact .inl ⟨rfl, rfl, rfl⟩
          · exact .inr ⟨fun z => c z.2, es, List.mem_of_getElem? hi, d⟩
        · exact .inr ⟨fun z => a z.1, es', b, hk⟩
      · rintro (⟨rfl, rfl, rfl⟩ | ⟨hn, es', he, hk⟩)
        · exact ⟨_, (hm f' _).2 (.inl ⟨rfl, rfl⟩), (note_mem hes.1 k' q' k' q').2 (.inl ⟨rfl, rfl⟩)⟩
        · by_cases e : f' = f
          · subst e
            have := uniq es' he
            subst this
            exact ⟨_, (hm f' _).2 (.inl ⟨rfl, rfl⟩), (note_mem hes.1 k q k' q').2 (.inr ⟨fun z => hn ⟨rfl, z⟩, hk⟩)⟩
          · exact ⟨es', (hm f' es').2 (.inr ⟨e, he⟩), hk⟩
    · rcases note_old' hes.1 k q with ⟨o, h1, h2⟩ | ⟨h1, h2⟩
      · exact .inl ⟨o, ⟨es, List.mem_of_getElem? hi, h1⟩, h2⟩
      · refine .inr ⟨fun o ⟨es', he, hk⟩ => ?_, h2⟩
        rw [uniq es' he] at hk
        exact h1 o hk
    · obtain ⟨f', es'⟩ := x
      rcases (hm f' es').1 hx with ⟨rfl, rfl⟩ | ⟨_, a⟩
      · have := hM _ (List.mem_of_getElem? hi)
        have := hnd.2.2
        simp only at *
        omega
      · have := hM _ a
        omega
end Go.Proofs.YtenaliaefbkbcaaGreat.Li
