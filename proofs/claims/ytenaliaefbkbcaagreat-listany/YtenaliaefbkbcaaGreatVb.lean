import Derived.Test.YtenaliaefbkbcaaGreatNj
namespace Go.Proofs.YtenaliaefbkbcaaGreat.Li
open Go Go.RowKit Go.Shelf
set_option linter.unusedSimpArgs false
set_option linter.unusedVariables false
attribute [local go_sem] Oper.semAt_some
def ShE (v : Value) : Prop := ∃ q, v = .int .i64 q
theorem abidesPE {B : Nat} {J : List PV → World → Prop} (h : AbidesFrom B J) {s : List PV} {W W' : World} (hj : J s W) (hb : Below W.heap.size W W') : J s W' := h s W W' none hj ⟨hb.os, hb.tape, hb.output, hb.size, fun k hk _ => hb.block k hk⟩ (fun r e => by cases e)
set_option maxRecDepth 100000 in
set_option maxHeartbeats 2000000 in
theorem valE_in (n : Nat) (hn : 1 ≤ n) (l eb n₀ F c : Nat) (L : List PV) (hl : L.length ≤ 900000) (J Jx : List PV → World → Prop)
    (hY : ∀ pre x W, x ∈ L → J pre W → pre.length < L.length → YieldAt Fence.wide (n - 1) Tryz.prog l #[.agg #[.string x.1, x.2]] W fun e W' =>
      (e = .returned (.bool true) ∧ J (pre ++ [x]) W' ∧ Kq n₀ eb eb W W') ∨ (e = .returned (.bool false) ∧ Jx (pre ++ [x]) W'))
    (W : World) (hA : AbidesFrom W.heap.size J) (a : Option Addr) (hs : W.heap[eb]? = some (.cells #[.slice a L.length c] 41))
    (ha : 0 < L.length → a = some ⟨F, 0, none⟩ ∧ F < n₀) (h0n : n₀ ≤ W.heap.size) (hcell : ∀ i (hi : i < L.length), W.cell? ⟨F, i * 2, none⟩ = some (.string L[i].1) ∧ W.cell? ⟨F, i * 2 + 1, none⟩ = some L[i].2) (hsl : ∀ x ∈ L, ShE x.2) (h0 : J [] W) :
    CallsIn Fence.wide n Tryz.prog 86 #[.func (.yield l) #[] #[], .pointer (some ⟨eb, 0, none⟩)] W fun e W' => (∃ v, e = .returned v) ∧ (J L W' ∨ (∃ pre, Jx pre W')) := by
  have s0 := box_cells hs 0 _ rfl
  refine callsIn_of_wp Tryz.func86 rfl trivial ?_ rfl
  simp only [Tryz.ntmps86, List.size_toArray, List.length_cons, List.length_nil, Nat.reduceAdd, Nat.reduceSub, Array.replicate_succ, Array.replicate_zero, List.push_toArray, List.append_toArray, List.nil_append, List.cons_append]
  obtain ⟨len, hlen⟩ : ∃ len, len = L.length := ⟨_, rfl⟩
  rw [← hlen] at s0
  have HL : Hid (len = L.length) := hlen
  have HAF := hidi ha
  have HC := hidi (And.intro hcell (And.intro hl hsl))
  have HS := hidi hs
  clear hcell hl hlen ha hsl hs
  gi_wp2
  gi_loopw [7] (fun i wr => ∃ k m : Nat, k + m = len ∧ i = .int .i64 (k : Int) ∧ Hid (J (L.take k) wr ∧ Kq n₀ eb eb W wr))
    (fun i _ => ((len : Int) - intOf i).toNat)
  case atStart => exact ⟨0, len, by omega, rfl, h0, Kq.refl _ _ _ _⟩
  case round =>
    obtain ⟨k, m, hk, rfl, HJ⟩ := hrel
    cases m with
    | zero =>
      obtain rfl : k = len := by omega
      have hq : ¬ (k : Int) < (k : Int) := by omega
      have e1 : L.take k = L := by rw [HL.out]; exact List.take_length
      have HJ2 := HJ.out.1
      rw [e1] at HJ2
      gi_wp2
      refine bodyPost_end (results_none rfl _ _ _) rfl ?_
      exact ⟨⟨_, rfl⟩, .inl HJ2⟩
    | succ q =>
      have hq1 : (k : Int) < len := by omega
      have hk0 : (0 : Int) ≤ (k : Int) := by omega
      have hkl : k < L.length := by rw [← HL.out]; omega
      obtain ⟨haF, hF⟩ := HAF.out (by omega)
      subst haF
      have hw1 : IntKind.i64.wrap ((k : Int) + 1) = (k : Int) + 1 := by rw [IntKind.wrap_i64]; have := HC.out.2.1; have := HL.out; omega
      obtain ⟨x, hx⟩ : ∃ x, x = L[k] := ⟨_, rfl⟩
      have hc0 := (HC.out.1 k hkl).1
      have hc1 := (HC.out.1 k hkl).2
      rw [← hx] at hc0 hc1
      have d0 := (HJ.out.2.bel.cell (p := ⟨F, k * 2, none⟩) hF).trans hc0
      have d1 := (HJ.out.2.bel.cell (p := ⟨F, k * 2 + 1, none⟩) hF).trans hc1
      clear hc0 hc1
      have hmem : x ∈ L := by rw [hx]; exact List.getElem_mem hkl
      obtain ⟨xq, hxv⟩ := HC.out.2.2 x hmem
      have HX := hidi hx
      clear hx
      obtain ⟨f, v⟩ := x
      simp only at hxv d0 d1
      subst hxv
      have b1 : Below wr.heap.size wr (wr.alloc (.cells #[.string f, .int .i64 xq] 44)) := (Below.refl wr.heap.size wr).alloc (Nat.le_refl _) _
      have hsb : eb < wr.heap.size := (Array.getElem?_eq_some_iff.1 (HJ.out.2.s.trans HS.out)).1
      have H0 := hidi (Nat.le_trans h0n HJ.out.2.bel.size)
      have HT : Hid (L.take (k + 1) = L.take k ++ [(f, .int .i64 xq)]) := by show _ = _; rw [List.take_add_one, List.getElem?_eq_getElem hkl, ← HX.out]; rfl
      have hpl : (L.take k).length < L.length := by rw [List.length_take]; omega
      have JB := hidi (And.intro (abidesPE hA HJ.out.1 b1) (Kq.below b1 H0.out hsb hsb))
      clear b1
      obtain ⟨fn, tmps, assign, body, hy, hR⟩ := hY _ (f, .int .i64 xq) (wr.alloc (.cells #[.string f, .int .i64 xq] 44)) hmem JB.out.1 hpl
      gi_wp2
      refine hR.mono ?_
      rintro e W3 (⟨rfl, hJ3, hk3⟩ | ⟨rfl, hJx3⟩)
      · have H3 := hidi (And.intro hJ3 hk3)
        clear hJ3 hk3
        gi_wp2
        go_roundw
        case rel => exact ⟨k + 1, q, by omega, by simp, by rw [HT.out]; exact H3.out.1, (HJ.out.2.trans JB.out.2).trans H3.out.2⟩
        case measure => simp [intOf]; omega
      · have H3 := hidi hJx3
        clear hJx3
        gi_wp2
        (try simp only [Exit.inBlock, Exit.then, Exit.noGoto])
        refine bodyPost_ret (results_none rfl _ _ _) rfl ?_
        exact ⟨⟨_, rfl⟩, .inr ⟨_, H3.out⟩⟩
theorem valE_stops {B : Nat} {w w2 : World} {eb : Nat} {v : Value} {L : List PV} (h : w.ownsRow B 44 2 v L.length (prow L)) (hs : w.heap[eb]? = some (.cells #[v] 41)) (hl : L.length ≤ 900000) (hsl : ∀ x ∈ L, ShE x.2) (n : Nat) (hn : 1 ≤ n) (hb : Below w.heap.size w w2) :
    SeqStopsK Fence.wide n Tryz.prog 86 #[.pointer (some ⟨eb, 0, none⟩)] (fun x : {x : PV // x ∈ L} => #[.agg #[.string x.1.1, x.1.2]]) (Kq w.heap.size eb eb) (fun ys => ys.map (·.1) = L) (fun _ => True) L.length w2 := fun l J Jx W hW hA _ hY hJ0 => by
  have bW : Below w.heap.size w W := hb.trans (hW.mono hb.size)
  have hS := own_below h bW
  obtain ⟨a, c, hv⟩ := own_sl hS
  have hx : ∃ F, (0 < L.length → a = some ⟨F, 0, none⟩ ∧ F < w.heap.size ∧ ∀ i (hi : i < L.length), W.cell? ⟨F, i * 2, none⟩ = some (.string L[i].1) ∧ W.cell? ⟨F, i * 2 + 1, none⟩ = some L[i].2) := by
    by_cases hp : 0 < L.length
    · obtain ⟨F, c', hv', hle, hcell⟩ := prow_cell hS (j := 0) hp
      obtain ⟨cur, hF⟩ := own_lt h (g := F) (by rw [hv']; rfl)
      rw [hv] at hv'
      simp only [Value.slice.injEq, true_and] at hv'
      exact ⟨F, fun _ => ⟨hv'.1, (Array.getElem?_eq_some_iff.1 hF).1, fun i hi => hcell i hi⟩⟩
    · exact ⟨0, fun q => absurd q hp⟩
  obtain ⟨F, hx⟩ := hx
  refine (valE_in n hn l eb w.heap.size F c L hl (fun pre W' => ∃ p : List {x : PV // x ∈ L}, p.map (·.1) = pre ∧ J p W') (fun pre W' => ∃ p : List {x : PV // x ∈ L}, p.map (·.1) = pre ∧ Jx p W') ?_ W ?_ a ?_ (fun q => ⟨(hx q).1, (hx q).2.1⟩) bW.size ?_ hsl ⟨[], rfl, hJ0⟩).mono ?_
  · rintro pre x W' hx ⟨p, hp1, hp2⟩ hlen
    have := hY p ⟨x, hx⟩ W' hp2 (by rw [← hp1] at hlen; simpa using hlen)
    obtain ⟨fn, tmps, assign, body, hy, hR⟩ := this
    refine ⟨fn, tmps, assign, body, hy, hR.mono ?_⟩
    rintro e W3 (⟨rfl, q1, q2⟩ | ⟨rfl, q1⟩)
    · exact .inl ⟨rfl, ⟨p ++ [⟨x, hx⟩], by simp [hp1], q1⟩, q2⟩
    · exact .inr ⟨rfl, p ++ [⟨x, hx⟩], by simp [hp1], q1⟩
  · rintro s W1 W' row ⟨p, hp1, hp2⟩ hg hr
    exact ⟨p, hp1, hA p W1 W' row hp2 hg hr⟩
  · rw [← hv]
    exact later_at hs bW
  · intro i hi
    exact (hx (by omega)).2.2 i hi
  · rintro e W' ⟨he, ⟨p, hp1, hp2⟩ | ⟨pre, p, hp1, hp2⟩⟩
    · exact ⟨he, .inl ⟨p, hp1, hp2⟩⟩
    · exact ⟨he, .inr ⟨p, trivial, hp2⟩⟩
/-- What has been laid on so far. -/
structure AVE (w : World) (pre : List PV) (X : World) : Prop where
  ex : ∃ v, X.heap[w.heap.size]? = some (.cells #[v] 41 (0, 0)) ∧ X.ownsRow w.heap.size 44 2 v pre.length (prow pre)
  bel : Below w.heap.size w X
  sz : w.heap.size + 1 ≤ X.heap.size
theorem AVE.own (w : World) : OwnFrom (w.heap.size + 1) (AVE w) := fun s X X' row h hg hr => by
  obtain ⟨v, h1, h2⟩ := h.ex
  have hb : ∀ k, k < w.heap.size + 1 → X'.heap[k]? = X.heap[k]? := fun k hk => hg.block k (by have := h.sz; omega) (fun e => by have := (hr k e.symm).1; omega)
  exact ⟨⟨v, (hb _ (by omega)).trans h1, own_grown h2 hg (fun r e => (hr r e).2)⟩, h.bel.trans ⟨hg.os, hg.tape, hg.output, hg.size, fun k hk => hb k (by omega)⟩, Nat.le_trans h.sz hg.size⟩
set_option maxRecDepth 100000 in
set_option maxHeartbeats 4000000 in
theorem appvE_any {B : Nat} {w : World} {eb : Nat} {v : Value} {L : List PV} (h : w.ownsRow B 44 2 v L.length (prow L)) (hs : w.heap[eb]? = some (.cells #[v] 41)) (hl : L.length ≤ 900000) (hsl : ∀ x ∈ L, ShE x.2) :
    Calls Tryz.prog 111 #[.slice none 0 0, .func (.func 86) #[] #[.pointer (some ⟨eb, 0, none⟩)]] w fun e w' => ∃ v', e = .returned v' ∧ w'.ownsRow w.heap.size 44 2 v' L.length (prow L) ∧ Below w.heap.size w w' := by
  obtain ⟨i0, hi, hz0, hz1, hz2⟩ := info_parts info44
  refine (callsIn_wide (n := 9)).1 ?_
  refine callsIn_of_wp_marks Tryz.func111 rfl trivial ?_ rfl
  simp only [Tryz.ntmps111, List.size_toArray, List.length_cons, List.length_nil, Nat.reduceAdd, Nat.reduceSub, Array.replicate_succ, Array.replicate_zero, List.push_toArray, List.append_toArray, List.nil_append, List.cons_append]
  gi_wp2
  obtain ⟨w1, hw1⟩ : ∃ w1, w1 = w.alloc (.cells #[.slice none 0 0] 41) := ⟨_, rfl⟩
  rw [← hw1]
  have z1 : w1.heap.size = w.heap.size + 1 := by rw [hw1, size_alloc]
  have b1 : Below w.heap.size w w1 := by rw [hw1]; exact (Below.refl _ _).alloc (Nat.le_refl _) _
  have x1 : w1.heap[w.heap.size]? = some (.cells #[.slice none 0 0] 41 (0, 0)) := by rw [hw1, heap_alloc_new]
  have hebl : eb < w.heap.size := (Array.getElem?_eq_some_iff.1 hs).1
  have hI0 : OwnFrom w1.heap.size (fun (p : List {x : PV // x ∈ L}) X => AVE w (p.map (·.1)) X) := by
    intro s X X' row h1 hg hr
    rw [z1] at hr
    exact AVE.own w _ X X' row h1 hg hr
  refine wpIn_rangeFunc_ownH rfl (by omega) (gf := 86) (lb := #[.pointer (some ⟨eb, 0, none⟩)]) rfl trivial (enters_of Tryz.func86 (by kernel_rfl) rfl)
    (valE_stops h hs hl hsl _ (by omega) b1) (fun h k => Kq.trans h k) ?hKb (Below.refl _ _) (fun _ => rfl)
    (fun p X => AVE w (p.map (·.1)) X) (fun _ _ _ => False) hI0 (fun _ _ _ _ _ hs _ _ => hs) ?h0
    (fun x a' X => ∃ b5, a' = { tmps := #[.slice none 0 0, .func (.func 86) #[] #[.pointer (some ⟨eb, 0, none⟩)], .pointer (some ⟨w.heap.size, 0, none⟩), undef, .slice none 0 0, .pointer (some ⟨b5, 0, none⟩), .func (.func 86) #[] #[.pointer (some ⟨eb, 0, none⟩)], .agg #[.string x.1.1, x.1.2], undef, undef, undef, undef, undef], defers := [] } ∧ X.heap[b5]? = some (.cells #[.string x.1.1, x.1.2] 44 (0, 0)) ∧ w1.heap.size ≤ b5) ?hAx ?assign ?body ?done ?stop
  case hKb =>
    intro X l o o' hl ho _ _
    exact ⟨belowK_b (w := w1) (by omega) X l o o' hl ho (by assumption) (by assumption), World.putObj_heap_other (by omega), World.putObj_heap_other (by omega)⟩
  case h0 => exact ⟨⟨_, x1, World.ownsRow_nil _ _ _ _⟩, b1, by omega⟩
  case hAx =>
    rintro x a' _ X X' row ⟨b5, h1, h2, h3⟩ hg hr
    refine ⟨b5, h1, (hg.block b5 (Array.getElem?_eq_some_iff.1 h2).1 (fun e => ?_)).trans h2, h3⟩
    obtain ⟨-, o, h4, h5⟩ := hr b5 e.symm
    rw [h2] at h4
    cases h4
    simp [Obj.isCells] at h5
  case assign =>
    intro l0 pre x X K hI hK
    obtain ⟨⟨f, u⟩, hx⟩ := x
    obtain ⟨xq, hxv⟩ := hsl _ hx
    simp only at hxv
    subst hxv
    have HK := hidi hK
    have HI := hidi hI
    clear hK hI
    gi_wp2
    have hb : Below X.heap.size X (X.alloc (.cells #[.string f, .int .i64 xq] 44)) := (Below.refl X.heap.size X).alloc (Nat.le_refl _) _
    have hs2 : w.heap.size + 1 ≤ X.heap.size := HI.out.sz
    refine HK.out _ _ ⟨hb.size, fun k o _ hk _ => (hb.block k (Array.getElem?_eq_some_iff.1 hk).1).trans hk⟩ (Kq.below hb (by omega) (by omega) (by omega)) ?_ ⟨X.heap.size, rfl, heap_alloc_new _ _, by omega⟩
    exact own_below' (s := pre) hI0 HI.out hb
  case body =>
    rintro l0 pre x a' X hl0 - HI0 ⟨b5, rfl, hb5, hb5l⟩ hlen
    obtain ⟨⟨f, u⟩, hx⟩ := x
    obtain ⟨xq, hxv⟩ := hsl _ hx
    simp only at hxv
    subst hxv
    simp only at hb5
    obtain ⟨v0, hv0, hrow⟩ := HI0.ex
    have c0 := box_cells hv0 0 v0 rfl
    have d0 := box_cells hb5 0 (.string f) rfl
    have d1 := box_cells hb5 1 (.int .i64 xq) rfl
    have hs2 : w.heap.size + 1 ≤ X.heap.size := HI0.sz
    have bA : Below X.heap.size X (X.alloc (.cells #[.string f, .int .i64 xq] 44)) := (Below.refl X.heap.size X).alloc (Nat.le_refl _) _
    have hrow1 := own_below hrow bA
    have hcs : ∀ (j : Nat) (u : Value), (pcs (f, .int .i64 xq))[j]? = some u → (X.alloc (.cells #[.string f, .int .i64 xq] 44)).cell? ((⟨X.heap.size, 0, none⟩ : Addr).add j) = some u := fun j u hu => by
      rw [addr_at]
      exact box_cells (heap_alloc_new X _) j u (by simpa [pcs] using hu)
    have hn1 : (X.alloc (.cells #[.string f, .int .i64 xq] 44)).heap[w.heap.size]? = some (.cells #[v0] 41 (0, 0)) := later_at hv0 bA
    have hk0 : (pre.map (·.1)).length ≤ 900000 := by rw [List.length_map]; omega
    obtain ⟨k, hk⟩ : ∃ k, k = (pre.map (·.1)).length := ⟨_, rfl⟩
    rw [← hk] at hrow1 hk0
    have HB := hidi (And.intro HI0 (And.intro hn1 (And.intro hk (And.intro bA hb5))))
    clear HI0 hv0 hn1 hk bA hrow hb5
    gi_wp2_with (gi_at_builtin; refine wpListIn_append_own _ rfl _ _ 41 rfl w.heap.size 44 i0 _ 2 24 Tryz.underlying41 hi hz0 hz1 hz2 rfl (by decide) v0 k _ rfl hrow1 ⟨X.heap.size, 0, none⟩ 1 1 (pcs (f, .int .i64 xq)) rfl rfl hcs (by simp [pcs, Value.oneCell']) (by unfold maxLen; omega) (by omega) (by first | omega | (rw [size_alloc]; omega)) ?_; intro v' w5 hown' hgrow _; obtain ⟨a1, c1, hv1⟩ := own_sl hown'; subst hv1; have hn0 : w5.heap[w.heap.size]? = some (.cells #[v0] 41 (0, 0)) := (hgrow.block _ (by have := (Array.getElem?_eq_some_iff.1 HB.out.2.1).1; exact this) (fun e => by obtain ⟨cu, hcu⟩ := own_lt hrow1 e.symm; rw [HB.out.2.1] at hcu; simp at hcu)).trans HB.out.2.1; have c1' := box_cells hn0 0 v0 rfl; have f1' := box_frozen hn0 0; have HG := hidi (And.intro hown' (And.intro hgrow hn0)); clear hown' hgrow hn0)
    obtain ⟨hI, hn1, hk, bA, hb5⟩ := HB.out
    obtain ⟨hown, hgrow, hn0⟩ := HG.out
    have zA : (X.alloc (.cells #[.string f, .int .i64 xq] 44)).heap.size = X.heap.size + 1 := size_alloc _ _
    have hty : ∀ j, v0.ownBlock = some j → w.heap.size ≤ j ∧ (j < X.heap.size → ∃ cu, X.heap[j]? = some (.cells cu 44 (0, 0))) := fun j e => by
      obtain ⟨cu, hcu⟩ := own_lt hrow1 e
      exact ⟨row_ge hrow1 e, fun hj => ⟨cu, by rw [← bA.block j hj]; exact hcu⟩⟩
    have hbl : ∀ j, j < X.heap.size → j ≠ w.heap.size → v0.ownBlock ≠ some j → (w5.setCell ⟨w.heap.size, 0, none⟩ (.slice a1 (k + 1) c1)).heap[j]? = X.heap[j]? := fun j hj h1 h2 => by
      rw [heap_set_ne _ h1]
      exact (hgrow.block j (by omega) (fun e => h2 e.symm)).trans (bA.block j hj)
    have hszw : X.heap.size ≤ (w5.setCell ⟨w.heap.size, 0, none⟩ (.slice a1 (k + 1) c1)).heap.size := by
      have h1 := (ch_set (w := w5) w.heap.size 0 (.slice a1 (k + 1) c1)).size
      have h2 := hgrow.size
      omega
    have hbe : Below w.heap.size X (w5.setCell ⟨w.heap.size, 0, none⟩ (.slice a1 (k + 1) c1)) := ⟨hgrow.os, hgrow.tape, hgrow.output, hszw, fun j hj => hbl j (by omega) (by omega) (fun e => by have := (hty j e).1; omega)⟩
    have hkq : Kq w.heap.size eb eb X (w5.setCell ⟨w.heap.size, 0, none⟩ (.slice a1 (k + 1) c1)) := ⟨hbe, hbe.block eb hebl, hbe.block eb hebl⟩
    refine ⟨⟨hszw, fun j o hB hj ho => (hbl j (Array.getElem?_eq_some_iff.1 hj).1 (by omega) (fun e => ?_)).trans hj⟩, hkq, ?_⟩
    · obtain ⟨cu, hcu⟩ := (hty j e).2 (Array.getElem?_eq_some_iff.1 hj).1
      rw [hj] at hcu
      cases hcu
      simp [Obj.isCells] at ho
    · show AVE w ((pre ++ [(⟨(f, .int .i64 xq), hx⟩ : {x : PV // x ∈ L})]).map Subtype.val) _
      refine ⟨⟨.slice a1 (k + 1) c1, heap_set hn0 _, ?_⟩, hI.bel.trans hbe, by omega⟩
      have e1 : (pre ++ [(⟨(f, .int .i64 xq), hx⟩ : {x : PV // x ∈ L})]).map Subtype.val = pre.map (·.1) ++ [(f, .int .i64 xq)] := by simp
      have e2 : prow [(f, .int .i64 xq)] = pcs (f, .int .i64 xq) := by simp [prow]
      rw [e1, List.length_append, List.length_singleton, ← hk, prow_app, e2]
      exact own_ch hown (ch_set _ _ _) (fun g e q => by
        obtain ⟨cu, hcu⟩ := own_lt hown e
        rw [q, hn0] at hcu
        simp at hcu)
  case done =>
    rintro D ys X hD hys HI0 hK
    obtain ⟨v0, hv0, hrow⟩ := HI0.ex
    have hys' : ys.map Subtype.val = L := hys
    rw [show ys.map (fun x => x.1) = L from hys'] at hrow
    have c0 := box_cells hv0 0 v0 rfl
    have HI := hidi (And.intro HI0.bel (And.intro hrow hK))
    clear HI0 hv0 hrow
    gi_wp2
    refine ⟨by simp, .inl ⟨_, _, rfl, run_takeDeferred HI.out.2.2, ?_⟩⟩
    refine ⟨_, results_tmp rfl _ _ _, v0, rfl, ?_, ?_⟩
    · exact ownsRow_putObj HI.out.2.1 (.deferred none) HI.out.2.2 rfl
    · exact HI.out.1.trans (belowK_b (w := w1) (by omega) X D _ _ hD HI.out.2.2 rfl rfl)
  case stop =>
    rintro D c pre X _ _ h _
    exact h.elim
theorem collectE_any {B : Nat} {w : World} {eb : Nat} {v : Value} {L : List PV} (h : w.ownsRow B 44 2 v L.length (prow L)) (hs : w.heap[eb]? = some (.cells #[v] 41)) (hl : L.length ≤ 900000) (hsl : ∀ x ∈ L, ShE x.2) :
    Calls Tryz.prog 85 #[.func (.func 86) #[] #[.pointer (some ⟨eb, 0, none⟩)]] w fun e w' => ∃ v', e = .returned v' ∧ w'.ownsRow w.heap.size 44 2 v' L.length (prow L) ∧ Below w.heap.size w w' := by
  have A := hidi (appvE_any h hs hl hsl)
  clear h hs hl hsl
  go_enter Tryz.func85, Tryz.ntmps85
  go_wp2_with (go_at_call 111; refine A.out.mono ?_; rintro e w' ⟨v', rfl, h1⟩; have H1 := hidi h1; clear h1)
  go_ret
  exact ⟨v', rfl, H1.out⟩
theorem valuesE_any (v : Value) (hv : ∃ a n c, v = .slice a n c) (w : World) : Calls Tryz.prog 61 #[v] w fun e w' => e = .returned (.func (.func 86) #[] #[.pointer (some ⟨w.heap.size, 0, none⟩)]) ∧ w' = w.alloc (.cells #[v] 41) := by
  obtain ⟨a, n, c, rfl⟩ := hv
  go_enter Tryz.func61, Tryz.ntmps61
  go_wp2
  go_ret
  exact ⟨rfl, rfl⟩
end Go.Proofs.YtenaliaefbkbcaaGreat.Li
namespace Go.Proofs.YtenaliaefbkbcaaGreat.Li
open Go Go.RowKit Go.Shelf
set_option linter.unusedSimpArgs false
set_option linter.unusedVariables false
attribute [local go_sem] Oper.semAt_some
def ShK (v : Value) : Prop := ∃ a n c, v = .slice a n c
theorem abidesPK {B : Nat} {J : List PV → World → Prop} (h : AbidesFrom B J) {s : List PV} {W W' : World} (hj : J s W) (hb : Below W.heap.size W W') : J s W' := h s W W' none hj ⟨hb.os, hb.tape, hb.output, hb.size, fun k hk _ => hb.block k hk⟩ (fun r e => by cases e)
set_option maxRecDepth 100000 in
set_option maxHeartbeats 2000000 in
theorem valK_in (n : Nat) (hn : 1 ≤ n) (l eb n₀ F c : Nat) (L : List PV) (hl : L.length ≤ 900000) (J Jx : List PV → World → Prop)
    (hY : ∀ pre x W, x ∈ L → J pre W → pre.length < L.length → YieldAt Fence.wide (n - 1) Tryz.prog l #[.agg #[.string x.1, x.2]] W fun e W' =>
      (e = .returned (.bool true) ∧ J (pre ++ [x]) W' ∧ Kq n₀ eb eb W W') ∨ (e = .returned (.bool false) ∧ Jx (pre ++ [x]) W'))
    (W : World) (hA : AbidesFrom W.heap.size J) (a : Option Addr) (hs : W.heap[eb]? = some (.cells #[.slice a L.length c] 69))
    (ha : 0 < L.length → a = some ⟨F, 0, none⟩ ∧ F < n₀) (h0n : n₀ ≤ W.heap.size) (hcell : ∀ i (hi : i < L.length), W.cell? ⟨F, i * 2, none⟩ = some (.string L[i].1) ∧ W.cell? ⟨F, i * 2 + 1, none⟩ = some L[i].2) (hsl : ∀ x ∈ L, ShK x.2) (h0 : J [] W) :
    CallsIn Fence.wide n Tryz.prog 66 #[.func (.yield l) #[] #[], .pointer (some ⟨eb, 0, none⟩)] W fun e W' => (∃ v, e = .returned v) ∧ (J L W' ∨ (∃ pre, Jx pre W')) := by
  have s0 := box_cells hs 0 _ rfl
  refine callsIn_of_wp Tryz.func66 rfl trivial ?_ rfl
  simp only [Tryz.ntmps66, List.size_toArray, List.length_cons, List.length_nil, Nat.reduceAdd, Nat.reduceSub, Array.replicate_succ, Array.replicate_zero, List.push_toArray, List.append_toArray, List.nil_append, List.cons_append]
  obtain ⟨len, hlen⟩ : ∃ len, len = L.length := ⟨_, rfl⟩
  rw [← hlen] at s0
  have HL : Hid (len = L.length) := hlen
  have HAF := hidi ha
  have HC := hidi (And.intro hcell (And.intro hl hsl))
  have HS := hidi hs
  clear hcell hl hlen ha hsl hs
  gi_wp2
  gi_loopw [7] (fun i wr => ∃ k m : Nat, k + m = len ∧ i = .int .i64 (k : Int) ∧ Hid (J (L.take k) wr ∧ Kq n₀ eb eb W wr))
    (fun i _ => ((len : Int) - intOf i).toNat)
  case atStart => exact ⟨0, len, by omega, rfl, h0, Kq.refl _ _ _ _⟩
  case round =>
    obtain ⟨k, m, hk, rfl, HJ⟩ := hrel
    cases m with
    | zero =>
      obtain rfl : k = len := by omega
      have hq : ¬ (k : Int) < (k : Int) := by omega
      have e1 : L.take k = L := by rw [HL.out]; exact List.take_length
      have HJ2 := HJ.out.1
      rw [e1] at HJ2
      gi_wp2
      refine bodyPost_end (results_none rfl _ _ _) rfl ?_
      exact ⟨⟨_, rfl⟩, .inl HJ2⟩
    | succ q =>
      have hq1 : (k : Int) < len := by omega
      have hk0 : (0 : Int) ≤ (k : Int) := by omega
      have hkl : k < L.length := by rw [← HL.out]; omega
      obtain ⟨haF, hF⟩ := HAF.out (by omega)
      subst haF
      have hw1 : IntKind.i64.wrap ((k : Int) + 1) = (k : Int) + 1 := by rw [IntKind.wrap_i64]; have := HC.out.2.1; have := HL.out; omega
      obtain ⟨x, hx⟩ : ∃ x, x = L[k] := ⟨_, rfl⟩
      have hc0 := (HC.out.1 k hkl).1
      have hc1 := (HC.out.1 k hkl).2
      rw [← hx] at hc0 hc1
      have d0 := (HJ.out.2.bel.cell (p := ⟨F, k * 2, none⟩) hF).trans hc0
      have d1 := (HJ.out.2.bel.cell (p := ⟨F, k * 2 + 1, none⟩) hF).trans hc1
      clear hc0 hc1
      have hmem : x ∈ L := by rw [hx]; exact List.getElem_mem hkl
      obtain ⟨xa, xn, xc, hxv⟩ := HC.out.2.2 x hmem
      have HX := hidi hx
      clear hx
      obtain ⟨f, v⟩ := x
      simp only at hxv d0 d1
      subst hxv
      have b1 : Below wr.heap.size wr (wr.alloc (.cells #[.string f, .slice xa xn xc] 76)) := (Below.refl wr.heap.size wr).alloc (Nat.le_refl _) _
      have hsb : eb < wr.heap.size := (Array.getElem?_eq_some_iff.1 (HJ.out.2.s.trans HS.out)).1
      have H0 := hidi (Nat.le_trans h0n HJ.out.2.bel.size)
      have HT : Hid (L.take (k + 1) = L.take k ++ [(f, .slice xa xn xc)]) := by show _ = _; rw [List.take_add_one, List.getElem?_eq_getElem hkl, ← HX.out]; rfl
      have hpl : (L.take k).length < L.length := by rw [List.length_take]; omega
      have JB := hidi (And.intro (abidesPK hA HJ.out.1 b1) (Kq.below b1 H0.out hsb hsb))
      clear b1
      obtain ⟨fn, tmps, assign, body, hy, hR⟩ := hY _ (f, .slice xa xn xc) (wr.alloc (.cells #[.string f, .slice xa xn xc] 76)) hmem JB.out.1 hpl
      gi_wp2
      refine hR.mono ?_
      rintro e W3 (⟨rfl, hJ3, hk3⟩ | ⟨rfl, hJx3⟩)
      · have H3 := hidi (And.intro hJ3 hk3)
        clear hJ3 hk3
        gi_wp2
        go_roundw
        case rel => exact ⟨k + 1, q, by omega, by simp, by rw [HT.out]; exact H3.out.1, (HJ.out.2.trans JB.out.2).trans H3.out.2⟩
        case measure => simp [intOf]; omega
      · have H3 := hidi hJx3
        clear hJx3
        gi_wp2
        (try simp only [Exit.inBlock, Exit.then, Exit.noGoto])
        refine bodyPost_ret (results_none rfl _ _ _) rfl ?_
        exact ⟨⟨_, rfl⟩, .inr ⟨_, H3.out⟩⟩
theorem valK_stops {B : Nat} {w w2 : World} {eb : Nat} {v : Value} {L : List PV} (h : w.ownsRow B 76 2 v L.length (prow L)) (hs : w.heap[eb]? = some (.cells #[v] 69)) (hl : L.length ≤ 900000) (hsl : ∀ x ∈ L, ShK x.2) (n : Nat) (hn : 1 ≤ n) (hb : Below w.heap.size w w2) :
    SeqStopsK Fence.wide n Tryz.prog 66 #[.pointer (some ⟨eb, 0, none⟩)] (fun x : {x : PV // x ∈ L} => #[.agg #[.string x.1.1, x.1.2]]) (Kq w.heap.size eb eb) (fun ys => ys.map (·.1) = L) (fun _ => True) L.length w2 := fun l J Jx W hW hA _ hY hJ0 => by
  have bW : Below w.heap.size w W := hb.trans (hW.mono hb.size)
  have hS := own_below h bW
  obtain ⟨a, c, hv⟩ := own_sl hS
  have hx : ∃ F, (0 < L.length → a = some ⟨F, 0, none⟩ ∧ F < w.heap.size ∧ ∀ i (hi : i < L.length), W.cell? ⟨F, i * 2, none⟩ = some (.string L[i].1) ∧ W.cell? ⟨F, i * 2 + 1, none⟩ = some L[i].2) := by
    by_cases hp : 0 < L.length
    · obtain ⟨F, c', hv', hle, hcell⟩ := prow_cell hS (j := 0) hp
      obtain ⟨cur, hF⟩ := own_lt h (g := F) (by rw [hv']; rfl)
      rw [hv] at hv'
      simp only [Value.slice.injEq, true_and] at hv'
      exact ⟨F, fun _ => ⟨hv'.1, (Array.getElem?_eq_some_iff.1 hF).1, fun i hi => hcell i hi⟩⟩
    · exact ⟨0, fun q => absurd q hp⟩
  obtain ⟨F, hx⟩ := hx
  refine (valK_in n hn l eb w.heap.size F c L hl (fun pre W' => ∃ p : List {x : PV // x ∈ L}, p.map (·.1) = pre ∧ J p W') (fun pre W' => ∃ p : List {x : PV // x ∈ L}, p.map (·.1) = pre ∧ Jx p W') ?_ W ?_ a ?_ (fun q => ⟨(hx q).1, (hx q).2.1⟩) bW.size ?_ hsl ⟨[], rfl, hJ0⟩).mono ?_
  · rintro pre x W' hx ⟨p, hp1, hp2⟩ hlen
    have := hY p ⟨x, hx⟩ W' hp2 (by rw [← hp1] at hlen; simpa using hlen)
    obtain ⟨fn, tmps, assign, body, hy, hR⟩ := this
    refine ⟨fn, tmps, assign, body, hy, hR.mono ?_⟩
    rintro e W3 (⟨rfl, q1, q2⟩ | ⟨rfl, q1⟩)
    · exact .inl ⟨rfl, ⟨p ++ [⟨x, hx⟩], by simp [hp1], q1⟩, q2⟩
    · exact .inr ⟨rfl, p ++ [⟨x, hx⟩], by simp [hp1], q1⟩
  · rintro s W1 W' row ⟨p, hp1, hp2⟩ hg hr
    exact ⟨p, hp1, hA p W1 W' row hp2 hg hr⟩
  · rw [← hv]
    exact later_at hs bW
  · intro i hi
    exact (hx (by omega)).2.2 i hi
  · rintro e W' ⟨he, ⟨p, hp1, hp2⟩ | ⟨pre, p, hp1, hp2⟩⟩
    · exact ⟨he, .inl ⟨p, hp1, hp2⟩⟩
    · exact ⟨he, .inr ⟨p, trivial, hp2⟩⟩
/-- What has been laid on so far. -/
structure AVK (w : World) (pre : List PV) (X : World) : Prop where
  ex : ∃ v, X.heap[w.heap.size]? = some (.cells #[v] 69 (0, 0)) ∧ X.ownsRow w.heap.size 76 2 v pre.length (prow pre)
  bel : Below w.heap.size w X
  sz : w.heap.size + 1 ≤ X.heap.size
theorem AVK.own (w : World) : OwnFrom (w.heap.size + 1) (AVK w) := fun s X X' row h hg hr => by
  obtain ⟨v, h1, h2⟩ := h.ex
  have hb : ∀ k, k < w.heap.size + 1 → X'.heap[k]? = X.heap[k]? := fun k hk => hg.block k (by have := h.sz; omega) (fun e => by have := (hr k e.symm).1; omega)
  exact ⟨⟨v, (hb _ (by omega)).trans h1, own_grown h2 hg (fun r e => (hr r e).2)⟩, h.bel.trans ⟨hg.os, hg.tape, hg.output, hg.size, fun k hk => hb k (by omega)⟩, Nat.le_trans h.sz hg.size⟩
set_option maxRecDepth 100000 in
set_option maxHeartbeats 4000000 in
theorem appvK_any {B : Nat} {w : World} {eb : Nat} {v : Value} {L : List PV} (h : w.ownsRow B 76 2 v L.length (prow L)) (hs : w.heap[eb]? = some (.cells #[v] 69)) (hl : L.length ≤ 900000) (hsl : ∀ x ∈ L, ShK x.2) :
    Calls Tryz.prog 87 #[.slice none 0 0, .func (.func 66) #[] #[.pointer (some ⟨eb, 0, none⟩)]] w fun e w' => ∃ v', e = .returned v' ∧ w'.ownsRow w.heap.size 76 2 v' L.length (prow L) ∧ Below w.heap.size w w' := by
  obtain ⟨i0, hi, hz0, hz1, hz2⟩ := info_parts info76
  refine (callsIn_wide (n := 9)).1 ?_
  refine callsIn_of_wp_marks Tryz.func87 rfl trivial ?_ rfl
  simp only [Tryz.ntmps87, List.size_toArray, List.length_cons, List.length_nil, Nat.reduceAdd, Nat.reduceSub, Array.replicate_succ, Array.replicate_zero, List.push_toArray, List.append_toArray, List.nil_append, List.cons_append]
  gi_wp2
  obtain ⟨w1, hw1⟩ : ∃ w1, w1 = w.alloc (.cells #[.slice none 0 0] 69) := ⟨_, rfl⟩
  rw [← hw1]
  have z1 : w1.heap.size = w.heap.size + 1 := by rw [hw1, size_alloc]
  have b1 : Below w.heap.size w w1 := by rw [hw1]; exact (Below.refl _ _).alloc (Nat.le_refl _) _
  have x1 : w1.heap[w.heap.size]? = some (.cells #[.slice none 0 0] 69 (0, 0)) := by rw [hw1, heap_alloc_new]
  have hebl : eb < w.heap.size := (Array.getElem?_eq_some_iff.1 hs).1
  have hI0 : OwnFrom w1.heap.size (fun (p : List {x : PV // x ∈ L}) X => AVK w (p.map (·.1)) X) := by
    intro s X X' row h1 hg hr
    rw [z1] at hr
    exact AVK.own w _ X X' row h1 hg hr
  refine wpIn_rangeFunc_ownH rfl (by omega) (gf := 66) (lb := #[.pointer (some ⟨eb, 0, none⟩)]) rfl trivial (enters_of Tryz.func66 (by kernel_rfl) rfl)
    (valK_stops h hs hl hsl _ (by omega) b1) (fun h k => Kq.trans h k) ?hKb (Below.refl _ _) (fun _ => rfl)
    (fun p X => AVK w (p.map (·.1)) X) (fun _ _ _ => False) hI0 (fun _ _ _ _ _ hs _ _ => hs) ?h0
    (fun x a' X => ∃ b5, a' = { tmps := #[.slice none 0 0, .func (.func 66) #[] #[.pointer (some ⟨eb, 0, none⟩)], .pointer (some ⟨w.heap.size, 0, none⟩), undef, .slice none 0 0, .pointer (some ⟨b5, 0, none⟩), .func (.func 66) #[] #[.pointer (some ⟨eb, 0, none⟩)], .agg #[.string x.1.1, x.1.2], undef, undef, undef, undef, undef], defers := [] } ∧ X.heap[b5]? = some (.cells #[.string x.1.1, x.1.2] 76 (0, 0)) ∧ w1.heap.size ≤ b5) ?hAx ?assign ?body ?done ?stop
  case hKb =>
    intro X l o o' hl ho _ _
    exact ⟨belowK_b (w := w1) (by omega) X l o o' hl ho (by assumption) (by assumption), World.putObj_heap_other (by omega), World.putObj_heap_other (by omega)⟩
  case h0 => exact ⟨⟨_, x1, World.ownsRow_nil _ _ _ _⟩, b1, by omega⟩
  case hAx =>
    rintro x a' _ X X' row ⟨b5, h1, h2, h3⟩ hg hr
    refine ⟨b5, h1, (hg.block b5 (Array.getElem?_eq_some_iff.1 h2).1 (fun e => ?_)).trans h2, h3⟩
    obtain ⟨-, o, h4, h5⟩ := hr b5 e.symm
    rw [h2] at h4
    cases h4
    simp [Obj.isCells] at h5
  case assign =>
    intro l0 pre x X K hI hK
    obtain ⟨⟨f, u⟩, hx⟩ := x
    obtain ⟨xa, xn, xc, hxv⟩ := hsl _ hx
    simp only at hxv
    subst hxv
    have HK := hidi hK
    have HI := hidi hI
    clear hK hI
    gi_wp2
    have hb : Below X.heap.size X (X.alloc (.cells #[.string f, .slice xa xn xc] 76)) := (Below.refl X.heap.size X).alloc (Nat.le_refl _) _
    have hs2 : w.heap.size + 1 ≤ X.heap.size := HI.out.sz
    refine HK.out _ _ ⟨hb.size, fun k o _ hk _ => (hb.block k (Array.getElem?_eq_some_iff.1 hk).1).trans hk⟩ (Kq.below hb (by omega) (by omega) (by omega)) ?_ ⟨X.heap.size, rfl, heap_alloc_new _ _, by omega⟩
    exact own_below' (s := pre) hI0 HI.out hb
  case body =>
    rintro l0 pre x a' X hl0 - HI0 ⟨b5, rfl, hb5, hb5l⟩ hlen
    obtain ⟨⟨f, u⟩, hx⟩ := x
    obtain ⟨xa, xn, xc, hxv⟩ := hsl _ hx
    simp only at hxv
    subst hxv
    simp only at hb5
    obtain ⟨v0, hv0, hrow⟩ := HI0.ex
    have c0 := box_cells hv0 0 v0 rfl
    have d0 := box_cells hb5 0 (.string f) rfl
    have d1 := box_cells hb5 1 (.slice xa xn xc) rfl
    have hs2 : w.heap.size + 1 ≤ X.heap.size := HI0.sz
    have bA : Below X.heap.size X (X.alloc (.cells #[.string f, .slice xa xn xc] 76)) := (Below.refl X.heap.size X).alloc (Nat.le_refl _) _
    have hrow1 := own_below hrow bA
    have hcs : ∀ (j : Nat) (u : Value), (pcs (f, .slice xa xn xc))[j]? = some u → (X.alloc (.cells #[.string f, .slice xa xn xc] 76)).cell? ((⟨X.heap.size, 0, none⟩ : Addr).add j) = some u := fun j u hu => by
      rw [addr_at]
      exact box_cells (heap_alloc_new X _) j u (by simpa [pcs] using hu)
    have hn1 : (X.alloc (.cells #[.string f, .slice xa xn xc] 76)).heap[w.heap.size]? = some (.cells #[v0] 69 (0, 0)) := later_at hv0 bA
    have hk0 : (pre.map (·.1)).length ≤ 900000 := by rw [List.length_map]; omega
    obtain ⟨k, hk⟩ : ∃ k, k = (pre.map (·.1)).length := ⟨_, rfl⟩
    rw [← hk] at hrow1 hk0
    have HB := hidi (And.intro HI0 (And.intro hn1 (And.intro hk (And.intro bA hb5))))
    clear HI0 hv0 hn1 hk bA hrow hb5
    gi_wp2_with (gi_at_builtin; refine wpListIn_append_own _ rfl _ _ 69 rfl w.heap.size 76 i0 _ 2 40 Tryz.underlying69 hi hz0 hz1 hz2 rfl (by decide) v0 k _ rfl hrow1 ⟨X.heap.size, 0, none⟩ 1 1 (pcs (f, .slice xa xn xc)) rfl rfl hcs (by simp [pcs, Value.oneCell']) (by unfold maxLen; omega) (by omega) (by first | omega | (rw [size_alloc]; omega)) ?_; intro v' w5 hown' hgrow _; obtain ⟨a1, c1, hv1⟩ := own_sl hown'; subst hv1; have hn0 : w5.heap[w.heap.size]? = some (.cells #[v0] 69 (0, 0)) := (hgrow.block _ (by have := (Array.getElem?_eq_some_iff.1 HB.out.2.1).1; exact this) (fun e => by obtain ⟨cu, hcu⟩ := own_lt hrow1 e.symm; rw [HB.out.2.1] at hcu; simp at hcu)).trans HB.out.2.1; have c1' := box_cells hn0 0 v0 rfl; have f1' := box_frozen hn0 0; have HG := hidi (And.intro hown' (And.intro hgrow hn0)); clear hown' hgrow hn0)
    obtain ⟨hI, hn1, hk, bA, hb5⟩ := HB.out
    obtain ⟨hown, hgrow, hn0⟩ := HG.out
    have zA : (X.alloc (.cells #[.string f, .slice xa xn xc] 76)).heap.size = X.heap.size + 1 := size_alloc _ _
    have hty : ∀ j, v0.ownBlock = some j → w.heap.size ≤ j ∧ (j < X.heap.size → ∃ cu, X.heap[j]? = some (.cells cu 76 (0, 0))) := fun j e => by
      obtain ⟨cu, hcu⟩ := own_lt hrow1 e
      exact ⟨row_ge hrow1 e, fun hj => ⟨cu, by rw [← bA.block j hj]; exact hcu⟩⟩
    have hbl : ∀ j, j < X.heap.size → j ≠ w.heap.size → v0.ownBlock ≠ some j → (w5.setCell ⟨w.heap.size, 0, none⟩ (.slice a1 (k + 1) c1)).heap[j]? = X.heap[j]? := fun j hj h1 h2 => by
      rw [heap_set_ne _ h1]
      exact (hgrow.block j (by omega) (fun e => h2 e.symm)).trans (bA.block j hj)
    have hszw : X.heap.size ≤ (w5.setCell ⟨w.heap.size, 0, none⟩ (.slice a1 (k + 1) c1)).heap.size := by
      have h1 := (ch_set (w := w5) w.heap.size 0 (.slice a1 (k + 1) c1)).size
      have h2 := hgrow.size
      omega
    have hbe : Below w.heap.size X (w5.setCell ⟨w.heap.size, 0, none⟩ (.slice a1 (k + 1) c1)) := ⟨hgrow.os, hgrow.tape, hgrow.output, hszw, fun j hj => hbl j (by omega) (by omega) (fun e => by have := (hty j e).1; omega)⟩
    have hkq : Kq w.heap.size eb eb X (w5.setCell ⟨w.heap.size, 0, none⟩ (.slice a1 (k + 1) c1)) := ⟨hbe, hbe.block eb hebl, hbe.block eb hebl⟩
    refine ⟨⟨hszw, fun j o hB hj ho => (hbl j (Array.getElem?_eq_some_iff.1 hj).1 (by omega) (fun e => ?_)).trans hj⟩, hkq, ?_⟩
    · obtain ⟨cu, hcu⟩ := (hty j e).2 (Array.getElem?_eq_some_iff.1 hj).1
      rw [hj] at hcu
      cases hcu
      simp [Obj.isCells] at ho
    · show AVK w ((pre ++ [(⟨(f, .slice xa xn xc), hx⟩ : {x : PV // x ∈ L})]).map Subtype.val) _
      refine ⟨⟨.slice a1 (k + 1) c1, heap_set hn0 _, ?_⟩, hI.bel.trans hbe, by omega⟩
      have e1 : (pre ++ [(⟨(f, .slice xa xn xc), hx⟩ : {x : PV // x ∈ L})]).map Subtype.val = pre.map (·.1) ++ [(f, .slice xa xn xc)] := by simp
      have e2 : prow [(f, .slice xa xn xc)] = pcs (f, .slice xa xn xc) := by simp [prow]
      rw [e1, List.length_append, List.length_singleton, ← hk, prow_app, e2]
      exact own_ch hown (ch_set _ _ _) (fun g e q => by
        obtain ⟨cu, hcu⟩ := own_lt hown e
        rw [q, hn0] at hcu
        simp at hcu)
  case done =>
    rintro D ys X hD hys HI0 hK
    obtain ⟨v0, hv0, hrow⟩ := HI0.ex
    have hys' : ys.map Subtype.val = L := hys
    rw [show ys.map (fun x => x.1) = L from hys'] at hrow
    have c0 := box_cells hv0 0 v0 rfl
    have HI := hidi (And.intro HI0.bel (And.intro hrow hK))
    clear HI0 hv0 hrow
    gi_wp2
    refine ⟨by simp, .inl ⟨_, _, rfl, run_takeDeferred HI.out.2.2, ?_⟩⟩
    refine ⟨_, results_tmp rfl _ _ _, v0, rfl, ?_, ?_⟩
    · exact ownsRow_putObj HI.out.2.1 (.deferred none) HI.out.2.2 rfl
    · exact HI.out.1.trans (belowK_b (w := w1) (by omega) X D _ _ hD HI.out.2.2 rfl rfl)
  case stop =>
    rintro D c pre X _ _ h _
    exact h.elim
theorem collectK_any {B : Nat} {w : World} {eb : Nat} {v : Value} {L : List PV} (h : w.ownsRow B 76 2 v L.length (prow L)) (hs : w.heap[eb]? = some (.cells #[v] 69)) (hl : L.length ≤ 900000) (hsl : ∀ x ∈ L, ShK x.2) :
    Calls Tryz.prog 64 #[.func (.func 66) #[] #[.pointer (some ⟨eb, 0, none⟩)]] w fun e w' => ∃ v', e = .returned v' ∧ w'.ownsRow w.heap.size 76 2 v' L.length (prow L) ∧ Below w.heap.size w w' := by
  have A := hidi (appvK_any h hs hl hsl)
  clear h hs hl hsl
  go_enter Tryz.func64, Tryz.ntmps64
  go_wp2_with (go_at_call 87; refine A.out.mono ?_; rintro e w' ⟨v', rfl, h1⟩; have H1 := hidi h1; clear h1)
  go_ret
  exact ⟨v', rfl, H1.out⟩
theorem valuesK_any (v : Value) (hv : ∃ a n c, v = .slice a n c) (w : World) : Calls Tryz.prog 42 #[v] w fun e w' => e = .returned (.func (.func 66) #[] #[.pointer (some ⟨w.heap.size, 0, none⟩)]) ∧ w' = w.alloc (.cells #[v] 69) := by
  obtain ⟨a, n, c, rfl⟩ := hv
  go_enter Tryz.func42, Tryz.ntmps42
  go_wp2
  go_ret
  exact ⟨rfl, rfl⟩
end Go.Proofs.YtenaliaefbkbcaaGreat.Li
