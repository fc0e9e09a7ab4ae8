import Derived.Test.YtenaliaefbkbcaaGreatUa
import Derived.Test.YtenaliaefbkbcaaGreatVb
import Derived.Test.YtenaliaefbkbcaaGreatCbd
import Derived.Test.YtenaliaefbkbcaaGreatSrt
import Derived.Shelf.SlSortCmp.WholeK
namespace Go.Proofs.YtenaliaefbkbcaaGreat.Li
open Go Go.RowKit Go.Shelf Go.Sort
set_option linter.unusedSimpArgs false
set_option linter.unusedVariables false
/-! ### Filters in topic's order -/
instance : Inhabited Fl := ⟨⟨⟨#[]⟩, [], .slice none 0 0⟩⟩
def clip (x : ByteArray) : ByteArray := if x.size ≤ 1000000 then x else ⟨#[]⟩
theorem clip_le (x : ByteArray) : (clip x).size ≤ 1000000 := by
  unfold clip
  split
  · assumption
  · exact Nat.zero_le _
theorem clip_eq {x : ByteArray} (h : x.size ≤ 1000000) : clip x = x := if_pos h
def vsl : Value → Value
  | .slice a n c => .slice a n c
  | _ => .slice none 0 0
theorem vsl_sl (v : Value) : ∃ a n c, vsl v = .slice a n c := by cases v <;> exact ⟨_, _, _, rfl⟩
theorem vsl_eq {v : Value} (h : ShK v) : vsl v = v := by
  obtain ⟨a, n, c, rfl⟩ := h
  rfl
def OkF (x : Fl) : Prop := x.f.size ≤ 1000000 ∧ ShK x.v
def encF (x : Fl) : List Value := [.string (clip x.f), vsl x.v]
theorem encF_one (x : Fl) (v : Value) (hv : v ∈ encF x) : v.oneCell' = true := by
  unfold encF at hv
  simp only [List.mem_cons, List.not_mem_nil, or_false] at hv
  rcases hv with rfl | rfl
  · rfl
  · obtain ⟨a, n, c, e⟩ := vsl_sl x.v
    rw [e]
    rfl
def cfF (x y : Fl) : Int := cmpB (clip x.f) (clip y.f)
theorem encF_eq {x : Fl} (h : OkF x) : encF x = pcs (fpv x) := by unfold encF pcs fpv; rw [clip_eq h.1, vsl_eq h.2]
theorem swoF : Go.Sort.SWO (ltOf cfF) := by
  refine ⟨fun x => by unfold ltOf cfF; rw [cmpB_self]; rfl, fun x y z h k => ?_, fun x y z h k => ?_⟩
  · skip
    unfold ltOf cfF at *
    have h' := of_decide_eq_true h
    have k' := of_decide_eq_true k
    have t := cmpB_trans (a := clip x.f) (b := clip y.f) (c := clip z.f) (by omega) (by omega)
    apply decide_eq_true
    by_cases e : cmpB (clip x.f) (clip z.f) = 0
    · have e' := cmpB_zero e
      rw [e'] at h'
      have := cmpB_flip (clip z.f) (clip y.f)
      omega
    · omega
  · skip
    unfold ltOf cfF at *
    have h' := of_decide_eq_false h
    have k' := of_decide_eq_false k
    have f1 := cmpB_flip (clip x.f) (clip y.f)
    have f2 := cmpB_flip (clip y.f) (clip z.f)
    have f3 := cmpB_flip (clip x.f) (clip z.f)
    have t := cmpB_trans (a := clip z.f) (b := clip y.f) (c := clip x.f) (by omega) (by omega)
    apply decide_eq_false
    omega
set_option maxHeartbeats 1000000 in
theorem byFilter_any (x y : ByteArray) (u v : Value) (hx : x.size ≤ 1000000) (hy : y.size ≤ 1000000) (hu : ShK u) (hv : ShK v) (W : World) : Calls Tryz.prog 43 #[.agg #[.string x, u], .agg #[.string y, v]] W fun e w' => e = .returned (.int .i64 (cmpB x y)) ∧ ∃ q os', w' = Go.Sort.grow (W.drewN q) os' := by
  have hcon := fun W' => compare_dr x y hx hy W'
  change ∀ W', Calls Tryz.prog 67 _ _ (fun e w' => e = .returned (.int .i64 (cmpB x y)) ∧ _) at hcon
  generalize cmpB x y = r at hcon ⊢
  obtain ⟨a, n, c, rfl⟩ := hu
  obtain ⟨a', n', c', rfl⟩ := hv
  clear hx hy
  go_enter Tryz.func43, Tryz.ntmps43
  go_wp2_with (go_at_call 67; refine (hcon _).mono ?_; rintro e w' ⟨rfl, q, rfl⟩)
  go_ret
  exact ⟨rfl, q, _, by rw [Go.Sort.alloc_eq_grow, Go.Sort.alloc_eq_grow, Go.Sort.grow_grow]; rfl⟩
theorem cmpLaysF (blk off size : Nat) (w : World) : CmpLays Tryz.prog 43 #[] encF 2 cfF blk off size w :=
  fun m os dk hs x y => byFilter_any (clip x.f) (clip y.f) (vsl x.v) (vsl y.v) (clip_le _) (clip_le _) (vsl_sl _) (vsl_sl _) _
theorem flatF (d : List Fl) (h : ∀ x ∈ d, OkF x) : (flatK encF 2 d.toArray).toList = prow (d.map fpv) := by
  apply List.ext_getElem
  · simp [prow_len]
  · intro t h1 h2
    have ht : t < d.length * 2 := by simpa using h1
    have hi : t / 2 < d.length := by omega
    have e0 : d.toArray[t / 2]! = d[t / 2] := by simp [hi]
    have g := get_flatK encF 2 d.toArray t (by simpa using ht)
    rw [getElem!_pos _ t (by simpa using ht), e0, encF_eq (h _ (List.getElem_mem hi))] at g
    have a := prow_get (d.map fpv) (t / 2) (fpv d[t / 2]) (by rw [List.getElem?_map, List.getElem?_eq_getElem hi]; rfl)
    rw [Array.getElem_toList, g]
    rw [List.getElem?_eq_some_iff] at a
    rcases Nat.mod_two_eq_zero_or_one t with q | q
    · obtain ⟨_, a1⟩ := a.1
      have e : 2 * (t / 2) = t := by omega
      simp only [e] at a1
      rw [a1, q]
      rfl
    · have a2 := a.2
      rw [List.getElem?_eq_some_iff] at a2
      obtain ⟨_, a1⟩ := a2
      have e : 2 * (t / 2) + 1 = t := by omega
      simp only [e] at a1
      rw [a1, q]
      rfl
theorem flatF' (d : Array Fl) (h : ∀ x ∈ d.toList, OkF x) : (flatK encF 2 d).toList = prow (d.toList.map fpv) := by
  have := flatF d.toList h
  simpa using this
/-- The row of asks, in another order. -/
theorem sortWF_old (w : World) (g m k : Nat) (ys : Array Fl) (os : Array Obj) (hk : k < w.heap.size) (hg : k ≠ g) : (sortWorldK encF 2 w g 0 m ys os).heap[k]? = w.heap[k]? := by
  have hs : (putRowK encF 2 (Go.Sort.ahead w m) g 0 ys).heap.size = w.heap.size := by simp [putRowK, Go.Sort.putRow, Go.Sort.mapBlock, Go.Sort.ahead]
  unfold sortWorldK
  rw [Go.Sort.heap_grow_old _ _ (by rw [hs]; exact hk)]
  show (w.heap.modify g _)[k]? = _
  rw [Array.getElem?_modify, if_neg (Ne.symm hg)]
theorem own_sortedF {w : World} {B g cap m : Nat} {xs : List Fl} {ys : Array Fl} {os : Array Obj} (ho : w.ownsRow B 76 2 (.slice (some ⟨g, 0, none⟩) xs.length cap) xs.length (prow (xs.map fpv))) (hl : ys.size = xs.length) (hy : ∀ x ∈ ys.toList, OkF x) :
    (sortWorldK encF 2 w g 0 m ys os).ownsRow B 76 2 (.slice (some ⟨g, 0, none⟩) xs.length cap) xs.length (prow (ys.toList.map fpv)) ∧ Ch (fun j => j = g) w (sortWorldK encF 2 w g 0 m ys os) := by
  rcases ho with ⟨h1, ⟨h2, -⟩ | ⟨g', cap', cur, hv', hb, hg, hc1, hc2, hc3, hc4⟩⟩
  · cases h2
  simp only [Value.slice.injEq, Option.some.injEq, Addr.mk.injEq] at hv'
  obtain ⟨⟨rfl, -, -⟩, -, rfl⟩ := hv'
  have hgl : g < w.heap.size := (Array.getElem?_eq_some_iff.1 hg).1
  have hs : (putRowK encF 2 (Go.Sort.ahead w m) g 0 ys).heap.size = w.heap.size := by simp [putRowK, Go.Sort.putRow, Go.Sort.mapBlock, Go.Sort.ahead]
  refine ⟨⟨by rw [prow_len, List.length_map]; simp [hl], .inr ⟨g, cap, Go.Sort.putCells id 0 (flatK encF 2 ys) cur, rfl, hb, ?_, hc1, hc2, ?_, ?_⟩⟩, ⟨rfl, rfl, rfl, ?_, ?_⟩⟩
  · unfold sortWorldK
    rw [Go.Sort.heap_grow_old _ _ (by rw [hs]; exact hgl)]
    show (w.heap.modify g _)[g]? = _
    rw [Array.getElem?_modify, if_pos rfl, hg]
    rfl
  · simpa [Go.Sort.putCells] using hc3
  · rw [← flatF' ys hy]
    apply List.ext_getElem
    · simp [Go.Sort.putCells, hl]
      omega
    · intro i q1 q2
      have hi : i < ys.size * 2 := by simpa using q2
      have : i < (flatK encF 2 ys).size := by simpa using hi
      simp [Go.Sort.putCells, this]
      rw [if_pos hi, getElem!_pos _ i this]
  · unfold sortWorldK
    rw [Go.Sort.size_grow, hs]
    omega
  · intro k hk hn
    exact sortWF_old w g m k ys os hk hn
theorem holds_rowF {w : World} {B g cap : Nat} {xs : List Fl} (ho : w.ownsRow B 76 2 (.slice (some ⟨g, 0, none⟩) xs.length cap) xs.length (prow (xs.map fpv))) (hx : ∀ x ∈ xs, OkF x) : HoldsK encF 2 w g 0 xs.toArray ∧ g < w.heap.size := by
  rcases ho with ⟨h1, ⟨h2, -⟩ | ⟨g', cap', cur, hv', hb, hg, hc1, hc2, hc3, hc4⟩⟩
  · cases h2
  simp only [Value.slice.injEq, Option.some.injEq, Addr.mk.injEq] at hv'
  obtain ⟨⟨rfl, -, -⟩, -, rfl⟩ := hv'
  refine ⟨fun j hj => ?_, (Array.getElem?_eq_some_iff.1 hg).1⟩
  have hj' : j < xs.length * 2 := by simpa using hj
  have e1 : (flatK encF 2 xs.toArray)[j]! = (prow (xs.map fpv))[j]'(by rw [prow_len, List.length_map]; exact hj') := by
    rw [getElem!_pos _ j hj, ← Array.getElem_toList]
    simp only [flatF xs hx]
  have e3 : cur[j]? = some ((prow (xs.map fpv))[j]'(by rw [prow_len, List.length_map]; exact hj')) := by
    have := congrArg (fun l => l[j]?) hc4
    simp only [List.getElem?_take, if_pos hj', List.getElem?_eq_getElem (show j < (prow (xs.map fpv)).length by rw [prow_len, List.length_map]; exact hj')] at this
    simpa using this
  rw [e1, Nat.zero_add]
  refine ⟨?_, ?_⟩
  · simp [World.cell?, hg, e3]
  · simp [World.frozen?, hg]
set_option maxRecDepth 100000 in
set_option maxHeartbeats 2000000 in
theorem insF_none (p : Option Addr) (cap : Nat) (fv : Value) (w : World) : Calls Tryz.prog 112 #[.slice p 0 cap, .int .i64 0, .int .i64 0, fv] w fun e w' => e = .returned (.tuple #[]) ∧ w' = w := by
  go_enter Tryz.func112, Tryz.ntmps112
  go_wp2
  refine wp_loop_rounds 1 ?_
  rw [rounds_succ]
  go_wp2
  go_end0
  exact ⟨rfl, rfl⟩
set_option maxRecDepth 100000 in
set_option maxHeartbeats 2000000 in
theorem pdqF_none (p : Option Addr) (cap : Nat) (lim : Int) (fv : Value) (w : World) : Calls Tryz.prog 88 #[.slice p 0 cap, .int .i64 0, .int .i64 0, .int .i64 lim, fv] w fun e w' => e = .returned (.tuple #[]) ∧ w' = w := by
  go_enter Tryz.func88, Tryz.ntmps88
  go_wp2
  refine wp_loop_rounds 1 ?_
  rw [rounds_succ]
  go_wp2_with (go_at_call 112; refine (insF_none _ _ _ _).mono ?_; rintro e w' ⟨rfl, rfl⟩)
  (try simp only [Exit.inBlock, Exit.then]); refine bodyPost_ret (results_none rfl _ _ _) rfl ?_
  exact ⟨rfl, rfl⟩
theorem lenF_none (w : World) : Calls Tryz.prog 81 #[.int .u64 0] w fun e w' => e = .returned (.int .i64 (Lib.bitLen 0 : Nat)) ∧ w' = w :=
  Any.bits_Len (SlLaysF0.n15.bits (P := Tryz.prog) (ρ := Tryz.sff_ren) { Tryz.sff with }) 0 w (by omega) (by omega)
set_option maxHeartbeats 2000000 in
theorem sortF_none (p : Option Addr) (cap : Nat) (fv : Value) (w : World) : Calls Tryz.prog 65 #[.slice p 0 cap, fv] w fun e w' => e = .returned (.tuple #[]) ∧ w' = w := by
  have hl := lenF_none w
  go_enter Tryz.func65, Tryz.ntmps65
  go_wp2_with (first | (go_at_call 81; refine hl.mono ?_; rintro e w' ⟨rfl, rfl⟩) | (go_at_call 88; refine (pdqF_none _ _ _ _ _).mono ?_; rintro e w' ⟨rfl, rfl⟩))
  go_end0
  exact ⟨rfl, rfl⟩
theorem sortF_any (xs : List Fl) (v : Value) (w : World) (B : Nat) (ho : w.ownsRow B 76 2 v xs.length (prow (xs.map fpv))) (hl : xs.length ≤ 1000000) (hx : ∀ x ∈ xs, OkF x) :
    Calls Tryz.prog 65 #[v, .func (.func 43) #[] #[]] w fun e w' => e = .returned (.tuple #[]) ∧ ∃ ys, ys.Perm xs ∧ ByK ys ∧ w'.ownsRow B 76 2 v ys.length (prow (ys.map fpv)) ∧ Ch (fun j => v.ownBlock = some j) w w' := by
  by_cases h0 : xs = []
  · subst h0
    obtain ⟨a, c, rfl⟩ : ∃ a c, v = .slice a 0 c := by
      rcases ho with ⟨-, ⟨h2, -⟩ | ⟨g', cap', cur, hv', -⟩⟩
      · exact ⟨_, _, h2⟩
      · exact ⟨_, _, hv'⟩
    refine (sortF_none a c (.func (.func 43) #[] #[]) w).mono ?_
    rintro e w' ⟨rfl, rfl⟩
    exact ⟨rfl, [], List.Perm.refl _, List.Pairwise.nil, ho, Ch.refl _ _⟩
  · have hp : 0 < xs.length := List.length_pos_iff.2 h0
    obtain ⟨g, c, rfl⟩ : ∃ g c, v = .slice (some ⟨g, 0, none⟩) xs.length c := by
      rcases ho with ⟨-, ⟨-, h2⟩ | ⟨g', cap', cur, hv', -⟩⟩
      · omega
      · exact ⟨_, _, hv'⟩
    obtain ⟨hH, hg⟩ := holds_rowF ho hx
    have h := AnyQ.slices_SortFunc (P := Tryz.prog) (ρ := Tryz.sff_ren) Tryz.sff 2 Tryz.isAgg76 Tryz.sizeOf76 encF (fun _ => rfl) encF_one cfF swoF 43 #[] g 0 c xs.toArray w (enters_of Tryz.func43 (by kernel_rfl) rfl) (cmpLaysF g 0 _ w) hH hg (by simp; omega)
    have e1 : xs.toArray.size = xs.length := by simp
    rw [e1] at h
    refine Calls.mono (f := 65) h ?_
    rintro e w' ⟨rfl, d', n, os, ⟨hsz, -, hperm⟩, hS, rfl⟩
    have e2 : d'.extract 0 xs.length = d' := by rw [← e1, ← hsz]; exact Array.extract_size
    have e3 : xs.toArray.extract 0 xs.length = xs.toArray := by rw [← e1]; exact Array.extract_size
    rw [e2, e3] at hperm
    have hperm' : d'.toList.Perm xs := by simpa using hperm
    have hle : ∀ x ∈ d'.toList, OkF x := fun x hx' => hx x (hperm'.mem_iff.1 hx')
    have hd : d'.size = xs.length := by rw [hsz, e1]
    have hSd : ByK d'.toList := by
      unfold ByK
      rw [List.pairwise_iff_getElem]
      intro i j hi hj hij
      have hi' : i < d'.size := by simpa using hi
      have hj' : j < d'.size := by simpa using hj
      have := hS i j (Nat.zero_le _) hij (by omega)
      rw [getElem!_pos d' j hj', getElem!_pos d' i hi'] at this
      unfold ltOf cfF at this
      have h1 := of_decide_eq_false this
      rw [clip_eq (hle _ (by simp)).1, clip_eq (hle _ (by simp)).1] at h1
      have := cmpB_flip d'[i].f d'[j].f
      simp only [Array.getElem_toList]
      omega
    have := own_sortedF (m := n) (os := os) (ys := d') ho hd hle
    refine ⟨rfl, d'.toList, hperm', hSd, ?_, this.2.mono (fun j _ e => by rw [e]; rfl)⟩
    rw [show d'.toList.length = xs.length by simpa using hd]
    exact this.1
end Go.Proofs.YtenaliaefbkbcaaGreat.Li
namespace Go.Proofs.YtenaliaefbkbcaaGreat.Li
open Go Go.RowKit Go.Shelf
set_option linter.unusedSimpArgs false
set_option linter.unusedVariables false
theorem shE_of (es : List En) : ∀ x ∈ es.map epv, ShE x.2 := fun x hx => by
  obtain ⟨y, -, rfl⟩ := List.mem_map.1 hx
  exact ⟨y.2, rfl⟩
/-- The entries of a filter in order, in a row of their own. -/
theorem sorted60_any {B : Nat} {w : World} {eb : Nat} {v : Value} {es : List En} (h : w.ownsRow B 44 2 v (es.map epv).length (prow (es.map epv))) (hs : w.heap[eb]? = some (.cells #[v] 41)) (hl : es.length ≤ 900000) :
    Calls Tryz.prog 60 #[.func (.func 86) #[] #[.pointer (some ⟨eb, 0, none⟩)], .func (.func 57) #[] #[]] w fun e w' => ∃ v' ys, e = .returned v' ∧ ys.Perm es ∧ ByF ys ∧ w'.ownsRow w.heap.size 44 2 v' ys.length (arow ys) ∧ Below w.heap.size w w' := by
  have C := hidi (collectE_any h hs (by simpa using hl) (shE_of es))
  have SA := hidi (fun (v' : Value) (w1 : World) (ho : w1.ownsRow w.heap.size 44 2 v' es.length (arow es)) => sortA_any es v' w1 w.heap.size ho (by omega))
  clear h hs
  go_enter Tryz.func60, Tryz.ntmps60
  go_wp2_with fail
  go_must (go_at_call 85)
  refine C.out.mono ?_
  rintro e w1 ⟨v', rfl, h1, h2⟩
  rw [← arow_prow, List.length_map] at h1
  have S1 := hidi (SA.out v' w1 h1)
  have H2 := hidi (And.intro h2 (fun j (hj : v'.ownBlock = some j) => row_ge h1 hj))
  obtain ⟨a, c, rfl⟩ := own_sl h1
  clear h1 h2 C SA
  go_wp2_with (go_at_call 56; refine S1.out.mono ?_; rintro e w2 ⟨rfl, ys, g1, g2, g3, g4⟩; have G := hidi (And.intro g1 (And.intro g2 (And.intro g3 g4))); clear g1 g2 g3 g4)
  go_ret
  obtain ⟨g1, g2, g3, g4⟩ := G.out
  exact ⟨_, ys, rfl, g1, g2, g3, H2.out.1.trans ⟨g4.os, g4.tape, g4.output, g4.size, fun k hk => g4.block k (Nat.lt_of_lt_of_le hk H2.out.1.size) (fun q => by have := H2.out.2 k q; omega)⟩⟩
theorem byKey36_any {B : Nat} {w : World} {fb o : Nat} {v : Value} {es : List En} (hp : w.cell? ⟨fb, o + 1, none⟩ = some v) (h : w.ownsRow B 44 2 v (es.map epv).length (prow (es.map epv))) (hl : es.length ≤ 900000) :
    Calls Tryz.prog 36 #[.pointer (some ⟨fb, o, none⟩)] w fun e w' => ∃ v' ys, e = .returned v' ∧ ys.Perm es ∧ ByF ys ∧ w'.ownsRow w.heap.size 44 2 v' ys.length (arow ys) ∧ Below w.heap.size w w' := by
  have hv : ∃ a n c, v = .slice a n c := by obtain ⟨a, c, e⟩ := own_sl h; exact ⟨a, _, c, e⟩
  have VA := hidi (valuesE_any v hv w)
  have b1 : Below w.heap.size w (w.alloc (.cells #[v] 41)) := (Below.refl _ _).alloc (Nat.le_refl _) _
  have SO := hidi (sorted60_any (own_below h b1) (heap_alloc_new w (.cells #[v] 41)) hl)
  have HB := hidi b1
  obtain ⟨a, n, c, rfl⟩ := hv
  clear h b1
  go_enter Tryz.func36, Tryz.ntmps36
  go_wp2_with (first | (go_at_call 61; refine VA.out.mono ?_; rintro e w' ⟨rfl, he⟩; obtain rfl := he; clear VA) | (go_at_call 60; refine SO.out.mono ?_; rintro e w2 ⟨v', ys, rfl, h1, h2, h3, h4⟩; have G := hidi (And.intro h1 (And.intro h2 (And.intro h3 h4))); clear h1 h2 h3 h4))
  go_ret
  obtain ⟨g1, g2, g3, g4⟩ := G.out
  refine ⟨v', ys, rfl, g1, g2, row_base g3 (fun g hg => ?_), HB.out.trans (g4.mono HB.out.size)⟩
  have := row_ge g3 hg
  rw [size_alloc] at this
  omega
/-- Of: who is at a filter. -/
theorem of_nofilter {B : Nat} {w : World} {sb : Nat} {v : Value} {L : List Fl} (h : SL B w sb v L) (f : ByteArray) (hL : L.length ≤ 900000) (hf : pos ((L.map Fl.p).map (·.1)) f = none) :
    Calls Tryz.prog 14 #[.pointer (some ⟨sb, 0, none⟩), .string f] w fun r w' => r = .returned (.slice none 0 0) ∧ w' = w := by
  have PL := hidi (place29_any (box_cells h.at_ 0 v rfl) h.own (by simp; omega) f)
  have hix : ix (L.map fpv) f = none := by rw [ix_pos, List.map_map]; rw [List.map_map] at hf; exact hf
  rw [ixI_none hix] at PL
  clear h hL hf hix
  go_enter Tryz.func14, Tryz.ntmps14
  go_wp2_with (go_at_call 29; refine PL.out.mono ?_; rintro e w' ⟨rfl, he⟩; obtain rfl := he.symm; clear he)
  go_ret
  exact ⟨rfl, rfl⟩
theorem of_filter {B : Nat} {w : World} {sb : Nat} {v : Value} {L : List Fl} (h : SL B w sb v L) (f : ByteArray) (hL : L.length ≤ 900000) (hM : ∀ x ∈ L, x.es.length ≤ 900000) {i : Nat} {x : Fl} (hf : pos ((L.map Fl.p).map (·.1)) f = some i) (hx : L[i]? = some x) :
    Calls Tryz.prog 14 #[.pointer (some ⟨sb, 0, none⟩), .string f] w fun r w' => ∃ v' ys, r = .returned v' ∧ ys.Perm x.es ∧ ByF ys ∧ w'.ownsRow w.heap.size 44 2 v' ys.length (arow ys) ∧ Below w.heap.size w w' := by
  have PL := hidi (place29_any (box_cells h.at_ 0 v rfl) h.own (by simp; omega) f)
  have hix : ix (L.map fpv) f = some i := by rw [ix_pos, List.map_map]; rw [List.map_map] at hf; exact hf
  rw [ixI_some hix] at PL
  obtain ⟨F, c, fc, hv, hF, hc, hle, -⟩ := h.row hx
  have BK := hidi (byKey36_any (o := i * 2) (box_cells hF (i * 2 + 1) _ hc) (h.es x (List.mem_of_getElem? hx)) (hM x (List.mem_of_getElem? hx)))
  have cs0 : w.cell? ⟨sb, 0, none⟩ = some (.slice (some ⟨F, 0, none⟩) L.length c) := by have := box_cells h.at_ 0 v rfl; rw [this, hv]
  have hil : i < L.length := (List.getElem?_eq_some_iff.1 hx).1
  obtain ⟨n, hn⟩ : ∃ n, n = L.length := ⟨_, rfl⟩
  rw [← hn] at cs0
  have hi2 : (i : Int) < (n : Int) := by omega
  have hi3 : (0 : Int) ≤ (i : Int) := by omega
  have hi4 : ¬ (i : Int) < 0 := by omega
  clear h hL hf hix hM hx hv hF hc hle hil hn
  go_enter Tryz.func14, Tryz.ntmps14
  go_wp2_with (first | (go_at_call 29; refine PL.out.mono ?_; rintro e w' ⟨rfl, he⟩; obtain rfl := he.symm; clear he) | (go_at_call 36; refine BK.out.mono ?_; rintro e w2 ⟨v', ys, rfl, h1⟩; have G := hidi h1; clear h1))
  go_ret
  exact ⟨v', ys, rfl, G.out⟩
theorem of_any {B : Nat} {w : World} {sb : Nat} {v : Value} {L : List Fl} (h : SL B w sb v L) (hw : Wf (L.map Fl.p)) (f : ByteArray) (hL : L.length ≤ 900000) (hM : ∀ x ∈ L, x.es.length ≤ 900000) :
    Calls Tryz.prog 14 #[.pointer (some ⟨sb, 0, none⟩), .string f] w fun r w' => ∃ v' ys, r = .returned v' ∧ (∀ k q, (k, q) ∈ ys ↔ Has (L.map Fl.p) f k q) ∧ ys.length ≤ 900000 ∧ w'.ownsRow w.heap.size 44 2 v' ys.length (arow ys) ∧ Below w.heap.size w w' := by
  cases e : pos ((L.map Fl.p).map (·.1)) f with
  | none =>
    refine (of_nofilter h f hL e).mono ?_
    rintro r w' ⟨rfl, rfl⟩
    refine ⟨_, [], rfl, fun k q => ?_, by simp, World.ownsRow_nil _ _ _ _, Below.refl _ _⟩
    constructor
    · intro z; cases z
    · rintro ⟨es, z, -⟩
      exact absurd (List.mem_map.2 ⟨_, z, rfl⟩) (pos_none.1 e)
  | some i =>
    obtain ⟨es, hi⟩ := pos_pair e
    have hi' := hi
    rw [List.getElem?_map] at hi
    obtain ⟨x, hx, hxp⟩ := Option.map_eq_some_iff.1 hi
    simp only [Fl.p, Prod.mk.injEq] at hxp
    refine (of_filter h f hL hM e hx).mono ?_
    rintro r w' ⟨v', ys, rfl, h1, h2, h3, h4⟩
    refine ⟨v', ys, rfl, fun k q => ?_, ?_, h3, h4⟩
    · rw [h1.mem_iff, hxp.2]
      constructor
      · intro z
        exact ⟨es, List.mem_of_getElem? hi', z⟩
      · rintro ⟨es', z1, z2⟩
        rw [nd_inj hw.nd z1 (List.mem_of_getElem? hi')] at z2
        exact z2
    · rw [h1.length_eq]
      exact hM x (List.mem_of_getElem? hx)
/-- The filters in order, in a row of their own. -/
theorem sorted41_any {B : Nat} {w : World} {eb : Nat} {v : Value} {L : List Fl} (h : w.ownsRow B 76 2 v (L.map fpv).length (prow (L.map fpv))) (hs : w.heap[eb]? = some (.cells #[v] 69)) (hl : L.length ≤ 900000) (hok : ∀ x ∈ L, OkF x) :
    Calls Tryz.prog 41 #[.func (.func 66) #[] #[.pointer (some ⟨eb, 0, none⟩)], .func (.func 43) #[] #[]] w fun e w' => ∃ v' M, e = .returned v' ∧ M.Perm L ∧ ByK M ∧ w'.ownsRow w.heap.size 76 2 v' M.length (prow (M.map fpv)) ∧ Below w.heap.size w w' := by
  have C := hidi (collectK_any h hs (by simpa using hl) (fun x hx => by obtain ⟨y, hy, rfl⟩ := List.mem_map.1 hx; exact (hok y hy).2))
  have SA := hidi (fun (v' : Value) (w1 : World) (ho : w1.ownsRow w.heap.size 76 2 v' L.length (prow (L.map fpv))) => sortF_any L v' w1 w.heap.size ho (by omega) hok)
  clear h hs
  go_enter Tryz.func41, Tryz.ntmps41
  go_wp2_with fail
  go_must (go_at_call 64)
  refine C.out.mono ?_
  rintro e w1 ⟨v', rfl, h1, h2⟩
  rw [List.length_map] at h1
  have S1 := hidi (SA.out v' w1 h1)
  have H2 := hidi (And.intro h2 (fun j (hj : v'.ownBlock = some j) => row_ge h1 hj))
  obtain ⟨a, c, rfl⟩ := own_sl h1
  clear h1 h2 C SA
  go_wp2_with (go_at_call 65; refine S1.out.mono ?_; rintro e w2 ⟨rfl, ys, g1, g2, g3, g4⟩; have G := hidi (And.intro g1 (And.intro g2 (And.intro g3 g4))); clear g1 g2 g3 g4)
  go_ret
  obtain ⟨g1, g2, g3, g4⟩ := G.out
  exact ⟨_, ys, rfl, g1, g2, g3, H2.out.1.trans ⟨g4.os, g4.tape, g4.output, g4.size, fun k hk => g4.block k (Nat.lt_of_lt_of_le hk H2.out.1.size) (fun q => by have := H2.out.2 k q; omega)⟩⟩
end Go.Proofs.YtenaliaefbkbcaaGreat.Li
namespace Go.Proofs.YtenaliaefbkbcaaGreat.Li
open Go Go.RowKit Go.Shelf
set_option linter.unusedSimpArgs false
set_option linter.unusedVariables false
theorem info55 : (Tryz.prog.info? 55).map (fun i => (i.zero, i.size, i.bytes)) = some (some (.agg #[.string ⟨#[]⟩, .string ⟨#[]⟩, .int .i64 0]), 3, 40) := by kernel_rfl
def rcs (x : Rw) : List Value := [.string x.1, .string x.2.1, .int .i64 x.2.2]
def rrow (R : List Rw) : List Value := R.flatMap rcs
theorem rrow_app (R S : List Rw) : rrow (R ++ S) = rrow R ++ rrow S := by simp [rrow]
/-- What rows has so far: its four boxes and its row. -/
structure RO (B ob wb eb nb : Nat) (R : List Rw) (X : World) : Prop where
  out : ∃ v, X.heap[ob]? = some (.cells #[v] 48 (0, 0)) ∧ X.ownsRow B 55 3 v R.length (rrow R)
  well : X.heap[wb]? = some (.cells #[.bool true] 4 (0, 0))
  ended : X.heap[eb]? = some (.cells #[.bool false] 4 (0, 0))
  most : X.heap[nb]? = some (.cells #[.int .i64 (-1)] 3 (0, 0))
  ne : wb ≠ eb
  ge : B ≤ ob ∧ B ≤ wb ∧ B ≤ eb ∧ B ≤ nb
def isR (X : World) (j : Nat) : Prop := ∃ c z, X.heap[j]? = some (.cells c 55 z)
structure KR (B ob eb : Nat) (X X' : World) : Prop where
  os : X'.os = X.os
  tape : X'.tape = X.tape
  output : X'.output = X.output
  size : X.heap.size ≤ X'.heap.size
  block : ∀ j, j < X.heap.size → (j < B ∨ (j ≠ ob ∧ j ≠ eb ∧ ¬ isR X j)) → X'.heap[j]? = X.heap[j]?
theorem KR.refl (B ob eb : Nat) (X : World) : KR B ob eb X X := ⟨rfl, rfl, rfl, Nat.le_refl _, fun _ _ _ => rfl⟩
theorem KR.trans {B ob eb : Nat} {X Y Z : World} (h : KR B ob eb X Y) (k : KR B ob eb Y Z) : KR B ob eb X Z :=
  ⟨k.os.trans h.os, k.tape.trans h.tape, k.output.trans h.output, Nat.le_trans h.size k.size, fun j hj hq => by
    have e := h.block j hj hq
    refine (k.block j (Nat.lt_of_lt_of_le hj h.size) ?_).trans e
    rcases hq with q | ⟨q1, q2, q3⟩
    · exact .inl q
    · exact .inr ⟨q1, q2, fun ⟨c, z, h1⟩ => q3 ⟨c, z, by rw [← e]; exact h1⟩⟩⟩
theorem KR.below {B ob eb : Nat} {X X' : World} (h : Below X.heap.size X X') : KR B ob eb X X' := ⟨h.os, h.tape, h.output, h.size, fun k hk _ => h.block k hk⟩
theorem KR.bel {B ob eb : Nat} {X X' : World} (h : KR B ob eb X X') (hB : B ≤ X.heap.size) : Below B X X' := ⟨h.os, h.tape, h.output, h.size, fun k hk => h.block k (by omega) (.inl hk)⟩
section
variable {B ob wb eb nb : Nat} {R : List Rw} {X X' : World}
theorem RO.below (h : RO B ob wb eb nb R X) (hb : Below X.heap.size X X') : RO B ob wb eb nb R X' := by
  obtain ⟨v, h1, h2⟩ := h.out
  exact ⟨⟨v, later_at h1 hb, own_below h2 hb⟩, later_at h.well hb, later_at h.ended hb, later_at h.most hb, h.ne, h.ge⟩
/-- A block of cells of another type stays. -/
theorem KR.cells (k : KR B ob eb X X') (h : RO B ob wb eb nb R X) {j t : Nat} {c : Array Value} {z : Nat × Nat} (hj : X.heap[j]? = some (.cells c t z)) (ht : t ≠ 48 ∧ t ≠ 4 ∧ t ≠ 55) : X'.heap[j]? = some (.cells c t z) := by
  refine (k.block j (Array.getElem?_eq_some_iff.1 hj).1 (.inr ⟨fun q => ?_, fun q => ?_, fun ⟨c', z', q⟩ => ?_⟩)).trans hj
  · obtain ⟨v, h1, -⟩ := h.out
    rw [q, h1] at hj
    cases hj
    exact ht.1 rfl
  · rw [q, h.ended] at hj
    cases hj
    exact ht.2.1 rfl
  · rw [hj] at q
    cases q
    exact ht.2.2 rfl
theorem KR.own (k : KR B ob eb X X') (h : RO B ob wb eb nb R X) {b t s n : Nat} {v : Value} {xs : List Value} (ho : X.ownsRow b t s v n xs) (ht : t ≠ 48 ∧ t ≠ 4 ∧ t ≠ 55) : X'.ownsRow b t s v n xs := by
  refine ⟨ho.1, ?_⟩
  rcases ho.2 with q | ⟨g, cap, cur, h1, h2, h3, h4⟩
  · exact .inl q
  · exact .inr ⟨g, cap, cur, h1, h2, k.cells h h3 ht, h4⟩
theorem KR.sl (k : KR B ob eb X X') (h : RO B ob wb eb nb R X) {b sb : Nat} {v : Value} {L : List Fl} (hs : SL b X sb v L) : SL b X' sb v L :=
  hs.keep (fun j ⟨c, t, z, h1, h2⟩ => (k.cells h h1 (by rcases h2 with rfl | rfl | rfl <;> decide)).trans h1.symm)
set_option maxRecDepth 100000 in
set_option maxHeartbeats 4000000 in
theorem rows1_any (h : RO B ob wb eb nb R X) (hl : R.length ≤ 900000) (hB : B ≤ X.heap.size) (f k : ByteArray) (q : Int) :
    Calls Tryz.prog 39 #[.string f, .agg #[.string k, .int .i64 q], .pointer (some ⟨eb, 0, none⟩), .pointer (some ⟨wb, 0, none⟩), .pointer (some ⟨ob, 0, none⟩), .pointer (some ⟨nb, 0, none⟩)] X fun e X' => e = .returned (.bool true) ∧ RO B ob wb eb nb (R ++ [(f, (k, q))]) X' ∧ KR B ob eb X X' := by
  obtain ⟨v, ho1, ho2⟩ := h.out
  obtain ⟨X1, hX1⟩ : ∃ X1, X1 = X.alloc (.cells #[.string k, .int .i64 q] 44) := ⟨_, rfl⟩
  have b1 : Below X.heap.size X X1 := by rw [hX1]; exact (Below.refl _ _).alloc (Nat.le_refl _) _
  have zX : X1.heap.size = X.heap.size + 1 := by rw [hX1]; exact size_alloc _ _
  have h1 := h.below b1
  have o1 : X1.heap[ob]? = some (.cells #[v] 48 (0, 0)) := later_at ho1 b1
  have e0 := box_cells h1.ended 0 (.bool false) rfl
  have e1 := box_cells h1.well 0 (.bool true) rfl
  have c0 := box_cells o1 0 v rfl
  have x1 : X1.heap[X.heap.size]? = some (.cells #[.string k, .int .i64 q] 44) := by rw [hX1]; exact heap_alloc_new _ _
  have d0 := box_cells x1 0 (.string k) rfl
  have d1 := box_cells x1 1 (.int .i64 q) rfl
  obtain ⟨g', cap', X2, hrun, hown, hch, hblk⟩ := app_gen (w := X1) (st := 48) (e := 55) (cs := #[.string f, .string k, .int .i64 q]) Tryz.underlying48 info55 rfl (by omega) (by omega) (own0 (own_below ho2 b1)) rfl (by simp [Value.oneCell']) (by omega)
  have hvb : ∀ g, v.ownBlock = some g → B ≤ g ∧ ∃ cu, X1.heap[g]? = some (.cells cu 55 (0, 0)) := fun g hg => ⟨row_ge ho2 hg, own_lt (own_below ho2 b1) hg⟩
  have nob : v.ownBlock ≠ some ob := fun q => by obtain ⟨-, cu, hcu⟩ := hvb ob q; rw [o1] at hcu; simp at hcu
  have neb : v.ownBlock ≠ some eb := fun q => by obtain ⟨-, cu, hcu⟩ := hvb eb q; rw [h1.ended] at hcu; simp at hcu
  have nwb : v.ownBlock ≠ some wb := fun q => by obtain ⟨-, cu, hcu⟩ := hvb wb q; rw [h1.well] at hcu; simp at hcu
  have nnb : v.ownBlock ≠ some nb := fun q => by obtain ⟨-, cu, hcu⟩ := hvb nb q; rw [h1.most] at hcu; simp at hcu
  have lt1 : ∀ {j c t z}, X1.heap[j]? = some (.cells c t z) → j < X1.heap.size := fun hj => (Array.getElem?_eq_some_iff.1 hj).1
  have p2 : X2.heap[ob]? = some (.cells #[v] 48 (0, 0)) := (hch.block ob (lt1 o1) nob).trans o1
  have q2 : X2.heap[eb]? = some (.cells #[.bool false] 4 (0, 0)) := (hch.block eb (lt1 h1.ended) neb).trans h1.ended
  have r2 : X2.heap[wb]? = some (.cells #[.bool true] 4 (0, 0)) := (hch.block wb (lt1 h1.well) nwb).trans h1.well
  have s2 : X2.heap[nb]? = some (.cells #[.int .i64 (-1)] 3 (0, 0)) := (hch.block nb (lt1 h1.most) nnb).trans h1.most
  obtain ⟨n1, hn1⟩ : ∃ n1, n1 = R.length := ⟨_, rfl⟩
  rw [← hn1] at hrun hown
  obtain ⟨X3, hX3⟩ : ∃ X3, X3 = X2.setCell ⟨ob, 0, none⟩ (.slice (some ⟨g', 0, none⟩) (n1 + 1) cap') := ⟨_, rfl⟩
  have neo : eb ≠ ob := fun z => by rw [z, p2] at q2; simp at q2
  have now : wb ≠ ob := fun z => by rw [z, p2] at r2; simp at r2
  have non : nb ≠ ob := fun z => by rw [z, p2] at s2; simp at s2
  have nen : nb ≠ eb := fun z => by rw [z, q2] at s2; simp at s2
  have p3 : X3.heap[ob]? = some (.cells #[.slice (some ⟨g', 0, none⟩) (n1 + 1) cap'] 48 (0, 0)) := by rw [hX3]; exact heap_set p2 _
  have q3 : X3.heap[eb]? = some (.cells #[.bool false] 4 (0, 0)) := by rw [hX3, heap_set_ne _ neo]; exact q2
  have r3 : X3.heap[wb]? = some (.cells #[.bool true] 4 (0, 0)) := by rw [hX3, heap_set_ne _ now]; exact r2
  have s3 : X3.heap[nb]? = some (.cells #[.int .i64 (-1)] 3 (0, 0)) := by rw [hX3, heap_set_ne _ non]; exact s2
  obtain ⟨X4, hX4⟩ : ∃ X4, X4 = X3.setCell ⟨eb, 0, none⟩ (.bool false) := ⟨_, rfl⟩
  have hgl : g' ≠ ob ∧ g' ≠ eb := by
    rcases hblk with z | z
    · exact ⟨fun y => nob (by rw [← y]; exact z), fun y => neb (by rw [← y]; exact z)⟩
    · have l1 := lt1 o1
      have l2 := lt1 h1.ended
      exact ⟨by omega, by omega⟩
  have hrow : X4.ownsRow B 55 3 (.slice (some ⟨g', 0, none⟩) (n1 + 1) cap') (n1 + 1) (rrow R ++ [.string f, .string k, .int .i64 q]) := by
    rw [hX4, hX3]
    refine row_base (own_ch (own_ch hown (ch_set ob 0 _) (fun g hg y => ?_)) (ch_set eb 0 _) (fun g hg y => ?_)) (fun g hg => ?_)
    · simp [Value.ownBlock] at hg
      exact hgl.1 (hg.trans y)
    · simp [Value.ownBlock] at hg
      exact hgl.2 (hg.trans y)
    · simp [Value.ownBlock] at hg
      rcases hblk with z | z
      · rw [← hg]; exact (hvb _ z).1
      · omega
  have FIN : RO B ob wb eb nb (R ++ [(f, (k, q))]) X4 ∧ KR B ob eb X X4 := by
    refine ⟨⟨⟨.slice (some ⟨g', 0, none⟩) (n1 + 1) cap', ?_, ?_⟩, ?_, ?_, ?_, h.ne, h.ge⟩, ?_⟩
    · rw [hX4, heap_set_ne _ (Ne.symm neo)]; exact p3
    · rw [rrow_app, List.length_append, ← hn1]
      simpa [rrow, rcs] using hrow
    · rw [hX4, heap_set_ne _ h.ne]; exact r3
    · rw [hX4]; exact heap_set q3 _
    · rw [hX4, heap_set_ne _ nen]; exact s3
    · have c4 : Ch (fun j => j = ob ∨ j = eb ∨ v.ownBlock = some j) X1 X4 := by
        rw [hX4, hX3]
        exact ((hch.mono (fun j _ y => .inr (.inr y))).trans (ch_set ob 0 _) (fun j _ y => .inl y)).trans (ch_set eb 0 _) (fun j _ y => .inr (.inl y))
      refine ⟨c4.os.trans b1.os, c4.tape.trans b1.tape, c4.output.trans b1.output, Nat.le_trans b1.size c4.size, fun j hj hq => (c4.block j (by omega) (fun y => ?_)).trans (b1.block j hj)⟩
      have hge := h.ge
      rcases hq with z | ⟨z1, z2, z3⟩
      · rcases y with y | y | y
        · omega
        · omega
        · have := (hvb j y).1; omega
      · rcases y with y | y | y
        · exact z1 y
        · exact z2 y
        · obtain ⟨-, cu, hcu⟩ := hvb j y
          rw [b1.block j hj] at hcu
          exact z3 ⟨cu, _, hcu⟩
  have HF := hidi FIN
  have c2 := box_cells p2 0 v rfl
  have cf2 := box_frozen p2 0
  have c3 := box_cells p3 0 (.slice (some ⟨g', 0, none⟩) (n1 + 1) cap') rfl
  have m3 := box_cells s3 0 (.int .i64 (-1)) rfl
  have q3c := box_cells q3 0 (.bool false) rfl
  have q3f := box_frozen q3 0
  have q4 : X4.cell? ⟨eb, 0, none⟩ = some (.bool false) := by rw [hX4]; exact cell_self q3c
  have hcmp : (((n1 : Int) + 1) == (-1 : Int)) = false := by
    have : ¬ ((n1 : Int) + 1) = -1 := by omega
    simpa using this
  have hcmp2 : (((n1 + 1 : Nat) : Int) == (-1 : Int)) = false := by
    have : ¬ ((n1 + 1 : Nat) : Int) = -1 := by omega
    simpa using this
  have HRUN := hidi hrun
  rw [hX3] at c3 m3 q3c q3f
  rw [hX4, hX3] at q4
  rw [hX4, hX3] at HF
  obtain ⟨a0, cc0, hv0⟩ := own_sl ho2
  rw [← hn1] at hv0
  subst hv0
  have HX1 := hidi hX1
  clear hX1
  clear hX4 hX3 FIN hrow hgl neo now non nen p3 q3 r3 s3 p2 q2 r2 s2 nob neb nwb nnb hvb hch hblk hown hrun o1 h1 ho1 ho2 h b1 x1 zX lt1 hl hB hn1
  go_enter Tryz.func39, Tryz.ntmps39
  go_upto_region 1 with fail
  rw [← HX1.out]
  go_wp2_with (at_builtin; refine Lib.wpList_append_run _ rfl (.tmp 10) (.tmp 14) 48 48 rfl _ _ rfl rfl _ X2 HRUN.out ?_)
  go_ret
  exact ⟨rfl, HF.out⟩
end
end Go.Proofs.YtenaliaefbkbcaaGreat.Li
