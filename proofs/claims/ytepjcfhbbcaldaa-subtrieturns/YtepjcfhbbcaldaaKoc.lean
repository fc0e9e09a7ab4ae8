import Derived.Test.YtepjcfhbbcaldaaKob
import Derived.Test.YtepjcfhbbcaldaaKnf
namespace Go.Proofs.Ytepjcfhbbcaldaa.Li
open Go Go.RowKit
set_option linter.unusedSimpArgs false
set_option linter.unusedVariables false
theorem own_max {w : World} {B e s n : Nat} {v : Value} {xs : List Value} (h : w.ownsRow B e s v n xs) : n ≤ 9223372036854775807 := by
  rcases h.2 with ⟨_, q⟩ | ⟨g, cap, cur, _, _, _, a, b, _⟩
  · omega
  · unfold maxLen at b; omega
/-- SAMESHAPE of what stands alike. -/
theorem sameShape_any {T U : List Fn} (tw : Twin T U) (bd : ∀ f ∈ T, f.s.m ≤ 65536 ∧ f.ne ≤ 100000) {w : World} {V : Nat → Prop} {f : Fn} {u : V3} (h : ShAt w V T f u) : f ∈ T → ∀ (w2 : World), Below w.heap.size w w2 → VC 0 w V → ∀ (V' : Nat → Prop) (g : Fn) (u' : V3), g ∈ U → f.s.A = g.s.A → VC 0 w2 V' → ShAt w2 V' U g u' →
    Calls Try.prog 23 #[agg3 u, agg3 u'] w2 fun e w' => e = .returned (.bool true) ∧ Below w2.heap.size w2 w' := by
  induction h with
  | mk f u L K E vs lv lV en eV es ks len kd kV sub ih =>
    intro hf w2 hb vc V' g u' hg e vc' sh'
    cases sh' with
    | mk _ _ L' K' E' vs' lv' lV' en' eV' es' ks' len' kd' kV' sub' =>
      obtain ⟨LL, kk⟩ := tw.kids hf hg e ks ks'
      have EE : E' = E := ks_uniq es'.ord es.ord (fun y => by rw [es'.mem, es.mem, tw.en f hf g hg e])
      have mm := tw.m f hf g hg e
      have edge : g.s.edge = f.s.edge := by unfold Nd.edge Nd.top; rw [e, mm]
      have vl : vs'.length = vs.length := by rw [len', len, ks'.len, ks.len, LL]
      obtain ⟨u1, u2, u3⟩ := u
      obtain ⟨p1, p2, p3⟩ := u'
      simp only at lv en kd lv' en' kd' lV eV kV lV' eV' kV'
      obtain ⟨k1, c1, rfl⟩ := own_sl kd
      obtain ⟨k2, c2, rfl⟩ := own_sl kd'
      obtain ⟨b1, b2⟩ := bd f hf
      have El : E.length ≤ 100000 := by rw [es.len]; exact b2
      subst EE
      rw [← mm, edge] at lv'
      rw [← tw.en f hf g hg e] at en'
      have kd2 := own_below kd hb
      rw [vl] at kd'
      obtain ⟨a1, d1, q1⟩ := own_sl lv
      obtain ⟨a2, d2, q2⟩ := own_sl lv'
      obtain ⟨a3, d3, q3⟩ := own_sl en
      obtain ⟨a4, d4, q4⟩ := own_sl en'
      unfold agg3
      simp only [vl]
      refine sameShape_walk (vs := vs) (us := vs') ⟨_, _, _, q1⟩ ⟨_, _, _, q2⟩ ⟨_, _, _, q3⟩ ⟨_, _, _, q4⟩ (fun w' hb' => sameT_any (own_below (own_below lv hb) hb') (own_below lv' hb') (by omega)) (fun w' hb' => ?_) kd2 kd' rfl vl.symm (own_max kd) (fun i v p hv hp w' hb' => ?_)
      · have x1 := own_below (own_below en hb) hb'
        have x2 := own_below en' hb'
        rw [eL_er] at x1 x2
        exact sameE_any (R := E'.map fun y => (y, (f.en y).getD 0)) (by simpa using x1) (by simpa using x2) (by simp; omega)
      · obtain ⟨q, hq⟩ : ∃ q, K[i]? = some q := ⟨_, List.getElem?_eq_getElem (by have := (List.getElem?_eq_some_iff.1 hv).1; omega)⟩
        obtain ⟨q', hq'⟩ : ∃ q', K'[i]? = some q' := ⟨_, List.getElem?_eq_getElem (by have := (List.getElem?_eq_some_iff.1 hp).1; omega)⟩
        obtain ⟨m1, m2, m3⟩ := kk i q q' hq hq'
        have blk : ∀ k, V' k → w'.heap[k]? = w2.heap[k]? := fun k hk => hb'.block k (vc'.lt hk)
        exact ih i q v hq hv m1 w' (hb.trans (hb'.mono hb.size)) vc V' q' p m2 m3 (vc'.keep blk) ((sub' i q' p hq' hp).keep blk (fun _ e => e))
variable {w w' : World} {tb m r tb' m' r' : Nat} {nf nf' nn nn' : Int} {T U : List Fn}
theorem ne_has (h : TM w tb m r nf nn T) (ok : ∀ F y z, HasE T F y z → okT y) (F : List ByteArray) : (∃ f ∈ T, f.s.A = F ∧ 0 < f.ne) ↔ ∃ y z, HasE T F y z := by
  constructor
  · rintro ⟨f, hf, rfl, h0⟩
    obtain ⟨y, oy, s⟩ := (h.nd f hf).ev.some_ h0
    cases e : f.en y with
    | none => rw [e] at s; cases s
    | some z => exact ⟨y, z, f, hf, rfl, e⟩
  · rintro ⟨y, z, f, hf, e1, e2⟩
    refine ⟨f, hf, e1, ?_⟩
    obtain ⟨K, k1, k2, k3⟩ := (h.nd f hf).ev.keys
    have := List.length_pos_of_mem ((k3 y).2 ⟨ok F y z ⟨f, hf, e1, e2⟩, by show ((f.en y).map _).isSome = true; rw [e2]; rfl⟩)
    omega
theorem nodes_has (h : TM w tb m r nf nn T) (ok : ∀ F y z, HasE T F y z → okT y) (fx : FormX T []) (A : List ByteArray) : (∃ f ∈ T, f.s.A = A) ↔ A = [] ∨ ∃ F G, (∃ y z, HasE T F y z) ∧ (∃ y z, HasE T G y z) ∧ A = lcp F G := by
  rw [nodes_iff h fx A]
  refine or_congr Iff.rfl ⟨?_, ?_⟩
  · rintro ⟨f, hf, g, hg, f0, g0, rfl⟩
    exact ⟨_, _, (ne_has h ok _).1 ⟨f, hf, rfl, f0⟩, (ne_has h ok _).1 ⟨g, hg, rfl, g0⟩, rfl⟩
  · rintro ⟨F, G, a, b, rfl⟩
    obtain ⟨f, hf, rfl, f0⟩ := (ne_has h ok F).2 a
    obtain ⟨g, hg, rfl, g0⟩ := (ne_has h ok G).2 b
    exact ⟨f, hf, g, hg, f0, g0, rfl⟩
theorem top_le {T U : List Fn} (iT : Inv (T.map Fn.s)) (iU : Inv (U.map Fn.s)) (nd : ∀ g ∈ U, ∃ f ∈ T, f.s.A = g.s.A) {f g : Fn} (hf : f ∈ T) (hg : g ∈ U) (e : f.s.A = g.s.A) (fm : 0 < f.s.m) (gm : 0 < g.s.m) : g.s.top ≤ f.s.top := by
  obtain ⟨d, hd, kd⟩ := iT.par f.s (List.mem_map_of_mem hf) fm
  obtain ⟨d', hd', kd'⟩ := iU.par g.s (List.mem_map_of_mem hg) gm
  obtain ⟨q', hq', rfl⟩ := List.mem_map.1 hd'
  obtain ⟨q, hq, eq⟩ := nd q' hq'
  refine Classical.byContradiction fun c => ?_
  have t1 := kd.2.1
  have t2 := kd'.2.1
  have p1 : d.A <+: f.s.A := kd.goes
  have p2 : q.s.A <+: f.s.A := by rw [eq, e]; exact kd'.goes
  have lt := kd'.lt (iU.le g.s (List.mem_map_of_mem hg)).1
  have p3 : d.A <+: q.s.A := prefix_le p1 p2 (by rw [eq]; omega)
  obtain ⟨x, hx, kx, px⟩ := iT.way q.s.A.length q.s (List.mem_map_of_mem hq) (Nat.le_refl _) d hd p3 (by rw [eq]; omega)
  have := iT.kid hx (List.mem_map_of_mem hf) kx kd (L := f.s.A) (.inl (px.trans p2)) (.inl (List.prefix_refl _))
  rw [this] at px
  have := px.length_le
  rw [e, eq] at this
  omega
/-- Two tries that hold the same stand alike. -/
theorem twin_of (hT : TM w tb m r nf nn T) (hU : TM w' tb' m' r' nf' nn' U) (oT : ∀ F y z, HasE T F y z → okT y) (fT : FormX T []) (fU : FormX U []) (e : ∀ F y z, HasE T F y z ↔ HasE U F y z) : Twin T U := by
  have oU : ∀ F y z, HasE U F y z → okT y := fun F y z h => oT F y z ((e F y z).2 h)
  have ex : ∀ F, (∃ y z, HasE T F y z) ↔ ∃ y z, HasE U F y z := fun F => ⟨fun ⟨y, z, h⟩ => ⟨y, z, (e F y z).1 h⟩, fun ⟨y, z, h⟩ => ⟨y, z, (e F y z).2 h⟩⟩
  have nd : ∀ A, (∃ f ∈ T, f.s.A = A) ↔ ∃ g ∈ U, g.s.A = A := fun A => by
    rw [nodes_has hT oT fT A, nodes_has hU oU fU A]
    refine or_congr Iff.rfl ⟨fun ⟨F, G, a, b, c⟩ => ⟨F, G, (ex F).1 a, (ex G).1 b, c⟩, fun ⟨F, G, a, b, c⟩ => ⟨F, G, (ex F).2 a, (ex G).2 b, c⟩⟩
  have n1 : ∀ f ∈ T, ∃ g ∈ U, g.s.A = f.s.A := fun f hf => (nd _).1 ⟨f, hf, rfl⟩
  have n2 : ∀ g ∈ U, ∃ f ∈ T, f.s.A = g.s.A := fun g hg => (nd _).2 ⟨g, hg, rfl⟩
  refine ⟨fun f hf => by obtain ⟨g, hg, q⟩ := n1 f hf; exact ⟨g, hg, q.symm⟩, n2, fun f hf g hg q => ?_, fun f hf g hg q => ?_, hU.inv, fun a ha b hb q => hT.same ha hb q, fun a ha b hb q => hU.same ha hb q⟩
  · obtain ⟨l1, l2⟩ := hT.inv.le f.s (List.mem_map_of_mem hf)
    obtain ⟨l3, l4⟩ := hU.inv.le g.s (List.mem_map_of_mem hg)
    by_cases c : f.s.A = []
    · rw [l2.1 c, l4.1 (q ▸ c)]
    · have fm : 0 < f.s.m := Nat.pos_of_ne_zero (fun z => c (l2.2 z))
      have gm : 0 < g.s.m := Nat.pos_of_ne_zero (fun z => c (q.trans (l4.2 z)))
      have a := top_le hT.inv hU.inv n2 hf hg q fm gm
      have b := top_le hU.inv hT.inv n1 hg hf q.symm gm fm
      have : f.s.top = g.s.top := by omega
      unfold Nd.top at this
      rw [q] at this l1
      omega
  · funext y
    have k : ∀ z, f.en y = some z ↔ g.en y = some z := fun z => by
      constructor
      · intro h
        obtain ⟨g', hg', a, b⟩ := (e f.s.A y z).1 ⟨f, hf, rfl, h⟩
        obtain rfl := hU.same hg' hg (a.trans q)
        exact b
      · intro h
        obtain ⟨f', hf', a, b⟩ := (e g.s.A y z).2 ⟨g, hg, rfl, h⟩
        obtain rfl := hT.same hf' hf (a.trans q.symm)
        exact b
    cases h : f.en y with
    | some z => exact ((k z).1 h).symm
    | none =>
      cases h' : g.en y with
      | none => rfl
      | some z => rw [(k z).2 h'] at h; cases h
theorem twin_len (hT : TM w tb m r nf nn T) (hU : TM w' tb' m' r' nf' nn' U) (tw : Twin T U) : T.length = U.length := by
  have nd : (U.map (fun f => f.s.A)).Nodup := by
    have := hU.inv.dis
    rw [List.pairwise_map] at this
    exact List.pairwise_map.2 this
  have := nodes_len hT nd (fun A => by
    rw [List.mem_map]
    constructor
    · rintro ⟨g, hg, rfl⟩
      exact tw.nd' g hg
    · rintro ⟨f, hf, rfl⟩
      obtain ⟨g, hg, q⟩ := tw.nd f hf
      exact ⟨g, hg, q.symm⟩)
  simpa using this
theorem twin_nf (hT : TM w tb m r nf nn T) (hU : TM w' tb' m' r' nf' nn' U) (oT : ∀ F y z, HasE T F y z → okT y) (e : ∀ F y z, HasE T F y z ↔ HasE U F y z) (c : CN T nf) (c' : CN U nf') : nf = nf' := by
  obtain ⟨Fs, a1, a2, a3⟩ := c
  obtain ⟨Gs, b1, b2, b3⟩ := c'
  have oU : ∀ F y z, HasE U F y z → okT y := fun F y z h => oT F y z ((e F y z).2 h)
  have := len_of a1 b1 (fun F => by
    rw [a2, b2, ne_has hT oT, ne_has hU oU]
    exact ⟨fun ⟨y, z, h⟩ => ⟨y, z, (e F y z).1 h⟩, fun ⟨y, z, h⟩ => ⟨y, z, (e F y z).2 h⟩⟩)
  omega
set_option maxRecDepth 100000 in
set_option maxHeartbeats 4000000 in
/-- SAME, of two tries that stand alike. -/
theorem same_any (hT : TM w tb m r nf nn T) (hU : TM w tb' m' r' nf nn U) (tw : Twin T U) (lT : T.length ≤ 900000) (lU : U.length ≤ 900000) (fT : ∀ f ∈ T, f.ne ≤ 100000) (fU : ∀ f ∈ U, f.ne ≤ 100000) :
    Calls Try.prog 10 #[ptr tb, ptr tb'] w fun e w' => e = .returned (.bool true) ∧ Below w.heap.size w w' := by
  have L1 := hidi (len_tm hT)
  have L2 := hidi (len_tm hU)
  have N1 := hidi (nodes_tm hT)
  have N2 := hidi (nodes_tm hU)
  have S1 := hidi (Shape_any hT lT fT)
  have S2 := hidi (fun (wx : World) (hb : Below w.heap.size w wx) => Shape_any (hU.below hb) lU fU)
  have SS := hidi (fun (wx wy : World) (f g : Fn) (u u' : V3) (V V' : Nat → Prop) (hf : f ∈ T) (hg : g ∈ U) (fA : f.s.A = []) (gA : g.s.A = []) (s1 : ShR w wx T f u V) (s2 : ShR wx wy U g u' V') => sameShape_any tw (fun f hf => ⟨by have := (hT.inv.le f.s (List.mem_map_of_mem hf)).1; have := (hT.ok f hf).2; omega, fT f hf⟩) s1.sh hf wy s2.be (fun k hk => ⟨Nat.zero_le _, (s1.vc k hk).2⟩) V' g u' hg (fA.trans gA.symm) (fun k hk => ⟨Nat.zero_le _, (s2.vc k hk).2⟩) s2.sh)
  unfold ptr agg3 at *
  clear hT hU tw lT lU fT fU
  go_enter Try.func10, Try.ntmps10
  go_wp2_with (first
    | (go_at_call 16; refine L1.out.mono ?_; rintro e w' ⟨rfl, he⟩; obtain rfl := he.symm; clear L1)
    | (go_at_call 16; refine L2.out.mono ?_; rintro e w' ⟨rfl, he⟩; obtain rfl := he.symm; clear L2)
    | (go_at_call 12; refine N1.out.mono ?_; rintro e w' ⟨rfl, he⟩; obtain rfl := he.symm; clear N1)
    | (go_at_call 12; refine N2.out.mono ?_; rintro e w' ⟨rfl, he⟩; obtain rfl := he.symm; clear N2)
    | (go_at_call 18; refine S1.out.mono ?_; rintro e w1 ⟨f, u, V, hf, fA, rfl, s1⟩; have S3 := hidi (S2.out w1 s1.be); have H1 := hidi (And.intro hf (And.intro fA s1)); clear hf fA s1 S1 S2)
    | (go_at_call 18; refine S3.out.mono ?_; rintro e w2 ⟨g, u', V', hg, gA, rfl, s2⟩; have S4 := hidi (SS.out w1 w2 f g u u' V V' H1.out.1 hg H1.out.2.1 gA H1.out.2.2 s2); have B2 := hidi (H1.out.2.2.be.trans (s2.be.mono H1.out.2.2.be.size)); clear hg gA s2 S3 SS)
    | (go_at_call 23; refine S4.out.mono ?_; rintro e w3 ⟨rfl, hb⟩; have B3 := hidi (B2.out.trans (hb.mono B2.out.size)); clear hb S4))
  go_ret
  exact ⟨rfl, B3.out⟩
end Go.Proofs.Ytepjcfhbbcaldaa.Li
