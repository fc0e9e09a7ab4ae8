import Derived.Test.YtipagdhoeocjeaaGreatKjn
import Derived.Test.YtipagdhoeocjeaaGreatKjb
namespace Go.Proofs.YtipagdhoeocjeaaGreat.Li
open Go Go.RowKit
set_option linter.unusedSimpArgs false
set_option linter.unusedVariables false
/-- Every node leads on to one that has a message. -/
theorem leads {T : List Fn} (ok : ∀ f ∈ T, f.s.A.length ≤ 65536) (frm : ∀ f ∈ T, f.s.A = [] ∨ f.ms.isSome = true ∨ Fork T f.s.A) : ∀ (n : Nat) (f : Fn), f ∈ T → 65537 ≤ f.s.A.length + n → f.s.A ≠ [] → ∃ g ∈ T, f.s.A <+: g.s.A ∧ g.ms.isSome = true
  | 0, f, hf, hn, _ => by have := ok f hf; omega
  | n + 1, f, hf, hn, h0 => by
    rcases frm f hf with c | c | ⟨x, y, a, b, ne, ha, hb, pa, pb⟩
    · exact absurd c h0
    · exact ⟨f, hf, List.prefix_refl _, c⟩
    · have la := pa.length_le
      simp at la
      obtain ⟨g, hg, pg, hne⟩ := leads ok frm n a ha (by omega) (fun c => by rw [c] at la; simp at la)
      exact ⟨g, hg, ((List.prefix_append _ _).trans pa).trans pg, hne⟩
/-- What two filters have in common. -/
def lcp (F G : List ByteArray) : List ByteArray := F.take (alk F G)
theorem alk_ge : ∀ {C F G : List ByteArray}, C <+: F → C <+: G → C.length ≤ alk F G
  | [], _, _, _, _ => Nat.zero_le _
  | c :: C, [], _, h, _ => by have := h.length_le; simp at this
  | c :: C, _ :: _, [], _, h => by have := h.length_le; simp at this
  | c :: C, f :: F, g :: G, h1, h2 => by
    obtain ⟨s, e1⟩ := h1
    obtain ⟨t, e2⟩ := h2
    rw [List.cons_append] at e1 e2
    injection e1 with a1 a2
    injection e2 with b1 b2
    have := alk_ge (C := C) (F := F) (G := G) ⟨s, a2⟩ ⟨t, b2⟩
    unfold alk
    rw [if_pos (a1.symm.trans b1)]
    simp
    omega
theorem lcp_self (F : List ByteArray) : lcp F F = F := by
  unfold lcp
  rw [alk_pre (List.prefix_refl F), List.take_length]
theorem lcp_pre (F G : List ByteArray) : lcp F G <+: F ∧ lcp F G <+: G := by
  refine ⟨List.take_prefix _ _, ?_⟩
  unfold lcp
  rw [alk_take F G]
  exact List.take_prefix _ _
theorem pre_lcp {C F G : List ByteArray} (h1 : C <+: F) (h2 : C <+: G) : C <+: lcp F G := by
  have h3 := alk_ge h1 h2
  refine prefix_le h1 (lcp_pre F G).1 ?_
  unfold lcp
  rw [List.length_take]
  have := h1.length_le
  omega
theorem lcp_fork {A F G : List ByteArray} {x y : ByteArray} (h1 : (A ++ [x]) <+: F) (h2 : (A ++ [y]) <+: G) (ne : x ≠ y) : lcp F G = A := by
  have pA := pre_lcp ((List.prefix_append A [x]).trans h1) ((List.prefix_append A [y]).trans h2)
  obtain ⟨p1, p2⟩ := lcp_pre F G
  by_cases c : (lcp F G).length ≤ A.length
  · obtain ⟨t, e⟩ := pA
    have : t = [] := by
      have := congrArg List.length e
      rw [List.length_append] at this
      exact List.length_eq_zero_iff.1 (by omega)
    rw [← e, this, List.append_nil]
  · have q1 : (A ++ [x]) <+: lcp F G := prefix_le h1 p1 (by simp; omega)
    have q2 : (A ++ [y]) <+: lcp F G := prefix_le h2 p2 (by simp; omega)
    have := prefix_le q1 q2 (by simp)
    obtain ⟨t, e⟩ := this
    have h3 := congrArg List.length e
    simp at h3
    rw [h3, List.append_nil] at e
    have := List.append_cancel_left e
    injection this with this
    exact absurd this ne
variable {w : World} {tb r : Nat} {nf nn : Int} {T : List Fn}
theorem meet_node (h : TM w tb r nf nn T) {f g : Fn} (hf : f ∈ T) (hg : g ∈ T) {A : List ByteArray} (hA : A = lcp f.s.A g.s.A) : ∀ (n : Nat) (d : Fn), d ∈ T → d.s.A <+: A → A.length ≤ d.s.A.length + n → ∃ e ∈ T, e.s.A = A
  | 0, d, hd, p, hn => ⟨d, hd, by
    obtain ⟨t, e⟩ := p
    have := congrArg List.length e
    rw [List.length_append] at this
    have : t = [] := List.length_eq_zero_iff.1 (by omega)
    rw [← e, this, List.append_nil]⟩
  | n + 1, d, hd, p, hn => by
    obtain ⟨t, e⟩ := p
    cases t with
    | nil => exact ⟨d, hd, by rw [← e, List.append_nil]⟩
    | cons z t =>
      obtain ⟨p1, p2⟩ := lcp_pre f.s.A g.s.A
      rw [← hA] at p1 p2
      obtain ⟨s1, e1⟩ := p1
      obtain ⟨s2, e2⟩ := p2
      rw [← e, List.append_assoc] at e1 e2
      obtain ⟨q, hq, ka, kp⟩ := atk_rest h hd hf (x := z) (rs := t ++ s1) (by rw [← e1]; simp)
      obtain ⟨q', hq', ka', kp'⟩ := atk_rest h hd hg (x := z) (rs := t ++ s2) (by rw [← e2]; simp)
      have := h.inv.atk ka ka'
      rw [← this] at kp'
      have lt := ka.2.1.lt (h.inv.le q.s ka.1).1
      exact meet_node h hf hg hA n q hq (by rw [hA]; exact pre_lcp kp kp') (by omega)
/-- WHICH NODES ARE THERE. -/
theorem nodes_iff (h : TM w tb r nf nn T) (fx : FormX T []) (A : List ByteArray) : (∃ f ∈ T, f.s.A = A) ↔ A = [] ∨ ∃ f ∈ T, ∃ g ∈ T, f.ms.isSome = true ∧ g.ms.isSome = true ∧ A = lcp f.s.A g.s.A := by
  have frm : ∀ f ∈ T, f.s.A = [] ∨ f.ms.isSome = true ∨ Fork T f.s.A := fun f hf => by
    rcases fx f hf with c | c | c | c
    · exact .inl c
    · exact .inr (.inl c)
    · exact .inr (.inr c)
    · exact .inl (List.prefix_nil.1 c)
  obtain ⟨rf, hrf, r0, _⟩ := h.rt
  constructor
  · rintro ⟨f, hf, rfl⟩
    rcases frm f hf with c | c | ⟨x, y, a, b, ne, ha, hb, pa, pb⟩
    · exact .inl c
    · exact .inr ⟨f, hf, f, hf, c, c, (lcp_self _).symm⟩
    · have nz : ∀ {z : ByteArray} {a : Fn}, (f.s.A ++ [z]) <+: a.s.A → a.s.A ≠ [] := fun p c => by
        have := p.length_le
        rw [c] at this
        simp at this
      obtain ⟨a', ha', p1, n1⟩ := leads (fun f hf => (h.ok f hf).2) frm 65537 a ha (by omega) (nz pa)
      obtain ⟨b', hb', p2, n2⟩ := leads (fun f hf => (h.ok f hf).2) frm 65537 b hb (by omega) (nz pb)
      exact .inr ⟨a', ha', b', hb', n1, n2, (lcp_fork (pa.trans p1) (pb.trans p2) ne).symm⟩
  · rintro (rfl | ⟨f, hf, g, hg, _, _, rfl⟩)
    · exact ⟨rf, hrf, r0⟩
    · exact meet_node h hf hg rfl _ rf hrf (by rw [r0]; exact List.nil_prefix) (Nat.le_add_left _ _)
/-- HOW MANY NODES ARE THERE. -/
theorem nodes_len (h : TM w tb r nf nn T) {X : List (List ByteArray)} (hn : X.Nodup) (hX : ∀ A, A ∈ X ↔ ∃ f ∈ T, f.s.A = A) : T.length = X.length := by
  have nd : (T.map (fun f => f.s.A)).Nodup := by
    have := h.inv.dis
    rw [List.pairwise_map] at this
    exact List.pairwise_map.2 this
  have mem : ∀ A, A ∈ T.map (fun f => f.s.A) ↔ A ∈ X := fun A => by
    rw [hX, List.mem_map]
  have h1 := nodup_le _ X nd (fun A hA => (mem A).1 hA)
  have h2 := nodup_le X _ hn (fun A hA => (mem A).2 hA)
  rw [List.length_map] at h1 h2
  omega
end Go.Proofs.YtipagdhoeocjeaaGreat.Li
namespace Go.Proofs.YtipagdhoeocjeaaGreat.Li
open Go Go.RowKit
set_option linter.unusedSimpArgs false
set_option linter.unusedVariables false
abbrev HeldM : Type := List ByteArray → Msg → Prop
def Rig (m : Msg) : Prop := tcode m.t = 0 ∧ 0 ≤ m.q ∧ m.q ≤ 2
instance (m : Msg) : Decidable (Rig m) := by unfold Rig; infer_instance
/-- What is held after a put. -/
def stepM (E : HeldM) (m : Msg) : HeldM := fun F z => if Rig m then (F = levels m.t ∧ z = m) ∨ (F ≠ levels m.t ∧ E F z) else E F z
def holdM (l : List Msg) : HeldM := l.foldl stepM (fun _ _ => False)
/-- What Put leaves, whatever it is given. -/
structure PutA (w w' : World) (tb r P : Nat) (T : List Fn) (m : Msg) : Prop where
  ex : ∃ T' nf', TS w' tb r (P + 1) nf' T' ∧ (∀ F z, HasM T' F z ↔ stepM (HasM T) m F z) ∧ ∀ j, isT tb T' j → isT tb T j ∨ w.heap.size ≤ j
  ch : Ch (isT tb T) w w'
theorem put_any {w : World} {tb r P : Nat} {nf : Int} {T : List Fn} {m : Msg} {v : Value} (h : TS w tb r P nf T) (hP : P < 100000) (hx : m.xs.length ≤ 60000) (hv : ∀ w', Ch (isT tb T) w w' → PR w' v m.xs) :
    Calls Tryz.prog 9 #[ptr tb, m.val v] w fun e w' => ∃ (o : Bool) (c : Int), e = .returned (.tuple #[.bool o, .int .i64 c]) ∧ PutA w w' tb r P T m := by
  have more : ∀ {w' : World}, Below w.heap.size w w' → ¬ Rig m → PutA w w' tb r P T m := fun {w'} hb hn => by
    have h' := h.below hb
    refine ⟨⟨T, nf, ⟨h'.tm, h'.n0, by have := h'.nP; omega, h'.cnt, h'.one, h'.frm, h'.cn, h'.msk⟩, fun F z => ?_, fun j c => .inl c⟩, Below.ch hb⟩
    unfold stepM
    rw [if_neg hn]
  obtain ⟨a, c, e, -⟩ := (hv w (Ch.refl _ _)).sl
  by_cases hf : tcode m.t = 0
  · by_cases hq : 0 ≤ m.q ∧ m.q ≤ 2
    · refine (put_right h ⟨hf, rfl, hq, hx, tcode_zero hf⟩ hP hv).mono ?_
      rintro e w' ⟨o, rfl, pr⟩
      obtain ⟨T', nf', t1, t2, t3⟩ := pr.ex
      refine ⟨o, 0, rfl, ⟨⟨T', nf', t1, fun F z => ?_, t3⟩, pr.ch⟩⟩
      unfold stepM
      rw [if_pos ⟨hf, hq⟩]
      exact t2 F z
    · rw [e]
      refine (put_quality hf (by omega)).mono ?_
      rintro e w' ⟨rfl, hb⟩
      exact ⟨false, 91, rfl, more hb (fun c => hq c.2)⟩
  · rw [e]
    refine (put_topic hf).mono ?_
    rintro e w' ⟨rfl, hb⟩
    exact ⟨false, 90, rfl, more hb (fun c => hf c.1)⟩
/-- A list of messages, as it lies in memory. -/
structure MsIn (w : World) (v : Value) (l : List Ml) : Prop where
  ex : ∃ a n cap, v = .slice a n cap ∧ n = l.length ∧ n ≤ cap ∧ (l ≠ [] → ∃ g o, a = some ⟨g, o, none⟩ ∧ g < w.heap.size ∧ ∀ k s, l[k]? = some s → w.cell? ⟨g, o + k * 4, none⟩ = some (.string s.1.t) ∧ w.cell? ⟨g, o + k * 4 + 1, none⟩ = some s.2 ∧ w.cell? ⟨g, o + k * 4 + 2, none⟩ = some (.int .i64 s.1.q) ∧ w.cell? ⟨g, o + k * 4 + 3, none⟩ = some (.bool s.1.r))
  pr : ∀ s ∈ l, PR w s.2 s.1.xs
theorem MsIn.below {w w' : World} {v : Value} {l : List Ml} (h : MsIn w v l) (hb : Below w.heap.size w w') : MsIn w' v l := by
  obtain ⟨a, n, cap, h1, h2, h3, h4⟩ := h.ex
  refine ⟨⟨a, n, cap, h1, h2, h3, fun q => ?_⟩, fun s hs => (h.pr s hs).below hb⟩
  obtain ⟨g, o, e, hg, hc⟩ := h4 q
  refine ⟨g, o, e, Nat.lt_of_lt_of_le hg hb.size, fun k s hk => ?_⟩
  rw [hb.cell hg, hb.cell hg, hb.cell hg, hb.cell hg]
  exact hc k s hk
/-- A trie that was laid. -/
structure LdR (w w' : World) (tb r : Nat) (P : Nat) (E : HeldM) : Prop where
  ex : ∃ T nf, TS w' tb r P nf T ∧ (∀ F z, HasM T F z ↔ E F z) ∧ ∀ j, isT tb T j → w.heap.size ≤ j
  be : Below w.heap.size w w'
theorem LdR.put {w w1 : World} {tb r P : Nat} {E : HeldM} {m : Msg} {v : Value} (h : LdR w w1 tb r P E) (w1' : World) (hb : Below w1.heap.size w1 w1') (hP : P < 100000) (hx : m.xs.length ≤ 60000) (hv : ∀ w', Below w.heap.size w w' → PR w' v m.xs) :
    Calls Tryz.prog 9 #[ptr tb, m.val v] w1' fun e w' => ∃ (o : Bool) (c : Int), e = .returned (.tuple #[.bool o, .int .i64 c]) ∧ LdR w w' tb r (P + 1) (stepM E m) := by
  obtain ⟨⟨T, nf, t1, t2, t3⟩, be⟩ := h
  have b1 := be.trans (hb.mono be.size)
  have bch : ∀ {w'}, Ch (isT tb T) w1' w' → Below w.heap.size w w' := fun {w'} ch => ⟨ch.os.trans b1.os, ch.tape.trans b1.tape, ch.output.trans b1.output, Nat.le_trans b1.size ch.size, fun k hk => (ch.block k (Nat.lt_of_lt_of_le hk b1.size) (fun c => by have := t3 k c; omega)).trans (b1.block k hk)⟩
  refine (put_any (t1.below hb) hP hx (fun w' hc => hv w' (bch hc))).mono ?_
  rintro e w' ⟨o, c, rfl, ⟨T', nf', u1, u2, u3⟩, ch⟩
  refine ⟨o, c, rfl, ⟨T', nf', u1, fun F z => (u2 F z).trans ?_, fun j c => ?_⟩, bch ch⟩
  · unfold stepM
    rw [t2 F z]
  · rcases u3 j c with c | c
    · exact t3 j c
    · have := b1.size
      omega
theorem LdR.bound {w w1 : World} {tb r P : Nat} {E : HeldM} (h : LdR w w1 tb r P E) (hP : P < 100000) : Calls Tryz.prog 10 #[ptr tb] w1 fun e w' => e = .returned (.bool true) ∧ w' = w1 := by
  obtain ⟨⟨T, nf, t1, t2, t3⟩, be⟩ := h
  exact bound_any t1 hP
theorem hold_next {l : List Msg} {k : Nat} {s : Msg} (h : l[k]? = some s) : holdM (l.take (k + 1)) = stepM (holdM (l.take k)) s := by
  unfold holdM
  rw [List.take_add_one, h, List.foldl_append]
  rfl
set_option maxRecDepth 100000 in
set_option maxHeartbeats 4000000 in
/-- LAID: all that a list asks for is put. -/
theorem laid_any {w : World} {v : Value} {l : List Ml} (h : MsIn w v l) (hl : l.length ≤ 1000) (hx : ∀ s ∈ l, s.1.xs.length ≤ 60000) :
    Calls Tryz.prog 7 #[v] w fun e w' => ∃ tb r, e = .returned (.tuple #[ptr tb, .bool true]) ∧ LdR w w' tb r l.length (holdM (l.map (·.1))) := by
  obtain ⟨a, n, cap, rfl, hn, hc, hrow⟩ := h.ex
  have HN := hidi (show n = l.length ∧ n ≤ cap ∧ l.length ≤ 1000 from ⟨hn, hc, hl⟩)
  have HR := hidi hrow
  have HX := hidi (fun s (hs : s ∈ l) => And.intro (hx s hs) (h.pr s hs))
  have NW := hidi (fun w => new_any w)
  unfold ptr at *
  clear h hn hc hl hrow hx
  go_enter Tryz.func7, Tryz.ntmps7
  go_upto_region 5 with (go_at_call 23; refine (NW.out _).mono ?_; rintro e w0 ⟨tb, r, T0, rfl, t1, t2, t3, t4⟩; have L0 : Hid (LdR w w0 tb r 0 (holdM ((l.map (·.1)).take 0))) := ⟨⟨T0, 0, t1, fun F z => ⟨fun c => (t2 F z c).elim, fun c => c.elim⟩, t3⟩, t4⟩; clear t1 t2 t3 t4 NW)
  go_wp2_with fail
  go_loopg [5, 6] n (fun gg s5 s6 wx => ∃ k : Nat, k ≤ n ∧ gg = n - k ∧ s5 = .bool true ∧ s6 = .int .i64 k ∧ Hid (LdR w wx tb r k (holdM ((l.map (·.1)).take k))))
  case atStart => exact ⟨0, Nat.zero_le _, rfl, rfl, rfl, L0⟩
  case round =>
    obtain ⟨k, hk, rfl, rfl, rfl, LK⟩ := hrel
    by_cases hlt : k < n
    · have hlt' : (k : Int) < n := by omega
      obtain ⟨s, hs⟩ : ∃ s, l[k]? = some s := ⟨_, List.getElem?_eq_getElem (by have := HN.out.1; omega)⟩
      obtain ⟨g, o, rfl, hg, hcells⟩ := HR.out (fun e => by subst e; simp at hs)
      obtain ⟨y1, y2, y3, y4⟩ := hcells k s hs
      obtain ⟨hsx, hpr⟩ := HX.out s (List.mem_of_getElem? hs)
      obtain ⟨m, sv⟩ := s
      obtain ⟨pa, pc, hpv, -⟩ := hpr.sl
      have hpv : sv = .slice pa m.xs.length pc := hpv
      subst hpv
      obtain ⟨px, hpx⟩ : ∃ px, px = m.xs.length := ⟨_, rfl⟩
      have x1 : wr.cell? ⟨g, o + k * 4, none⟩ = some (.string m.t) := by rw [LK.out.be.cell (by exact hg)]; exact y1
      have x2 : wr.cell? ⟨g, o + k * 4 + 1, none⟩ = some (.slice pa px pc) := by rw [LK.out.be.cell (by exact hg), hpx]; exact y2
      have x3 : wr.cell? ⟨g, o + k * 4 + 2, none⟩ = some (.int .i64 m.q) := by rw [LK.out.be.cell (by exact hg)]; exact y3
      have x4 : wr.cell? ⟨g, o + k * 4 + 3, none⟩ = some (.bool m.r) := by rw [LK.out.be.cell (by exact hg)]; exact y4
      have hw : IntKind.i64.wrap ((k : Int) + 1) = (k : Int) + 1 := by rw [IntKind.wrap_i64]; have := HN.out; omega
      have hcap := HN.out.2.1
      have PU := hidi (fun (w1 : World) (hb : Below wr.heap.size wr w1) => LK.out.put (m := m) (v := .slice pa px pc) w1 hb (by have := HN.out; omega) hsx (fun w' hb' => by rw [hpx]; exact hpr.below hb'))
      have HS := hidi (hold_next (l := l.map (·.1)) (k := k) (s := m) (by rw [List.getElem?_map, hs]; rfl))
      unfold ptr Msg.val Msg.cs at PU
      clear y1 y2 y3 y4 hcells hs hg hpr hsx hpx
      go_upto_region 8 with fail
      go_wp2_with (first
        | (go_at_call 9; refine (PU.out _ (Below.refl wr.heap.size wr)).mono ?_; rintro e w2 ⟨oo, cc, rfl, ld⟩; have LD := hidi ld; have BD := hidi (ld.bound (by have := HN.out; omega)); clear ld; unfold ptr at BD)
        | (go_at_call 10; refine BD.out.mono ?_; rintro e w' ⟨rfl, rfl⟩))
      all_goals go_roundg (n - (k + 1))
      all_goals first
        | omega
        | exact ⟨k + 1, by omega, rfl, rfl, rfl, by show LdR _ _ _ _ _ _; rw [HS.out]; exact LD.out⟩
    · have hlt' : ¬ (k : Int) < n := by omega
      obtain rfl : k = n := by omega
      go_wp2_with fail
      go_ret2
      refine ⟨tb, rfl, r, ?_⟩
      have := LK.out
      have e := HN.out.1
      rw [List.take_of_length_le (by rw [List.length_map]; omega), e] at this
      exact this
end Go.Proofs.YtipagdhoeocjeaaGreat.Li
