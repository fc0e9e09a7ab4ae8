import Derived.Test.YtepjcfhbbcaldaaKnr
namespace Go.Proofs.Ytepjcfhbbcaldaa.Li
open Go Go.RowKit Go.Shelf
set_option linter.unusedSimpArgs false
set_option linter.unusedVariables false
theorem own_blk {w w' : World} {B e s n : Nat} {v : Value} {xs : List Value} (h : w.ownsRow B e s v n xs) (hb : ∀ g, v.ownBlock = some g → w'.heap[g]? = w.heap[g]?) : w'.ownsRow B e s v n xs := by
  refine ⟨h.1, ?_⟩
  rcases h.2 with q | ⟨g, cap, cur, rfl, a, b, c⟩
  · exact .inl q
  · exact .inr ⟨g, cap, cur, rfl, a, (hb g rfl).trans b, c⟩
/-- What a shape's levels, entries and kids are. -/
abbrev V3 := Value × Value × Value
def shc (l : List V3) : List Value := l.flatMap fun u => [u.1, .bool false, u.2.1, u.2.2]
theorem shc_app (l k : List V3) : shc (l ++ k) = shc l ++ shc k := by simp [shc]
theorem shc_len (l : List V3) : (shc l).length = l.length * 4 := by
  induction l with
  | nil => rfl
  | cons a l ih => simp only [shc, List.flatMap_cons, List.length_append, List.length_cons, List.length_nil] at ih ⊢; omega
/-- THE SHAPE OF A NODE IN MEMORY, V its blocks. -/
inductive ShAt (w : World) (V : Nat → Prop) (T : List Fn) : Fn → V3 → Prop
  | mk (f : Fn) (u : V3) (L : List ByteArray) (K : List Fn) (E : List ByteArray) (vs : List V3)
      (lv : w.ownsRow 0 9 1 u.1 f.s.m (f.s.edge.map Value.string)) (lV : ∀ g, u.1.ownBlock = some g → V g)
      (en : w.ownsRow 0 31 2 u.2.1 E.length (prow (eL f.en E))) (eV : ∀ g, u.2.1.ownBlock = some g → V g)
      (es : KsOf (fun y => (f.en y).map (Value.int .i64)) f.ne E)
      (ks : KidsOf T f L K) (len : vs.length = K.length)
      (kd : w.ownsRow 0 49 4 u.2.2 vs.length (shc vs)) (kV : ∀ g, u.2.2.ownBlock = some g → V g)
      (sub : ∀ (i : Nat) (q : Fn) (v : V3), K[i]? = some q → vs[i]? = some v → ShAt w V T q v) : ShAt w V T f u
theorem ShAt.keep {w w' : World} {V V' : Nat → Prop} {T : List Fn} {f : Fn} {u : V3} (h : ShAt w V T f u) (hb : ∀ g, V g → w'.heap[g]? = w.heap[g]?) (hV : ∀ g, V g → V' g) : ShAt w' V' T f u := by
  induction h with
  | mk f u L K E vs lv lV en eV es ks len kd kV sub ih =>
    exact .mk f u L K E vs (own_blk lv (fun g e => hb g (lV g e))) (fun g e => hV g (lV g e)) (own_blk en (fun g e => hb g (eV g e))) (fun g e => hV g (eV g e)) es ks len (own_blk kd (fun g e => hb g (kV g e))) (fun g e => hV g (kV g e)) ih
/-- Rows of cells, from a block on. -/
def VC (n₀ : Nat) (w : World) (V : Nat → Prop) : Prop := ∀ k, V k → n₀ ≤ k ∧ ∃ cs t, w.heap[k]? = some (.cells cs t (0, 0))
theorem VC.lt {n₀ : Nat} {w : World} {V : Nat → Prop} (h : VC n₀ w V) {k : Nat} (hk : V k) : k < w.heap.size := by
  obtain ⟨_, cs, t, e⟩ := h k hk
  exact (Array.getElem?_eq_some_iff.1 e).1
theorem VC.keep {n₀ : Nat} {w w' : World} {V : Nat → Prop} (h : VC n₀ w V) (hb : ∀ k, V k → w'.heap[k]? = w.heap[k]?) : VC n₀ w' V := fun k hk => by
  obtain ⟨a, cs, t, e⟩ := h k hk
  exact ⟨a, cs, t, (hb k hk).trans e⟩
theorem clone_any {w : World} {lv : Value} {m : Nat} {L : List ByteArray} (R : w.ownsRow 0 9 1 lv m (L.map Value.string)) (hm : m ≤ 1000001) :
    Calls Try.prog 53 #[lv] w fun e w' => ∃ v', e = .returned v' ∧ w'.ownsRow w.heap.size 9 1 v' m (L.map Value.string) ∧ Below w.heap.size w w' := by
  rcases R.2 with ⟨e, e0⟩ | ⟨g, cap, cur, e, _⟩
  · subst e
    refine (Try.slices_Clone_string_nil 0 0 w).mono ?_
    rintro e w' ⟨rfl, rfl⟩
    exact ⟨_, rfl, row_base R (fun g hg => by simp [Value.ownBlock] at hg), Below.refl _ _⟩
  · subst e
    have := clone_row (k := 0) (n := m) R (by omega) hm cap
    rw [List.drop_zero, List.take_of_length_le (by have := R.1; simp at this; omega)] at this
    exact this
/-- What shape leaves. -/
structure ShR (w w' : World) (T : List Fn) (f : Fn) (u : V3) (V : Nat → Prop) : Prop where
  sh : ShAt w' V T f u
  vc : VC w.heap.size w' V
  be : Below w.heap.size w w'
/-- The state while the kids come. -/
structure Sq (n₀ B2 B3 : Nat) (T : List Fn) (f : Fn) (ul ue vk : Value) (E : List ByteArray) (K : List Fn) (vs : List V3) (V : Nat → Prop) (w : World) : Prop where
  b2 : w.heap[B2]? = some (.cells #[.slice none 0 0, .bool false, .slice none 0 0, .slice none 0 0] 49 (0, 0))
  b3 : w.heap[B3]? = some (.cells #[ul, .bool false, ue, vk] 49 (0, 0))
  ne : B2 ≠ B3
  lo : n₀ ≤ B2 ∧ n₀ ≤ B3
  lv : w.ownsRow 0 9 1 ul f.s.m (f.s.edge.map Value.string)
  en : w.ownsRow 0 31 2 ue E.length (prow (eL f.en E))
  es : KsOf (fun y => (f.en y).map (Value.int .i64)) f.ne E
  lV : ∀ g, ul.ownBlock = some g → V g
  eV : ∀ g, ue.ownBlock = some g → V g
  vc : VC n₀ w V
  v2 : ¬ V B2 ∧ ¬ V B3
  row : w.ownsRow n₀ 49 4 vk vs.length (shc vs)
  rV : ∀ g, vk.ownBlock = some g → ¬ V g ∧ g ≠ B2 ∧ g ≠ B3
  len : vs.length = K.length
  sub : ∀ (i : Nat) (q : Fn) (v : V3), K[i]? = some q → vs[i]? = some v → ShAt w V T q v
variable {n₀ B2 B3 : Nat} {T : List Fn} {f : Fn} {ul ue vk : Value} {E : List ByteArray} {K : List Fn} {vs : List V3} {V : Nat → Prop} {w w' : World}
/-- The blocks that the state speaks of. -/
def Sb3 (B2 B3 : Nat) (vk : Value) (V : Nat → Prop) (k : Nat) : Prop := k = B2 ∨ k = B3 ∨ vk.ownBlock = some k ∨ V k
theorem Sq.cells (h : Sq n₀ B2 B3 T f ul ue vk E K vs V w) {k : Nat} (hk : Sb3 B2 B3 vk V k) : n₀ ≤ k ∧ ∃ cs t, w.heap[k]? = some (.cells cs t (0, 0)) := by
  rcases hk with rfl | rfl | e | e
  · exact ⟨h.lo.1, _, _, h.b2⟩
  · exact ⟨h.lo.2, _, _, h.b3⟩
  · obtain ⟨cur, q⟩ := own_lt h.row e
    exact ⟨row_ge h.row e, _, _, q⟩
  · exact h.vc k e
theorem Sq.keep (h : Sq n₀ B2 B3 T f ul ue vk E K vs V w) (hb : ∀ k, Sb3 B2 B3 vk V k → w'.heap[k]? = w.heap[k]?) : Sq n₀ B2 B3 T f ul ue vk E K vs V w' :=
  ⟨(hb _ (.inl rfl)).trans h.b2, (hb _ (.inr (.inl rfl))).trans h.b3, h.ne, h.lo, own_blk h.lv (fun g e => hb g (.inr (.inr (.inr (h.lV g e))))), own_blk h.en (fun g e => hb g (.inr (.inr (.inr (h.eV g e))))), h.es, h.lV, h.eV, h.vc.keep (fun k hk => hb k (.inr (.inr (.inr hk)))), h.v2, own_blk h.row (fun g e => hb g (.inr (.inr (.inl e)))), h.rV, h.len, fun i q v a b => (h.sub i q v a b).keep (fun g e => hb g (.inr (.inr (.inr e)))) (fun _ e => e)⟩
theorem Sq.below (h : Sq n₀ B2 B3 T f ul ue vk E K vs V w) (hb : Below w.heap.size w w') : Sq n₀ B2 B3 T f ul ue vk E K vs V w' := h.keep (fun k hk => by
  obtain ⟨_, cs, t, e⟩ := h.cells hk
  exact hb.block k (Array.getElem?_eq_some_iff.1 e).1)
theorem info49 : (Try.prog.info? 49).map (fun i => (i.zero, i.size, i.bytes)) = some (some (.agg #[.slice none 0 0, .bool false, .slice none 0 0, .slice none 0 0]), 4, 80) := by kernel_rfl
/-- One more kid. -/
structure Sn (w1 w2 : World) (g k : Nat) (B3 : Nat) (ul ue v' : Value) (xs : List Value) (u : V3) : Prop where
  row : w2.ownsRow 0 49 4 v' (k + 1) (xs ++ [u.1, .bool false, u.2.1, u.2.2])
  b3 : w2.heap[B3]? = some (.cells #[ul, .bool false, ue, v'] 49 (0, 0))
  ch : Ch (fun j => j = g ∨ j = B3) w1 w2
theorem set4 {w : World} {g c k : Nat} {xs : List Value} {a b d : Value} {z0 z1 z2 z3 : Value} (h : w.ownsRow 0 49 4 (.slice (some ⟨g, 0, none⟩) (k + 1) c) (k + 1) (xs ++ [z0, z1, z2, z3])) (hl : xs.length = k * 4) :
    ((((w.setCell ⟨g, k * 4, none⟩ a).setCell ⟨g, k * 4 + 1, none⟩ (.bool false)).setCell ⟨g, k * 4 + 2, none⟩ b).setCell ⟨g, k * 4 + 3, none⟩ d).ownsRow 0 49 4 (.slice (some ⟨g, 0, none⟩) (k + 1) c) (k + 1) (xs ++ [a, .bool false, b, d]) := by
  have := (((h.stored (k * 4) a).1.stored (k * 4 + 1) (.bool false)).1.stored (k * 4 + 2) b).1.stored (k * 4 + 3) d
  have e : ((((xs ++ [z0, z1, z2, z3]).set (k * 4) a).set (k * 4 + 1) (.bool false)).set (k * 4 + 2) b).set (k * 4 + 3) d = xs ++ [a, .bool false, b, d] := by
    rw [← hl, List.set_append_right _ _ (by omega), List.set_append_right _ _ (by omega), List.set_append_right _ _ (by omega), List.set_append_right _ _ (by omega)]
    simp
  rw [e] at this
  exact this.1
theorem sn_a {w : World} {g c k : Nat} {xs : List Value} {u : V3} {z0 z1 z2 z3 o : Value} (h : w.ownsRow 0 49 4 (.slice (some ⟨g, 0, none⟩) (k + 1) c) (k + 1) (xs ++ [z0, z1, z2, z3])) (hl : xs.length = k * 4) (hb : w.heap[B3]? = some (.cells #[ul, .bool false, ue, o] 49 (0, 0))) (hg : g ≠ B3) :
    Sn w (((((w.setCell ⟨g, k * 4, none⟩ u.1).setCell ⟨g, k * 4 + 1, none⟩ (.bool false)).setCell ⟨g, k * 4 + 2, none⟩ u.2.1).setCell ⟨g, k * 4 + 3, none⟩ u.2.2).setCell ⟨B3, 3, none⟩ (.slice (some ⟨g, 0, none⟩) (k + 1) c)) g k B3 ul ue (.slice (some ⟨g, 0, none⟩) (k + 1) c) xs u := by
  have r := set4 (a := u.1) (b := u.2.1) (d := u.2.2) h hl
  have c4 : Ch (fun j => j = g) w ((((w.setCell ⟨g, k * 4, none⟩ u.1).setCell ⟨g, k * 4 + 1, none⟩ (.bool false)).setCell ⟨g, k * 4 + 2, none⟩ u.2.1).setCell ⟨g, k * 4 + 3, none⟩ u.2.2) := (((ch_set g _ _).then (ch_set g _ _)).then (ch_set g _ _)).then (ch_set g _ _)
  have b4 := (c4.block B3 (Array.getElem?_eq_some_iff.1 hb).1 (fun e => hg e.symm)).trans hb
  refine ⟨own_blk r (fun j e => ?_), by rw [heap_set b4]; rfl, (c4.mono (fun j _ e => .inl e)).then ((ch_set B3 3 _).mono (fun j _ e => .inr e))⟩
  cases e
  exact heap_set_ne _ hg
theorem sn_b {w : World} {g c k : Nat} {xs : List Value} {u : V3} {z0 z1 z2 z3 o : Value} (h : w.ownsRow 0 49 4 (.slice (some ⟨g, 0, none⟩) (k + 1) c) (k + 1) (xs ++ [z0, z1, z2, z3])) (hl : xs.length = k * 4) (hb : w.heap[B3]? = some (.cells #[ul, .bool false, ue, o] 49 (0, 0))) (hg : g ≠ B3) :
    Sn w (((((w.setCell ⟨B3, 3, none⟩ (.slice (some ⟨g, 0, none⟩) (k + 1) c)).setCell ⟨g, k * 4, none⟩ u.1).setCell ⟨g, k * 4 + 1, none⟩ (.bool false)).setCell ⟨g, k * 4 + 2, none⟩ u.2.1).setCell ⟨g, k * 4 + 3, none⟩ u.2.2) g k B3 ul ue (.slice (some ⟨g, 0, none⟩) (k + 1) c) xs u := by
  have h' := own_blk (w' := w.setCell ⟨B3, 3, none⟩ (.slice (some ⟨g, 0, none⟩) (k + 1) c)) h (fun j e => by cases e; exact heap_set_ne _ hg)
  have r := set4 (a := u.1) (b := u.2.1) (d := u.2.2) h' hl
  have c4 : Ch (fun j => j = g) (w.setCell ⟨B3, 3, none⟩ (.slice (some ⟨g, 0, none⟩) (k + 1) c)) (((((w.setCell ⟨B3, 3, none⟩ (.slice (some ⟨g, 0, none⟩) (k + 1) c)).setCell ⟨g, k * 4, none⟩ u.1).setCell ⟨g, k * 4 + 1, none⟩ (.bool false)).setCell ⟨g, k * 4 + 2, none⟩ u.2.1).setCell ⟨g, k * 4 + 3, none⟩ u.2.2) := (((ch_set g _ _).then (ch_set g _ _)).then (ch_set g _ _)).then (ch_set g _ _)
  have b1 : (w.setCell ⟨B3, 3, none⟩ (.slice (some ⟨g, 0, none⟩) (k + 1) c)).heap[B3]? = some (.cells #[ul, .bool false, ue, .slice (some ⟨g, 0, none⟩) (k + 1) c] 49 (0, 0)) := by rw [heap_set hb]; rfl
  refine ⟨r, (c4.block B3 (Array.getElem?_eq_some_iff.1 b1).1 (fun e => hg e.symm)).trans b1, ((ch_set B3 3 _).mono (fun j _ e => .inr e)).then (c4.mono (fun j _ e => .inl e))⟩
theorem Sq.step {w1 w2 : World} {q : Fn} {u : V3} {Vn : Nat → Prop} {v' : Value} {N g : Nat} (h : Sq n₀ B2 B3 T f ul ue vk E K vs V w) (sh : ShAt w Vn T q u) (vn : VC N w Vn) (hN : ∀ k, Sb3 B2 B3 vk V k → k < N) (h0 : n₀ ≤ N)
    (c1 : Ch (fun j => vk.ownBlock = some j) w w1) (hg : v'.ownBlock = some g) (gg : vk.ownBlock = some g ∨ w.heap.size ≤ g) (sn : Sn w1 w2 g vs.length B3 ul ue v' (shc vs) u) :
    Sq n₀ B2 B3 T f ul ue v' E (K ++ [q]) (vs ++ [u]) (fun k => V k ∨ Vn k) w2 ∧ Ch (fun j => j = B3 ∨ vk.ownBlock = some j) w w2 := by
  have lt2 := (Array.getElem?_eq_some_iff.1 h.b2).1
  have lt3 := (Array.getElem?_eq_some_iff.1 h.b3).1
  have cc : Ch (fun j => j = B3 ∨ vk.ownBlock = some j) w w2 := (c1.mono (fun j _ e => .inr e)).trans sn.ch (fun j hj e => by
    rcases e with rfl | e
    · rcases gg with e | e
      · exact .inr e
      · omega
    · exact .inl e)
  have VO : ∀ k, V k → w2.heap[k]? = w.heap[k]? := fun k hk => cc.block k (h.vc.lt hk) (fun e => by
    rcases e with rfl | e
    · exact h.v2.2 hk
    · exact (h.rV k e).1 hk)
  have VN : ∀ k, Vn k → w2.heap[k]? = w.heap[k]? := fun k hk => cc.block k (vn.lt hk) (fun e => by
    have := (vn k hk).1
    rcases e with rfl | e
    · have := hN _ (.inr (.inl rfl)); omega
    · have := hN _ (.inr (.inr (.inl e))); omega)
  refine ⟨⟨(cc.block B2 lt2 (fun e => by
      rcases e with e | e
      · exact h.ne e
      · exact (h.rV B2 e).2.1 rfl)).trans h.b2, sn.b3, h.ne, h.lo, own_blk h.lv (fun j e => VO j (h.lV j e)), own_blk h.en (fun j e => VO j (h.eV j e)), h.es, fun j e => .inl (h.lV j e), fun j e => .inl (h.eV j e), ?_, ?_, ?_, ?_, by simp [h.len], ?_⟩, cc⟩
  · rintro k (hk | hk)
    · exact h.vc.keep VO k hk
    · obtain ⟨a, b⟩ := vn.keep VN k hk
      exact ⟨by omega, b⟩
  · refine ⟨fun e => ?_, fun e => ?_⟩
    · rcases e with e | e
      · exact h.v2.1 e
      · have := (vn _ e).1; have := hN _ (.inl rfl); omega
    · rcases e with e | e
      · exact h.v2.2 e
      · have := (vn _ e).1; have := hN _ (.inr (.inl rfl)); omega
  · have : shc (vs ++ [u]) = shc vs ++ [u.1, .bool false, u.2.1, u.2.2] := by rw [shc_app]; rfl
    rw [this, List.length_append]
    refine row_base sn.row (fun j e => ?_)
    rw [hg] at e
    cases e
    rcases gg with e | e
    · exact row_ge h.row e
    · have := h.lo.1; omega
  · intro j e
    rw [hg] at e
    cases e
    rcases gg with e | e
    · refine ⟨fun c => ?_, (h.rV _ e).2⟩
      rcases c with c | c
      · exact (h.rV _ e).1 c
      · have := (vn _ c).1; have := hN _ (.inr (.inr (.inl e))); omega
    · refine ⟨fun c => ?_, by omega, by omega⟩
      rcases c with c | c
      · have := h.vc.lt c; omega
      · have := vn.lt c; omega
  · intro i q' v hq hv
    by_cases c : i < K.length
    · rw [List.getElem?_append_left c] at hq
      rw [List.getElem?_append_left (by rw [h.len]; exact c)] at hv
      exact (h.sub i q' v hq hv).keep VO (fun k e => .inl e)
    · rw [List.getElem?_append_right (by omega)] at hq
      rw [List.getElem?_append_right (by rw [h.len]; omega), h.len] at hv
      by_cases e : i - K.length = 0
      · rw [e] at hq hv
        simp at hq hv
        subst hq hv
        exact sh.keep VN (fun k e => .inr e)
      · obtain ⟨j, hj⟩ : ∃ j, i - K.length = j + 1 := ⟨i - K.length - 1, by omega⟩
        rw [hj] at hq
        simp at hq
/-- The shape when all kids have come. -/
theorem Sq.whole (h : Sq n₀ B2 B3 T f ul ue vk E K vs V w) {L : List ByteArray} (ks : KidsOf T f L K) : ShAt w (fun k => V k ∨ vk.ownBlock = some k) T f (ul, ue, vk) ∧ VC n₀ w (fun k => V k ∨ vk.ownBlock = some k) :=
  ⟨.mk f _ L K E vs h.lv (fun g e => .inl (h.lV g e)) h.en (fun g e => .inl (h.eV g e)) h.es ks h.len (own0 h.row) (fun g e => .inr e) (fun i q v a b => (h.sub i q v a b).keep (fun _ _ => rfl) (fun g e => .inl e)),
   fun k hk => h.cells (hk.elim (fun e => .inr (.inr (.inr e))) (fun e => .inr (.inr (.inl e))))⟩
theorem sq_append {ka : Option Addr} {kc N : Nat} (h : Sq n₀ B2 B3 T f ul ue (.slice ka vs.length kc) E K vs V w) (hz : w.heap[N]? = some (.cells #[.slice none 0 0, .bool false, .slice none 0 0, .slice none 0 0] 49 (0, 0))) (hk : vs.length ≤ 900000) :
    ∃ g c w1, (Builtin.append_ #[47, 47] 47 #[.slice ka vs.length kc, .slice (some ⟨N, 0, none⟩) 1 1]).run Try.prog w = .ok (.slice (some ⟨g, 0, none⟩) (vs.length + 1) c) w1 ∧ w1.ownsRow 0 49 4 (.slice (some ⟨g, 0, none⟩) (vs.length + 1) c) (vs.length + 1) (shc vs ++ [.slice none 0 0, .bool false, .slice none 0 0, .slice none 0 0]) ∧ Ch (fun j => (Value.slice ka vs.length kc).ownBlock = some j) w w1 ∧ ((Value.slice ka vs.length kc).ownBlock = some g ∨ w.heap.size ≤ g) := by
  obtain ⟨i0, hi0, hzz⟩ := Option.map_eq_some_iff.1 info49
  simp only [Prod.mk.injEq] at hzz
  obtain ⟨v', w', hr, h2, h3, h4, h5⟩ := run_append_own_at (P := Try.prog) w 0 47 47 49 i0 _ 4 80 Try.underlying47 hi0 hzz.1 hzz.2.1 hzz.2.2 (by rfl) (by decide) _ vs.length (shc vs) (own0 h.row) ⟨N, 0, none⟩ 1 1 [.slice none 0 0, .bool false, .slice none 0 0, .slice none 0 0] (by rfl) (fun j u hu => by
    rw [addr_at]
    exact box_cells hz j u (by simpa using hu)) (by intro u hu; simp at hu; rcases hu with rfl | rfl | rfl | rfl <;> rfl) (by unfold maxLen; omega) (by omega) (by omega)
  rcases h2.2 with ⟨_, q⟩ | ⟨g', cap', cur, rfl, _⟩
  · omega
  · refine ⟨g', cap', w', hr, h2, (ch_grown h3).mono (fun j _ q => q), ?_⟩
    rcases h5 with q | q
    · exact .inl (by rw [← q]; rfl)
    · simp [Value.ownBlock] at q
      exact .inr (by omega)
theorem ShAt.form {u : V3} (h : ShAt w V T f u) : ∃ a n c a' n' c' a'' n'' c'', u = (.slice a n c, .slice a' n' c', .slice a'' n'' c'') := by
  cases h with
  | mk _ _ L K E vs lv lV en eV es ks len kd kV sub =>
    obtain ⟨a, c, e⟩ := own_sl lv
    obtain ⟨a', c', e'⟩ := own_sl en
    obtain ⟨a'', c'', e''⟩ := own_sl kd
    obtain ⟨u1, u2, u3⟩ := u
    simp only at e e' e''
    subst e e' e''
    exact ⟨_, _, _, _, _, _, _, _, _, rfl⟩
set_option maxRecDepth 100000 in
theorem step_st4 {ops : Array Oper} {o : Oper} {a : Act} {w : World} {K : Act → World → Prop} {Q : Exit → Act → World → Prop} {E : Prop} (hg : o.guard = none) (x y : Operand) (hop : o.op = Op.store 49 x y) {g k n1 c1 n2 c2 n3 c3 : Nat} {a1 a2 a3 : Option Addr} {z0 z1 z2 z3 : Value}
    (hx : a.eval x = .pointer (some ⟨g, k, none⟩)) (hy : a.eval y = .agg #[.slice a1 n1 c1, .bool false, .slice a2 n2 c2, .slice a3 n3 c3]) (e0 : w.cell? ⟨g, k, none⟩ = some z0) (e1 : w.cell? ⟨g, k + 1, none⟩ = some z1) (e2 : w.cell? ⟨g, k + 2, none⟩ = some z2) (e3 : w.cell? ⟨g, k + 3, none⟩ = some z3)
    (f0 : w.frozen? ⟨g, k, none⟩ = false) (f1 : w.frozen? ⟨g, k + 1, none⟩ = false) (f2 : w.frozen? ⟨g, k + 2, none⟩ = false) (f3 : w.frozen? ⟨g, k + 3, none⟩ = false)
    (hK : K (a.put o.dst undef) ((((w.setCell ⟨g, k, none⟩ (.slice a1 n1 c1)).setCell ⟨g, k + 1, none⟩ (.bool false)).setCell ⟨g, k + 2, none⟩ (.slice a2 n2 c2)).setCell ⟨g, k + 3, none⟩ (.slice a3 n3 c3))) : if Region.wanted o (yielded ops a.tmps) = true then Oper.wp Try.prog o a w K Q else E := by
  have hw : Region.wanted o (yielded ops a.tmps) = true := by simp [Region.wanted, hg]
  rw [if_pos hw]
  unfold Oper.wp
  have hr : (execOp a.eval o).run Try.prog w = .ok .skip ((((w.setCell ⟨g, k, none⟩ (.slice a1 n1 c1)).setCell ⟨g, k + 1, none⟩ (.bool false)).setCell ⟨g, k + 2, none⟩ (.slice a2 n2 c2)).setCell ⟨g, k + 3, none⟩ (.slice a3 n3 c3)) := by
    simp only [execOp, hop, hx, hy]
    go_simp
  rw [hr]
  exact hK
end Go.Proofs.Ytepjcfhbbcaldaa.Li
