import Derived.Test.YtepjcfhbbcaldaaKjb
import Derived.Test.YtepjcfhbbcaldaaKe
import Derived.Lib.AppendZeros
import Derived.Laws.AppendOwnNone
import Derived.Test.YtepjcfhbbcaldaaKzb
import Derived.Maps.RangeWalk
namespace Go.Proofs.Ytepjcfhbbcaldaa.Li
open Go Go.RowKit
set_option linter.unusedSimpArgs false
set_option linter.unusedVariables false
set_option maxRecDepth 100000 in
set_option maxHeartbeats 1000000 in
theorem grow_any (n : Nat) (h1 : 1 ≤ n) (h2 : n ≤ 1000000) (w : World) :
    Calls Try.prog 74 #[.slice none 0 0, .int .i64 n] w fun e w' => ∃ g cp, e = .returned (.slice (some ⟨g, 0, none⟩) 0 cp) ∧ w'.ownsRow w.heap.size 9 1 (.slice (some ⟨g, 0, none⟩) 0 cp) 0 [] ∧ Below w.heap.size w w' := by
  obtain ⟨i0, hi, hz0, hz1, hz2⟩ := info_parts info9
  have hr : ∀ ty, (Builtin.append_ #[46, 3] ty #[.slice none 0 0, .int .i64 n]).run Try.prog w = _ := fun ty => Lib.run_append_nil_zeros w 46 3 ty 9 i0 (.string ⟨#[]⟩) .i64 .i64 Try.underlying46 Try.underlying3 hi hz0 n (by omega) (by omega) (by omega) (by rw [hz2]; omega)
  have hn0 : ¬ (n : Int) < 0 := by omega
  have hn1 : (0 : Int) < n := by omega
  go_enter Try.func74, Try.ntmps74
  go_wp2_with (at_builtin; refine Lib.wpList_append_run _ rfl (.tmp 20) (.tmp 21) 46 3 rfl _ _ rfl rfl _ _ (hr _) ?_)
  go_ret
  have hge := grownCap_ge w n 0 9
  have hcm : grownCap w n 0 9 ≤ maxLen := grownCap_le_maxLen w n 0 9 (by unfold maxLen; omega)
  refine ⟨_, _, rfl, World.ownsRow.drew (World.ownsRow_made w _ _ (Nat.le_refl _) hcm ?_), ((Below.refl _ _).alloc (Nat.le_refl _) _).drew⟩
  simp only [Array.size_append, size_zeroCells]
  simp [Value.cells]
  omega
theorem str_one (L : List ByteArray) (u : Value) (h : u ∈ L.map Value.string) : u.oneCell' = true := by
  obtain ⟨x, _, rfl⟩ := List.mem_map.1 h
  rfl
set_option maxRecDepth 100000 in
set_option maxHeartbeats 2000000 in
theorem concat_any (lb : Nat) (b0 b1 : Addr) (k0 k1 : Nat) (L0 L1 : List ByteArray) (w : World) (c0 : w.cell? ⟨lb, 0, none⟩ = some (.slice (some b0) L0.length k0)) (c1 : w.cell? ⟨lb, 1, none⟩ = some (.slice (some b1) L1.length k1)) (hlb : lb < w.heap.size)
    (h0 : ∀ w', Below w.heap.size w w' → ∀ j u, (L0.map Value.string)[j]? = some u → w'.cell? (b0.add j) = some u) (h1 : ∀ w', Below w.heap.size w w' → ∀ j u, (L1.map Value.string)[j]? = some u → w'.cell? (b1.add j) = some u) (hp : 1 ≤ L0.length + L1.length) (hl0 : L0.length ≤ 400000) (hl1 : L1.length ≤ 400000) :
    Calls Try.prog 66 #[.slice (some ⟨lb, 0, none⟩) 2 2] w fun e w' => ∃ g cp, e = .returned (.slice (some ⟨g, 0, none⟩) (L0.length + L1.length) cp) ∧ w'.ownsRow w.heap.size 9 1 (.slice (some ⟨g, 0, none⟩) (L0.length + L1.length) cp) (L0.length + L1.length) ((L0 ++ L1).map Value.string) ∧ Below w.heap.size w w' := by
  obtain ⟨i0, hi, hz0, hz1, hz2⟩ := info_parts info9
  obtain ⟨l0, hl0'⟩ : ∃ l0, l0 = L0.length := ⟨_, rfl⟩
  obtain ⟨l1, hl1'⟩ : ∃ l1, l1 = L1.length := ⟨_, rfl⟩
  have G0 : Hid (Calls Try.prog 74 #[.slice none 0 0, .int .i64 ((l0 : Int) + (l1 : Int))] w fun e w' => ∃ g cp, e = .returned (.slice (some ⟨g, 0, none⟩) 0 cp) ∧ w'.ownsRow w.heap.size 9 1 (.slice (some ⟨g, 0, none⟩) 0 cp) 0 [] ∧ Below w.heap.size w w') := by
    have h := grow_any (l0 + l1) (by omega) (by omega) w
    rw [Int.natCast_add] at h
    exact h
  rw [← hl0'] at c0
  rw [← hl1'] at c1
  have HC : Hid (∀ w', Below w.heap.size w w' → w'.cell? ⟨lb, 0, none⟩ = some (.slice (some b0) l0 k0) ∧ w'.cell? ⟨lb, 1, none⟩ = some (.slice (some b1) l1 k1)) := fun w' hb => ⟨by rw [hb.cell hlb]; exact c0, by rw [hb.cell hlb]; exact c1⟩
  have HL := hidi (And.intro hl0' (And.intro hl1' (And.intro hl0 hl1)))
  have H0 := hidi h0
  have H1 := hidi h1
  rw [← hl0', ← hl1']
  have hw1 : IntKind.i64.wrap ((0 : Int) + (l0 : Int)) = (l0 : Int) := by rw [IntKind.wrap_i64]; omega
  have hw1' : IntKind.i64.wrap ((l0 : Int)) = (l0 : Int) := by rw [IntKind.wrap_i64]; omega
  have hw2 : IntKind.i64.wrap ((l0 : Int) + (l1 : Int)) = (l0 : Int) + (l1 : Int) := by rw [IntKind.wrap_i64]; omega
  have hp1 : ¬ (l0 : Int) < 0 := by omega
  have hp2 : ¬ (l0 : Int) + (l1 : Int) < 0 := by omega
  clear h0 h1 hl0 hl1 hl0' hl1' hp hlb
  go_enter Try.func66, Try.ntmps66
  go_wp2
  go_loop [3, 5, 11] (fun s _ i => (i = .int .i64 0 ∧ s = .int .i64 0) ∨ (i = .int .i64 1 ∧ s = .int .i64 l0) ∨ (i = .int .i64 2 ∧ s = .int .i64 ((l0 : Int) + (l1 : Int)))) (fun _ _ i => 2 - (intOf i).toNat)
  case atStart => exact .inl ⟨rfl, rfl⟩
  case round =>
    rcases hrel with ⟨rfl, rfl⟩ | ⟨rfl, rfl⟩ | ⟨rfl, rfl⟩
    · go_wp2
      go_round
      case rel => exact .inr (.inl ⟨rfl, by first | rfl | go_num⟩)
      case measure => simp [intOf]
    · go_wp2
      go_round
      case rel => exact .inr (.inr ⟨rfl, by first | rfl | go_num⟩)
      case measure => simp [intOf]
    · clear c0 c1
      go_wp2_with (go_at_call 74; refine G0.out.mono ?_; rintro e w1 ⟨g, cp, rfl, hown, hbel⟩; have O1 : Hid (w1.ownsRow w.heap.size 9 1 (.slice (some ⟨g, 0, none⟩) 0 cp) 0 [] ∧ Below w.heap.size w w1) := ⟨hown, hbel⟩; clear hown hbel)
      go_loopw [6, 8, 27] (fun v _ i wr => Below w.heap.size w wr ∧ v ≠ .slice none 0 0 ∧ ((i = .int .i64 0 ∧ wr.ownsRow w.heap.size 9 1 v 0 []) ∨ (i = .int .i64 1 ∧ wr.ownsRow w.heap.size 9 1 v l0 (L0.map Value.string)) ∨ (i = .int .i64 2 ∧ wr.ownsRow w.heap.size 9 1 v (l0 + l1) ((L0 ++ L1).map Value.string)))) (fun _ _ i _ => 2 - (intOf i).toNat)
      case atStart => exact ⟨O1.out.2, by simp, .inl ⟨rfl, O1.out.1⟩⟩
      case round =>
        obtain ⟨hbel, hnn, hrel⟩ := hrel
        obtain ⟨d0, d1⟩ := HC.out wr hbel
        have HB : Hid (Below w.heap.size w wr) := hbel
        have HNN : Hid (u6 ≠ .slice none 0 0) := hnn
        clear hbel hnn
        rcases hrel with ⟨rfl, ho⟩ | ⟨rfl, ho⟩ | ⟨rfl, ho⟩
        · have HO : Hid (wr.ownsRow w.heap.size 9 1 u6 0 []) := ho
          clear ho
          go_wp2_with (at_builtin; refine wpList_append_own _ rfl (.tmp 31) (.tmp 32) 46 rfl w.heap.size 9 i0 (.string ⟨#[]⟩) 1 16 Try.underlying46 hi hz0 hz1 hz2 rfl (by decide) _ _ _ rfl HO.out b0 l0 k0 (L0.map Value.string) rfl ?c0 ?c1 ?c2 ?c3 ?c4 ?c5 ?_)
          case c0 => rw [List.length_map, HL.out.1]; omega
          case c1 => exact H0.out _ HB.out
          case c2 => exact fun u hu => str_one L0 u hu
          case c3 => have := HL.out; unfold maxLen; omega
          case c4 => have := HL.out; omega
          case c5 => exact HB.out.size
          intro v2 w2 hown2 hgrow2 hnil2
          have hb2 := HB.out.grown hgrow2 HB.out.size (fun q hq => (HO.out.lt q hq).1)
          have HS : Hid (Below w.heap.size w w2 ∧ v2 ≠ .slice none 0 0 ∧ w2.ownsRow w.heap.size 9 1 v2 l0 (L0.map Value.string)) := ⟨hb2, fun h => HNN.out (hnil2.1 h).1, by simpa using hown2⟩
          clear hown2 hgrow2 hnil2 hb2
          go_wp2
          go_roundw
          case rel => exact ⟨HS.out.1, HS.out.2.1, .inr (.inl ⟨rfl, HS.out.2.2⟩)⟩
          case measure => simp [intOf]
        · have HO : Hid (wr.ownsRow w.heap.size 9 1 u6 l0 (L0.map Value.string)) := ho
          clear ho
          go_wp2_with (at_builtin; refine wpList_append_own _ rfl (.tmp 31) (.tmp 32) 46 rfl w.heap.size 9 i0 (.string ⟨#[]⟩) 1 16 Try.underlying46 hi hz0 hz1 hz2 rfl (by decide) _ _ _ rfl HO.out b1 l1 k1 (L1.map Value.string) rfl ?e0 ?e1 ?e2 ?e3 ?e4 ?e5 ?_)
          case e0 => rw [List.length_map, HL.out.2.1]; omega
          case e1 => exact H1.out _ HB.out
          case e2 => exact fun u hu => str_one L1 u hu
          case e3 => have := HL.out; unfold maxLen; omega
          case e4 => have := HL.out; omega
          case e5 => exact HB.out.size
          intro v2 w2 hown2 hgrow2 hnil2
          have hb2 := HB.out.grown hgrow2 HB.out.size (fun q hq => (HO.out.lt q hq).1)
          have HS : Hid (Below w.heap.size w w2 ∧ v2 ≠ .slice none 0 0 ∧ w2.ownsRow w.heap.size 9 1 v2 (l0 + l1) ((L0 ++ L1).map Value.string)) := ⟨hb2, fun h => HNN.out (hnil2.1 h).1, by rw [List.map_append]; exact hown2⟩
          clear hown2 hgrow2 hnil2 hb2
          go_wp2
          go_roundw
          case rel => exact ⟨HS.out.1, HS.out.2.1, .inr (.inr ⟨rfl, HS.out.2.2⟩)⟩
          case measure => simp [intOf]
        · have hex : ∃ g cp, u6 = .slice (some ⟨g, 0, none⟩) (l0 + l1) cp := by
            obtain ⟨_, h | ⟨g, cp, cur, hv, _⟩⟩ := ho
            · exact absurd h.1 HNN.out
            · exact ⟨g, cp, hv⟩
          obtain ⟨g, cp, rfl⟩ := hex
          have HO : Hid (wr.ownsRow w.heap.size 9 1 (.slice (some ⟨g, 0, none⟩) (l0 + l1) cp) (l0 + l1) ((L0 ++ L1).map Value.string)) := ho
          clear ho
          go_wp2
          go_ret
          exact ⟨g, cp, rfl, HO.out, HB.out⟩
end Go.Proofs.Ytepjcfhbbcaldaa.Li
namespace Go.Proofs.Ytepjcfhbbcaldaa.Li
open Go Go.RowKit
set_option linter.unusedSimpArgs false
set_option linter.unusedVariables false
def setN (f : ByteArray → Option Int) (x : ByteArray) : ByteArray → Option Int := fun y => if y = x then none else f y
/-- A key is forgotten at a node. -/
def frg (A : List ByteArray) (x : ByteArray) (ev : Value) (f : Fn) : Fn := if f.s.A = A then { f with en := setN f.en x, ne := f.ne - 1, ev := ev } else f
theorem frg_s (A : List ByteArray) (x : ByteArray) (ev : Value) (f : Fn) : (frg A x ev f).s = f.s := by unfold frg; split <;> rfl
theorem frg_map (A : List ByteArray) (x : ByteArray) (ev : Value) (T : List Fn) : (T.map (frg A x ev)).map Fn.s = T.map Fn.s := by
  rw [List.map_map]
  exact List.map_congr_left (fun f _ => frg_s A x ev f)
theorem frg_ne {A : List ByteArray} {x : ByteArray} {ev : Value} {f : Fn} (h : f.s.A ≠ A) : frg A x ev f = f := if_neg h
theorem frg_at {x : ByteArray} {ev : Value} (f : Fn) : frg f.s.A x ev f = { f with en := setN f.en x, ne := f.ne - 1, ev := ev } := if_pos rfl
theorem frg_has {A : List ByteArray} {x : ByteArray} {ev : Value} {f : Fn} {k : Nat} (h : (frg A x ev f).has k) : f.has k ∨ (f.s.A = A ∧ ev = .map (some k)) := by
  unfold frg at h
  split at h
  · rename_i e
    rcases h with c | c | c
    · exact .inl (.inl c)
    · exact .inr ⟨e, c⟩
    · exact .inl (.inr (.inr c))
  · exact .inl h
section
variable {w w' : World} {tb m r : Nat} {nf nf' nn : Int} {T : List Fn} {f : Fn} {x : ByteArray} {ev : Value}
theorem TM.forgot (h : TM w tb m r nf nn T) (hf : f ∈ T) (hc : Ch (fun j => j = tb ∨ j = f.s.p ∨ f.ev = .map (some j)) w w') (tr' : w'.heap[tb]? = some (.cells #[ptr r, ptr m, .int .i64 nf', .int .i64 nn] 64 (0, 0)))
    (at' : w'.heap[f.s.p]? = some (.cells #[ptr m, f.lv, ev, f.kv] 62 (0, 0))) (mg' : MG w' ev (f.ne - 1) (fun k => (setN f.en x k).map (.int .i64))) (e0 : ev = .map none ∨ 0 < f.ne - 1) (hev : ev = f.ev ∨ ev = .map none) :
    TM w' tb m r nf' nn (T.map (frg f.s.A x ev)) := by
  have ff := h.nd f hf
  have nC : ∀ j, (j = tb ∨ j = f.s.p ∨ f.ev = .map (some j)) → j = tb ∨ f.has j := fun j c => c.imp id (fun c => c.elim .inl (fun c => .inr (.inl c)))
  have n9 : ∀ j, (j = tb ∨ j = f.s.p ∨ f.ev = .map (some j)) → No9 w j := fun j c => by
    rcases nC j c with c | c
    · rw [c]; exact no9_cells h.tr (by decide)
    · exact ff.no9 c
  have ff' : FnM w' m (T.map Fn.s) T.length { f with en := setN f.en x, ne := f.ne - 1, ev := ev } := by
    obtain ⟨nk, kd, h1, h2, h3⟩ := ff.kv
    refine ⟨at', own_ch ff.lv hc (fun j hj c => ?_), mg', e0, ⟨nk, kd, h1, h2.keep (fun b e => hc.block b (h2.lt e) (fun c => ?_)), h3⟩, fun k c1 c2 => ?_⟩
    · obtain ⟨cur, e⟩ := own_lt ff.lv hj
      exact n9 j c cur e
    · rcases c with c | c | c
      · exact h.tb_ne hf (c ▸ .inr (.inr e))
      · obtain ⟨es, cl, q⟩ := h2.block e
        rw [c, ff.at_] at q
        cases q
      · exact ff.nb b c e
    · have c1' : ev = .map (some k) := c1
      rcases hev with q | q
      · exact ff.nb k (by rw [← q]; exact c1') c2
      · rw [q] at c1'; cases c1'
  refine ⟨tr', by rw [frg_map]; exact h.inv, ?_, fun f0 hf0 => ?_, ?_, fun f0 hf0 => ?_⟩
  · obtain ⟨g, hg, f1, f2⟩ := h.rt
    exact ⟨_, List.mem_map_of_mem hg, by rw [frg_s]; exact f1, by rw [frg_s]; exact f2⟩
  · obtain ⟨g, hg, rfl⟩ := List.mem_map.1 hf0
    rw [frg_map, List.length_map]
    by_cases c : g.s.A = f.s.A
    · obtain rfl := h.same hg hf c
      rw [frg_at]
      exact ff'
    · rw [frg_ne c]
      exact (h.nd g hg).keep hc (fun j c1 c2 => by
        rcases nC j c2 with c2 | c2
        · exact h.tb_ne hg (c2 ▸ c1)
        · exact h.apart hg hf (fun z => c (by rw [z])) j c1 c2) n9 (Nat.le_refl _) (fun _ _ => Iff.rfl)
  · refine List.pairwise_map.2 (h.dis.imp_of_mem (fun {a b} ha hb q j c1 c2 => ?_))
    have up : ∀ {g : Fn}, g ∈ T → (frg f.s.A x ev g).has j → g.has j := fun {g} hg c => by
      rcases frg_has c with c' | ⟨e, c'⟩
      · exact c'
      · obtain rfl := h.same hg hf e
        rcases hev with z | z
        · exact .inr (.inl (by rw [← z]; exact c'))
        · rw [z] at c'; cases c'
    exact q j (up ha c1) (up hb c2)
  · obtain ⟨g, hg, rfl⟩ := List.mem_map.1 hf0
    rw [frg_s]
    exact h.ok g hg
theorem frg_hasE (h : TM w tb m r nf nn T) (hf : f ∈ T) (F : List ByteArray) (y : ByteArray) (z : Int) : HasE (T.map (frg f.s.A x ev)) F y z ↔ HasE T F y z ∧ ¬ (F = f.s.A ∧ y = x) := by
  constructor
  · rintro ⟨b0, hb0, e1, e2⟩
    obtain ⟨a, ha, rfl⟩ := List.mem_map.1 hb0
    rw [frg_s] at e1
    by_cases c : a.s.A = f.s.A
    · obtain rfl := h.same ha hf c
      rw [frg_at] at e2
      have e2' : (if y = x then none else a.en y) = some z := e2
      by_cases d : y = x
      · rw [if_pos d] at e2'; cases e2'
      · rw [if_neg d] at e2'
        exact ⟨⟨a, ha, e1, e2'⟩, fun q => d q.2⟩
    · rw [frg_ne c] at e2
      exact ⟨⟨a, ha, e1, e2⟩, fun q => c (by rw [e1, q.1])⟩
  · rintro ⟨⟨a, ha, e1, e2⟩, no⟩
    refine ⟨_, List.mem_map_of_mem ha, by rw [frg_s]; exact e1, ?_⟩
    by_cases c : a.s.A = f.s.A
    · obtain rfl := h.same ha hf c
      rw [frg_at]
      show (if y = x then none else a.en y) = some z
      rw [if_neg (fun q => no ⟨e1.symm, q⟩)]
      exact e2
    · rw [frg_ne c]
      exact e2
/-- What forget leaves. -/
structure Fg (w w' : World) (tb m r : Nat) (nf nn : Int) (T : List Fn) (f : Fn) (x : ByteArray) : Prop where
  ex : ∃ ev, (ev = f.ev ∨ ev = .map none) ∧ TM w' tb m r (if f.ne = 1 then nf - 1 else nf) nn (T.map (frg f.s.A x ev))
  ch : Ch (fun j => j = tb ∨ f.has j) w w'
set_option maxRecDepth 100000 in
set_option maxHeartbeats 4000000 in
theorem forget_any (h : TM w tb m r nf nn T) (hf : f ∈ T) (hx : okT x) {q : Int} (hq : f.en x = some q) (n1 : 1 ≤ nf) (n2 : nf < 1000000000) (hne : f.ne ≤ 1000000) :
    Calls Try.prog 50 #[ptr tb, ptr f.s.p, .string x] w fun e w' => e = .returned (.tuple #[]) ∧ Fg w w' tb m r nf nn T f x := by
  have ff := h.nd f hf
  obtain ⟨mb, hmb⟩ : ∃ mb, f.ev = .map (some mb) := by
    rcases ff.ev with ⟨e, _, h2⟩ | ⟨mb, D, e, _⟩
    · have : (f.en x).map (Value.int .i64) = none := h2 x hx
      rw [hq] at this
      cases this
    · exact ⟨mb, e⟩
  have hev := ff.ev
  rw [hmb] at hev
  have hpos : 0 < f.ne := by
    obtain ⟨K, k1, k2, k3⟩ := hev.keys
    have : x ∈ K := (k3 x).2 ⟨hx, by show ((f.en x).map _).isSome = true; rw [hq]; rfl⟩
    rw [← k2]
    exact List.length_pos_of_mem this
  obtain ⟨w1, k1, k2, k3⟩ := hev.del (t := 53) Try.underlying53 hx 0
  have hsome : (((f.en x).map (Value.int .i64)).isSome) = true := by rw [hq]; rfl
  have m1 : MG w1 (.map (some mb)) (f.ne - 1) (fun k => (setN f.en x k).map (.int .i64)) := by
    have : MG w1 (.map (some mb)) (f.ne - 1) (setG (fun k => (f.en k).map (.int .i64)) x none) := by
      simp only [hsome, if_true] at k2
      exact k2
    refine this.congr (fun k _ => ?_)
    unfold setG setN
    split <;> rfl
  have pmb : f.s.p ≠ mb := fun c => by
    obtain ⟨es, cl, e⟩ := hev.block rfl
    rw [← c, ff.at_] at e
    cases e
  have tmb : tb ≠ mb := fun c => h.tb_ne hf (c ▸ .inr (.inl hmb))
  have ptb : f.s.p ≠ tb := fun c => h.tb_ne hf (.inl c.symm)
  have plt : f.s.p < w.heap.size := ff.lt (.inl rfl)
  have tlt := h.islt (.inl rfl)
  have at1 : w1.heap[f.s.p]? = some (.cells #[ptr m, f.lv, .map (some mb), f.kv] 62 (0, 0)) := by rw [k3.block _ plt pmb, ← hmb]; exact ff.at_
  have tr1 : w1.heap[tb]? = some (.cells #[ptr r, ptr m, .int .i64 nf, .int .i64 nn] 64 (0, 0)) := by rw [k3.block _ tlt tmb]; exact h.tr
  have l0 : w.cell? ⟨f.s.p, 2, none⟩ = some (.map (some mb)) := by rw [← hmb]; exact box_cells ff.at_ 2 _ rfl
  have l1 : w1.cell? ⟨f.s.p, 2, none⟩ = some (.map (some mb)) := box_cells at1 2 _ rfl
  have t1 : w1.cell? ⟨tb, 2, none⟩ = some (.int .i64 nf) := box_cells tr1 2 _ rfl
  have z1 : w1.frozen? ⟨tb, 2, none⟩ = false := box_frozen tr1 2
  have hlen := fun ty => m1.len (t := 53) Try.underlying53 ty
  have hw : IntKind.i64.wrap (nf - 1) = nf - 1 := by rw [IntKind.wrap_i64]; omega
  by_cases c1 : f.ne = 1
  · have e2 : (w1.setCell ⟨tb, 2, none⟩ (.int .i64 (nf - 1))).frozen? ⟨f.s.p, 2, none⟩ = false := box_frozen ((heap_set_ne _ ptb).trans at1) 2
    have e3 : (w1.setCell ⟨tb, 2, none⟩ (.int .i64 (nf - 1))).cell? ⟨f.s.p, 2, none⟩ = some (.map (some mb)) := box_cells ((heap_set_ne _ ptb).trans at1) 2 _ rfl
    have FIN := hidi (show Fg w ((w1.setCell ⟨tb, 2, none⟩ (.int .i64 (nf - 1))).setCell ⟨f.s.p, 2, none⟩ (.map none)) tb m r nf nn T f x from by
      have cc : Ch (fun j => j = tb ∨ j = f.s.p ∨ f.ev = .map (some j)) w ((w1.setCell ⟨tb, 2, none⟩ (.int .i64 (nf - 1))).setCell ⟨f.s.p, 2, none⟩ (.map none)) :=
        ((k3.mono (fun j _ e => .inr (.inr (by rw [hmb, e])))).trans (ch_set tb 2 _) (fun j _ e => .inl e)).trans (ch_set f.s.p 2 _) (fun j _ e => .inr (.inl e))
      refine ⟨⟨.map none, .inr rfl, ?_⟩, cc.mono (fun j _ e => e.imp id (fun e => e.elim .inl (fun e => .inr (.inl e))))⟩
      rw [if_pos c1]
      refine h.forgot hf cc ?_ ?_ ?_ (.inl rfl) (.inr rfl)
      · rw [heap_set_ne _ (Ne.symm ptb)]
        exact heap_set tr1 _
      · exact heap_set ((heap_set_ne _ ptb).trans at1) _
      · rw [c1]
        refine .inl ⟨rfl, rfl, fun k ok => ?_⟩
        have := m1
        rw [c1] at this
        obtain ⟨K, q1, q2, q3⟩ := this.keys
        have nk : ¬ k ∈ K := fun c => by have := List.length_pos_of_mem c; omega
        cases d : (setN f.en x k).map (Value.int .i64) with
        | none => exact d
        | some v => exact absurd ((q3 k).2 ⟨ok, by show ((setN f.en x k).map (Value.int .i64)).isSome = true; rw [d]; rfl⟩) nk)
    have q0 : (((f.ne - 1 : Nat) : Int) == 0) = true := by rw [c1]; rfl
    unfold ptr at *
    clear h hf ff hev hq hsome k2 m1 at1 tr1 c1 hpos hne pmb tmb plt tlt hmb n1 n2 k3
    go_enter Try.func50, Try.ntmps50
    go_wp2_with fail
    go_end0
    exact ⟨rfl, FIN.out⟩
  · have FIN := hidi (show Fg w w1 tb m r nf nn T f x from by
      have cc : Ch (fun j => j = tb ∨ j = f.s.p ∨ f.ev = .map (some j)) w w1 := k3.mono (fun j _ e => .inr (.inr (by rw [hmb, e])))
      refine ⟨⟨.map (some mb), .inl hmb.symm, ?_⟩, cc.mono (fun j _ e => e.imp id (fun e => e.elim .inl (fun e => .inr (.inl e))))⟩
      rw [if_neg c1]
      exact h.forgot hf cc tr1 at1 m1 (.inr (by omega)) (.inl hmb.symm))
    have q0 : (((f.ne - 1 : Nat) : Int) == 0) = false := by rw [beq_eq_false_iff_ne]; omega
    unfold ptr at *
    clear h hf ff hev hq hsome k2 m1 at1 tr1 c1 hpos hne pmb tmb plt tlt hmb n1 n2 k3
    go_enter Try.func50, Try.ntmps50
    go_wp2_with fail
    go_end0
    exact ⟨rfl, FIN.out⟩
end
end Go.Proofs.Ytepjcfhbbcaldaa.Li
namespace Go.Proofs.Ytepjcfhbbcaldaa.Li
open Go Go.RowKit
set_option linter.unusedSimpArgs false
set_option linter.unusedVariables false
variable {w : World} {tb m r nk : Nat} {nf nn : Int} {T : List Fn} {e d k : Fn} {kd : ByteArray → Option Value}
theorem map_of {w : World} {mv : Value} {n : Nat} {f : ByteArray → Option Value} (h : MG w mv n f) : ∃ mo, mv = .map mo := by
  rcases h.mk with e | ⟨mb, e⟩
  · exact ⟨_, e⟩
  · exact ⟨_, e⟩
set_option maxRecDepth 100000 in
set_option maxHeartbeats 4000000 in
/-- A node stays. -/
theorem tidy_stay (h : TM w tb m r nf nn T) (he : e ∈ T) (hm : MG w e.kv nk kd) (hs : e.s.m = 0 ∨ 0 < e.ne ∨ 1 < nk) :
    Calls Try.prog 51 #[ptr tb, ptr e.s.p] w fun e' w' => e' = .returned (ptr e.s.p) ∧ w' = w := by
  have fe := h.nd e he
  obtain ⟨la, lc, hlv⟩ : ∃ la lc, e.lv = .slice la e.s.m lc := own_sl fe.lv
  obtain ⟨mo, hmo⟩ := map_of fe.ev
  obtain ⟨ko, hko⟩ := map_of hm
  have c1 : w.cell? ⟨e.s.p, 1, none⟩ = some (.slice la e.s.m lc) := by rw [← hlv]; exact box_cells fe.at_ 1 _ rfl
  have c2 : w.cell? ⟨e.s.p, 2, none⟩ = some (.map mo) := by rw [← hmo]; exact box_cells fe.at_ 2 _ rfl
  have c3 : w.cell? ⟨e.s.p, 3, none⟩ = some (.map ko) := by rw [← hko]; exact box_cells fe.at_ 3 _ rfl
  have le := fun ty => fe.ev.len (t := 53) Try.underlying53 ty
  have lk := fun ty => hm.len (t := 60) Try.underlying60 ty
  rw [hmo] at le
  rw [hko] at lk
  unfold ptr at *
  by_cases h0 : e.s.m = 0
  · have q0 : ((e.s.m : Int) == 0) = true := by rw [h0]; rfl
    clear hs h fe hm hlv hmo hko h0
    go_enter Try.func51, Try.ntmps51
    go_wp2_with fail
    go_ret
    exact ⟨rfl, rfl⟩
  · have q0 : ((e.s.m : Int) == 0) = false := by rw [beq_eq_false_iff_ne]; omega
    by_cases h1 : 0 < e.ne
    · have q1 : (0 : Int) < (e.ne : Int) := by omega
      have q1' : (e.ne : Int) > 0 := by omega
      clear hs h fe hm hlv hmo hko h0 h1
      go_enter Try.func51, Try.ntmps51
      go_wp2_with fail
      go_ret
      exact ⟨rfl, rfl⟩
    · have q1 : ¬ (0 : Int) < (e.ne : Int) := by omega
      have q1' : ¬ (e.ne : Int) > 0 := by omega
      have q2 : (1 : Int) < (nk : Int) := by omega
      have q2' : (nk : Int) > 1 := by omega
      clear hs h fe hm hlv hmo hko h0 h1
      go_enter Try.func51, Try.ntmps51
      go_wp2_with fail
      go_ret
      exact ⟨rfl, rfl⟩
theorem tr_less {w : World} (h : TM w tb m r nf nn T) (v : Int) : (w.setCell ⟨tb, 3, none⟩ (.int .i64 v)).heap[tb]? = some (.cells #[ptr r, ptr m, .int .i64 nf, .int .i64 v] 64 (0, 0)) := heap_set h.tr _
theorem ch_less {w : World} (v : Value) : Ch (fun j => j = tb) w (w.setCell ⟨tb, 3, none⟩ v) := ch_set tb 3 v
set_option maxRecDepth 100000 in
set_option maxHeartbeats 4000000 in
/-- A node that has nothing goes. -/
theorem tidy_none (h : TM w tb m r nf nn T) (he : e ∈ T) (hd : d ∈ T) (hkd : Kid d.s e.s) (hm : MG w e.kv 0 kd) (hK : Kds (T.map Fn.s) e.s kd) (h0 : e.ne = 0) (n1 : 1 ≤ nn) (n2 : nn < 1000000000) :
    Calls Try.prog 51 #[ptr tb, ptr e.s.p] w fun e' w' => e' = .returned (.pointer none) ∧ PM w' tb m r nf (nn - 1) (remF e.s.A T) d.s.A (T.map Fn.s) ∧ Ch (fun j => j = tb) w w' := by
  have fe := h.nd e he
  obtain ⟨la, lc, hlv⟩ : ∃ la lc, e.lv = .slice la e.s.m lc := own_sl fe.lv
  obtain ⟨mo, hmo⟩ := map_of fe.ev
  have c1 : w.cell? ⟨e.s.p, 1, none⟩ = some (.slice la e.s.m lc) := by rw [← hlv]; exact box_cells fe.at_ 1 _ rfl
  have c2 : w.cell? ⟨e.s.p, 2, none⟩ = some (.map mo) := by rw [← hmo]; exact box_cells fe.at_ 2 _ rfl
  have le := fun ty => fe.ev.len (t := 53) Try.underlying53 ty
  have lk := fun ty => hm.len (t := 60) Try.underlying60 ty
  rw [hmo, h0] at le
  have t3 : w.cell? ⟨tb, 3, none⟩ = some (.int .i64 nn) := box_cells h.tr 3 _ rfl
  have z3 : w.frozen? ⟨tb, 3, none⟩ = false := box_frozen h.tr 3
  have hw : IntKind.i64.wrap (nn - 1) = nn - 1 := by rw [IntKind.wrap_i64]; omega
  have q0 : ((e.s.m : Int) == 0) = false := by rw [beq_eq_false_iff_ne]; have := hkd.1; omega
  have petb : e.s.p ≠ tb := fun c => h.tb_ne he (.inl c.symm)
  have no : ∀ g ∈ T, ¬ Kid e.s g.s := fun g hg c => by
    have gm := h.inv.le g.s (List.mem_map_of_mem hg)
    have tl := top_lt c.1 gm.1
    obtain ⟨y, hy⟩ : ∃ y, g.s.A[g.s.top]? = some y := ⟨_, List.getElem?_eq_getElem tl⟩
    have oy : okT y := by have := (h.ok g hg).1 y (List.mem_of_getElem? hy); unfold okT maxLen; omega
    have := (hK y (ptr g.s.p) oy).2 ⟨_, ⟨List.mem_map_of_mem hg, c, hy⟩, rfl⟩
    obtain ⟨K, k1, k2, k3⟩ := hm.keys
    have := List.length_pos_of_mem ((k3 y).2 ⟨oy, by rw [this]; rfl⟩)
    omega
  have FIN := hidi (fun (w' : World) (hc : Ch (fun j => j = tb) (w.setCell ⟨tb, 3, none⟩ (.int .i64 (nn - 1))) w') (ht : w'.heap[tb]? = (w.setCell ⟨tb, 3, none⟩ (.int .i64 (nn - 1))).heap[tb]?) => (show PM w' tb m r nf (nn - 1) (remF e.s.A T) d.s.A (T.map Fn.s) ∧ Ch (fun j => j = tb) w w' from by
    have cc := (ch_less (tb := tb) (w := w) (.int .i64 (nn - 1))).then hc
    exact ⟨h.unleafed he hd hkd no cc (by rw [ht]; exact tr_less h _), cc⟩))
  have at1 : (w.setCell ⟨tb, 3, none⟩ (.int .i64 (nn - 1))).heap[e.s.p]? = some (.cells #[ptr m, e.lv, e.ev, e.kv] 62 (0, 0)) := (heap_set_ne _ petb).trans fe.at_
  obtain ⟨w1, hw1⟩ : ∃ w1, w1 = w.setCell ⟨tb, 3, none⟩ (.int .i64 (nn - 1)) := ⟨_, rfl⟩
  have tl1 : tb < w1.heap.size := by rw [hw1]; have := h.islt (.inl rfl); simpa [World.setCell] using this
  have hmk1 : MG w1 e.kv 0 kd := hm.keep (fun b q => by rw [hw1]; exact heap_set_ne _ (fun c => h.tb_ne he (c ▸ .inr (.inr q))))
  rcases hm.mk with hko | ⟨mb, hko⟩
  · have c3 : w.cell? ⟨e.s.p, 3, none⟩ = some (.map none) := by rw [← hko]; exact box_cells fe.at_ 3 _ rfl
    have l3 : w1.cell? ⟨e.s.p, 3, none⟩ = some (.map none) := by rw [← hko, hw1]; exact box_cells at1 3 _ rfl
    have hrg := run_range_nilMap (P := Try.prog) w1 60 9 59 Try.underlying60
    have hnx : ∀ ty, (Instr.next (.pointer (some ⟨w1.heap.size, 0, none⟩)) false ty).run Try.prog (w1.alloc (.mapIter none 0 #[] 0)) = _ := fun ty => run_next_nilMap _ ty 0 0 #[]
    rw [hko] at lk
    rw [← hw1] at FIN
    have HW := hidi hw1
    have HT := hidi tl1
    unfold ptr at *
    clear h he hd hkd hm hK h0 n1 n2 fe hlv hmo petb no at1 hw1 hko tl1 hmk1
    go_enter Try.func51, Try.ntmps51
    go_upto_region 4 with fail
    rw [← HW.out]
    go_wp2_with fail
    refine wp_loop_rounds 1 ?_
    rw [rounds_succ]
    go_wp2_with fail
    go_ret
    exact ⟨rfl, FIN.out _ (ch_alloc _ _ _) (heap_alloc_old _ _ HT.out)⟩
  · have c3 : w.cell? ⟨e.s.p, 3, none⟩ = some (.map (some mb)) := by rw [← hko]; exact box_cells fe.at_ 3 _ rfl
    have l3 : w1.cell? ⟨e.s.p, 3, none⟩ = some (.map (some mb)) := by rw [← hko, hw1]; exact box_cells at1 3 _ rfl
    rw [hko] at hmk1
    rcases hmk1 with ⟨z, _⟩ | ⟨mb', D, z, hown, hsz, hD⟩
    · cases z
    cases z
    rw [hko] at lk
    rw [← hw1] at FIN
    have HW := hidi hw1
    have HT := hidi tl1
    have HS := hidi hsz
    unfold ptr at *
    clear h he hd hkd hm hK h0 n1 n2 fe hlv hmo petb no at1 hw1 hko tl1 hD hsz
    go_enter Try.func51, Try.ntmps51
    go_upto_region 4 with fail
    rw [← HW.out]
    go_wp2_with (at_range; refine wpList_range_own _ rfl _ 60 rfl 9 59 law9 Try.underlying60 hv mb 0 D rfl hown ?_; intro w2 hrg0 hg0 hs0)
    have HG := hidi hg0
    have HR := hidi hrg0
    clear hg0 hs0 hown hrg0 l3
    refine wp_loop_rounds 1 ?_
    rw [rounds_succ]
    go_wp2_with (at_next; refine wpList_next_ranges _ rfl _ rfl 9 law9 hv Value.string (fun v : Value => v) (fun key kl hk => by obtain ⟨x, hx, _⟩ := Go.WideMaps.string_of_keyOf Try.underlying9 hk; exact ⟨x, hx⟩) (fun v y _ => ⟨v, rfl⟩) mb _ 0 D _ _ rfl HR.out ?_ ?_)
    · intro hc0 hl0
      go_wp2_with fail
      go_ret
      exact ⟨rfl, FIN.out _ ((ch_grown HG.out).mono (fun j _ c => by cases c)) (HG.out.block _ HT.out (by simp))⟩
    · intro xk cv kl yd yp w3 cnt2 hkey hlk hvv hat hrg2 hlt2 hg2 hs2 hen
      have := HS.out
      omega
end Go.Proofs.Ytepjcfhbbcaldaa.Li
