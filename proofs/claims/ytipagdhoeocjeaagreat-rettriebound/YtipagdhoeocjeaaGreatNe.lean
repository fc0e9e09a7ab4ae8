import Derived.Test.YtipagdhoeocjeaaGreatNb
namespace Go.Proofs.YtipagdhoeocjeaaGreat.Li
open Go Go.RowKit
set_option linter.unusedSimpArgs false
set_option linter.unusedVariables false
def unm (A : List ByteArray) (m : Msg) (ev : Value) (f : Fn) : Fn := if f.s.A = A then { f with ms := some m, ev := ev } else f
theorem unm_s (A : List ByteArray) (m : Msg) (ev : Value) (f : Fn) : (unm A m ev f).s = f.s := by unfold unm; split <;> rfl
theorem unm_map (A : List ByteArray) (m : Msg) (ev : Value) (T : List Fn) : (T.map (unm A m ev)).map Fn.s = T.map Fn.s := by
  rw [List.map_map]
  exact List.map_congr_left (fun f _ => unm_s A m ev f)
theorem unm_ne {A : List ByteArray} {m : Msg} {ev : Value} {f : Fn} (h : f.s.A ≠ A) : unm A m ev f = f := if_neg h
theorem unm_at {m : Msg} {ev : Value} (f : Fn) : unm f.s.A m ev f = { f with ms := some m, ev := ev } := if_pos rfl
theorem unm_has {A : List ByteArray} {m : Msg} {ev : Value} {f : Fn} {k : Nat} (h : (unm A m ev f).has k) : f.has k ∨ (f.s.A = A ∧ ev = ptr k) := by
  by_cases c : f.s.A = A
  · subst c
    rw [unm_at] at h
    rcases h with h | h | h
    · exact .inl (.inl h)
    · exact .inr ⟨rfl, h⟩
    · exact .inl (.inr (.inr h))
  · rw [unm_ne c] at h
    exact .inl h
section
variable {w w' : World} {tb r : Nat} {nf nn : Int} {T : List Fn} {f : Fn} {m : Msg}
/-- A message is noted at a node. -/
theorem TM.noted (h : TM w tb r nf nn T) (hf : f ∈ T) (nt : Nt w w' tb f.s.p (ptr r) f.lv f.kv nf nn f.ms.isSome m) :
    ∃ mb, TM w' tb r (nf + if f.ms.isSome then 0 else 1) nn (T.map (unm f.s.A m (ptr mb))) ∧ w.heap.size ≤ mb := by
  obtain ⟨tr, ⟨mb, v', n1, n2, n3, n4⟩, nc⟩ := nt
  have ff := h.nd f hf
  have n9 : ∀ j, (j = tb ∨ j = f.s.p) → No9 w j := fun j c => by
    rcases c with c | c
    · rw [c]; exact no9_cells h.tr (by decide)
    · rw [c]; exact ff.no9 (.inl rfl)
  refine ⟨mb, ⟨tr, ?_, ?_, ?_, ?_, ?_⟩, n4⟩
  · rw [unm_map]; exact h.inv
  · obtain ⟨a, ha, e1, e2⟩ := h.rt
    exact ⟨_, List.mem_map_of_mem ha, by rw [unm_s]; exact e1, by rw [unm_s]; exact e2⟩
  · rw [unm_map, List.length_map]
    intro b0 hb0
    obtain ⟨a, ha, rfl⟩ := List.mem_map.1 hb0
    by_cases e : a.s.A = f.s.A
    · obtain rfl := h.same ha hf e
      rw [unm_at]
      refine ⟨n1, ?_, .inr ⟨m, mb, v', rfl, rfl, n2, n3⟩, ?_⟩
      · refine own_ch ff.lv nc (fun g hg c => ?_)
        obtain ⟨cur, e⟩ := own_lt ff.lv hg
        exact (n9 g c cur).1 e
      · obtain ⟨nk, kd, b1, b2, b3⟩ := ff.kv
        refine ⟨nk, kd, b1, b2.keep (fun b e => nc.block b (ff.lt (.inr (.inr e))) (fun c => ?_)), b3⟩
        rcases c with c | c
        · exact h.tb_ne ha (.inr (.inr (by rw [← c]; exact e)))
        · obtain ⟨es, cl, q⟩ := b2.block e
          rw [c, ff.at_] at q
          cases q
    · rw [unm_ne e]
      have af : a ≠ f := fun c => e (by rw [c])
      refine (h.nd a ha).keep nc (fun k c1 c2 => ?_) n9 (Nat.le_refl _) (fun _ _ => Iff.rfl)
      rcases c2 with c | c
      · exact h.tb_ne ha (by rw [← c]; exact c1)
      · exact h.apart ha hf af k c1 (.inl c)
  · rw [List.pairwise_map]
    refine h.dis.imp_of_mem (fun {a b} ha hb c => ?_)
    have one : ∀ g ∈ T, ∀ k, (unm f.s.A m (ptr mb) g).has k → g.has k ∨ (g = f ∧ k = mb) := fun g hg k hk => by
      rcases unm_has hk with e | ⟨e1, e2⟩
      · exact .inl e
      · obtain rfl := h.same hg hf e1
        exact .inr ⟨rfl, (ptr_inj e2).symm⟩
    intro k hka hkb
    rcases one a ha k hka with e1 | ⟨e1, e2⟩ <;> rcases one b hb k hkb with e3 | ⟨e3, e4⟩
    · exact c k e1 e3
    · have := (h.nd a ha).lt e1
      omega
    · have := (h.nd b hb).lt e3
      omega
    · rw [e1, e3] at c
      exact c f.s.p (.inl rfl) (.inl rfl)
  · intro b0 hb0
    obtain ⟨a, ha, rfl⟩ := List.mem_map.1 hb0
    rw [unm_s]
    exact h.ok a ha
end
/-- What a trie holds. -/
def HasM (T : List Fn) (F : List ByteArray) (m : Msg) : Prop := ∃ f ∈ T, f.s.A = F ∧ f.ms = some m
theorem Grow.has {w : World} {tb r : Nat} {nf nn : Int} {T T' : List Fn} (h' : TM w tb r nf nn T') (g : Grow T T') (F : List ByteArray) (z : Msg) : HasM T' F z ↔ HasM T F z := by
  constructor
  · rintro ⟨f, hf, e1, e2⟩
    rcases g.new f hf with ⟨a, ha, e⟩ | c
    · obtain ⟨b, hb, g1, g2, g3⟩ := g.old a ha
      obtain rfl := h'.same hb hf (g1.trans e)
      exact ⟨a, ha, e.trans e1, by rw [← g2]; exact e2⟩
    · rw [c] at e2; cases e2
  · rintro ⟨f, hf, e1, e2⟩
    obtain ⟨b, hb, g1, g2, g3⟩ := g.old f hf
    exact ⟨b, hb, g1.trans e1, by rw [g2]; exact e2⟩
theorem noted_has {w : World} {tb r : Nat} {nf nn : Int} {T : List Fn} (h : TM w tb r nf nn T) {f : Fn} (hf : f ∈ T) (m : Msg) (ev : Value) (F : List ByteArray) (z : Msg) : HasM (T.map (unm f.s.A m ev)) F z ↔ (F = f.s.A ∧ z = m) ∨ (F ≠ f.s.A ∧ HasM T F z) := by
  constructor
  · rintro ⟨b0, hb0, e1, e2⟩
    obtain ⟨a, ha, rfl⟩ := List.mem_map.1 hb0
    rw [unm_s] at e1
    by_cases c : a.s.A = f.s.A
    · obtain rfl := h.same ha hf c
      rw [unm_at] at e2
      have e2' : some m = some z := e2
      cases e2'
      exact .inl ⟨e1.symm, rfl⟩
    · rw [unm_ne c] at e2
      exact .inr ⟨fun d => c (e1.trans d), a, ha, e1, e2⟩
  · rintro (⟨rfl, rfl⟩ | ⟨hn, a, ha, e1, e2⟩)
    · exact ⟨_, List.mem_map_of_mem hf, by rw [unm_s], by rw [unm_at]⟩
    · refine ⟨_, List.mem_map_of_mem ha, by rw [unm_s]; exact e1, ?_⟩
      rw [unm_ne (fun d => hn (e1.symm.trans d))]
      exact e2
end Go.Proofs.YtipagdhoeocjeaaGreat.Li
namespace Go.Proofs.YtipagdhoeocjeaaGreat.Li
open Go Go.RowKit
set_option linter.unusedSimpArgs false
set_option linter.unusedVariables false
/-- A trie after at most P puts. -/
structure TS (w : World) (tb r P : Nat) (nf : Int) (T : List Fn) : Prop where
  tm : TM w tb r nf (T.length : Int) T
  n0 : 0 ≤ nf
  nP : nf ≤ P
  cnt : (T.length : Int) ≤ 2 * nf + 1
  one : 0 < nf ∨ T.length = 1
  frm : ∀ f ∈ T, f.s.A = [] ∨ f.ms.isSome = true ∨ Fork T f.s.A
  cn : ∃ Fs : List (List ByteArray), Fs.Nodup ∧ (∀ F, F ∈ Fs ↔ ∃ f ∈ T, f.s.A = F ∧ f.ms.isSome = true) ∧ nf = (Fs.length : Int)
  msk : ∀ f ∈ T, ∀ m, f.ms = some m → MsOk f.s.A m
theorem TS.below {w w' : World} {tb r P : Nat} {nf : Int} {T : List Fn} (h : TS w tb r P nf T) (hb : Below w.heap.size w w') : TS w' tb r P nf T := ⟨h.tm.below hb, h.n0, h.nP, h.cnt, h.one, h.frm, h.cn, h.msk⟩
theorem TS.keep {w w' : World} {tb r P : Nat} {nf : Int} {T : List Fn} {C : Nat → Prop} (h : TS w tb r P nf T) (hc : Ch C w w') (ht : ∀ j, isT tb T j → ¬ C j) (h9 : ∀ k, C k → No9 w k) : TS w' tb r P nf T := ⟨h.tm.keep hc (ht tb (.inl rfl)) (fun f hf k c => ht k (.inr ⟨f, hf, c⟩)) h9, h.n0, h.nP, h.cnt, h.one, h.frm, h.cn, h.msk⟩
/-- What Put leaves. -/
structure PutR (w w' : World) (tb r P : Nat) (T : List Fn) (m : Msg) (had : Bool) : Prop where
  ex : ∃ T' nf', TS w' tb r (P + 1) nf' T' ∧ (∀ F z, HasM T' F z ↔ (F = levels m.t ∧ z = m) ∨ (F ≠ levels m.t ∧ HasM T F z)) ∧ ∀ j, isT tb T' j → isT tb T j ∨ w.heap.size ≤ j
  old : had = true ↔ ∃ z, HasM T (levels m.t) z
  ch : Ch (isT tb T) w w'
theorem put_note {w w4 w5 : World} {tb r P g : Nat} {nf : Int} {T : List Fn} {m : Msg} {v : Value} (h : TS w tb r P nf T) (hP : P < 100000) (hm : MsOk (levels m.t) m) (c4 : Ch (fun _ => False) w w4) (rc : Rch w4 w5 tb r nf T (levels m.t) 2 g) (hv : PR w5 v m.xs) :
    Calls Tryz.prog 26 #[ptr tb, ptr g, m.val v] w5 fun e w' => ∃ had, e = .returned (.bool had) ∧ PutR w w' tb r P T m had := by
  obtain ⟨⟨T', f, f1, f2, rfl, tm, gr, len, fr, fm, is⟩, rch⟩ := rc
  have ff := tm.nd f f1
  have n0 := h.n0
  have nP := h.nP
  refine (note_any (had := f.ms.isSome) m tm.tr ff.at_ ?_ hv (by have := hm.2.2.2.1; omega) (by have := hm.2.2.2.2; omega) n0 (by omega)).mono ?_
  · rcases ff.ev with ⟨e1, e2⟩ | ⟨z, k, u, e1, e2, _⟩
    · exact .inl ⟨e1, by rw [e2]; rfl⟩
    · exact .inr ⟨⟨k, e2⟩, by rw [e1]; rfl⟩
  rintro e w6 ⟨rfl, nt⟩
  have nch := nt.ch
  obtain ⟨mb, tm6, p3⟩ := tm.noted f1 nt
  have cnt := h.cnt
  have one := h.one
  have gl := gr.le
  have s4 := c4.size
  have s5 := rch.size
  have hfn : f.ms.isSome = false ∨ f.ms.isSome = true := by cases f.ms.isSome <;> simp
  have fr' : f.ms.isSome = false ∨ (T'.length = T.length ∧ ∃ a ∈ T, a.s.A = levels m.t) := fr.imp (fun c => by rw [c]; rfl) id
  refine ⟨_, rfl, ⟨_, _, ⟨by rw [List.length_map]; exact tm6, ?_, ?_, ?_, ?_, ?_, ?_, ?_⟩, fun F z => ?_, ?_⟩, ?_, ?_⟩
  · split <;> omega
  · split <;> omega
  · rw [List.length_map]
    split
    · rename_i c
      rcases fr' with c' | ⟨c', _⟩
      · rw [c] at c'; cases c'
      · omega
    · omega
  · split
    · rename_i c
      rcases fr' with c' | ⟨c', _⟩
      · rw [c] at c'; cases c'
      · rcases one with o | o
        · left; omega
        · right
          rw [List.length_map]
          omega
    · left; omega
  · intro b0 hb0
    obtain ⟨a, ha, rfl⟩ := List.mem_map.1 hb0
    rw [unm_s]
    have FK : Fork T' a.s.A → Fork (T'.map (unm f.s.A m (ptr mb))) a.s.A := fun c => c.mono (fun c hc => ⟨_, List.mem_map_of_mem hc, by rw [unm_s]⟩)
    by_cases e : a.s.A = f.s.A
    · obtain rfl := tm.same ha f1 e
      rw [unm_at]
      exact .inr (.inl rfl)
    · rw [unm_ne e]
      rcases fm a ha with ⟨b, hb, e'⟩ | c | c
      · obtain ⟨c, hc, g1, g2, g3⟩ := gr.old b hb
        obtain rfl := tm.same hc ha (g1.trans e')
        rw [g1, g2]
        rcases h.frm b hb with c | c | c
        · exact .inl c
        · exact .inr (.inl c)
        · rw [g1] at FK
          exact .inr (.inr (FK (c.mono (fun d hd => by obtain ⟨d', hd', ed, _⟩ := gr.old d hd; exact ⟨d', hd', ed⟩))))
      · exact absurd (c.trans f2.symm) e
      · exact .inr (.inr (FK c))
  · obtain ⟨Fs, d1, d2, d3⟩ := h.cn
    have onF : ∀ F, (∃ a ∈ T'.map (unm f.s.A m (ptr mb)), a.s.A = F ∧ a.ms.isSome = true) ↔ F = levels m.t ∨ F ∈ Fs := fun F => by
      rw [d2]
      constructor
      · rintro ⟨b0, hb0, e1, e2⟩
        obtain ⟨a, ha, rfl⟩ := List.mem_map.1 hb0
        rw [unm_s] at e1
        by_cases e : a.s.A = f.s.A
        · exact .inl (by rw [← e1, e, f2])
        · rw [unm_ne e] at e2
          rcases gr.new a ha with ⟨b, hb, e'⟩ | c
          · obtain ⟨c, hc, g1, g2, g3⟩ := gr.old b hb
            obtain rfl := tm.same hc ha (g1.trans e')
            exact .inr ⟨b, hb, by rw [← g1, e1], by rw [← g2]; exact e2⟩
          · rw [c] at e2; cases e2
      · rintro (rfl | ⟨b, hb, e1, e2⟩)
        · exact ⟨_, List.mem_map_of_mem f1, by rw [unm_s, f2], by rw [unm_at]; rfl⟩
        · obtain ⟨c, hc, g1, g2, g3⟩ := gr.old b hb
          refine ⟨_, List.mem_map_of_mem hc, by rw [unm_s, g1, e1], ?_⟩
          by_cases e : c.s.A = f.s.A
          · obtain rfl := tm.same hc f1 e
            rw [unm_at]
            rfl
          · rw [unm_ne e, g2]
            exact e2
    have Lin : levels m.t ∈ Fs ↔ f.ms.isSome = true := by
      rw [d2]
      constructor
      · rintro ⟨b, hb, e1, e2⟩
        obtain ⟨c, hc, g1, g2, g3⟩ := gr.old b hb
        obtain rfl := tm.same hc f1 (by rw [g1, e1, f2])
        rw [g2]; exact e2
      · intro c
        rcases gr.new f f1 with ⟨b, hb, e'⟩ | c'
        · obtain ⟨c1, hc, g1, g2, g3⟩ := gr.old b hb
          obtain rfl := tm.same hc f1 (g1.trans e')
          exact ⟨b, hb, by rw [← g1, f2], by rw [← g2]; exact c⟩
        · rw [c'] at c; cases c
    rcases hfn with c | c
    · refine ⟨levels m.t :: Fs, List.nodup_cons.2 ⟨(fun q => by rw [Lin.1 q] at c; cases c), d1⟩, fun F => by rw [onF, List.mem_cons], ?_⟩
      rw [c, d3]
      simp
    · refine ⟨Fs, d1, fun F => ?_, by rw [c, d3]; simp⟩
      rw [onF]
      exact ⟨.inr, fun q => q.elim (fun q => by rw [q]; exact Lin.2 c) id⟩
  · intro b0 hb0 z hz
    obtain ⟨a, ha, rfl⟩ := List.mem_map.1 hb0
    rw [unm_s]
    by_cases e : a.s.A = f.s.A
    · obtain rfl := tm.same ha f1 e
      rw [unm_at] at hz
      have : some m = some z := hz
      cases this
      rw [f2]
      exact hm
    · rw [unm_ne e] at hz
      rcases gr.new a ha with ⟨b, hb, e'⟩ | c
      · obtain ⟨c, hc, g1, g2, g3⟩ := gr.old b hb
        obtain rfl := tm.same hc ha (g1.trans e')
        rw [g1]
        exact h.msk b hb z (by rw [← g2]; exact hz)
      · rw [c] at hz; cases hz
  · rw [noted_has tm f1, f2]
    constructor
    · rintro (c | ⟨c1, c2⟩)
      · exact .inl c
      · exact .inr ⟨c1, (gr.has tm F z).1 c2⟩
    · rintro (c | ⟨c1, c2⟩)
      · exact .inl c
      · exact .inr ⟨c1, (gr.has tm F z).2 c2⟩
  · rintro j (c | ⟨a0, ha0, c⟩)
    · exact .inl (.inl c)
    · obtain ⟨a, ha, rfl⟩ := List.mem_map.1 ha0
      have old : isT tb T' j → isT tb T j ∨ w.heap.size ≤ j := fun c => (is j c).imp id (fun c => by omega)
      rcases unm_has c with c | ⟨_, c⟩
      · exact old (.inr ⟨a, ha, c⟩)
      · have := ptr_inj c
        have := rch.size
        exact .inr (by omega)
  · constructor
    · intro c
      cases e : f.ms with
      | none => rw [e] at c; cases c
      | some z => exact ⟨z, (gr.has tm _ _).1 ⟨f, f1, f2, e⟩⟩
    · rintro ⟨z, hz⟩
      obtain ⟨a, ha, e1, e2⟩ := (gr.has tm _ _).2 hz
      obtain rfl := tm.same ha f1 (e1.trans f2.symm)
      rw [e2]; rfl
  · refine ((c4.mono (fun j _ e => e.elim)).trans rch (fun j _ e => e)).trans nch (fun j hj e => ?_)
    have : isT tb T' j := by
      rcases e with e | e
      · exact .inl e
      · exact .inr ⟨f, f1, .inl e⟩
    rcases is j this with c | c
    · exact c
    · omega
end Go.Proofs.YtipagdhoeocjeaaGreat.Li
namespace Go.Proofs.YtipagdhoeocjeaaGreat.Li
open Go Go.RowKit
set_option linter.unusedSimpArgs false
set_option linter.unusedVariables false
theorem tcode_zero {s : ByteArray} (h : tcode s = 0) : s.size ≤ 65535 := by
  unfold tcode at h
  by_cases hc : ct s = 0
  · exact ct_zero hc
  · rw [if_neg hc] at h
    exact absurd h hc
theorem box4 {w : World} {b : Nat} {x0 x1 x2 x3 : Value} {t : Nat} {fz : Nat × Nat} (h : w.heap[b]? = some (.cells #[x0, x1, x2, x3] t fz)) : w.cell? ⟨b, 0, none⟩ = some x0 ∧ w.cell? ⟨b, 1, none⟩ = some x1 ∧ w.cell? ⟨b, 2, none⟩ = some x2 ∧ w.cell? ⟨b, 3, none⟩ = some x3 :=
  ⟨box_cells h 0 _ rfl, box_cells h 1 _ rfl, box_cells h 2 _ rfl, box_cells h 3 _ rfl⟩
set_option maxRecDepth 100000 in
set_option maxHeartbeats 4000000 in
theorem put_topic {w : World} {tb : Nat} {m : Msg} {a : Option Addr} {n c : Nat} (hf : tcode m.t ≠ 0) :
    Calls Tryz.prog 9 #[ptr tb, m.val (.slice a n c)] w fun e w' => e = .returned (.tuple #[.bool false, .int .i64 90]) ∧ Below w.heap.size w w' := by
  obtain ⟨t, xs, q, r⟩ := m
  simp only at hf
  have FC := hidi (fun (w : World) => tcheck_any t w)
  obtain ⟨k, hk⟩ : ∃ k, k = tcode t := ⟨_, rfl⟩
  rw [← hk] at FC hf
  have hne : (k == 0) = false := by rw [beq_eq_false_iff_ne]; exact hf
  have BA := hidi (show Below w.heap.size w (w.alloc (.cells #[.string t, .slice a n c, .int .i64 q, .bool r] 30)) from (Below.refl _ _).alloc (Nat.le_refl _) _)
  unfold ptr Msg.val Msg.cs
  clear hk hf
  go_enter Tryz.func9, Tryz.ntmps9
  go_wp2_with (go_at_call 20; refine (FC.out _).mono ?_; rintro e w1 ⟨rfl, hb⟩; have B1 := hidi (BA.out.trans (hb.mono BA.out.size)); clear hb FC)
  go_ret2
  exact ⟨rfl, B1.out⟩
set_option maxRecDepth 100000 in
set_option maxHeartbeats 4000000 in
theorem put_quality {w : World} {tb : Nat} {m : Msg} {a : Option Addr} {n c : Nat} (hf : tcode m.t = 0) (hq : m.q < 0 ∨ 2 < m.q) :
    Calls Tryz.prog 9 #[ptr tb, m.val (.slice a n c)] w fun e w' => e = .returned (.tuple #[.bool false, .int .i64 91]) ∧ Below w.heap.size w w' := by
  obtain ⟨t, xs, q, r⟩ := m
  simp only at hf hq
  have FC := hidi (fun (w : World) => (show Calls Tryz.prog 20 #[.string t] w fun e w' => e = .returned (.int .i64 0) ∧ Below w.heap.size w w' from by rw [← hf]; exact tcheck_any t w))
  have hbox := heap_alloc_new w (.cells #[.string t, .slice a n c, .int .i64 q, .bool r] 30)
  have BA := hidi (show Below w.heap.size w (w.alloc (.cells #[.string t, .slice a n c, .int .i64 q, .bool r] 30)) from (Below.refl _ _).alloc (Nat.le_refl _) _)
  have HB := hidi (fun (w1 : World) (hb : Below (w.alloc (.cells #[.string t, .slice a n c, .int .i64 q, .bool r] 30)).heap.size (w.alloc (.cells #[.string t, .slice a n c, .int .i64 q, .bool r] 30)) w1) => (show w1.cell? ⟨w.heap.size, 2, none⟩ = some (.int .i64 q) from box_cells (later_at hbox hb) 2 _ rfl))
  unfold ptr Msg.val Msg.cs
  clear hf hbox
  by_cases a0 : q < 0
  · clear hq
    go_enter Tryz.func9, Tryz.ntmps9
    go_wp2_with (go_at_call 20; refine (FC.out _).mono ?_; rintro e w1 ⟨rfl, hb⟩; have c2 := HB.out w1 hb; have B1 := hidi (BA.out.trans (hb.mono BA.out.size)); clear hb FC)
    go_ret2
    exact ⟨rfl, B1.out⟩
  · have a2 : (2 : Int) < q := by omega
    have a2' : q > 2 := a2
    clear hq
    go_enter Tryz.func9, Tryz.ntmps9
    go_wp2_with (go_at_call 20; refine (FC.out _).mono ?_; rintro e w1 ⟨rfl, hb⟩; have c2 := HB.out w1 hb; have B1 := hidi (BA.out.trans (hb.mono BA.out.size)); clear hb FC)
    go_ret2
    exact ⟨rfl, B1.out⟩
set_option maxRecDepth 100000 in
set_option maxHeartbeats 8000000 in
/-- PUT, of a topic and a right quality. -/
theorem put_right {w : World} {tb r P : Nat} {nf : Int} {T : List Fn} {m : Msg} {v : Value} (h : TS w tb r P nf T) (hm : MsOk (levels m.t) m) (hP : P < 100000) (hv : ∀ w', Ch (isT tb T) w w' → PR w' v m.xs) :
    Calls Tryz.prog 9 #[ptr tb, m.val v] w fun e w' => ∃ had, e = .returned (.tuple #[.bool had, .int .i64 0]) ∧ PutR w w' tb r P T m had := by
  obtain ⟨a, c, rfl, -⟩ := (hv w (Ch.refl _ _)).sl
  obtain ⟨n, hn⟩ : ∃ n, n = m.xs.length := ⟨_, rfl⟩
  rw [← hn] at hv ⊢
  have hts := hm.2.2.2.2
  have n0 := h.n0
  have nP := h.nP
  have cnt := h.cnt
  have FC := hidi (fun (w : World) => (show Calls Tryz.prog 20 #[.string m.t] w fun e w' => e = .returned (.int .i64 0) ∧ Below w.heap.size w w' from by rw [← hm.1]; exact tcheck_any m.t w))
  have LV := hidi (fun (w : World) => tlevels_any m.t (by omega) w)
  have hbox := heap_alloc_new w (.cells #[.string m.t, .slice a n c, .int .i64 m.q, .bool m.r] 30)
  have BA := hidi (show Below w.heap.size w (w.alloc (.cells #[.string m.t, .slice a n c, .int .i64 m.q, .bool m.r] 30)) from (Below.refl _ _).alloc (Nat.le_refl _) _)
  have HB := hidi (fun (w1 : World) (hb : Below (w.alloc (.cells #[.string m.t, .slice a n c, .int .i64 m.q, .bool m.r] 30)).heap.size (w.alloc (.cells #[.string m.t, .slice a n c, .int .i64 m.q, .bool m.r] 30)) w1) => later_at hbox hb)
  have RE := hidi (fun (w4 : World) (v' : Value) (B : Nat) (hb : Below w.heap.size w w4) (ho : w4.ownsRow B 9 1 v' (levels m.t).length ((levels m.t).map Value.string)) => (show Calls Tryz.prog 27 #[ptr tb, v'] w4 fun e w' => ∃ g, e = .returned (ptr g) ∧ Rch w4 w' tb r nf T (levels m.t) 2 g from
    reach_any (h.below hb).tm (rw_own ho) (fun t ht => by have := levels_size m.t t ht; omega) (by have := levels_len m.t; omega) (by omega)))
  have NO := hidi (fun (w4 w5 : World) (g : Nat) (hb : Below w.heap.size w w4) (rc : Rch w4 w5 tb r nf T (levels m.t) 2 g) => put_note (v := .slice a n c) h hP hm (Below.ch hb) rc (hv w5 ((Below.ch hb).trans rc.ch (fun j _ e => e))))
  have KB := hidi (fun (w4 w5 : World) (g : Nat) (rc : Rch w4 w5 tb r nf T (levels m.t) 2 g) (hb : Below w.heap.size w w4) (hx : w4.heap[w.heap.size]? = some (.cells #[.string m.t, .slice a n c, .int .i64 m.q, .bool m.r] 30 (0, 0))) => (show w5.heap[w.heap.size]? = some (.cells #[.string m.t, .slice a n c, .int .i64 m.q, .bool m.r] 30 (0, 0)) from
    (rc.ch.block _ (Array.getElem?_eq_some_iff.1 hx).1 (fun e => by
      rcases e with e | ⟨f, hf, e⟩
      · have := (Array.getElem?_eq_some_iff.1 h.tm.tr).1; omega
      · have := (h.tm.nd f hf).lt e; omega)).trans hx))
  obtain ⟨q0, q2⟩ := hm.2.2.1
  have a0 : ¬ m.q < 0 := by omega
  have a2 : ¬ m.q > 2 := by omega
  have a2' : ¬ (2 : Int) < m.q := by omega
  obtain ⟨t, xs, q, rr⟩ := m
  unfold ptr Msg.val Msg.cs at *
  simp only at *
  clear h hv hP hm q0 q2 n0 nP cnt hts hn hbox
  go_enter Tryz.func9, Tryz.ntmps9
  go_upto_region 5 with (go_at_call 20; refine (FC.out _).mono ?_; rintro e w2 ⟨rfl, hb⟩; have X2 := hidi (HB.out w2 hb); obtain ⟨l0, l1, l2, l3⟩ := box4 X2.out; have B2 := hidi (BA.out.trans (hb.mono BA.out.size)); clear hb FC HB BA)
  go_region_with (first
    | (go_at_call 28; refine (LV.out _).mono ?_; rintro e w4 ⟨v', rfl, ho, hb⟩; have BB := hidi ((Below.refl w2.heap.size w2).drew.trans hb); have X4 := hidi (later_at X2.out BB.out); have B4 := hidi (B2.out.trans (BB.out.mono B2.out.size)); have CCr := hidi (RE.out w4 v' _ B4.out ho); clear l0 l1 l2 l3 hb ho; obtain ⟨l0, l1, l2, l3⟩ := box4 X4.out)
    | (go_at_call 27; refine CCr.out.mono ?_; rintro e w5 ⟨g, rfl, rc⟩; have X5 := hidi (KB.out w4 w5 g rc B4.out X4.out); have CCn := hidi (NO.out w4 w5 g B4.out rc); clear l0 l1 l2 l3 rc; obtain ⟨l0, l1, l2, l3⟩ := box4 X5.out)
    | (go_at_call 26; refine CCn.out.mono ?_; rintro e w6 ⟨had, rfl, pr⟩; have PRR := hidi pr; clear pr l0 l1 l2 l3))
  all_goals go_wp2_with fail
  all_goals first | go_ret2 | go_ret
  all_goals exact ⟨had, rfl, PRR.out⟩
theorem nodes_any {w : World} {tb r : Nat} {nf nn : Int} {T : List Fn} (h : TM w tb r nf nn T) : Calls Tryz.prog 17 #[ptr tb] w fun e w' => e = .returned (.int .i64 nn) ∧ w' = w := by
  have c := box_cells h.tr 2 _ rfl
  unfold ptr
  clear h
  go_enter Tryz.func17, Tryz.ntmps17
  go_wp2_with fail
  go_ret
  exact ⟨rfl, rfl⟩
theorem len_any {w : World} {tb r : Nat} {nf nn : Int} {T : List Fn} (h : TM w tb r nf nn T) : Calls Tryz.prog 18 #[ptr tb] w fun e w' => e = .returned (.int .i64 nf) ∧ w' = w := by
  have c := box_cells h.tr 1 _ rfl
  unfold ptr
  clear h
  go_enter Tryz.func18, Tryz.ntmps18
  go_wp2_with fail
  go_ret
  exact ⟨rfl, rfl⟩
def root0 (p : Nat) : Fn := ⟨⟨p, [], 0⟩, none, .slice none 0 0, .pointer none, .map none⟩
theorem ts_new {w' : World} {b c : Nat} (h1 : w'.heap[b]? = some (.cells #[.slice none 0 0, .pointer none, .map none] 75 (0, 0))) (h2 : w'.heap[c]? = some (.cells #[ptr b, .int .i64 0, .int .i64 1] 65 (0, 0))) : TS w' c b 0 0 [root0 b] := by
  refine ⟨⟨h2, ⟨⟨_, List.mem_singleton.2 rfl, rfl⟩, List.pairwise_singleton _ _, ?_, ?_, ?_⟩, ⟨_, List.mem_singleton.2 rfl, rfl, rfl⟩, ?_, List.pairwise_singleton _ _, ?_⟩, by omega, by omega, by simp, .inr rfl, ?_, ⟨[], List.nodup_nil, fun F => ⟨fun c => (by cases c), fun c => ?_⟩, rfl⟩, ?_⟩
  · intro d hd
    obtain rfl := List.mem_singleton.1 hd
    exact ⟨Nat.le_refl _, by simp [root0]⟩
  · intro d hd hm
    obtain rfl := List.mem_singleton.1 hd
    exact absurd hm (Nat.lt_irrefl 0)
  · intro d hd e he hm
    obtain rfl := List.mem_singleton.1 hd
    exact absurd hm (Nat.lt_irrefl 0)
  · intro f hf
    obtain rfl := List.mem_singleton.1 hf
    refine ⟨h1, ⟨rfl, .inl ⟨rfl, rfl⟩⟩, .inl ⟨rfl, rfl⟩, ⟨0, fun _ => none, Nat.zero_le _, .inl ⟨rfl, rfl, fun _ _ => rfl⟩, fun x v hx => ?_⟩⟩
    constructor
    · intro c; cases c
    · rintro ⟨e, ⟨he, hk, _⟩, _⟩
      obtain rfl := List.mem_singleton.1 he
      exact absurd hk.1 (Nat.lt_irrefl 0)
  · intro f hf
    obtain rfl := List.mem_singleton.1 hf
    exact ⟨fun t ht => (by simp [root0] at ht), (by simp [root0])⟩
  · intro f hf
    obtain rfl := List.mem_singleton.1 hf
    exact .inl rfl
  · obtain ⟨f, hf, _, c⟩ := c
    obtain rfl := List.mem_singleton.1 hf
    cases c
  · intro f hf z hz
    obtain rfl := List.mem_singleton.1 hf
    cases hz
set_option maxRecDepth 100000 in
set_option maxHeartbeats 4000000 in
theorem new_any (w : World) : Calls Tryz.prog 23 #[] w fun e w' => ∃ tb r T, e = .returned (ptr tb) ∧ TS w' tb r 0 0 T ∧ (∀ F z, ¬ HasM T F z) ∧ (∀ j, isT tb T j → w.heap.size ≤ j) ∧ Below w.heap.size w w' := by
  go_enter Tryz.func23, Tryz.ntmps23
  go_wp2_with fail
  go_ret
  have ha : ∀ (w : World) (o : Obj), (w.alloc o).heap.size = w.heap.size + 1 := fun w o => Array.size_push _
  refine ⟨w.heap.size + 1, w.heap.size, [root0 w.heap.size], rfl, ts_new ?_ ?_, ?_, ?_, ?_⟩
  · rw [heap_alloc_old _ _ (by rw [ha]; omega)]
    exact heap_alloc_new _ _
  · have := heap_alloc_new (w.alloc (.cells #[.slice none 0 0, .pointer none, .map none] 75)) (.cells #[ptr w.heap.size, .int .i64 0, .int .i64 1] 65)
    rw [ha] at this
    exact this
  · rintro F z ⟨f, hf, _, e⟩
    obtain rfl := List.mem_singleton.1 hf
    cases e
  · rintro j (c | ⟨f, hf, c⟩)
    · omega
    · obtain rfl := List.mem_singleton.1 hf
      rcases c with c | c | c
      · have : j = w.heap.size := c
        omega
      · cases c
      · cases c
  · exact ((Below.refl _ _).alloc (Nat.le_refl _) _).alloc (by rw [ha]; omega) _
theorem TS.pos {w : World} {tb r P : Nat} {nf : Int} {T : List Fn} (h : TS w tb r P nf T) : 0 < T.length := by
  obtain ⟨f, hf, _⟩ := h.tm.rt
  exact List.length_pos_of_mem hf
set_option maxRecDepth 100000 in
set_option maxHeartbeats 4000000 in
theorem bound_any {w : World} {tb r P : Nat} {nf : Int} {T : List Fn} (h : TS w tb r P nf T) (hP : P < 100000) : Calls Tryz.prog 10 #[ptr tb] w fun e w' => e = .returned (.bool true) ∧ w' = w := by
  have NO := hidi (nodes_any h.tm)
  have LE := hidi (len_any h.tm)
  have t0 := h.pos
  have n0 := h.n0
  have nP := h.nP
  have cnt := h.cnt
  have one := h.one
  obtain ⟨t, ht⟩ : ∃ t : Int, t = T.length := ⟨_, rfl⟩
  rw [← ht] at NO cnt
  have g1 : t ≥ 1 := by omega
  have g1' : (1 : Int) ≤ t := g1
  have w1 : IntKind.i64.wrap (2 * nf) = 2 * nf := by rw [IntKind.wrap_i64]; omega
  have w2 : IntKind.i64.wrap (2 * nf + 1) = 2 * nf + 1 := by rw [IntKind.wrap_i64]; omega
  have d1 : decide (t ≥ 1) = true := decide_eq_true g1
  have d2 : decide (t ≤ 2 * nf + 1) = true := decide_eq_true cnt
  unfold ptr at *
  by_cases c : 0 < nf
  · have d3 : decide (nf > 0) = true := decide_eq_true c
    have c' : nf > 0 := c
    clear h t0 n0 nP one ht hP
    go_enter Tryz.func10, Tryz.ntmps10
    go_wp2_with (first
      | (go_at_call 17; refine NO.out.mono ?_; rintro e w' ⟨rfl, rfl⟩)
      | (go_at_call 18; refine LE.out.mono ?_; rintro e w' ⟨rfl, rfl⟩))
    go_ret
    exact ⟨rfl, rfl⟩
  · have c' : ¬ nf > 0 := c
    have d3 : decide (nf > 0) = false := decide_eq_false c
    have e1 : t = 1 := by omega
    have d4 : (t == 1) = true := by rw [e1]; rfl
    clear h t0 n0 nP one ht hP e1
    go_enter Tryz.func10, Tryz.ntmps10
    go_wp2_with (first
      | (go_at_call 17; refine NO.out.mono ?_; rintro e w' ⟨rfl, rfl⟩)
      | (go_at_call 18; refine LE.out.mono ?_; rintro e w' ⟨rfl, rfl⟩))
    go_ret
    exact ⟨rfl, rfl⟩
end Go.Proofs.YtipagdhoeocjeaaGreat.Li
