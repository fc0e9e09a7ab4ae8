import Derived.Test.YtepjcfhbbcaldaaGreatKza
namespace Go.Proofs.YtepjcfhbbcaldaaGreat.Li
open Go Go.RowKit
set_option linter.unusedSimpArgs false
set_option linter.unusedVariables false
/-- A trie after at most P puts. -/
structure TS (w : World) (tb m r P : Nat) (nf : Int) (T : List Fn) : Prop where
  tm : TM w tb m r nf (T.length : Int) T
  n0 : 0 ≤ nf
  nP : nf ≤ P
  cnt : (T.length : Int) ≤ 2 * nf + 1
  one : 0 < nf ∨ T.length = 1
  few : ∀ f ∈ T, f.ne ≤ P
  frm : ∀ f ∈ T, f.s.A = [] ∨ 0 < f.ne ∨ Fork T f.s.A
  cn : ∃ Fs : List (List ByteArray), Fs.Nodup ∧ (∀ F, F ∈ Fs ↔ ∃ f ∈ T, f.s.A = F ∧ 0 < f.ne) ∧ nf = (Fs.length : Int)
theorem TS.below {w w' : World} {tb m r P : Nat} {nf : Int} {T : List Fn} (h : TS w tb m r P nf T) (hb : Below w.heap.size w w') : TS w' tb m r P nf T := ⟨h.tm.below hb, h.n0, h.nP, h.cnt, h.one, h.few, h.frm, h.cn⟩
theorem ch_root {w : World} {tb m r : Nat} {nf nn : Int} {T : List Fn} (h : TM w tb m r nf nn T) : Ch (fun _ => False) w (w.setCell ⟨tb, 0, none⟩ (ptr r)) :=
  ⟨rfl, rfl, rfl, by simp [World.setCell], fun k hk _ => by
    by_cases e : k = tb
    · rw [e, heap_set h.tr, h.tr]
      rfl
    · exact heap_set_ne _ e⟩
/-- What Put leaves. -/
structure PutR (w w' : World) (tb m r P : Nat) (T : List Fn) (L : List ByteArray) (x : ByteArray) (q o : Int) : Prop where
  ex : ∃ T' nf', TS w' tb m r (P + 1) nf' T' ∧ (∀ F y z, HasE T' F y z ↔ (F = L ∧ y = x ∧ z = q) ∨ (¬ (F = L ∧ y = x) ∧ HasE T F y z)) ∧ ∀ j, isT tb T' j → isT tb T j ∨ w.heap.size ≤ j
  old : HasE T L x o ∨ (o = -1 ∧ ∀ z, ¬ HasE T L x z)
  ch : Ch (isT tb T) w w'
theorem put_note {w w4 w5 : World} {tb m r P g : Nat} {nf : Int} {T : List Fn} {L : List ByteArray} {x : ByteArray} {q : Int} (h : TS w tb m r P nf T) (hP : P < 100000) (hx : x.size ≤ 1000000) (c4 : Ch (fun _ => False) w w4) (rc : Rch w4 w5 tb m r nf T L 2 g) :
    Calls Tryz.prog 21 #[ptr tb, ptr g, .string x, .int .i64 q] w5 fun e w' => ∃ o, e = .returned (.int .i64 o) ∧ PutR w w' tb m r P T L x q o := by
  have hok : okT x := by unfold okT maxLen; omega
  obtain ⟨⟨T', f, f1, f2, rfl, tm, gr, len, fr, fm, is⟩, rch⟩ := rc
  have ff := tm.nd f f1
  have n0 := h.n0
  have nP := h.nP
  have fne : f.ne ≤ P := by
    rcases gr.new f f1 with ⟨a, ha, e⟩ | ⟨c, _⟩
    · obtain ⟨b, hb, g1, g2, g3, g4⟩ := gr.old a ha
      obtain rfl := tm.same hb f1 (g1.trans e)
      rw [g3]
      exact h.few a ha
    · omega
  refine (note_any tm.tr ff.at_ ff.ev ff.e0 (by omega) hx n0 (by omega)).mono ?_
  rintro e w6 ⟨rfl, nt⟩
  have nch := nt.ch
  obtain ⟨n, mb, tm6, p1, p2, p3⟩ := tm.noted f1 hok nt
  have cnt := h.cnt
  have one := h.one
  have gl := gr.le
  have s4 := c4.size
  have s5 := rch.size
  refine ⟨_, rfl, ⟨_, _, ⟨by rw [List.length_map]; exact tm6, ?_, ?_, ?_, ?_, ?_, ?_, ?_⟩, fun F y z => ?_, ?_⟩, ?_, ?_⟩
  · split <;> omega
  · split <;> omega
  · rw [List.length_map]
    split
    · omega
    · rcases fr with c | ⟨c, _⟩ <;> omega
  · split
    · left; omega
    · rcases fr with c | ⟨c, _⟩
      · omega
      · rcases one with c' | c'
        · left; omega
        · rename_i hne
          right
          rw [List.length_map]
          omega
  · intro b0 hb0
    obtain ⟨a, ha, rfl⟩ := List.mem_map.1 hb0
    by_cases e : a.s.A = f.s.A
    · obtain rfl := tm.same ha f1 e
      rw [une_at]
      show n ≤ P + 1
      omega
    · rw [une_ne e]
      rcases gr.new a ha with ⟨b, hb, e'⟩ | ⟨c, _⟩
      · obtain ⟨c, hc, g1, g2, g3, g4⟩ := gr.old b hb
        obtain rfl := tm.same hc ha (g1.trans e')
        rw [g3]
        have := h.few b hb
        omega
      · omega
  · intro b0 hb0
    obtain ⟨a, ha, rfl⟩ := List.mem_map.1 hb0
    rw [une_s]
    have FK : Fork T' a.s.A → Fork (T'.map (une f.s.A x q n (.map (some mb)))) a.s.A := fun c => c.mono (fun c hc => ⟨_, List.mem_map_of_mem hc, by rw [une_s]⟩)
    by_cases e : a.s.A = f.s.A
    · obtain rfl := tm.same ha f1 e
      rw [une_at]
      exact .inr (.inl p1)
    · rw [une_ne e]
      rcases fm a ha with ⟨b, hb, e'⟩ | c | c
      · obtain ⟨c, hc, g1, g2, g3, g4⟩ := gr.old b hb
        obtain rfl := tm.same hc ha (g1.trans e')
        rw [g1, g3]
        rcases h.frm b hb with c | c | c
        · exact .inl c
        · exact .inr (.inl c)
        · rw [g1] at FK
          exact .inr (.inr (FK (c.mono (fun d hd => by obtain ⟨d', hd', ed, _⟩ := gr.old d hd; exact ⟨d', hd', ed⟩))))
      · exact absurd (c.trans f2.symm) e
      · exact .inr (.inr (FK c))
  · obtain ⟨Fs, d1, d2, d3⟩ := h.cn
    have onF : ∀ F, (∃ a ∈ T'.map (une f.s.A x q n (.map (some mb))), a.s.A = F ∧ 0 < a.ne) ↔ F = L ∨ F ∈ Fs := fun F => by
      rw [d2]
      constructor
      · rintro ⟨b0, hb0, e1, e2⟩
        obtain ⟨a, ha, rfl⟩ := List.mem_map.1 hb0
        rw [une_s] at e1
        by_cases e : a.s.A = f.s.A
        · exact .inl (by rw [← e1, e, f2])
        · rw [une_ne e] at e2
          rcases gr.new a ha with ⟨b, hb, e'⟩ | ⟨c, _⟩
          · obtain ⟨c, hc, g1, g2, g3, g4⟩ := gr.old b hb
            obtain rfl := tm.same hc ha (g1.trans e')
            exact .inr ⟨b, hb, by rw [← g1, e1], by rw [← g3]; exact e2⟩
          · omega
      · rintro (rfl | ⟨b, hb, e1, e2⟩)
        · exact ⟨_, List.mem_map_of_mem f1, by rw [une_s, f2], by rw [une_at]; exact p1⟩
        · obtain ⟨c, hc, g1, g2, g3, g4⟩ := gr.old b hb
          refine ⟨_, List.mem_map_of_mem hc, by rw [une_s, g1, e1], ?_⟩
          by_cases e : c.s.A = f.s.A
          · obtain rfl := tm.same hc f1 e
            rw [une_at]
            exact p1
          · rw [une_ne e, g3]
            exact e2
    have Lin : L ∈ Fs ↔ ¬ f.ne = 0 := by
      rw [d2]
      constructor
      · rintro ⟨b, hb, e1, e2⟩
        obtain ⟨c, hc, g1, g2, g3, g4⟩ := gr.old b hb
        obtain rfl := tm.same hc f1 (by rw [g1, e1, f2])
        omega
      · intro c
        rcases gr.new f f1 with ⟨b, hb, e'⟩ | ⟨c', _⟩
        · obtain ⟨c1, hc, g1, g2, g3, g4⟩ := gr.old b hb
          obtain rfl := tm.same hc f1 (g1.trans e')
          exact ⟨b, hb, by rw [← g1, f2], by omega⟩
        · exact absurd c' c
    by_cases c : f.ne = 0
    · refine ⟨L :: Fs, List.nodup_cons.2 ⟨fun q => Lin.1 q c, d1⟩, fun F => by rw [onF, List.mem_cons], ?_⟩
      rw [if_pos c, d3]
      simp
    · refine ⟨Fs, d1, fun F => ?_, by rw [if_neg c, d3]; simp⟩
      rw [onF]
      exact ⟨.inr, fun q => q.elim (fun q => by rw [q]; exact Lin.2 c) id⟩
  · rw [noted_has tm f1, f2]
    constructor
    · rintro (c | ⟨c1, c2⟩)
      · exact .inl c
      · exact .inr ⟨c1, (gr.has tm F y z).1 c2⟩
    · rintro (c | ⟨c1, c2⟩)
      · exact .inl c
      · exact .inr ⟨c1, (gr.has tm F y z).2 c2⟩
  · rintro j (c | ⟨a0, ha0, c⟩)
    · exact .inl (.inl c)
    · obtain ⟨a, ha, rfl⟩ := List.mem_map.1 ha0
      have old : isT tb T' j → isT tb T j ∨ w.heap.size ≤ j := fun c => (is j c).imp id (fun c => by omega)
      rcases une_has c with c | ⟨_, c⟩
      · exact old (.inr ⟨a, ha, c⟩)
      · cases c
        rcases p3 with v | v
        · exact old (.inr ⟨f, f1, .inr (.inl v)⟩)
        · exact .inr (by omega)
  · cases e : f.en x with
    | some o =>
      exact .inl ((gr.has tm L x o).1 ⟨f, f1, f2, e⟩)
    | none =>
      refine .inr ⟨rfl, fun z hz => ?_⟩
      obtain ⟨a, ha, e1, e2⟩ := (gr.has tm L x z).2 hz
      obtain rfl := tm.same ha f1 (e1.trans f2.symm)
      rw [e] at e2
      cases e2
  · refine ((c4.mono (fun j _ c => c.elim)).trans rch (fun j _ c => c)).trans nch (fun j hj c => ?_)
    have : isT tb T' j := by
      rcases c with c | c | c
      · exact .inl c
      · exact .inr ⟨f, f1, .inl c⟩
      · exact .inr ⟨f, f1, .inr (.inl c)⟩
    rcases is j this with c | c
    · exact c
    · omega
set_option maxRecDepth 100000 in
set_option maxHeartbeats 4000000 in
/-- PUT, of a right filter and a right quality. -/
theorem put_right {w : World} {tb m r P : Nat} {nf : Int} {T : List Fn} {f x : ByteArray} {q : Int} (h : TS w tb m r P nf T) (hf : rfc f = 0) (hP : P < 100000) (hx : x.size ≤ 1000000) (q0 : 0 ≤ q) (q2 : q ≤ 2) :
    Calls Tryz.prog 7 #[ptr tb, .string f, .string x, .int .i64 q] w fun e w' => ∃ o, e = .returned (.tuple #[.int .i64 o, .int .i64 0]) ∧ PutR w w' tb m r P T (levels f) x q o := by
  have hfs := (rfc_zero hf).1
  have n0 := h.n0
  have nP := h.nP
  have cnt := h.cnt
  obtain ⟨rf, hrf, rA, rp⟩ := h.tm.rt
  have FC := hidi (fun (w : World) => (show Calls Tryz.prog 19 #[.string f] w fun e w' => e = .returned (.int .i64 0) ∧ Below w.heap.size w w' from by rw [← hf]; exact fcheck_any f w))
  have OW := hidi (fun (w1 : World) (hb : Below w.heap.size w w1) => (show Calls Tryz.prog 20 #[ptr tb, ptr r] w1 fun e w' => e = .returned (ptr r) ∧ Below w1.heap.size w1 w' from by rw [← rp]; exact own_any (h.below hb).tm.tr ((h.below hb).tm.nd rf hrf).at_))
  have CR := hidi (fun (w1 : World) (hb : Below w.heap.size w w1) => (show w1.cell? ⟨tb, 0, none⟩ = some (ptr r) ∧ w1.frozen? ⟨tb, 0, none⟩ = false from ⟨box_cells (h.below hb).tm.tr 0 _ rfl, box_frozen (h.below hb).tm.tr 0⟩))
  have W3 := hidi (fun (w2 : World) (hb : Below w.heap.size w w2) => (show Ch (fun _ => False) w (w2.setCell ⟨tb, 0, none⟩ (ptr r)) ∧ TS (w2.setCell ⟨tb, 0, none⟩ (ptr r)) tb m r P nf T from by
    have h2 := h.below hb
    have c := ch_root h2.tm
    exact ⟨(Below.ch hb).then c, ⟨h2.tm.keep c (fun q => q) (fun _ _ _ _ q => q) (fun _ q => q.elim), h2.n0, h2.nP, h2.cnt, h2.one, h2.few, h2.frm, h2.cn⟩⟩))
  have LV := hidi (fun (w : World) => tlevels_any f (by omega) w)
  have RE := hidi (fun (w4 : World) (v : Value) (B : Nat) (t4 : TS w4 tb m r P nf T) (ho : w4.ownsRow B 9 1 v (levels f).length ((levels f).map Value.string)) => (show Calls Tryz.prog 22 #[ptr tb, ptr r, v] w4 fun e w' => ∃ g, e = .returned (ptr g) ∧ Rch w4 w' tb m r nf T (levels f) 2 g from by
    have := reach_any tb m r nf (levels f).length w4 T rf v (levels f) (Nat.le_refl _) t4.tm hrf (rw_own ho) (fun t ht => by have := levels_size f t ht; omega) (by rw [rA]; have := levels_len f; simp; omega) (by have := levels_len f; omega)
    rw [rp, rA] at this
    exact this))
  have NO := hidi (fun (w4 w5 : World) (g : Nat) (c4 : Ch (fun _ => False) w w4) (rc : Rch w4 w5 tb m r nf T (levels f) 2 g) => put_note (q := q) h hP hx c4 rc)
  have a0 : ¬ q < 0 := by omega
  have a2 : ¬ q > 2 := by omega
  have a2' : ¬ (2 : Int) < q := by omega
  unfold ptr at *
  clear h hf hP hx q0 q2 hfs n0 nP cnt rA
  go_enter Tryz.func7, Tryz.ntmps7
  go_upto_region 6 with (first
    | (go_at_call 19; refine (FC.out _).mono ?_; rintro e w1 ⟨rfl, hb⟩; have B1 := hidi hb; obtain ⟨l1, l2⟩ := CR.out w1 hb; clear hb FC)
    | (go_at_call 20; refine (OW.out w1 B1.out).mono ?_; rintro e w2 ⟨rfl, hb⟩; have B2 := hidi (B1.out.trans (hb.mono B1.out.size)); clear hb l1 l2; obtain ⟨l1, l2⟩ := CR.out w2 B2.out))
  obtain ⟨hc3, ht3⟩ := W3.out w2 B2.out
  obtain ⟨w3, hw3⟩ : ∃ w3, w3 = w2.setCell ⟨tb, 0, none⟩ (.pointer (some ⟨r, 0, none⟩)) := ⟨_, rfl⟩
  rw [← hw3] at hc3 ht3 ⊢
  have HC3 := hidi hc3
  have HT3 := hidi ht3
  have l3 : w3.cell? ⟨tb, 0, none⟩ = some (.pointer (some ⟨r, 0, none⟩)) := box_cells ht3.tm.tr 0 _ rfl
  clear hc3 ht3 hw3 l1 l2 CR OW W3
  go_region_with (first
    | (go_at_call 23; refine (LV.out _).mono ?_; rintro e w4 ⟨v, rfl, ho, hb⟩; have B4 := hidi ((Below.refl w3.heap.size w3).drew.trans hb); have CCr := hidi (RE.out w4 v _ (HT3.out.below B4.out) ho); have C4 := hidi (HC3.out.then (Below.ch B4.out)); clear l3; have l3 : w4.cell? ⟨tb, 0, none⟩ = some (.pointer (some ⟨r, 0, none⟩)) := box_cells (HT3.out.below B4.out).tm.tr 0 _ rfl; clear hb ho)
    | (go_at_call 22; refine CCr.out.mono ?_; rintro e w5 ⟨g, rfl, rc⟩; have CCn := hidi (NO.out w4 w5 g C4.out rc); clear rc l3)
    | (go_at_call 21; refine CCn.out.mono ?_; rintro e w6 ⟨o, rfl, pr⟩; have PR := hidi pr; clear pr))
  all_goals go_wp2_with fail
  all_goals first | go_ret2 | go_ret
  all_goals exact ⟨o, rfl, PR.out⟩
end Go.Proofs.YtepjcfhbbcaldaaGreat.Li
