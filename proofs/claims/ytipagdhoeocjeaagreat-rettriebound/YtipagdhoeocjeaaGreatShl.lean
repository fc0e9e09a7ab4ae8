import Derived.Test.YtipagdhoeocjeaaGreatSha
import Derived.Test.YtipagdhoeocjeaaGreatShe
namespace Go.Proofs.YtipagdhoeocjeaaGreat.Li
open Go Go.RowKit Go.Shelf
set_option linter.unusedSimpArgs false
set_option linter.unusedVariables false
variable {w0 w w1 w2 w3 : World} {tb r tb' r' P : Nat} {nf nf' nfU : Int} {T T' U : List Fn} {E E' : HeldM}
theorem ts_of (h : TM w tb r nf (T.length : Int) T) (fx : FormX T []) (cn : CN T nf) (nP : nf ≤ P) (msk : ∀ f ∈ T, ∀ m, f.ms = some m → MsOk f.s.A m) : TS w tb r P nf T := by
  have n0 : 0 ≤ nf := by obtain ⟨Fs, _, _, e⟩ := cn; omega
  have bd := bound_tm h fx cn
  obtain ⟨rf, hrf, _⟩ := h.rt
  have := List.length_pos_of_mem hrf
  refine ⟨h, n0, nP, bd, ?_, fun f hf => ?_, cn, msk⟩
  · by_cases c : 0 < nf
    · exact .inl c
    · exact .inr (by omega)
  · rcases fx f hf with c | c | c | c
    · exact .inl c
    · exact .inr (.inl c)
    · exact .inr (.inr c)
    · exact .inl (List.prefix_nil.1 c)
theorem TS.bs (t : TS w tb r P nf T) (hP : P ≤ 100000) : Bs nf T := ⟨form_of t.frm, t.cn, by have := t.cnt; have := t.nP; omega⟩
theorem nf_le (h : TM w tb r nf (T.length : Int) T) (h' : TM w2 tb' r' nf' (T'.length : Int) T') (c : CN T nf) (c' : CN T' nf') (e : ∀ F z, HasM T' F z → HasM T F z) : nf' ≤ nf := by
  obtain ⟨Fs, f1, f2, f3⟩ := c
  obtain ⟨Gs, g1, g2, g3⟩ := c'
  have := nodup_le Gs Fs g1 (fun F hF => by
    obtain ⟨z, q⟩ := (ne_has h' F).1 ((g2 F).1 hF)
    exact (f2 F).2 ((ne_has h F).2 ⟨z, e F z q⟩))
  omega
/-- A trie that changes, and one beside it that doesn't. -/
structure Two (w0 w : World) (tb r P : Nat) (E : HeldM) (tb' r' : Nat) (nfU : Int) (U : List Fn) : Prop where
  ex : ∃ T nf, TS w tb r P nf T ∧ (∀ F z, HasM T F z ↔ E F z) ∧ (∀ j, isT tb T j → w0.heap.size ≤ j) ∧ ∀ j, isT tb T j → ¬ isT tb' U j
  be : Below w0.heap.size w0 w
  tu : TM w tb' r' nfU (U.length : Int) U
theorem Two.below (h : Two w0 w tb r P E tb' r' nfU U) (hb : Below w.heap.size w w1) : Two w0 w1 tb r P E tb' r' nfU U := by
  obtain ⟨⟨T, nf, a, b, c, d⟩, e, g⟩ := h
  exact ⟨⟨T, nf, a.below hb, b, c, d⟩, e.trans (hb.mono e.size), g.below hb⟩
theorem Two.congr (h : Two w0 w tb r P E tb' r' nfU U) (e : ∀ F z, E F z ↔ E' F z) : Two w0 w tb r P E' tb' r' nfU U := by
  obtain ⟨⟨T, nf, a, b, c, d⟩, e', g⟩ := h
  exact ⟨⟨T, nf, a, fun F z => (b F z).trans (e F z), c, d⟩, e', g⟩
theorem Two.more (h : Two w0 w tb r P E tb' r' nfU U) {P' : Nat} (hP : P ≤ P') : Two w0 w tb r P' E tb' r' nfU U := by
  obtain ⟨⟨T, nf, a, b, c, d⟩, e', g⟩ := h
  exact ⟨⟨T, nf, ⟨a.tm, a.n0, by have := a.nP; omega, a.cnt, a.one, a.frm, a.cn, a.msk⟩, b, c, d⟩, e', g⟩
theorem islt (h : TM w tb r nf (T.length : Int) T) {j : Nat} (hj : isT tb T j) : j < w.heap.size := by
  rcases hj with rfl | ⟨f, hf, q⟩
  · exact (Array.getElem?_eq_some_iff.1 h.tr).1
  · exact (h.nd f hf).lt q
/-- After a change of the one trie. -/
theorem Two.next {P' : Nat} (h : Two w0 w tb r P E tb' r' nfU U) {T : List Fn} (tm : TM w tb r nf (T.length : Int) T) (c : ∀ j, isT tb T j → w0.heap.size ≤ j) (d : ∀ j, isT tb T j → ¬ isT tb' U j) (hc : Ch (isT tb T) w w2) (t : TS w2 tb r P' nf' T') (e : ∀ F z, HasM T' F z ↔ E' F z) (is : ∀ j, isT tb T' j → isT tb T j ∨ w.heap.size ≤ j) : Two w0 w2 tb r P' E' tb' r' nfU U := by
  obtain ⟨_, be, tu⟩ := h
  have bs := be.size
  refine ⟨⟨T', nf', t, e, fun j q => (is j q).elim (c j) (fun q => by omega), fun j q u => (is j q).elim (fun q => d j q u) (fun q => by have := islt tu u; omega)⟩, ?_, ?_⟩
  · exact ⟨hc.os.trans be.os, hc.tape.trans be.tape, hc.output.trans be.output, Nat.le_trans be.size hc.size, fun k hk => (hc.block k (Nat.lt_of_lt_of_le hk be.size) (fun q => by have := c k q; omega)).trans (be.block k hk)⟩
  · exact tu.keep hc (fun q => d tb' q (.inl rfl)) (fun f hf k hk q => d k q (.inr ⟨f, hf, hk⟩)) (fun k q => tm.no9 q)
theorem Two.uniq (h : Two w0 w tb r P E tb' r' nfU U) {F : List ByteArray} {z z' : Msg} (a : E F z) (b : E F z') : z = z' := by
  obtain ⟨⟨T, nf, t, e, _, _⟩, _, _⟩ := h
  obtain ⟨f, hf, f1, f2⟩ := (e F z).2 a
  obtain ⟨g, hg, g1, g2⟩ := (e F z').2 b
  obtain rfl := t.tm.same hf hg (f1.trans g1.symm)
  rw [f2] at g2
  injection g2
theorem Two.ok (h : Two w0 w tb r P E tb' r' nfU U) {F : List ByteArray} {z : Msg} (a : E F z) : MsOk F z := by
  obtain ⟨⟨T, nf, t, e, _, _⟩, _, _⟩ := h
  obtain ⟨f, hf, f1, f2⟩ := (e F z).2 a
  rw [← f1]
  exact t.msk f hf z f2
/-- Rows of bytes and boxes of the law's own stay. -/
def KB30 (w w' : World) : Prop := w.heap.size ≤ w'.heap.size ∧ ∀ (k t : Nat) (cs : Array Value), t = 5 ∨ t = 9 → w.heap[k]? = some (Obj.cells cs t (0, 0)) → w'.heap[k]? = some (Obj.cells cs t (0, 0))
theorem kb_below (hb : Below w.heap.size w w2) : KB30 w w2 := ⟨hb.size, fun k t cs _ e => (hb.block k (Array.getElem?_eq_some_iff.1 e).1).trans e⟩
theorem kb_ch (h : TM w tb r nf (T.length : Int) T) (hc : Ch (isT tb T) w w2) : KB30 w w2 := ⟨hc.size, fun k t cs ht e => (hc.block k (Array.getElem?_eq_some_iff.1 e).1 (fun c => by
  rcases ht with rfl | rfl
  · exact (h.no9 c cs).2 e
  · exact (h.no9 c cs).1 e)).trans e⟩
theorem KB30.trans (h : KB30 w w1) (k : KB30 w1 w2) : KB30 w w2 := ⟨Nat.le_trans h.1 k.1, fun j t cs ht e => k.2 j t cs ht (h.2 j t cs ht e)⟩
theorem Pl.kb {v : Value} {xs : List Int} (h : Pl w v xs) (k : KB30 w w2) : Pl w2 v xs := by
  unfold Pl at *
  refine ⟨h.1, ?_⟩
  rcases h.2 with q | ⟨g, cap, cur, rfl, a, b, c⟩
  · exact .inl q
  · exact .inr ⟨g, cap, cur, rfl, a, k.2 g 5 cur (.inl rfl) b, c⟩
/-- PUT, of whatever it is given. -/
theorem Two.put {m : Msg} {v : Value} (h : Two w0 w tb r P E tb' r' nfU U) (hb : Below w.heap.size w w1) (hP : P < 100000) (hx : m.xs.length ≤ 60000) (hv : ∀ w', KB30 w1 w' → (Below w0.heap.size w0 w') → PR w' v m.xs) :
    Calls Tryz.prog 9 #[ptr tb, m.val v] w1 fun e w' => ∃ (o : Bool) (c : Int), e = .returned (.tuple #[.bool o, .int .i64 c]) ∧ KB30 w1 w' ∧ (∀ k, w.heap.size ≤ k → k < w1.heap.size → w'.heap[k]? = w1.heap[k]?) ∧ ((c ≠ 0 ∧ ¬ Rig m ∧ Two w0 w' tb r (P + 1) E tb' r' nfU U) ∨ (c = 0 ∧ Rig m ∧ Two w0 w' tb r (P + 1) (stepM E m) tb' r' nfU U)) := by
  have h1 := h.below hb
  have h0 := h
  obtain ⟨⟨T, nf, t0, e, c, d⟩, be0, tu0⟩ := h0
  have be := h1.be
  have t := t0.below hb
  have bch : ∀ {w'}, Ch (isT tb T) w1 w' → Below w0.heap.size w0 w' := fun {w'} hc => ⟨hc.os.trans be.os, hc.tape.trans be.tape, hc.output.trans be.output, Nat.le_trans be.size hc.size, fun k hk => (hc.block k (Nat.lt_of_lt_of_le hk be.size) (fun q => by have := c k q; omega)).trans (be.block k hk)⟩
  have hv' : ∀ w', Ch (isT tb T) w1 w' → PR w' v m.xs := fun w' hc => hv w' (kb_ch t.tm hc) (bch hc)
  have new : ∀ {w'}, Ch (isT tb T) w1 w' → ∀ k, w.heap.size ≤ k → k < w1.heap.size → w'.heap[k]? = w1.heap[k]? := fun {w'} hc k hk hk2 => hc.block k hk2 (fun q => by have := islt t0.tm q; omega)
  obtain ⟨a, ca, ev, -⟩ := (hv' w1 (Ch.refl _ _)).sl
  by_cases hf : tcode m.t = 0
  · by_cases hq : 0 ≤ m.q ∧ m.q ≤ 2
    · refine (put_right t ⟨hf, rfl, hq, hx, tcode_zero hf⟩ hP hv').mono ?_
      rintro e' w' ⟨o, rfl, pr⟩
      obtain ⟨T', nf', t1, t2, t3⟩ := pr.ex
      refine ⟨o, 0, rfl, kb_ch t.tm pr.ch, new pr.ch, .inr ⟨rfl, ⟨hf, hq⟩, h1.next t.tm c d pr.ch t1 (fun F z => ?_) t3⟩⟩
      rw [t2]
      unfold stepM
      rw [if_pos ⟨hf, hq⟩, e]
    · rw [ev]
      refine (put_quality hf (by omega)).mono ?_
      rintro e' w' ⟨rfl, hb⟩
      exact ⟨false, 91, rfl, kb_below hb, fun k _ hk => hb.block k hk, .inl ⟨by decide, fun c => hq c.2, (h1.below hb).more (Nat.le_succ _)⟩⟩
  · rw [ev]
    refine (put_topic hf).mono ?_
    rintro e' w' ⟨rfl, hb⟩
    exact ⟨false, 90, rfl, kb_below hb, fun k _ hk => hb.block k hk, .inl ⟨by decide, fun c => hf c.1, (h1.below hb).more (Nat.le_succ _)⟩⟩
theorem Two.bound (h : Two w0 w tb r P E tb' r' nfU U) (hP : P < 100000) : Calls Tryz.prog 10 #[ptr tb] w fun e w' => e = .returned (.bool true) ∧ w' = w := by
  obtain ⟨⟨T, nf, t, _⟩, _, _⟩ := h
  exact bound_any t hP
/-- DROP. -/
theorem Two.drop {f : ByteArray} (h : Two w0 w tb r P E tb' r' nfU U) (hP : P ≤ 100000) (hfs : f.size ≤ 1000000) :
    Calls Tryz.prog 11 #[ptr tb, .string f] w fun e w' => ∃ b, e = .returned (.bool b) ∧ (b = true ↔ ∃ z, E (levels f) z) ∧ Two w0 w' tb r P (fun F z => E F z ∧ ¬ F = levels f) tb' r' nfU U := by
  have h1 := h
  obtain ⟨⟨T, nf, t, e, c, d⟩, be, tu⟩ := h1
  refine drop11_of ?_
  by_cases hq : ∃ q, E (levels f) q
  · obtain ⟨q, hq⟩ := hq
    refine (drop_yes t.tm (t.bs hP) hfs ((e _ _).2 hq)).mono ?_
    rintro e' w' ⟨rfl, ⟨T', tm, qs⟩, hc⟩
    have msk' : ∀ f' ∈ T', ∀ m, f'.ms = some m → MsOk f'.s.A m := fun f' hf' m em => by
      obtain ⟨g, hg, g1, g2⟩ := ((qs.has f'.s.A m).1 ⟨f', hf', rfl, em⟩).1
      rw [← g1]
      exact t.msk g hg m g2
    refine ⟨true, rfl, ⟨fun _ => ⟨q, hq⟩, fun _ => rfl⟩, h.next t.tm c d hc (ts_of tm qs.frm qs.cn ?_ msk') (fun F z => by rw [qs.has, e]) (fun j q => .inl (qs.is j q))⟩
    have := nf_le t.tm tm t.cn qs.cn (fun F z q => ((qs.has F z).1 q).1)
    have := t.nP
    omega
  · have no : ∀ z, ¬ HasM T (levels f) z := fun z hz => hq ⟨z, (e _ _).1 hz⟩
    refine (drop_no t.tm hfs no).mono ?_
    rintro e' w' ⟨rfl, hb⟩
    refine ⟨false, rfl, ⟨fun c => by (cases c), fun c => (hq c).elim⟩, (h.below hb).congr (fun F z => ⟨fun a => ⟨a, fun c => hq ⟨z, c ▸ a⟩⟩, fun a => a.1⟩)⟩
/-- GET. -/
theorem Two.get {f : ByteArray} (h : Two w0 w tb r P E tb' r' nfU U) (hfs : f.size ≤ 1000000) :
    Calls Tryz.prog 8 #[ptr tb, .string f] w fun e w' => ∃ (t : ByteArray) (a : Option Addr) (n c : Nat) (y : Int) (b d : Bool), e = .returned (.tuple #[.agg #[.string t, .slice a n c, .int .i64 y, .bool b], .bool d]) ∧ Below w.heap.size w w' ∧
      ((d = true ∧ ∃ z, E (levels f) z ∧ z.t = t ∧ z.xs.length = n ∧ z.q = y ∧ z.r = b ∧ Pl w' (.slice a n c) z.xs) ∨ (d = false ∧ ∀ z, ¬ E (levels f) z)) := by
  obtain ⟨⟨T, nf, t, e, c, d⟩, be, tu⟩ := h
  refine (Get_any t.tm t.msk hfs).mono ?_
  intro e' w' g
  rcases g.ex with ⟨z, v, hm, rfl, ho⟩ | ⟨no, rfl⟩
  · obtain ⟨a, c, rfl⟩ := own_sl ho
    exact ⟨z.t, a, z.xs.length, c, z.q, z.r, true, rfl, g.be, .inl ⟨rfl, z, (e _ _).1 hm, rfl, rfl, rfl, rfl, own0 ho⟩⟩
  · exact ⟨_, _, _, _, _, _, _, rfl, g.be, .inr ⟨rfl, fun z hz => no z ((e _ _).2 hz)⟩⟩
/-- Nothing is held. -/
theorem Two.nodes (h : Two w0 w tb r P E tb' r' nfU U) (no : ∀ F z, ¬ E F z) : Calls Tryz.prog 17 #[ptr tb] w (fun e w' => e = .returned (.int .i64 1) ∧ w' = w) ∧ Calls Tryz.prog 18 #[ptr tb] w (fun e w' => e = .returned (.int .i64 0) ∧ w' = w) := by
  obtain ⟨⟨T, nf, t, e, c, d⟩, be, tu⟩ := h
  have noT : ∀ F z, ¬ HasM T F z := fun F z q => no F z ((e F z).1 q)
  have nf0 : nf = 0 := by
    obtain ⟨Fs, f1, f2, f3⟩ := t.cn
    cases Fs with
    | nil => simpa using f3
    | cons F Fs =>
      obtain ⟨z, q⟩ := (ne_has t.tm F).1 ((f2 F).1 List.mem_cons_self)
      exact (noT F z q).elim
  have one : (T.length : Int) = 1 := by
    rcases t.one with c | c
    · omega
    · omega
  have h1 := nodes_any t.tm
  have h2 := len_any t.tm
  rw [one] at h1
  rw [nf0] at h2
  exact ⟨h1, h2⟩
end Go.Proofs.YtipagdhoeocjeaaGreat.Li
namespace Go.Proofs.YtipagdhoeocjeaaGreat.Li
open Go Go.RowKit Go.Shelf
set_option linter.unusedSimpArgs false
set_option linter.unusedVariables false
variable {w0 w w1 w2 w3 : World} {tb r tb' r' P : Nat} {nf nf' nfU nn : Int} {T T' U : List Fn} {E E' : HeldM}
/-- All that is held, in order. -/
structure LX (E : HeldM) (Y : List Msg) : Prop where
  mem : ∀ m, m ∈ Y ↔ E (levels m.t) m
  ord : Y.Pairwise fun a b => ltV (levels a.t) (levels b.t)
theorem lx_eq {X Y : List Msg} (hT : ∀ F z, HasM T F z ↔ E F z) (a : LX E X) (b : LX E Y) : X = Y :=
  srt_eq (T := T) ⟨a.ord, fun m hm => (hT _ _).2 ((a.mem m).1 hm)⟩ ⟨b.ord, fun m hm => (hT _ _).2 ((b.mem m).1 hm)⟩ (fun m => (a.mem m).trans (b.mem m).symm)
theorem all_lx (tw : Tw w tb r nf nn T) (hT : ∀ F z, HasM T F z ↔ E F z) {x : Nat} (hx : w.heap[x]? = some (.cells #[ptr tb] 25 (0, 0))) :
    Calls Tryz.prog 12 #[.func (.func 31) #[] #[ptr x], .int .i64 0] w fun e W => ∃ v X, e = .returned (.tuple #[v, .bool true]) ∧ MsIn W v X ∧ LX E (mm X) ∧ X.length ≤ 400 ∧ Below w.heap.size w W := by
  refine (givenA_any tw hx).mono ?_
  rintro e W ⟨v, X, rfl, gv⟩
  refine ⟨v, X, rfl, gv_in tw gv, ⟨fun m => ?_, gv.al.srt.ord⟩, ?_, gv.be⟩
  · show m ∈ X.map (·.1) ↔ _
    rw [gv.al.mem, hT]
    simp
  · have := gv.al.srt.len
    rw [List.length_map] at this
    have := tw.few
    omega
/-- What two tries tell that stand alike. -/
structure Aln (w : World) (tb tb' : Nat) (E : HeldM) : Prop where
  a1 : ∀ (w1 : World) (x : Nat), Below w.heap.size w w1 → w1.heap[x]? = some (.cells #[ptr tb] 25 (0, 0)) → Calls Tryz.prog 12 #[.func (.func 31) #[] #[ptr x], .int .i64 0] w1 fun e W => ∃ v X, e = .returned (.tuple #[v, .bool true]) ∧ MsIn W v X ∧ LX E (mm X) ∧ X.length ≤ 400 ∧ Below w1.heap.size w1 W
  a2 : ∀ (w1 : World) (x : Nat), Below w.heap.size w w1 → w1.heap[x]? = some (.cells #[ptr tb'] 25 (0, 0)) → Calls Tryz.prog 12 #[.func (.func 31) #[] #[ptr x], .int .i64 0] w1 fun e W => ∃ v X, e = .returned (.tuple #[v, .bool true]) ∧ MsIn W v X ∧ LX E (mm X) ∧ X.length ≤ 400 ∧ Below w1.heap.size w1 W
  eq : ∀ X Y, LX E X → LX E Y → X = Y
  sh : ∀ w1, Below w.heap.size w w1 → Calls Tryz.prog 16 #[ptr tb] w1 fun e W => ∃ u, e = .returned (agg3 u) ∧ (∃ a n c b a'' n'' c'', u = (.slice a n c, .bool b, .slice a'' n'' c'')) ∧ Below w1.heap.size w1 W ∧
    ∀ w2, Below W.heap.size W w2 → Calls Tryz.prog 16 #[ptr tb'] w2 fun e' W' => ∃ u', e' = .returned (agg3 u') ∧ (∃ a n c b a'' n'' c'', u' = (.slice a n c, .bool b, .slice a'' n'' c'')) ∧ Below w2.heap.size w2 W' ∧
    ∀ w3, Below W'.heap.size W' w3 → Calls Tryz.prog 15 #[agg3 u, agg3 u'] w3 fun e w4 => e = .returned (.bool true) ∧ Below w3.heap.size w3 w4
  nd : ∃ n : Int, ∀ w1, Below w.heap.size w w1 → (Calls Tryz.prog 17 #[ptr tb] w1 fun e w' => e = .returned (.int .i64 n) ∧ w' = w1) ∧ (Calls Tryz.prog 17 #[ptr tb'] w1 fun e w' => e = .returned (.int .i64 n) ∧ w' = w1)
/-- The one beside. -/
structure Bes (E : HeldM) (nfU : Int) (U : List Fn) : Prop where
  eU : ∀ F z, HasM U F z ↔ E F z
  fU : FormX U []
  cU : CN U nfU
  mU : ∀ f ∈ U, ∀ m, f.ms = some m → MsOk f.s.A m
  nU : nfU ≤ 60
theorem Two.alike (h : Two w0 w tb r P E tb' r' nfU U) (hP : P ≤ 100000) (b : Bes E nfU U) : Aln w tb tb' E := by
  obtain ⟨⟨T, nf, t, e, c, d⟩, be, tu⟩ := h
  have n1 : nf ≤ nfU := nf_le tu t.tm b.cU t.cn (fun F z q => (b.eU F z).2 ((e F z).1 q))
  have lT := t.cnt
  have lU := bound_tm tu b.fU b.cU
  have nU := b.nU
  have fT : FormX T [] := form_of t.frm
  have eq : ∀ F z, HasM T F z ↔ HasM U F z := fun F z => (e F z).trans (b.eU F z).symm
  have tw := twin_of t.tm tu fT b.fU eq
  have ll := twin_len t.tm tu tw
  have bd : ∀ f ∈ T, f.s.m ≤ 65536 := fun f hf => by have := (t.tm.inv.le f.s (List.mem_map_of_mem hf)).1; have := (t.tm.ok f hf).2; omega
  refine ⟨fun w1 x hb hx => all_lx (T := T) ⟨t.tm.below hb, t.msk, by omega⟩ e hx, fun w1 x hb hx => all_lx (T := U) ⟨tu.below hb, b.mU, by omega⟩ b.eU hx, fun X Y a c => lx_eq e a c, fun w1 hb => ?_, ⟨(T.length : Int), fun w1 hb => ⟨nodes_any (t.tm.below hb), by rw [ll]; exact nodes_any (tu.below hb)⟩⟩⟩
  refine (Shape_any (t.tm.below hb) (by omega)).mono ?_
  rintro e1 W ⟨f, u, V, hf, fA, rfl, s1⟩
  refine ⟨u, rfl, s1.sh.form, s1.be, fun w2 hb2 => ?_⟩
  have bb := hb.trans ((s1.be.trans (hb2.mono s1.be.size)).mono hb.size)
  refine (Shape_any (tu.below bb) (by omega)).mono ?_
  rintro e2 W' ⟨g, u', V', hg, gA, rfl, s2⟩
  refine ⟨u', rfl, s2.sh.form, s2.be, fun w3 hb3 => ?_⟩
  have blk : ∀ k, V' k → w3.heap[k]? = W'.heap[k]? := fun k hk => hb3.block k (s2.vc.lt hk)
  exact sameShape_any tw bd s1.sh hf w3 (hb2.trans ((s2.be.trans (hb3.mono s2.be.size)).mono hb2.size)) (fun k hk => ⟨Nat.zero_le _, (s1.vc k hk).2⟩) V' g u' hg (fA.trans gA.symm) (fun k hk => ⟨Nat.zero_le _, (s2.vc.keep blk k hk).2⟩) (s2.sh.keep blk (fun _ e => e))
theorem two_of {P' : Nat} (h1 : LdR w0 w1 tb r P E) (h2 : LdR w1 w2 tb' r' P' E) (hP : P' ≤ 60) : ∃ nfU U, Two w0 w2 tb r P E tb' r' nfU U ∧ Bes E nfU U := by
  obtain ⟨⟨T, nf, t, e, c⟩, be⟩ := h1
  obtain ⟨⟨U, nfU, tu, eU, cU⟩, beU⟩ := h2
  exact ⟨nfU, U, ⟨⟨T, nf, t.below beU, e, c, fun j q u => by have := islt t.tm q; have := cU j u; omega⟩, be.trans (beU.mono be.size), tu.tm⟩, eU, form_of tu.frm, tu.cn, tu.msk, by have := tu.nP; omega⟩
theorem step_drop {m : Msg} (v : Rig m) (no : ∀ z, ¬ E (levels m.t) z) (F : List ByteArray) (z : Msg) : (stepM E m F z ∧ ¬ F = levels m.t) ↔ E F z := by
  unfold stepM
  rw [if_pos v]
  constructor
  · rintro ⟨c | c, d⟩
    · exact absurd c.1 d
    · exact c.2
  · intro c
    have d : ¬ F = levels m.t := by
      rintro rfl
      exact no z c
    exact ⟨.inr ⟨d, c⟩, d⟩
theorem step_back {m o : Msg} (v : Rig m) (vo : Rig o) (lo : levels o.t = levels m.t) (ho : E (levels m.t) o) (uq : ∀ z, E (levels m.t) z → z = o) (F : List ByteArray) (z : Msg) : stepM (stepM E m) o F z ↔ E F z := by
  unfold stepM
  rw [if_pos v, if_pos vo, lo]
  constructor
  · rintro (⟨rfl, rfl⟩ | ⟨d, c | c⟩)
    · exact ho
    · exact absurd c.1 d
    · exact c.2
  · intro c
    by_cases d : F = levels m.t
    · subst d
      exact .inl ⟨rfl, uq z c⟩
    · exact .inr ⟨d, .inr ⟨d, c⟩⟩
/-- Fewer puts: a trie that holds what the one beside holds. -/
theorem Two.back (h : Two w0 w tb r P E tb' r' nfU U) (b : Bes E nfU U) : Two w0 w tb r 60 E tb' r' nfU U := by
  obtain ⟨⟨T, nf, t, e, c, d⟩, be, tu⟩ := h
  have n1 : nf ≤ nfU := nf_le tu t.tm b.cU t.cn (fun F z q => (b.eU F z).2 ((e F z).1 q))
  exact ⟨⟨T, nf, ⟨t.tm, t.n0, by have := b.nU; omega, t.cnt, t.one, t.frm, t.cn, t.msk⟩, e, c, d⟩, be, tu⟩
end Go.Proofs.YtipagdhoeocjeaaGreat.Li
namespace Go.Proofs.YtipagdhoeocjeaaGreat.Li
open Go Go.RowKit Go.Shelf
set_option linter.unusedSimpArgs false
set_option linter.unusedVariables false
variable {w w1 w4 : World} {tb r k : Nat}
theorem L4_all {m : Msg} (h : m ∈ L4) : m = ofM m.t ∧ tcode m.t = 0 ∧ m.t.size ≤ 1000 ∧ m.xs.length ≤ 60000 := by
  simp only [L4, List.mem_cons, List.not_mem_nil, or_false] at h
  rcases h with rfl | rfl | rfl | rfl <;> exact ⟨rfl, by decide +kernel, by decide +kernel, by decide +kernel⟩
theorem L4_new : ∀ {k : Nat} {m z : Msg}, L4[k]? = some m → z ∈ L4.take k → m.t ≠ z.t
  | 0, m, z, _, hz => by simp at hz
  | 1, m, z, h, hz => by
    simp [L4] at h hz
    subst h hz
    show fAB ≠ fB
    decide +kernel
  | 2, m, z, h, hz => by
    simp [L4] at h hz
    subst h
    rcases hz with rfl | rfl
    · show fD ≠ fB; decide +kernel
    · show fD ≠ fAB; decide +kernel
  | 3, m, z, h, hz => by
    simp [L4] at h hz
    subst h
    rcases hz with rfl | rfl | rfl
    · show fA ≠ fB; decide +kernel
    · show fA ≠ fAB; decide +kernel
    · show fA ≠ fD; decide +kernel
  | k + 4, m, z, h, _ => by simp [L4] at h
/-- One of the four put. -/
theorem putk (h : LdR w w1 tb r k (holdM (L4.take k))) {m : Msg} (hs : L4[k]? = some m) {wo : World} {v : Value} (o : OfR w1 wo v m.xs) :
    Calls Tryz.prog 9 #[ptr tb, m.val v] wo fun e w' => e = .returned (.tuple #[.bool false, .int .i64 0]) ∧ LdR w w' tb r (k + 1) (holdM (L4.take (k + 1))) ∧ ∀ (g : Nat) (cur : Array Value), wo.heap[g]? = some (Obj.cells cur 9 (0, 0)) → w'.heap[g]? = some (Obj.cells cur 9 (0, 0)) := by
  have hk : k < 4 := (List.getElem?_eq_some_iff.1 hs).1
  obtain ⟨he, hf, -, hx⟩ := L4_all (List.mem_of_getElem? hs)
  have hq : 0 ≤ m.q ∧ m.q ≤ 2 := by rw [he]; exact ⟨by show (0 : Int) ≤ 1; omega, by show (1 : Int) ≤ 2; omega⟩
  obtain ⟨⟨T, nf, t1, t2, t3⟩, be⟩ := h
  have b1 := be.trans (o.be.mono be.size)
  have t := t1.below o.be
  have lt : ∀ g, isT tb T g → g < w1.heap.size := fun g hg => by
    rcases hg with rfl | ⟨f, hf, hg⟩
    · exact (Array.getElem?_eq_some_iff.1 t1.tm.tr).1
    · exact (t1.tm.nd f hf).lt hg
  refine (put_right t ⟨hf, rfl, hq, hx, tcode_zero hf⟩ (by omega) (fun w2 ch => o.at_ (fun g h1 h2 => ch.block g h2 (fun c => by have := lt g c; omega)))).mono ?_
  rintro e w' ⟨had, rfl, ⟨T', nf', u1, u2, u3⟩, old, ch⟩
  have hh : had = false := by
    cases had with
    | false => rfl
    | true =>
      exfalso
      obtain ⟨z, hz⟩ := old.1 rfl
      have := (t2 _ _).1 hz
      rw [hold_iff] at this
      obtain ⟨h1, _, h3⟩ := held_mem this
      exact L4_new hs h1 (levels_inj h3)
  subst hh
  refine ⟨rfl, ⟨⟨T', nf', u1, fun F z => (u2 F z).trans ?_, fun j c => ?_⟩, ⟨ch.os.trans b1.os, ch.tape.trans b1.tape, ch.output.trans b1.output, Nat.le_trans b1.size ch.size, fun k hk => (ch.block k (Nat.lt_of_lt_of_le hk b1.size) (fun c => by have := t3 k c; omega)).trans (b1.block k hk)⟩⟩, fun g cur e => (ch.block g (Array.getElem?_eq_some_iff.1 e).1 (fun c => (t.tm.no9 c cur).1 e)).trans e⟩
  · rw [hold_next hs]
    unfold stepM
    rw [if_pos ⟨hf, hq⟩, t2 F z]
  · rcases u3 j c with c | c
    · exact t3 j c
    · have := b1.size
      have := be.size
      have := o.be.size
      omega
theorem LdR.below {P : Nat} {E : HeldM} {w2 : World} (h : LdR w w1 tb r P E) (hb : Below w1.heap.size w1 w2) : LdR w w2 tb r P E := by
  obtain ⟨⟨T, nf, t1, t2, t3⟩, be⟩ := h
  exact ⟨⟨T, nf, t1.below hb, t2, t3⟩, be.trans (hb.mono be.size)⟩
theorem tx_cell {xb : Nat} (h : w.heap[xb]? = some (.cells #[.string fB, .string fAB, .string fD, .string fA] 9 (0, 0))) {m : Msg} (hs : L4[k]? = some m) : w.cell? ⟨xb, k, none⟩ = some (.string m.t) := by
  match k, hs with
  | 0, hs => cases hs; exact box_cells h 0 _ rfl
  | 1, hs => cases hs; exact box_cells h 1 _ rfl
  | 2, hs => cases hs; exact box_cells h 2 _ rfl
  | 3, hs => cases hs; exact box_cells h 3 _ rfl
  | k + 4, hs => cases hs
/-- What the law makes: three messages. -/
theorem built3 {w0 w1 w2 w3 : World} {v1 v2 v3 : Value} (h1 : PR w3 v1 (ofM fA).xs) (h2 : PR w3 v2 (ofM fAB).xs) (h3 : PR w3 v3 (ofM fB).xs) :
    MsIn (w3.alloc (.cells #[.string fA, v1, .int .i64 1, .bool false, .string fAB, v2, .int .i64 1, .bool false, .string fB, v3, .int .i64 1, .bool false] 30)) (.slice (some ⟨w3.heap.size, 0, none⟩) 3 3) [(ofM fA, v1), (ofM fAB, v2), (ofM fB, v3)] := by
  have e := heap_alloc_new w3 (.cells #[.string fA, v1, .int .i64 1, .bool false, .string fAB, v2, .int .i64 1, .bool false, .string fB, v3, .int .i64 1, .bool false] 30)
  have bl : Below w3.heap.size w3 (w3.alloc (.cells #[.string fA, v1, .int .i64 1, .bool false, .string fAB, v2, .int .i64 1, .bool false, .string fB, v3, .int .i64 1, .bool false] 30)) := (Below.refl _ _).alloc (Nat.le_refl _) _
  refine ⟨⟨_, _, _, rfl, rfl, Nat.le_refl _, fun _ => ⟨_, _, rfl, (Array.getElem?_eq_some_iff.1 e).1, fun k s hk => ?_⟩⟩, fun s hs => ?_⟩
  · match k, hk with
    | 0, hk =>
      cases hk
      exact ⟨box_cells e 0 _ rfl, box_cells e 1 _ rfl, box_cells e 2 _ rfl, box_cells e 3 _ rfl⟩
    | 1, hk =>
      cases hk
      exact ⟨box_cells e 4 _ rfl, box_cells e 5 _ rfl, box_cells e 6 _ rfl, box_cells e 7 _ rfl⟩
    | 2, hk =>
      cases hk
      exact ⟨box_cells e 8 _ rfl, box_cells e 9 _ rfl, box_cells e 10 _ rfl, box_cells e 11 _ rfl⟩
    | k + 3, hk => cases hk
  · simp only [List.mem_cons, List.not_mem_nil, or_false] at hs
    rcases hs with rfl | rfl | rfl
    · exact h1.below bl
    · exact h2.below bl
    · exact h3.below bl
end Go.Proofs.YtipagdhoeocjeaaGreat.Li
namespace Go.Proofs.YtipagdhoeocjeaaGreat.Li
open Go Go.RowKit Go.Shelf
set_option linter.unusedSimpArgs false
set_option linter.unusedVariables false
variable {w w1 w4 : World} {tb r k : Nat}
theorem kfind (h : LdR w w4 tb r 4 (holdM L4)) (hb : Below w4.heap.size w4 w1) {x y : Nat} (hx : w1.heap[x]? = some (.cells #[ptr tb] 25 (0, 0))) (hy : w1.heap[y]? = some (.cells #[.string fH] 9 (0, 0))) :
    Calls Tryz.prog 12 #[.func (.func 36) #[] #[ptr x, ptr y], .int .i64 0] w1 fun e W => ∃ v X, e = .returned (.tuple #[v, .bool true]) ∧ MsIn W v X ∧ mm X = [ofM fA, ofM fAB, ofM fB] ∧ Below w1.heap.size w1 W := by
  obtain ⟨⟨T, nf, t1, t2, t3⟩, be⟩ := h
  have tw := tw_of t1 (by omega) hb
  refine (givenF_any tw fH hx hy).mono ?_
  rintro e W ⟨v, X, rfl, gv⟩
  exact ⟨v, X, rfl, gv_in tw gv, found4 t2 gv.al, gv.be⟩
theorem kall (h : LdR w w4 tb r 4 (holdM L4)) (hb : Below w4.heap.size w4 w1) {x : Nat} (hx : w1.heap[x]? = some (.cells #[ptr tb] 25 (0, 0))) :
    Calls Tryz.prog 12 #[.func (.func 31) #[] #[ptr x], .int .i64 0] w1 fun e W => ∃ v X, e = .returned (.tuple #[v, .bool true]) ∧ MsIn W v X ∧ mm X = [ofM fD, ofM fA, ofM fAB, ofM fB] ∧ Below w1.heap.size w1 W := by
  obtain ⟨⟨T, nf, t1, t2, t3⟩, be⟩ := h
  have tw := tw_of t1 (by omega) hb
  refine (givenA_any tw hx).mono ?_
  rintro e W ⟨v, X, rfl, gv⟩
  exact ⟨v, X, rfl, gv_in tw gv, all4 t2 gv.al, gv.be⟩
theorem ldr0 {T : List Fn} (t1 : TS w1 tb r 0 0 T) (t2 : ∀ F z, ¬ HasM T F z) (t3 : ∀ j, isT tb T j → w.heap.size ≤ j) (t4 : Below w.heap.size w w1) : LdR w w1 tb r 0 (holdM (L4.take 0)) :=
  ⟨⟨T, 0, t1, fun F z => ⟨fun c => (t2 F z c).elim, fun c => c.elim⟩, t3⟩, t4⟩
theorem nn0 {T : List Fn} (t1 : TS w1 tb r 0 0 T) : Calls Tryz.prog 17 #[ptr tb] w1 fun e w' => e = .returned (.int .i64 1) ∧ w' = w1 := by
  have := nodes_any t1.tm
  have o := t1.one
  have c := t1.cnt
  have p := t1.pos
  rw [show (T.length : Int) = 1 by omega] at this
  exact this
/-- A list of four: the first. -/
theorem first4 {W : World} {v : Value} {X : List Ml} (h : MsIn W v X) (e : mm X = [ofM fD, ofM fA, ofM fAB, ofM fB]) : ∃ g o c, v = .slice (some ⟨g, o, none⟩) 4 c ∧ 4 ≤ c ∧ ∀ w', Below W.heap.size W w' → w'.cell? ⟨g, o, none⟩ = some (.string ⟨#[36, 97]⟩) := by
  have hl : X.length = 4 := by
    have := congrArg List.length e
    rw [mm_len] at this
    exact this
  obtain ⟨a, n, c, rfl, hn, hc, -⟩ := h.ex
  obtain ⟨s, hs⟩ : ∃ s, X[0]? = some s := ⟨_, List.getElem?_eq_getElem (by omega)⟩
  have h1 : s.1 = ofM fD := by
    have := mm_get hs
    rw [e] at this
    simpa using this.symm
  obtain ⟨g, o, rfl⟩ := h.at_ hs
  refine ⟨g, o, c, by rw [hn, hl], by omega, fun w' hb => ?_⟩
  have := (four h hs w' hb).1
  rw [h1] at this
  have e0 : o + 0 * 4 = o := by omega
  rw [e0] at this
  exact this
set_option maxRecDepth 100000 in
set_option maxHeartbeats 8000000 in
/-- KNOWN: the chapter's example. -/
theorem known_any (w : World) : Calls Tryz.prog 6 #[] w fun e w' => e = .returned (.bool true) ∧ Below w.heap.size w w' := by
  have NW := hidi (fun w => new_any w)
  have PK := hidi (fun (k : Nat) (m : Msg) (hs : L4[k]? = some m) (w1 wo : World) (tb r : Nat) (v : Value) (h : LdR w w1 tb r k (holdM (L4.take k))) (o : OfR w1 wo v m.xs) => putk h hs o)
  have OK := hidi (fun (k : Nat) (m : Msg) (hs : L4[k]? = some m) (w : World) => (show Calls Tryz.prog 24 #[.string m.t] w fun e w' => ∃ v, e = .returned (m.val v) ∧ OfR w w' v m.xs from by
    obtain ⟨he, -, h2, -⟩ := L4_all (List.mem_of_getElem? hs)
    have := of_any m.t h2 w
    rw [← he] at this
    exact this))
  have OA := hidi (fun (w : World) => (show Calls Tryz.prog 24 #[.string ⟨#[97]⟩] w fun e w' => ∃ v, e = .returned (.agg #[.string fA, v, .int .i64 1, .bool false]) ∧ OfR w w' v (ofM fA).xs from of_any fA (by decide) w))
  have OB := hidi (fun (w : World) => (show Calls Tryz.prog 24 #[.string ⟨#[98]⟩] w fun e w' => ∃ v, e = .returned (.agg #[.string fB, v, .int .i64 1, .bool false]) ∧ OfR w w' v (ofM fB).xs from of_any fB (by decide) w))
  have OAB := hidi (fun (w : World) => (show Calls Tryz.prog 24 #[.string ⟨#[97, 47, 98]⟩] w fun e w' => ∃ v, e = .returned (.agg #[.string fAB, v, .int .i64 1, .bool false]) ∧ OfR w w' v (ofM fAB).xs from of_any fAB (by decide) w))
  have F19 := hidi (fun (w : World) (tb : Nat) => (show Calls Tryz.prog 19 #[ptr tb, .string ⟨#[35]⟩] w fun e w' => ∃ a b, e = .returned (.func (.func 36) #[] #[ptr a, ptr b]) ∧ w'.heap[a]? = some (.cells #[ptr tb] 25 (0, 0)) ∧ w'.heap[b]? = some (.cells #[.string fH] 9 (0, 0)) ∧ Below w.heap.size w w' from find19_any tb fH))
  have A13 := hidi (fun (w : World) (tb : Nat) => all13_any (w := w) tb)
  have KF := hidi (fun (w4 w1 : World) (tb r x y : Nat) (h : LdR w w4 tb r 4 (holdM L4)) (hb : Below w4.heap.size w4 w1) (hx : w1.heap[x]? = some (.cells #[ptr tb] 25 (0, 0))) (hy : w1.heap[y]? = some (.cells #[.string fH] 9 (0, 0))) => kfind h hb hx hy)
  have KA := hidi (fun (w4 w1 : World) (tb r x : Nat) (h : LdR w w4 tb r 4 (holdM L4)) (hb : Below w4.heap.size w4 w1) (hx : w1.heap[x]? = some (.cells #[ptr tb] 25 (0, 0))) => kall h hb hx)
  have K5 := hidi (fun (w4 w1 : World) (tb r : Nat) (h : LdR w w4 tb r 4 (holdM L4)) (hb : Below w4.heap.size w4 w1) => five h hb)
  have KD := hidi (fun (w4 w1 : World) (tb r : Nat) (h : LdR w w4 tb r 4 (holdM L4)) (hb : Below w4.heap.size w4 w1) => (show Calls Tryz.prog 11 #[ptr tb, .string ⟨#[97]⟩] w1 fun e w' => e = .returned (.bool true) ∧ DK w w' tb r from dropk11 h hb))
  have K4 := hidi (fun (w1 : World) (tb r : Nat) (h : DK w w1 tb r) => fournodes h)
  have SM := hidi (fun (w3 : World) (v v1 v2 v3 : Value) (X : List Ml) (h : MsIn w3 v X) (e : mm X = [ofM fA, ofM fAB, ofM fB]) (h1 : PR w3 v1 (ofM fA).xs) (h2 : PR w3 v2 (ofM fAB).xs) (h3 : PR w3 v3 (ofM fB).xs) => (show Calls Tryz.prog 14 #[v, .slice (some ⟨w3.heap.size, 0, none⟩) 3 3] (w3.alloc (.cells #[.string fA, v1, .int .i64 1, .bool false, .string fAB, v2, .int .i64 1, .bool false, .string fB, v3, .int .i64 1, .bool false] 30)) fun e w' => e = .returned (.bool true) ∧ Below w3.heap.size w3 w' from by
    have bl : Below w3.heap.size w3 (w3.alloc (.cells #[.string fA, v1, .int .i64 1, .bool false, .string fAB, v2, .int .i64 1, .bool false, .string fB, v3, .int .i64 1, .bool false] 30)) := (Below.refl _ _).alloc (Nat.le_refl _) _
    have hl : X.length = 3 := by
      have := congrArg List.length e
      rw [mm_len] at this
      exact this
    refine (smsgs_any (h.below bl) (built3 (w0 := w3) (w1 := w3) (w2 := w3) h1 h2 h3) (by omega)).mono ?_
    rintro e2 w' ⟨b, rfl, hb1, hb2⟩
    obtain rfl : b = true := hb1.2 (by rw [e]; rfl)
    exact ⟨rfl, bl.trans (hb2.mono bl.size)⟩))
  unfold ptr Msg.val Msg.cs at *
  go_enter Tryz.func6, Tryz.ntmps6
  go_upto_region 4 with (first
    | (go_at_call 23; refine (NW.out _).mono ?_; rintro e w1 ⟨tb, r, T0, rfl, t1, t2, t3, t4⟩; have S0 := hidi (ldr0 t1 t2 t3 t4); have N0 := hidi (nn0 t1); clear t1 t2 t3 t4 NW; unfold ptr at N0)
    | (go_at_call 17; refine N0.out.mono ?_; rintro e w' ⟨rfl, he⟩; obtain rfl := he.symm; clear N0))
  go_wp2_with fail
  obtain ⟨w2, hw2⟩ : ∃ w2, w2 = w1.alloc (.cells #[.string { data := #[98] }, .string { data := #[97, 47, 98] }, .string { data := #[36, 97] }, .string { data := #[97] }] 9) := ⟨_, rfl⟩
  have TX := hidi (show w2.heap[w1.heap.size]? = some (.cells #[.string fB, .string fAB, .string fD, .string fA] 9 (0, 0)) from by rw [hw2]; exact heap_alloc_new _ _)
  have S1 := hidi (S0.out.below (show Below w1.heap.size w1 w2 from by rw [hw2]; exact (Below.refl _ _).alloc (Nat.le_refl _) _))
  rw [← hw2]
  clear hw2 S0
  obtain ⟨xb, hxb⟩ : ∃ xb, xb = w1.heap.size := ⟨_, rfl⟩
  rw [← hxb] at TX ⊢
  clear hxb
  go_loopg [3, 4, 5, 20] 4 (fun gg s3 s4 s5 s20 wx => ∃ k : Nat, k ≤ 4 ∧ gg = 4 - k ∧ s20 = .int .i64 k ∧ Hid (LdR w wx tb r k (holdM (L4.take k))) ∧ Hid (wx.heap[xb]? = some (.cells #[.string fB, .string fAB, .string fD, .string fA] 9 (0, 0))))
  case atStart => exact ⟨0, Nat.zero_le _, rfl, rfl, S1, TX⟩
  case round =>
    obtain ⟨k, hk, rfl, rfl, LK, XK⟩ := hrel
    by_cases hlt : k < 4
    · have hlt' : (k : Int) < 4 := by omega
      obtain ⟨m, hs⟩ : ∃ m, L4[k]? = some m := ⟨_, List.getElem?_eq_getElem (show k < L4.length from hlt)⟩
      have c0 := tx_cell XK.out hs
      have OKm := hidi (fun (w : World) => OK.out k m hs w)
      have PKm := hidi (fun (w1 wo : World) (v : Value) (h : LdR w w1 tb r k (holdM (L4.take k))) (o : OfR w1 wo v m.xs) => PK.out k m hs w1 wo tb r v h o)
      have hw : IntKind.i64.wrap ((k : Int) + 1) = (k : Int) + 1 := by rw [IntKind.wrap_i64]; omega
      clear hs
      go_wp2_with (first
        | (go_at_call 24; refine (OKm.out _).mono ?_; rintro e wo ⟨v, rfl, o⟩; have PP := hidi (PKm.out _ _ v LK.out o); have XO := hidi (later_at XK.out o.be); clear o c0)
        | (go_at_call 9; refine PP.out.mono ?_; rintro e w2 ⟨rfl, ld, hx⟩; have LD := hidi ld; have XD := hidi (hx _ _ XO.out); clear ld hx PP))
      go_roundg (4 - (k + 1))
      case measure => omega
      case rel => exact ⟨k + 1, by omega, rfl, rfl, LD, XD⟩
    · have hlt' : ¬ (k : Int) < 4 := by omega
      obtain rfl : k = 4 := by omega
      have S4 := hidi (show LdR w wr tb r 4 (holdM L4) from LK.out)
      clear LK XK OK PK TX S1
      go_upto_region 13 with (first
        | (go_at_call 19; refine (F19.out _ tb).mono ?_; rintro e wa ⟨x, y, rfl, hx, hy, hb⟩; have BA := hidi hb; have C1 := hidi (KF.out wr wa tb r x y S4.out hb hx hy); clear hx hy hb F19 KF; unfold ptr at C1)
        | (go_at_call 12; refine C1.out.mono ?_; rintro e wb ⟨v1, X1, rfl, hm, he, hb⟩; have M1 := hidi hm; have E1 := hidi he; have BB := hidi (BA.out.trans (hb.mono BA.out.size)); clear hm he hb C1 BA)
        | (go_at_call 13; refine (A13.out _ tb).mono ?_; rintro e wc ⟨x, rfl, hx, hb⟩; have BC := hidi (BB.out.trans (hb.mono BB.out.size)); have M2 := hidi (M1.out.below hb); have C2 := hidi (KA.out wr wc tb r x S4.out BC.out hx); clear hx hb A13 KA BB M1; unfold ptr at C2)
        | (go_at_call 12; refine C2.out.mono ?_; rintro e wd ⟨v2, X2, rfl, hm, he, hb⟩; obtain ⟨g, o, c, rfl, hc, hcell⟩ := first4 hm he; have M3 := hidi (M2.out.below hb); have FC := hidi hcell; have BD := hidi (BC.out.trans (hb.mono BC.out.size)); have HC := hidi hc; clear hm he hb hcell hc C2 BC M2))
      have hc4 : (0 : Int) < 4 := by omega
      go_wp2_with (first
        | (go_at_call 24; refine (OA.out _).mono ?_; rintro e we ⟨a1, rfl, o1⟩; have PA := hidi o1.pr; have BE := hidi o1.be; clear o1 OA)
        | (go_at_call 24; refine (OAB.out _).mono ?_; rintro e wf ⟨a2, rfl, o2⟩; have PB := hidi o2.pr; have BF := hidi o2.be; clear o2 OAB)
        | (go_at_call 24; refine (OB.out _).mono ?_; rintro e wg ⟨a3, rfl, o3⟩; have PC := hidi o3.pr; have BG := hidi o3.be; clear o3 OB)
        | (go_at_call 14; refine (SM.out _ v1 a1 a2 a3 X1 (((M3.out.below BE.out).below BF.out).below BG.out) E1.out ((PA.out.below BF.out).below BG.out) (PB.out.below BG.out) PC.out).mono ?_; rintro e wh ⟨rfl, hb⟩; have b1 := ((BE.out.trans (BF.out.mono BE.out.size)).trans (BG.out.mono (BE.out.trans (BF.out.mono BE.out.size)).size)); have b2 := b1.trans (hb.mono b1.size); have c0 := FC.out wh b2; have BH := hidi (BD.out.trans (b2.mono BD.out.size)); have C5 := hidi (K5.out wr wh tb r S4.out BH.out); clear b1 b2 hb SM FC K5; unfold ptr at C5)
        | (go_at_call 17; refine C5.out.mono ?_; rintro e w' ⟨rfl, he⟩; obtain rfl := he.symm; have CD := hidi (KD.out wr _ tb r S4.out BH.out); clear C5 KD c0; unfold ptr at CD)
        | (go_at_call 11; refine CD.out.mono ?_; rintro e wi ⟨rfl, dk⟩; have DI := hidi dk; have C4 := hidi (K4.out wi tb r dk); clear dk CD K4; unfold ptr at C4)
        | (go_at_call 17; refine C4.out.mono ?_; rintro e w' ⟨rfl, he⟩; obtain rfl := he.symm))
      go_ret
      exact ⟨rfl, DI.out.be⟩
end Go.Proofs.YtipagdhoeocjeaaGreat.Li
namespace Go.Proofs.YtipagdhoeocjeaaGreat.Li
open Go Go.RowKit Go.Shelf
set_option linter.unusedSimpArgs false
set_option linter.unusedVariables false
/-- What is left when so many have been dropped. -/
def lftM (l : List Msg) (j : Nat) : HeldM := fun F z => holdM l F z ∧ ∀ i m, i < j → l[i]? = some m → F ≠ levels m.t
theorem lft_next {l : List Msg} {j : Nat} {m : Msg} (h : l[j]? = some m) (F : List ByteArray) (z : Msg) : (lftM l j F z ∧ ¬ F = levels m.t) ↔ lftM l (j + 1) F z := by
  unfold lftM
  constructor
  · rintro ⟨⟨a, b⟩, c⟩
    refine ⟨a, fun i x hi hx => ?_⟩
    by_cases e : i = j
    · rw [e, h] at hx
      cases hx
      exact c
    · exact b i x (by omega) hx
  · rintro ⟨a, b⟩
    exact ⟨⟨a, fun i x hi hx => b i x (by omega) hx⟩, b j m (Nat.lt_succ_self _) h⟩
theorem lft_none {l : List Msg} (F : List ByteArray) (z : Msg) : ¬ lftM l l.length F z := by
  rintro ⟨a, b⟩
  rw [hold_iff] at a
  obtain ⟨h1, _, h3⟩ := held_mem a
  obtain ⟨i, hi⟩ := List.getElem?_of_mem h1
  exact b i z (List.getElem?_eq_some_iff.1 hi).1 hi h3
set_option maxRecDepth 100000 in
set_option maxHeartbeats 16000000 in
/-- RETTRIEBOUND. -/
theorem boundL_any {w : World} {v v2 : Value} {l l2 : List Ml} (h : MsIn w v l) (h2 : MsIn w v2 l2) (hx : ∀ s ∈ l, s.1.t.size ≤ 140737488355328 ∧ s.1.xs.length ≤ 140737488355328) (hbig : l.length ≤ 140737488355328) (hx2 : ∀ s ∈ l2, s.1.t.size ≤ 140737488355328 ∧ s.1.xs.length ≤ 140737488355328) (hbig2 : l2.length ≤ 140737488355328) :
    Calls Tryz.prog 3 #[v, v2] w fun e w' => e = .returned (.bool true) ∧ Below w.heap.size w w' := by
  obtain ⟨a, n, cap, rfl, hn, hc, -⟩ := h.ex
  obtain ⟨a2, n2, cap2, rfl, hn2, hc2, -⟩ := h2.ex
  have SM := hidi (small_any h hx hbig)
  have SM2 := hidi (fun (w1 : World) (hb : Below w.heap.size w w1) => small_any (h2.below hb) hx2 hbig2)
  have KN := hidi (fun w => known_any w)
  have A13 := hidi (fun (w : World) (tb : Nat) => all13_any (w := w) tb)
  have LD := hidi (fun (w1 : World) (hb : Below w.heap.size w w1) (h60 : l.length ≤ 60) (hs : sumM l ≤ 60000) => laid_any (h.below hb) (by omega) (fun s hs' => by have := (sumM_mem hs').2; omega))
  have IN1 := hidi h
  have IN2 := hidi h2
  have HN := hidi (And.intro hn hc)
  have HN2 := hidi (And.intro hn2 hc2)
  unfold ptr at *
  clear h h2 hx hx2 hbig hbig2 hn hc hn2 hc2
  go_enter Tryz.func3, Tryz.ntmps3
  go_upto_region 3 with (first
    | (go_at_call 5; refine SM.out.mono ?_; rintro e w1 ⟨b, rfl, sm, hb⟩; have S1 := hidi sm; have B1 := hidi hb; have SN := hidi (SM2.out w1 hb); clear sm hb SM SM2; cases b)
    | (go_at_call 5; refine SN.out.mono ?_; rintro e w1' ⟨b, rfl, sm, hb⟩; have S1' := hidi sm; have B1' := hidi (B1.out.trans (hb.mono B1.out.size)); clear sm hb SN; cases b))
  · go_ret
    exact ⟨rfl, B1.out⟩
  · go_ret
    exact ⟨rfl, B1'.out⟩
  · have S2 := hidi (S1.out rfl)
    have S2' := hidi (S1'.out rfl)
    clear S1 S1' B1
    go_upto_region 9 with (first
      | (go_at_call 6; refine (KN.out _).mono ?_; rintro e w2 ⟨rfl, hb⟩; have B2 := hidi (B1'.out.trans (hb.mono B1'.out.size)); have LD1 := hidi (LD.out w2 B2.out S2.out.1 S2.out.2); clear hb KN; unfold ptr at LD1)
      | (go_at_call 7; refine LD1.out.mono ?_; rintro e w3 ⟨tb, r, rfl, ld⟩; have L1 := hidi ld; have LD2 := hidi (LD.out w3 (B2.out.trans (ld.be.mono B2.out.size)) S2.out.1 S2.out.2); clear ld LD1 LD; unfold ptr at LD2)
      | (go_at_call 7; refine LD2.out.mono ?_; rintro e w4 ⟨tb', r', rfl, ld⟩; have L2 := hidi ld; clear ld LD2))
    obtain ⟨nfU, U, tw, bes⟩ := two_of L1.out L2.out S2.out.1
    have X0 : Hid (Two w2 w4 tb r 60 (holdM (mm l)) tb' r' nfU U) := tw.more S2.out.1
    have BES : Hid (Bes (holdM (mm l)) nfU U) := bes
    clear tw bes L1 L2 B1'
    go_wp2_with fail
    go_loopg [9, 10, 11, 12, 13, 14, 15, 16, 17] n2 (fun gg s9 s10 s11 s12 s13 s14 s15 s16 s17 wx => ∃ i : Nat, i ≤ n2 ∧ gg = n2 - i ∧ s9 = .int .i64 (i : Int) ∧ Hid (Two w2 wx tb r 60 (holdM (mm l)) tb' r' nfU U))
    case atStart => exact ⟨0, Nat.zero_le _, rfl, rfl, X0⟩
    case round =>
      clear X0
      obtain ⟨i, hi, rfl, rfl, X⟩ := hrel
      by_cases lt : i < n2
      · have lt' : (i : Int) < n2 := by omega
        obtain ⟨s, hs⟩ : ∃ s, l2[i]? = some s := ⟨_, List.getElem?_eq_getElem (by have := HN2.out.1; omega)⟩
        obtain ⟨g, o, rfl⟩ := IN2.out.at_ hs
        have FO := hidi (four IN2.out hs)
        have hpr := IN2.out.pr s (List.mem_of_getElem? hs)
        have hsx : s.1.t.size ≤ 60000 ∧ s.1.xs.length ≤ 60000 := by have := sumM_mem (List.mem_of_getElem? hs); have := S2'.out.2; omega
        obtain ⟨m, sv⟩ := s
        have HPR := hidi hpr
        obtain ⟨pa, pc, hpv, -⟩ := hpr.sl
        have hpv : sv = .slice pa m.xs.length pc := hpv
        obtain ⟨px, hpx⟩ : ∃ px, px = m.xs.length := ⟨_, rfl⟩
        rw [← hpx] at hpv
        subst hpv
        simp only at FO hsx HPR
        have BX := hidi (B2.out.trans (X.out.be.mono B2.out.size))
        have hwi : IntKind.i64.wrap ((i : Int) + 1) = (i : Int) + 1 := by rw [IntKind.wrap_i64]; have := S2'.out.1; have := HN2.out.1; omega
        have hcap := HN2.out.2
        have HSX := hidi hsx
        have GT := hidi (X.out.get (f := m.t) (by have := HSX.out; omega))
        have PU := hidi (fun (wy : World) (hb : Below wr.heap.size wr wy) => X.out.put (m := m) (v := .slice pa px pc) hb (by omega) HSX.out.2 (fun w' _ hb' => HPR.out.below (B2.out.trans (hb'.mono B2.out.size))))
        obtain ⟨z0, z1, z2, z3⟩ := FO.out wr BX.out
        unfold ptr at GT PU
        unfold Msg.val Msg.cs at PU
        clear hs hpr hpx hsx z1 z2 z3
        go_upto_region 13 with (go_at_call 8; refine GT.out.mono ?_; rintro e wp ⟨ot, oa, on, oc, oq, ob, was, rfl, hb, gx⟩; have BP := hidi hb; have GX := hidi gx; clear hb gx GT z0)
        obtain ⟨w5, hw5⟩ : ∃ w5, w5 = wp.alloc (.cells #[.string ot, .slice oa on oc, .int .i64 oq, .bool ob] 30) := ⟨_, rfl⟩
        have Z5 := hidi (show w5.heap[wp.heap.size]? = some (.cells #[.string ot, .slice oa on oc, .int .i64 oq, .bool ob] 30 (0, 0)) from by rw [hw5]; exact heap_alloc_new _ _)
        have bp5 : Below wp.heap.size wp w5 := by rw [hw5]; exact (Below.refl _ _).alloc (Nat.le_refl _) _
        have BP5 := hidi bp5
        have B5 := hidi (BP.out.trans (bp5.mono BP.out.size))
        rw [← hw5]
        clear hw5 bp5
        obtain ⟨bx, hbx⟩ : ∃ bx, bx = wp.heap.size := ⟨_, rfl⟩
        have HBX := hidi (show wr.heap.size ≤ bx from by rw [hbx]; exact BP.out.size)
        rw [← hbx] at Z5 ⊢
        clear hbx
        obtain ⟨y0, y1, y2, y3⟩ := FO.out w5 (BX.out.trans (B5.out.mono BX.out.size))
        have PW := hidi (PU.out w5 B5.out)
        clear PU
        go_upto_region 14 with (go_at_call 9; refine PW.out.mono ?_; rintro e w6 ⟨o1, c1, rfl, kb, new, cs⟩; have Z6 := hidi ((new bx HBX.out (Array.getElem?_eq_some_iff.1 Z5.out).1).trans Z5.out); have KB := hidi kb; have CS := hidi cs; clear kb new cs PW y0 y1 y2 y3)
        rcases CS.out with ⟨c0, -, X2⟩ | ⟨rfl, hr, X1⟩
        · have ne : (c1 != 0) = true := by simpa using c0
          have X3 := hidi (X2.back BES.out)
          clear CS X2 Z6 KB c0 X
          go_wp2_with fail
          go_roundg (n2 - (i + 1))
          case measure => omega
          case rel => exact ⟨i + 1, by omega, rfl, by simp, X3⟩
        · have BN := hidi (X1.bound (by omega))
          have HX1 := hidi X1
          have HRG := hidi hr
          have zz := Z6.out
          have k0 := box_cells zz 0 _ rfl
          have k1 := box_cells zz 1 _ rfl
          have k2 := box_cells zz 2 _ rfl
          have k3 := box_cells zz 3 _ rfl
          unfold ptr at BN
          clear CS X1 hr zz
          go_upto_region 17 with (go_at_call 10; refine BN.out.mono ?_; rintro e w' ⟨rfl, he⟩; obtain rfl := he.symm; clear BN)
          rcases GX.out with ⟨rfl, z, ez, rfl, rfl, rfl, rfl, pl⟩ | ⟨rfl, no⟩
          · have DR := hidi (show Calls Tryz.prog 9 #[ptr tb, z.val (.slice oa z.xs.length oc)] w6 fun e w' => ∃ (o : Bool) (c : Int), e = .returned (.tuple #[.bool o, .int .i64 c]) ∧ Hid (Two w2 w' tb r 60 (holdM (mm l)) tb' r' nfU U) from by
              have mo := X.out.ok ez
              have rz : Rig z := ⟨mo.1, mo.2.2.1⟩
              refine (HX1.out.put (Below.refl _ _) (by omega) mo.2.2.2.1 (fun w' kb _ => ((pl.below BP5.out).kb (KB.out.trans kb)).pr (by have := mo.2.2.2.1; unfold maxLen; omega))).mono ?_
              rintro e w' ⟨o, c, rfl, _, _, cs⟩
              refine ⟨o, c, rfl, ?_⟩
              rcases cs with ⟨_, nr, _⟩ | ⟨_, _, x⟩
              · exact absurd rz nr
              · exact (x.congr (step_back HRG.out rz mo.2.1 ez (fun z' hz' => X.out.uniq hz' ez))).back BES.out)
            unfold ptr at DR
            unfold Msg.val Msg.cs at DR
            clear GX Z6 KB ez pl HX1
            go_upto_region 21 with (go_at_call 9; refine DR.out.mono ?_; rintro e w7 ⟨o2, c2, rfl, Z⟩; clear DR k0 k1 k2 k3)
            have AL := hidi (Z.out.alike (by omega) BES.out)
            go_upto_region 23 with (first
              | (go_at_call 13; refine (A13.out _ tb).mono ?_; rintro e wa ⟨x, rfl, hx, hb⟩; have BA := hidi hb; have C1 := hidi (AL.out.a1 wa x hb hx); clear hx hb; unfold ptr at C1)
              | (go_at_call 12; refine C1.out.mono ?_; rintro e wb ⟨va, Xa, rfl, ma, la, na, hb⟩; have MA := hidi ma; have LA := hidi (And.intro la na); have BB := hidi (BA.out.trans (hb.mono BA.out.size)); clear ma la na hb C1 BA)
              | (go_at_call 13; refine (A13.out _ tb').mono ?_; rintro e wc ⟨x2, rfl, hx, hb⟩; have MA2 := hidi (MA.out.below hb); have BC := hidi (BB.out.trans (hb.mono BB.out.size)); have C2 := hidi (AL.out.a2 wc x2 BC.out hx); clear hx hb MA BB; unfold ptr at C2)
              | (go_at_call 12; refine C2.out.mono ?_; rintro e wd ⟨vb, Xb, rfl, mb, lb, nb, hb⟩; have MB := hidi mb; have MA3 := hidi (MA2.out.below hb); have BD := hidi (BC.out.trans (hb.mono BC.out.size)); have EQ := hidi (AL.out.eq _ _ LA.out.1 lb); have NA := hidi LA.out.2; clear mb lb nb hb C2 BC MA2 LA))
            have SS := hidi (show Calls Tryz.prog 14 #[va, vb] wd fun e w' => e = .returned (.bool true) ∧ Below wd.heap.size wd w' from by
              refine (smsgs_any MA3.out MB.out (by have := NA.out; omega)).mono ?_
              rintro e w' ⟨b, rfl, hb1, hb2⟩
              obtain rfl := hb1.2 EQ.out
              exact ⟨rfl, hb2⟩)
            obtain ⟨nn, ND⟩ := AL.out.nd
            have HND := hidi ND
            clear ND MA3 MB EQ NA
            unfold ptr at HND
            go_wp2_with (first
              | (go_at_call 14; refine SS.out.mono ?_; rintro e we ⟨rfl, hb⟩; have BE1 := hidi (BD.out.trans (hb.mono BD.out.size)); have H1 := hidi (AL.out.sh we BE1.out); clear hb SS BD; unfold ptr agg3 at H1)
              | (go_at_call 16; refine H1.out.mono ?_; rintro e wf ⟨u, rfl, ⟨e1, e2, e3, e4, e5, e6, e7, rfl⟩, hb, nx⟩; have BF1 := hidi (BE1.out.trans (hb.mono BE1.out.size)); have H2 := hidi (nx wf (Below.refl _ _)); clear hb nx H1 BE1; simp only at H2)
              | (go_at_call 16; refine H2.out.mono ?_; rintro e wg ⟨u, rfl, ⟨d1, d2, d3, d4, d5, d6, d7, rfl⟩, hb, nx⟩; have BG1 := hidi (BF1.out.trans (hb.mono BF1.out.size)); have H3 := hidi (nx wg (Below.refl _ _)); clear hb nx H2 BF1; simp only at H3)
              | (go_at_call 15; refine H3.out.mono ?_; rintro e wh ⟨rfl, hb⟩; have BH1 := hidi (BG1.out.trans (hb.mono BG1.out.size)); have N1 := hidi (HND.out wh BH1.out); clear hb H3 BG1)
              | (go_at_call 17; refine N1.out.1.mono ?_; rintro e w' ⟨rfl, he⟩; obtain rfl := he.symm)
              | (go_at_call 17; refine N1.out.2.mono ?_; rintro e w' ⟨rfl, he⟩; obtain rfl := he.symm))
            have FIN := hidi (Z.out.below BH1.out)
            clear N1 HND AL Z BH1
            go_roundg (n2 - (i + 1))
            case measure => omega
            case rel => exact ⟨i + 1, by omega, rfl, by simp, FIN⟩
          · have DR := hidi (show Calls Tryz.prog 11 #[ptr tb, .string m.t] w6 fun e w' => e = .returned (.bool true) ∧ Hid (Two w2 w' tb r 60 (holdM (mm l)) tb' r' nfU U) from by
              refine (HX1.out.drop (by omega) (by have := HSX.out; omega)).mono ?_
              rintro e w' ⟨b, rfl, hb, x⟩
              obtain rfl : b = true := hb.2 ⟨m, by unfold stepM; rw [if_pos HRG.out]; exact .inl ⟨rfl, rfl⟩⟩
              exact ⟨rfl, (x.congr (step_drop HRG.out no)).back BES.out⟩)
            obtain ⟨y0, y1, y2, y3⟩ := FO.out w6 (B2.out.trans (HX1.out.be.mono B2.out.size))
            unfold ptr at DR
            clear GX Z6 KB no HX1 k0 k1 k2 k3 y1 y2 y3
            go_upto_region 21 with (go_at_call 11; refine DR.out.mono ?_; rintro e w7 ⟨rfl, Z⟩; clear DR y0)
            have AL := hidi (Z.out.alike (by omega) BES.out)
            go_upto_region 23 with (first
              | (go_at_call 13; refine (A13.out _ tb).mono ?_; rintro e wa ⟨x, rfl, hx, hb⟩; have BA := hidi hb; have C1 := hidi (AL.out.a1 wa x hb hx); clear hx hb; unfold ptr at C1)
              | (go_at_call 12; refine C1.out.mono ?_; rintro e wb ⟨va, Xa, rfl, ma, la, na, hb⟩; have MA := hidi ma; have LA := hidi (And.intro la na); have BB := hidi (BA.out.trans (hb.mono BA.out.size)); clear ma la na hb C1 BA)
              | (go_at_call 13; refine (A13.out _ tb').mono ?_; rintro e wc ⟨x2, rfl, hx, hb⟩; have MA2 := hidi (MA.out.below hb); have BC := hidi (BB.out.trans (hb.mono BB.out.size)); have C2 := hidi (AL.out.a2 wc x2 BC.out hx); clear hx hb MA BB; unfold ptr at C2)
              | (go_at_call 12; refine C2.out.mono ?_; rintro e wd ⟨vb, Xb, rfl, mb, lb, nb, hb⟩; have MB := hidi mb; have MA3 := hidi (MA2.out.below hb); have BD := hidi (BC.out.trans (hb.mono BC.out.size)); have EQ := hidi (AL.out.eq _ _ LA.out.1 lb); have NA := hidi LA.out.2; clear mb lb nb hb C2 BC MA2 LA))
            have SS := hidi (show Calls Tryz.prog 14 #[va, vb] wd fun e w' => e = .returned (.bool true) ∧ Below wd.heap.size wd w' from by
              refine (smsgs_any MA3.out MB.out (by have := NA.out; omega)).mono ?_
              rintro e w' ⟨b, rfl, hb1, hb2⟩
              obtain rfl := hb1.2 EQ.out
              exact ⟨rfl, hb2⟩)
            obtain ⟨nn, ND⟩ := AL.out.nd
            have HND := hidi ND
            clear ND MA3 MB EQ NA
            unfold ptr at HND
            go_wp2_with (first
              | (go_at_call 14; refine SS.out.mono ?_; rintro e we ⟨rfl, hb⟩; have BE1 := hidi (BD.out.trans (hb.mono BD.out.size)); have H1 := hidi (AL.out.sh we BE1.out); clear hb SS BD; unfold ptr agg3 at H1)
              | (go_at_call 16; refine H1.out.mono ?_; rintro e wf ⟨u, rfl, ⟨e1, e2, e3, e4, e5, e6, e7, rfl⟩, hb, nx⟩; have BF1 := hidi (BE1.out.trans (hb.mono BE1.out.size)); have H2 := hidi (nx wf (Below.refl _ _)); clear hb nx H1 BE1; simp only at H2)
              | (go_at_call 16; refine H2.out.mono ?_; rintro e wg ⟨u, rfl, ⟨d1, d2, d3, d4, d5, d6, d7, rfl⟩, hb, nx⟩; have BG1 := hidi (BF1.out.trans (hb.mono BF1.out.size)); have H3 := hidi (nx wg (Below.refl _ _)); clear hb nx H2 BF1; simp only at H3)
              | (go_at_call 15; refine H3.out.mono ?_; rintro e wh ⟨rfl, hb⟩; have BH1 := hidi (BG1.out.trans (hb.mono BG1.out.size)); have N1 := hidi (HND.out wh BH1.out); clear hb H3 BG1)
              | (go_at_call 17; refine N1.out.1.mono ?_; rintro e w' ⟨rfl, he⟩; obtain rfl := he.symm)
              | (go_at_call 17; refine N1.out.2.mono ?_; rintro e w' ⟨rfl, he⟩; obtain rfl := he.symm))
            have FIN := hidi (Z.out.below BH1.out)
            clear N1 HND AL Z BH1
            go_roundg (n2 - (i + 1))
            case measure => omega
            case rel => exact ⟨i + 1, by omega, rfl, by simp, FIN⟩
      · have lt' : ¬ (i : Int) < n2 := by omega
        have X0 : Hid (Two w2 wr tb r 60 (lftM (mm l) 0) tb' r' nfU U) := X.out.congr (fun F z => ⟨fun h => ⟨h, fun j m hj _ => by omega⟩, fun h => h.1⟩)
        clear X
        go_wp2_with fail
        go_loopg [18] n (fun gg s18 wx => ∃ j : Nat, j ≤ n ∧ gg = n - j ∧ s18 = .int .i64 (j : Int) ∧ Hid (Two w2 wx tb r 60 (lftM (mm l) j) tb' r' nfU U))
        case atStart => exact ⟨0, Nat.zero_le _, rfl, rfl, X0⟩
        case round =>
          clear X0
          obtain ⟨j, hj, rfl, rfl, Y⟩ := hrel
          by_cases lj : j < n
          · have lj' : (j : Int) < n := by omega
            obtain ⟨s, hs⟩ : ∃ s, l[j]? = some s := ⟨_, List.getElem?_eq_getElem (by have := HN.out.1; omega)⟩
            obtain ⟨g, o, rfl⟩ := IN1.out.at_ hs
            obtain ⟨z0, -⟩ := four IN1.out hs wr (B2.out.trans (Y.out.be.mono B2.out.size))
            have hsx : s.1.t.size ≤ 60000 := by have := sumM_mem (List.mem_of_getElem? hs); have := S2.out.2; omega
            have hwj : IntKind.i64.wrap ((j : Int) + 1) = (j : Int) + 1 := by rw [IntKind.wrap_i64]; have := S2.out.1; have := HN.out.1; omega
            have hcap := HN.out.2
            have DR := hidi (show Calls Tryz.prog 11 #[ptr tb, .string s.1.t] wr fun e w' => ∃ b, e = .returned (.bool b) ∧ Hid (Two w2 w' tb r 60 (lftM (mm l) (j + 1)) tb' r' nfU U) from by
              refine (Y.out.drop (by omega) (by omega)).mono ?_
              rintro e w' ⟨b, rfl, _, x⟩
              exact ⟨b, rfl, x.congr (lft_next (mm_get hs))⟩)
            clear hs hsx Y
            unfold ptr at DR
            go_wp2_with (first
              | (go_at_call 11; refine DR.out.mono ?_; rintro e wp ⟨b, rfl, Z⟩; have BN := hidi (Z.out.bound (by omega)); clear DR z0; unfold ptr at BN)
              | (go_at_call 10; refine BN.out.mono ?_; rintro e w' ⟨rfl, he⟩; obtain rfl := he.symm; clear BN))
            go_roundg (n - (j + 1))
            case measure => omega
            case rel => exact ⟨j + 1, by omega, rfl, by simp, Z⟩
          · have lj' : ¬ (j : Int) < n := by omega
            obtain rfl : j = n := by omega
            have bel := B2.out.trans (Y.out.be.mono B2.out.size)
            obtain ⟨N1, N2⟩ := Y.out.nodes (fun F z c => by
              have e := HN.out.1
              rw [e, ← mm_len] at c
              exact lft_none F z c)
            have E1 := hidi N1
            have E2 := hidi N2
            have BE := hidi bel
            clear Y N1 N2 bel
            unfold ptr at E1 E2
            go_wp2_with (first
              | (go_at_call 17; refine E1.out.mono ?_; rintro e w' ⟨rfl, he⟩; obtain rfl := he.symm)
              | (go_at_call 18; refine E2.out.mono ?_; rintro e w' ⟨rfl, he⟩; obtain rfl := he.symm))
            go_ret
            exact ⟨rfl, BE.out⟩
end Go.Proofs.YtipagdhoeocjeaaGreat.Li
