import Derived.Test.YtepjcfhbbcaldaaGreatKzb
import Derived.Test.YtepjcfhbbcaldaaGreatKt
namespace Go.Proofs.YtepjcfhbbcaldaaGreat.Li
open Go Go.RowKit
set_option linter.unusedSimpArgs false
set_option linter.unusedVariables false
set_option maxRecDepth 100000 in
set_option maxHeartbeats 4000000 in
theorem put_filter {w : World} {tb : Nat} {f x : ByteArray} {q : Int} (hf : rfc f ≠ 0) :
    Calls Tryz.prog 7 #[ptr tb, .string f, .string x, .int .i64 q] w fun e w' => e = .returned (.tuple #[.int .i64 0, .int .i64 70]) ∧ Below w.heap.size w w' := by
  have FC := hidi (fun (w : World) => fcheck_any f w)
  obtain ⟨c, hc⟩ : ∃ c, c = rfc f := ⟨_, rfl⟩
  rw [← hc] at FC hf
  have hne : (c == 0) = false := by rw [beq_eq_false_iff_ne]; exact hf
  unfold ptr
  clear hc hf
  go_enter Tryz.func7, Tryz.ntmps7
  go_wp2_with (go_at_call 19; refine (FC.out _).mono ?_; rintro e w1 ⟨rfl, hb⟩; have B1 := hidi hb; clear hb FC)
  go_ret2
  exact ⟨rfl, B1.out⟩
set_option maxRecDepth 100000 in
set_option maxHeartbeats 4000000 in
theorem put_quality {w : World} {tb : Nat} {f x : ByteArray} {q : Int} (hf : rfc f = 0) (hq : q < 0 ∨ 2 < q) :
    Calls Tryz.prog 7 #[ptr tb, .string f, .string x, .int .i64 q] w fun e w' => e = .returned (.tuple #[.int .i64 0, .int .i64 71]) ∧ Below w.heap.size w w' := by
  have FC := hidi (fun (w : World) => (show Calls Tryz.prog 19 #[.string f] w fun e w' => e = .returned (.int .i64 0) ∧ Below w.heap.size w w' from by rw [← hf]; exact fcheck_any f w))
  unfold ptr
  clear hf
  by_cases a0 : q < 0
  · clear hq
    go_enter Tryz.func7, Tryz.ntmps7
    go_wp2_with (go_at_call 19; refine (FC.out _).mono ?_; rintro e w1 ⟨rfl, hb⟩; have B1 := hidi hb; clear hb FC)
    go_ret2
    exact ⟨rfl, B1.out⟩
  · have a2 : (2 : Int) < q := by omega
    have a2' : q > 2 := a2
    clear hq
    go_enter Tryz.func7, Tryz.ntmps7
    go_wp2_with (go_at_call 19; refine (FC.out _).mono ?_; rintro e w1 ⟨rfl, hb⟩; have B1 := hidi hb; clear hb FC)
    go_ret2
    exact ⟨rfl, B1.out⟩
set_option maxRecDepth 100000 in
theorem nodes_any {w : World} {tb m r P : Nat} {nf : Int} {T : List Fn} (h : TS w tb m r P nf T) : Calls Tryz.prog 12 #[ptr tb] w fun e w' => e = .returned (.int .i64 (T.length : Int)) ∧ w' = w := by
  have c := box_cells h.tm.tr 3 _ rfl
  unfold ptr
  clear h
  go_enter Tryz.func12, Tryz.ntmps12
  go_wp2_with fail
  go_ret
  exact ⟨rfl, rfl⟩
set_option maxRecDepth 100000 in
theorem len_any {w : World} {tb m r P : Nat} {nf : Int} {T : List Fn} (h : TS w tb m r P nf T) : Calls Tryz.prog 13 #[ptr tb] w fun e w' => e = .returned (.int .i64 nf) ∧ w' = w := by
  have c := box_cells h.tm.tr 2 _ rfl
  unfold ptr
  clear h
  go_enter Tryz.func13, Tryz.ntmps13
  go_wp2_with fail
  go_ret
  exact ⟨rfl, rfl⟩
def root0 (p : Nat) : Fn := ⟨⟨p, [], 0⟩, fun _ => none, 0, .slice none 0 0, .map none, .map none⟩
theorem ts_new {w' : World} {a b c : Nat} (h1 : w'.heap[b]? = some (.cells #[ptr a, .slice none 0 0, .map none, .map none] 71 (0, 0))) (h2 : w'.heap[c]? = some (.cells #[ptr b, ptr a, .int .i64 0, .int .i64 1] 56 (0, 0))) : TS w' c a b 0 0 [root0 b] := by
  refine ⟨⟨h2, ⟨⟨_, List.mem_singleton.2 rfl, rfl⟩, List.pairwise_singleton _ _, ?_, ?_, ?_⟩, ⟨_, List.mem_singleton.2 rfl, rfl, rfl⟩, ?_, List.pairwise_singleton _ _, ?_⟩, by omega, by omega, by simp, .inr rfl, ?_, ?_, [], List.nodup_nil, fun F => ⟨fun c => (by cases c), fun c => ?_⟩, rfl⟩
  · intro d hd
    obtain rfl := List.mem_singleton.1 hd
    exact ⟨Nat.le_refl _, by simp [root0]⟩
  · intro d hd hm
    obtain rfl := List.mem_singleton.1 hd
    exact absurd hm (Nat.lt_irrefl 0)
  · intro d hd e he hm
    obtain rfl := List.mem_singleton.1 hd
    exact absurd hm (Nat.lt_irrefl 0)
  · intro f hf
    obtain rfl := List.mem_singleton.1 hf
    refine ⟨h1, ⟨rfl, .inl ⟨rfl, rfl⟩⟩, .inl ⟨rfl, rfl, fun _ _ => rfl⟩, .inl rfl, ⟨0, fun _ => none, Nat.zero_le _, .inl ⟨rfl, rfl, fun _ _ => rfl⟩, fun x v hx => ?_⟩, fun k c => by cases c⟩
    constructor
    · intro c; cases c
    · rintro ⟨e, ⟨he, hk, _⟩, _⟩
      obtain rfl := List.mem_singleton.1 he
      exact absurd hk.1 (Nat.lt_irrefl 0)
  · intro f hf
    obtain rfl := List.mem_singleton.1 hf
    exact ⟨fun t ht => (by simp [root0] at ht), (by simp [root0])⟩
  · intro f hf
    obtain rfl := List.mem_singleton.1 hf
    exact Nat.le_refl _
  · intro f hf
    obtain rfl := List.mem_singleton.1 hf
    exact .inl rfl
  · obtain ⟨f, hf, _, c⟩ := c
    obtain rfl := List.mem_singleton.1 hf
    exact absurd c (Nat.lt_irrefl 0)
set_option maxRecDepth 100000 in
set_option maxHeartbeats 4000000 in
theorem new_any (w : World) : Calls Tryz.prog 14 #[] w fun e w' => ∃ tb m r T, e = .returned (ptr tb) ∧ TS w' tb m r 0 0 T ∧ (∀ F y z, ¬ HasE T F y z) ∧ (∀ j, isT tb T j → w.heap.size ≤ j) ∧ Below w.heap.size w w' := by
  go_enter Tryz.func14, Tryz.ntmps14
  go_wp2_with fail
  go_ret
  have ha : ∀ (w : World) (o : Obj), (w.alloc o).heap.size = w.heap.size + 1 := fun w o => Array.size_push _
  refine ⟨w.heap.size + 1 + 1, w.heap.size, w.heap.size + 1, [root0 (w.heap.size + 1)], rfl, ts_new ?_ ?_, ?_, ?_, ?_⟩
  · rw [heap_alloc_old _ _ (by rw [ha, ha]; omega)]
    have := heap_alloc_new (w.alloc (.cells #[.int .u8 0] 68)) (.cells #[ptr w.heap.size, .slice none 0 0, .map none, .map none] 71)
    rw [ha] at this
    exact this
  · have := heap_alloc_new ((w.alloc (.cells #[.int .u8 0] 68)).alloc (.cells #[ptr w.heap.size, .slice none 0 0, .map none, .map none] 71)) (.cells #[ptr (w.heap.size + 1), ptr w.heap.size, .int .i64 0, .int .i64 1] 56)
    rw [ha, ha] at this
    exact this
  · rintro F y z ⟨f, hf, _, e⟩
    obtain rfl := List.mem_singleton.1 hf
    cases e
  · rintro j (c | ⟨f, hf, c⟩)
    · omega
    · obtain rfl := List.mem_singleton.1 hf
      rcases c with c | c | c
      · have : j = w.heap.size + 1 := c
        omega
      · cases c
      · cases c
  · exact (((Below.refl _ _).alloc (Nat.le_refl _) _).alloc (by rw [ha]; omega) _).alloc (by rw [ha, ha]; omega) _
end Go.Proofs.YtepjcfhbbcaldaaGreat.Li
namespace Go.Proofs.YtepjcfhbbcaldaaGreat.Li
open Go Go.RowKit
set_option linter.unusedSimpArgs false
set_option linter.unusedVariables false
theorem TS.pos {w : World} {tb m r P : Nat} {nf : Int} {T : List Fn} (h : TS w tb m r P nf T) : 0 < T.length := by
  obtain ⟨f, hf, _⟩ := h.tm.rt
  exact List.length_pos_of_mem hf
set_option maxRecDepth 100000 in
set_option maxHeartbeats 4000000 in
theorem bound_any {w : World} {tb m r P : Nat} {nf : Int} {T : List Fn} (h : TS w tb m r P nf T) (hP : P < 100000) : Calls Tryz.prog 8 #[ptr tb] w fun e w' => e = .returned (.bool true) ∧ w' = w := by
  have NO := hidi (nodes_any h)
  have LE := hidi (len_any h)
  have t0 := h.pos
  have n0 := h.n0
  have nP := h.nP
  have cnt := h.cnt
  have one := h.one
  obtain ⟨t, ht⟩ : ∃ t : Int, t = T.length := ⟨_, rfl⟩
  rw [← ht] at NO cnt
  have g1 : t ≥ 1 := by omega
  have g1' : (1 : Int) ≤ t := g1
  have w1 : IntKind.i64.wrap (2 * nf) = 2 * nf := by rw [IntKind.wrap_i64]; omega
  have w2 : IntKind.i64.wrap (2 * nf + 1) = 2 * nf + 1 := by rw [IntKind.wrap_i64]; omega
  have d1 : decide (t ≥ 1) = true := decide_eq_true g1
  have d2 : decide (t ≤ 2 * nf + 1) = true := decide_eq_true cnt
  unfold ptr at *
  by_cases c : 0 < nf
  · have d3 : decide (nf > 0) = true := decide_eq_true c
    have c' : nf > 0 := c
    clear h t0 n0 nP one ht hP
    go_enter Tryz.func8, Tryz.ntmps8
    go_wp2_with (first
      | (go_at_call 12; refine NO.out.mono ?_; rintro e w' ⟨rfl, rfl⟩)
      | (go_at_call 13; refine LE.out.mono ?_; rintro e w' ⟨rfl, rfl⟩))
    go_ret
    exact ⟨rfl, rfl⟩
  · have c' : ¬ nf > 0 := c
    have d3 : decide (nf > 0) = false := decide_eq_false c
    have e1 : t = 1 := by omega
    have d4 : (t == 1) = true := by rw [e1]; rfl
    clear h t0 n0 nP one ht hP e1
    go_enter Tryz.func8, Tryz.ntmps8
    go_wp2_with (first
      | (go_at_call 12; refine NO.out.mono ?_; rintro e w' ⟨rfl, rfl⟩)
      | (go_at_call 13; refine LE.out.mono ?_; rintro e w' ⟨rfl, rfl⟩))
    go_ret
    exact ⟨rfl, rfl⟩
end Go.Proofs.YtepjcfhbbcaldaaGreat.Li
namespace Go.Proofs.YtepjcfhbbcaldaaGreat.Li
open Go Go.RowKit
set_option linter.unusedSimpArgs false
set_option linter.unusedVariables false
/-- A filter, a key, a quality. -/
structure Sb where
  f : ByteArray
  x : ByteArray
  q : Int
abbrev Held : Type := List ByteArray → ByteArray → Int → Prop
/-- What is held after a put. -/
def stepE (E : Held) (s : Sb) : Held := fun F y z => if rfc s.f = 0 ∧ 0 ≤ s.q ∧ s.q ≤ 2 then (F = levels s.f ∧ y = s.x ∧ z = s.q) ∨ (¬ (F = levels s.f ∧ y = s.x) ∧ E F y z) else E F y z
def hold (l : List Sb) : Held := l.foldl stepE (fun _ _ _ => False)
/-- What Put leaves, whatever it is given. -/
structure PutA (w w' : World) (tb m r P : Nat) (T : List Fn) (s : Sb) : Prop where
  ex : ∃ T' nf', TS w' tb m r (P + 1) nf' T' ∧ (∀ F y z, HasE T' F y z ↔ stepE (HasE T) s F y z) ∧ ∀ j, isT tb T' j → isT tb T j ∨ w.heap.size ≤ j
  ch : Ch (isT tb T) w w'
theorem put_any {w : World} {tb m r P : Nat} {nf : Int} {T : List Fn} {s : Sb} (h : TS w tb m r P nf T) (hP : P < 100000) (hx : s.x.size ≤ 1000000) :
    Calls Tryz.prog 7 #[ptr tb, .string s.f, .string s.x, .int .i64 s.q] w fun e w' => ∃ o c : Int, e = .returned (.tuple #[.int .i64 o, .int .i64 c]) ∧ PutA w w' tb m r P T s := by
  have more : ∀ {w' : World}, Below w.heap.size w w' → ¬ (rfc s.f = 0 ∧ 0 ≤ s.q ∧ s.q ≤ 2) → PutA w w' tb m r P T s := fun {w'} hb hn => by
    have h' := h.below hb
    refine ⟨⟨T, nf, ⟨h'.tm, h'.n0, by have := h'.nP; omega, h'.cnt, h'.one, fun f hf => by have := h'.few f hf; omega, h'.frm, h'.cn⟩, fun F y z => ?_, fun j c => .inl c⟩, Below.ch hb⟩
    unfold stepE
    rw [if_neg hn]
  by_cases hf : rfc s.f = 0
  · by_cases hq : 0 ≤ s.q ∧ s.q ≤ 2
    · refine (put_right h hf hP hx hq.1 hq.2).mono ?_
      rintro e w' ⟨o, rfl, pr⟩
      obtain ⟨T', nf', t1, t2, t3⟩ := pr.ex
      refine ⟨o, 0, rfl, ⟨⟨T', nf', t1, fun F y z => ?_, t3⟩, pr.ch⟩⟩
      unfold stepE
      rw [if_pos ⟨hf, hq⟩]
      exact t2 F y z
    · refine (put_quality hf (by omega)).mono ?_
      rintro e w' ⟨rfl, hb⟩
      exact ⟨0, 71, rfl, more hb (fun c => hq c.2)⟩
  · refine (put_filter hf).mono ?_
    rintro e w' ⟨rfl, hb⟩
    exact ⟨0, 70, rfl, more hb (fun c => hf c.1)⟩
/-- A list of them, as it lies in memory. -/
structure SbAt (w : World) (v : Value) (l : List Sb) : Prop where
  ex : ∃ a n cap, v = .slice a n cap ∧ n = l.length ∧ n ≤ cap ∧ (l ≠ [] → ∃ g o, a = some ⟨g, o, none⟩ ∧ g < w.heap.size ∧ ∀ k s, l[k]? = some s → w.cell? ⟨g, o + k * 3, none⟩ = some (.string s.f) ∧ w.cell? ⟨g, o + k * 3 + 1, none⟩ = some (.string s.x) ∧ w.cell? ⟨g, o + k * 3 + 2, none⟩ = some (.int .i64 s.q))
/-- A trie that was laid. -/
structure LdR (w w' : World) (tb m r : Nat) (P : Nat) (E : Held) : Prop where
  ex : ∃ T nf, TS w' tb m r P nf T ∧ (∀ F y z, HasE T F y z ↔ E F y z) ∧ ∀ j, isT tb T j → w.heap.size ≤ j
  be : Below w.heap.size w w'
theorem LdR.put {w w1 w2 : World} {tb m r P : Nat} {E : Held} {s : Sb} (h : LdR w w1 tb m r P E) (w1' : World) (hb : Below w1.heap.size w1 w1') (hP : P < 100000) (hx : s.x.size ≤ 1000000) :
    Calls Tryz.prog 7 #[ptr tb, .string s.f, .string s.x, .int .i64 s.q] w1' fun e w' => ∃ o c : Int, e = .returned (.tuple #[.int .i64 o, .int .i64 c]) ∧ LdR w w' tb m r (P + 1) (stepE E s) := by
  obtain ⟨⟨T, nf, t1, t2, t3⟩, be⟩ := h
  refine (put_any (t1.below hb) hP hx).mono ?_
  rintro e w' ⟨o, c, rfl, ⟨T', nf', u1, u2, u3⟩, ch⟩
  have b1 := be.trans (hb.mono be.size)
  refine ⟨o, c, rfl, ⟨T', nf', u1, fun F y z => (u2 F y z).trans ?_, fun j c => ?_⟩, ?_⟩
  · unfold stepE
    rw [t2 F y z]
  · rcases u3 j c with c | c
    · exact t3 j c
    · have := b1.size
      omega
  · exact ⟨ch.os.trans b1.os, ch.tape.trans b1.tape, ch.output.trans b1.output, Nat.le_trans b1.size ch.size, fun k hk => (ch.block k (Nat.lt_of_lt_of_le hk b1.size) (fun c => by have := t3 k c; omega)).trans (b1.block k hk)⟩
theorem LdR.bound {w w1 : World} {tb m r P : Nat} {E : Held} (h : LdR w w1 tb m r P E) (hP : P < 100000) : Calls Tryz.prog 8 #[ptr tb] w1 fun e w' => e = .returned (.bool true) ∧ w' = w1 := by
  obtain ⟨⟨T, nf, t1, t2, t3⟩, be⟩ := h
  exact bound_any t1 hP
end Go.Proofs.YtepjcfhbbcaldaaGreat.Li
namespace Go.Proofs.YtepjcfhbbcaldaaGreat.Li
open Go Go.RowKit
set_option linter.unusedSimpArgs false
set_option linter.unusedVariables false
theorem hold_next {l : List Sb} {k : Nat} {s : Sb} (h : l[k]? = some s) : hold (l.take (k + 1)) = stepE (hold (l.take k)) s := by
  unfold hold
  rw [List.take_add_one, h, List.foldl_append]
  rfl
set_option maxRecDepth 100000 in
set_option maxHeartbeats 4000000 in
/-- LAID: all that a list asks for is put. -/
theorem laid_any {w : World} {v : Value} {l : List Sb} (h : SbAt w v l) (hl : l.length ≤ 1000) (hx : ∀ s ∈ l, s.x.size ≤ 1000000) :
    Calls Tryz.prog 6 #[v] w fun e w' => ∃ tb m r, e = .returned (.tuple #[ptr tb, .bool true]) ∧ LdR w w' tb m r l.length (hold l) := by
  obtain ⟨a, n, cap, rfl, hn, hc, hrow⟩ := h.ex
  have HN := hidi (show n = l.length ∧ n ≤ cap ∧ l.length ≤ 1000 from ⟨hn, hc, hl⟩)
  have HR := hidi hrow
  have HX := hidi hx
  have NW := hidi (fun w => new_any w)
  unfold ptr at *
  clear h hn hc hl hrow hx
  go_enter Tryz.func6, Tryz.ntmps6
  go_upto_region 5 with (go_at_call 14; refine (NW.out _).mono ?_; rintro e w0 ⟨tb, m, r, T0, rfl, t1, t2, t3, t4⟩; have L0 : Hid (LdR w w0 tb m r 0 (hold (l.take 0))) := ⟨⟨T0, 0, t1, fun F y z => ⟨fun c => (t2 F y z c).elim, fun c => c.elim⟩, t3⟩, t4⟩; clear t1 t2 t3 t4 NW)
  go_wp2_with fail
  go_loopg [5, 6] n (fun gg s5 s6 wx => ∃ k : Nat, k ≤ n ∧ gg = n - k ∧ s5 = .bool true ∧ s6 = .int .i64 k ∧ Hid (LdR w wx tb m r k (hold (l.take k))))
  case atStart => exact ⟨0, Nat.zero_le _, rfl, rfl, rfl, L0⟩
  case round =>
    obtain ⟨k, hk, rfl, rfl, rfl, LK⟩ := hrel
    by_cases hlt : k < n
    · have hlt' : (k : Int) < n := by omega
      obtain ⟨s, hs⟩ : ∃ s, l[k]? = some s := ⟨_, List.getElem?_eq_getElem (by have := HN.out.1; omega)⟩
      obtain ⟨g, o, rfl, hg, hcells⟩ := HR.out (fun e => by subst e; simp at hs)
      obtain ⟨y1, y2, y3⟩ := hcells k s hs
      have x1 : wr.cell? ⟨g, o + k * 3, none⟩ = some (.string s.f) := by rw [LK.out.be.cell (by exact hg)]; exact y1
      have x2 : wr.cell? ⟨g, o + k * 3 + 1, none⟩ = some (.string s.x) := by rw [LK.out.be.cell (by exact hg)]; exact y2
      have x3 : wr.cell? ⟨g, o + k * 3 + 2, none⟩ = some (.int .i64 s.q) := by rw [LK.out.be.cell (by exact hg)]; exact y3
      have hw : IntKind.i64.wrap ((k : Int) + 1) = (k : Int) + 1 := by rw [IntKind.wrap_i64]; have := HN.out; omega
      have hcap := HN.out.2.1
      have PU := hidi (fun (w1 : World) (hb : Below wr.heap.size wr w1) => LK.out.put (w2 := wr) (s := s) w1 hb (by have := HN.out; omega) (HX.out s (List.mem_of_getElem? hs)))
      have HS := hidi (hold_next hs)
      unfold ptr at PU
      clear y1 y2 y3 hcells hs hg
      go_upto_region 8 with fail
      go_region_with (go_at_call 7; refine (PU.out _ ((Below.refl wr.heap.size wr).drew)).mono ?_; rintro e w2 ⟨oo, cc, rfl, ld⟩; have LD := hidi ld; have BD := hidi (ld.bound (by have := HN.out; omega)); clear ld)
      all_goals unfold ptr at BD
      all_goals go_wp2_with (go_at_call 8; refine BD.out.mono ?_; rintro e w' ⟨rfl, rfl⟩)
      all_goals go_roundg (n - (k + 1))
      all_goals first
        | omega
        | exact ⟨k + 1, by omega, rfl, rfl, rfl, by show LdR _ _ _ _ _ _ _; rw [HS.out]; exact LD.out⟩
    · have hlt' : ¬ (k : Int) < n := by omega
      obtain rfl : k = n := by omega
      go_wp2_with fail
      go_ret2
      refine ⟨tb, rfl, m, r, ?_⟩
      have := LK.out
      have e := HN.out.1
      rw [e, List.take_length] at this
      exact this
end Go.Proofs.YtepjcfhbbcaldaaGreat.Li
namespace Go.Proofs.YtepjcfhbbcaldaaGreat.Li
open Go Go.RowKit
set_option linter.unusedSimpArgs false
set_option linter.unusedVariables false
/-- All nodes but one. -/
def rem (B : List ByteArray) (T : List Nd) : List Nd := T.filter (fun g => decide (g.A ≠ B))
theorem mem_rem {B : List ByteArray} {T : List Nd} {g : Nd} : g ∈ rem B T ↔ g ∈ T ∧ g.A ≠ B := by unfold rem; rw [List.mem_filter, decide_eq_true_eq]
variable {T : List Nd} {d e k : Nd}
/-- A node without kids goes. -/
theorem Inv.unleaf (h : Inv T) (he : e ∈ T) (h0 : 0 < e.m) (no : ∀ g ∈ T, ¬ Kid e g) : Inv (rem e.A T) := by
  refine ⟨?_, h.dis.sublist List.filter_sublist, fun g hg => h.le g (mem_rem.1 hg).1, fun g hg hm => ?_, fun a ha b hb => h.one a (mem_rem.1 ha).1 b (mem_rem.1 hb).1⟩
  · obtain ⟨r, hr, e0⟩ := h.root
    refine ⟨r, mem_rem.2 ⟨hr, fun c => ?_⟩, e0⟩
    have := (h.le e he).2.1 (by rw [← c, e0])
    omega
  · obtain ⟨a, ha, ka⟩ := h.par g (mem_rem.1 hg).1 hm
    refine ⟨a, mem_rem.2 ⟨ha, fun c => ?_⟩, ka⟩
    obtain rfl := h.same ha he c
    exact no g (mem_rem.1 hg).1 ka
theorem unleaf_atk (a : Nd) (y : ByteArray) (g : Nd) : AtK (rem e.A T) a y g ↔ AtK T a y g ∧ g.A ≠ e.A := by
  unfold AtK
  rw [mem_rem]
  exact ⟨fun ⟨⟨a, b⟩, c⟩ => ⟨⟨a, c⟩, b⟩, fun ⟨⟨a, c⟩, b⟩ => ⟨⟨a, b⟩, c⟩⟩
/-- An edge made longer. -/
def upm (B : List ByteArray) (j : Nat) (g : Nd) : Nd := if g.A = B then { g with m := g.m + j } else g
theorem upm_A (B : List ByteArray) (j : Nat) (g : Nd) : (upm B j g).A = g.A := by unfold upm; split <;> rfl
theorem upm_p (B : List ByteArray) (j : Nat) (g : Nd) : (upm B j g).p = g.p := by unfold upm; split <;> rfl
theorem upm_ne {B : List ByteArray} {j : Nat} {g : Nd} (h : g.A ≠ B) : upm B j g = g := if_neg h
theorem upm_at (j : Nat) (g : Nd) : upm g.A j g = { g with m := g.m + j } := if_pos rfl
/-- The node below, in the place of the one that goes. -/
def joi (e k : Nd) : Nd := { k with m := k.m + e.m }
theorem joi_top (hk : Kid e k) (lk : k.m ≤ k.A.length) : (joi e k).top = e.top := by
  have h1 := len_take k lk
  have h2 := hk.2.1
  unfold joi Nd.top at *
  simp only
  omega
theorem joi_take (hk : Kid e k) {n : Nat} (hn : n ≤ e.A.length) : k.A.take n = e.A.take n := by
  rw [← hk.2.2, List.take_take, Nat.min_eq_left]
  rw [hk.2.1]
  exact hn
theorem Inv.unpart (h : Inv T) (he : e ∈ T) (h0 : 0 < e.m) (hk : k ∈ T) (kk : Kid e k) (only : ∀ g ∈ T, Kid e g → g = k) : Inv ((rem e.A T).map (upm k.A e.m)) := by
  have lk := h.le k hk
  have le := h.le e he
  have hlt := kk.lt lk.1
  have ktop := kk.2.1
  have jtop := joi_top kk lk.1
  have kne : k.A ≠ e.A := fun c => by rw [c] at hlt; omega
  have mem : ∀ g ∈ (rem e.A T).map (upm k.A e.m), (g = joi e k) ∨ (g ∈ T ∧ g.A ≠ e.A ∧ g.A ≠ k.A) := fun g hg => by
    obtain ⟨a, ha, rfl⟩ := List.mem_map.1 hg
    obtain ⟨ha, hne⟩ := mem_rem.1 ha
    by_cases c : a.A = k.A
    · obtain rfl := h.same ha hk c
      exact .inl (upm_at _ _)
    · rw [upm_ne c]
      exact .inr ⟨ha, hne, c⟩
  have to : ∀ a ∈ T, a.A ≠ e.A → ∃ a' ∈ (rem e.A T).map (upm k.A e.m), a'.A = a.A := fun a ha hne => ⟨_, List.mem_map_of_mem (mem_rem.2 ⟨ha, hne⟩), upm_A _ _ _⟩
  have tk : k.A.take (e.top + 1) = e.A.take (e.top + 1) := joi_take kk (by have := len_take e le.1; omega)
  refine ⟨?_, ?_, fun g hg => ?_, fun g hg hm => ?_, fun a ha b hb am bm at_ ab => ?_⟩
  · obtain ⟨r, hr, e0⟩ := h.root
    obtain ⟨a, ha, ea⟩ := to r hr (fun c => by
      have := le.2.1 (by rw [← c, e0])
      omega)
    exact ⟨a, ha, ea.trans e0⟩
  · refine List.pairwise_map.2 ((h.dis.sublist List.filter_sublist).imp (fun {a b} q c => q ?_))
    rw [upm_A, upm_A] at c
    exact c
  · rcases mem g hg with rfl | ⟨hg, _⟩
    · have h1 := len_take k lk.1
      refine ⟨?_, ?_⟩
      · show k.m + e.m ≤ k.A.length
        have := le.1
        omega
      · show k.A = [] ↔ k.m + e.m = 0
        constructor
        · intro c
          rw [c] at hlt
          simp at hlt
        · intro c
          omega
    · exact h.le g hg
  · have fin : ∀ a ∈ T, a.A ≠ e.A → Kid a g → ∃ a' ∈ (rem e.A T).map (upm k.A e.m), Kid a' g := fun a ha hne ka => by
      obtain ⟨a', ha', ea⟩ := to a ha hne
      exact ⟨a', ha', ka.1, by rw [ea]; exact ka.2.1, by rw [ea]; exact ka.2.2⟩
    rcases mem g hg with rfl | ⟨hgT, gne, gkn⟩
    · obtain ⟨a, ha, ka⟩ := h.par e he h0
      have al := ka.lt le.1
      refine fin a ha (fun c => by rw [c] at al; omega) ⟨hm, ?_, ?_⟩
      · rw [jtop]; exact ka.2.1
      · rw [jtop]
        show k.A.take e.top = a.A
        rw [joi_take kk (by unfold Nd.top; omega)]
        exact ka.2.2
    · obtain ⟨a, ha, ka⟩ := h.par g hgT hm
      refine fin a ha (fun c => ?_) ka
      obtain rfl := h.same ha he c
      have := only g hgT ka
      exact gkn (by rw [this])
  · rcases mem a ha with rfl | ⟨ha, ane, akn⟩
    · rcases mem b hb with rfl | ⟨hb, bne, bkn⟩
      · rfl
      · rw [jtop] at at_ ab
        have ab : k.A.take (e.top + 1) = b.A.take (b.top + 1) := ab
        rw [tk] at ab
        have := h.one e he b hb h0 bm at_ ab
        exact absurd (by rw [this]) bne
    · rcases mem b hb with rfl | ⟨hb, bne, bkn⟩
      · rw [jtop] at at_ ab
        have ab : a.A.take (a.top + 1) = k.A.take (e.top + 1) := ab
        rw [tk] at ab
        have := h.one a ha e he am h0 at_ ab
        exact absurd (by rw [this]) ane
      · exact h.one a ha b hb am bm at_ ab
theorem Inv.unpart_atk (h : Inv T) (he : e ∈ T) (h0 : 0 < e.m) (hk : k ∈ T) (kk : Kid e k) {a : Nd} (ha : a.A ≠ e.A) (y : ByteArray) (g : Nd) :
    AtK ((rem e.A T).map (upm k.A e.m)) a y g ↔ (g = joi e k ∧ AtK T a y e) ∨ (AtK T a y g ∧ g.A ≠ e.A ∧ g.A ≠ k.A) := by
  have lk := h.le k hk
  have le := h.le e he
  have hlt := kk.lt lk.1
  have jtop := joi_top kk lk.1
  have kne : k.A ≠ e.A := fun c => by rw [c] at hlt; omega
  have h1 := len_take e le.1
  have tt : k.A[e.top]? = e.A[e.top]? := by
    have := joi_take kk (n := e.top + 1) (by omega)
    have h2 := congrArg (fun l => l[e.top]?) this
    simpa [List.getElem?_take] using h2
  have tk : k.A.take e.top = e.A.take e.top := joi_take kk (by omega)
  constructor
  · rintro ⟨hg, kg, hy⟩
    obtain ⟨b, hb, rfl⟩ := List.mem_map.1 hg
    obtain ⟨hb, bne⟩ := mem_rem.1 hb
    by_cases c : b.A = k.A
    · obtain rfl := h.same hb hk c
      rw [upm_at] at kg hy ⊢
      refine .inl ⟨rfl, he, ⟨h0, ?_, ?_⟩, ?_⟩
      · rw [← jtop]; exact kg.2.1
      · rw [← tk, ← jtop]; exact kg.2.2
      · rw [← tt, ← jtop]; exact hy
    · rw [upm_ne c] at kg hy ⊢
      exact .inr ⟨⟨hb, kg, hy⟩, bne, c⟩
  · rintro (⟨rfl, _, ke, hy⟩ | ⟨⟨hg, kg, hy⟩, gne, gkn⟩)
    · refine ⟨List.mem_map.2 ⟨k, mem_rem.2 ⟨hk, kne⟩, upm_at _ _⟩, ⟨by show 0 < k.m + e.m; omega, ?_, ?_⟩, ?_⟩
      · rw [jtop]; exact ke.2.1
      · rw [jtop]; show k.A.take e.top = a.A; rw [tk]; exact ke.2.2
      · rw [jtop]; show k.A[e.top]? = some y; rw [tt]; exact hy
    · exact ⟨List.mem_map.2 ⟨g, mem_rem.2 ⟨hg, gne⟩, upm_ne gkn⟩, kg, hy⟩
end Go.Proofs.YtepjcfhbbcaldaaGreat.Li
