import Derived.Test.YtepjcfhbbcaldaaKji
import Derived.Test.YtepjcfhbbcaldaaKh
import Derived.Test.YtepjcfhbbcaldaaKy
import Derived.Test.YtepjcfhbbcaldaaKzb
import Derived.Test.YtepjcfhbbcaldaaMcl
namespace Go.Proofs.Ytepjcfhbbcaldaa.Li
open Go Go.RowKit
set_option linter.unusedSimpArgs false
set_option linter.unusedVariables false
variable {w w1 : World} {tb m r P : Nat} {nf nf1 nn : Int} {T T1 : List Fn} {d e f k : Fn} {F : List ByteArray} {x y0 y1 : ByteArray}
theorem filt_len {a : List ByteArray} : ∀ {l : List (List ByteArray)}, l.Nodup → a ∈ l → (l.filter (fun F => decide (F ≠ a))).length + 1 = l.length
  | [], _, h => by cases h
  | b :: l, hn, h => by
    rw [List.nodup_cons] at hn
    by_cases c : b = a
    · have fs : l.filter (fun F => decide (F ≠ a)) = l := List.filter_eq_self.2 (fun g hg => decide_eq_true (show g ≠ a from fun q => hn.1 (by rw [c, ← q]; exact hg)))
      rw [List.filter_cons, if_neg (by simp [c]), fs]
      rfl
    · rw [List.filter_cons, if_pos (by simp [c])]
      have := filt_len hn.2 ((List.mem_cons.1 h).elim (fun q => absurd q.symm c) id)
      simp only [List.length_cons]
      omega
/-- A trie's numbers and form. -/
structure Bs (P : Nat) (nf : Int) (T : List Fn) : Prop where
  frm : FormX T []
  cn : CN T nf
  few : ∀ f ∈ T, f.ne ≤ P
  ok : ∀ F' y z, HasE T F' y z → okT y
  len : T.length < 900000
theorem CN.nf0 (h : CN T nf) : 0 ≤ nf ∧ (f ∈ T → 0 < f.ne → 1 ≤ nf) := by
  obtain ⟨Fs, a, b, c⟩ := h
  refine ⟨by omega, fun hf h0 => ?_⟩
  have := List.length_pos_of_mem ((b f.s.A).2 ⟨f, hf, rfl, h0⟩)
  omega
theorem QS.ukv (q : QS tb P nf T T1 F x f.s.A) (hf : f ∈ T1) (same : ∀ a ∈ T1, ∀ b ∈ T1, a.s.A = b.s.A → a = b) {kv : Value} (hkv : kv = f.kv ∨ kv = .map none) : QS tb P nf T (T1.map (ukv f.s.A kv)) F x f.s.A := by
  have u : ∀ g : Fn, (Li.ukv f.s.A kv g).en = g.en ∧ (Li.ukv f.s.A kv g).ne = g.ne := fun g => by unfold Li.ukv; split <;> exact ⟨rfl, rfl⟩
  refine ⟨fun F' y z => ?_, fun j c => ?_, formx_map q.frm (fun g => ukv_s _ _ _) (fun g _ => .inr (u g).2), q.cn.congr (fun F' => ?_), fun g0 hg0 => ?_, by rw [List.length_map]; exact q.le, q.ok⟩
  · rw [← q.has]
    constructor
    · rintro ⟨g0, hg0, e1, e2⟩
      obtain ⟨g, hg, rfl⟩ := List.mem_map.1 hg0
      exact ⟨g, hg, by rw [← e1, ukv_s], by rw [← (u g).1]; exact e2⟩
    · rintro ⟨g, hg, e1, e2⟩
      exact ⟨_, List.mem_map_of_mem hg, by rw [ukv_s]; exact e1, by rw [(u g).1]; exact e2⟩
  · refine q.is j ?_
    rcases c with c | ⟨g0, hg0, c⟩
    · exact .inl c
    · obtain ⟨g, hg, rfl⟩ := List.mem_map.1 hg0
      rcases ukv_has c with c | ⟨ea, c⟩
      · exact .inr ⟨g, hg, c⟩
      · rcases hkv with z | z
        · exact .inr ⟨f, hf, .inr (.inr (by rw [← z]; exact c))⟩
        · rw [z] at c; cases c
  · constructor
    · rintro ⟨g, hg, e1, e2⟩
      exact ⟨_, List.mem_map_of_mem hg, by rw [ukv_s]; exact e1, by rw [(u g).2]; exact e2⟩
    · rintro ⟨g0, hg0, e1, e2⟩
      obtain ⟨g, hg, rfl⟩ := List.mem_map.1 hg0
      exact ⟨g, hg, by rw [← e1, ukv_s], by rw [← (u g).2]; exact e2⟩
  · obtain ⟨g, hg, rfl⟩ := List.mem_map.1 hg0
    rw [(u g).2]
    exact q.few g hg
theorem qs_frg (h : TM w tb m r nf nn T) (b : Bs P nf T) (hf : f ∈ T) (h0 : 0 < f.ne) {ev : Value} (hev : ev = f.ev ∨ ev = .map none) : QS tb P (if f.ne = 1 then nf - 1 else nf) T (T.map (frg f.s.A x ev)) f.s.A x f.s.A := by
  have ne' : ∀ g ∈ T, g.s.A ≠ f.s.A → (frg f.s.A x ev g) = g := fun g _ c => frg_ne c
  refine ⟨fun F' y z => frg_hasE h hf F' y z, fun j c => ?_, fun g0 hg0 => ?_, ?_, fun g0 hg0 => ?_, by rw [List.length_map]; exact Nat.le_refl _, b.ok⟩
  · rcases c with c | ⟨g0, hg0, c⟩
    · exact .inl c
    · obtain ⟨g, hg, rfl⟩ := List.mem_map.1 hg0
      rcases frg_has c with c | ⟨ea, c⟩
      · exact .inr ⟨g, hg, c⟩
      · rcases hev with z | z
        · exact .inr ⟨f, hf, .inr (.inl (by rw [← z]; exact c))⟩
        · rw [z] at c; cases c
  · obtain ⟨g, hg, rfl⟩ := List.mem_map.1 hg0
    have FK : Fork T g.s.A → Fork (T.map (frg f.s.A x ev)) g.s.A := fun c => c.mono (fun c hc => ⟨_, List.mem_map_of_mem hc, by rw [frg_s]⟩)
    by_cases c : g.s.A = f.s.A
    · exact .inr (.inr (.inr (by rw [frg_s]; exact c)))
    · rw [frg_ne c]
      rcases b.frm g hg with q | q | q | q
      · exact .inl q
      · exact .inr (.inl q)
      · exact .inr (.inr (.inl (FK q)))
      · exact .inl q
  · obtain ⟨Fs, a1, a2, a3⟩ := b.cn
    have fin : f.s.A ∈ Fs := (a2 _).2 ⟨f, hf, rfl, h0⟩
    have oth : ∀ F', F' ≠ f.s.A → ((∃ g ∈ T.map (frg f.s.A x ev), g.s.A = F' ∧ 0 < g.ne) ↔ F' ∈ Fs) := fun F' c => by
      rw [a2]
      constructor
      · rintro ⟨g0, hg0, e1, e2⟩
        obtain ⟨g, hg, rfl⟩ := List.mem_map.1 hg0
        rw [frg_s] at e1
        rw [frg_ne (by rw [e1]; exact c)] at e2
        exact ⟨g, hg, e1, e2⟩
      · rintro ⟨g, hg, e1, e2⟩
        exact ⟨_, List.mem_map_of_mem hg, by rw [frg_s]; exact e1, by rw [frg_ne (by rw [e1]; exact c)]; exact e2⟩
    have own : (∃ g ∈ T.map (frg f.s.A x ev), g.s.A = f.s.A ∧ 0 < g.ne) ↔ ¬ f.ne = 1 := by
      constructor
      · rintro ⟨g0, hg0, e1, e2⟩
        obtain ⟨g, hg, rfl⟩ := List.mem_map.1 hg0
        rw [frg_s] at e1
        obtain rfl := h.same hg hf e1
        rw [frg_at] at e2
        have e2' : 0 < g.ne - 1 := e2
        omega
      · intro c
        refine ⟨_, List.mem_map_of_mem hf, by rw [frg_s], ?_⟩
        rw [frg_at]
        show 0 < f.ne - 1
        omega
    by_cases c1 : f.ne = 1
    · rw [if_pos c1]
      refine ⟨Fs.filter (fun F => decide (F ≠ f.s.A)), List.Pairwise.sublist List.filter_sublist a1, fun F' => ?_, ?_⟩
      · rw [List.mem_filter, decide_eq_true_eq]
        by_cases c : F' = f.s.A
        · rw [c, own]
          exact ⟨fun q => absurd rfl q.2, fun q => absurd c1 q⟩
        · rw [oth F' c]
          exact ⟨fun q => q.1, fun q => ⟨q, c⟩⟩
      · have := filt_len a1 fin
        rw [a3]
        omega
    · rw [if_neg c1]
      refine ⟨Fs, a1, fun F' => ?_, a3⟩
      by_cases c : F' = f.s.A
      · rw [c, own]
        exact ⟨fun _ => c1, fun _ => fin⟩
      · rw [oth F' c]
  · obtain ⟨g, hg, rfl⟩ := List.mem_map.1 hg0
    by_cases c : g.s.A = f.s.A
    · obtain rfl := h.same hg hf c
      rw [frg_at]
      show g.ne - 1 ≤ P
      have := b.few g hg
      omega
    · rw [frg_ne c]
      exact b.few g hg
/-- The node above is told of what was left below it. -/
structure Up (w2 : World) (tb m r P : Nat) (T : List Fn) (f : Fn) (F : List ByteArray) (x : ByteArray) (T2 : List Fn) (nf2 : Int) (f2 : Fn) : Prop where
  tm : TM w2 tb m r nf2 (T2.length : Int) T2
  q : QS tb P nf2 T T2 F x f.s.A
  mem : f2 ∈ T2
  s : f2.s = f.s
  keepU : ∀ a ∈ T, a.s.A.length < f.s.A.length → a ∈ T2
  atk : ∀ a : Nd, a.A.length < f.s.A.length → ∀ y g, AtK (T2.map Fn.s) a y g ↔ AtK (T.map Fn.s) a y g
theorem replace_up (h : TM w tb m r nf (T.length : Int) T) (b : Bs P nf T) (hf : f ∈ T) (hk : k ∈ T) (ka : AtK (T.map Fn.s) f.s y1 k.s) {res : Value} (wo : WoE w1 tb m r P T k.s.A k.s.p f y1 F x res) (hc : Ch (isT tb T) w w1) :
    Calls Try.prog 52 #[ptr f.s.p, ptr k.s.p, res] w1 fun e w2 => e = .returned (.tuple #[]) ∧ (∃ T2 nf2 f2, Up w2 tb m r P T f F x T2 nf2 f2) ∧ Ch (isT tb T) w w2 := by
  obtain ⟨⟨T1, nf1, pm, q, kU, at1, at2, rs⟩, o2, lq, e2, k2, n, rr, hblk, hrow⟩ := wo
  have klt := ka.2.1.lt (h.inv.le k.s ka.1).1
  have f1 : f ∈ T1 := kU f hf klt
  obtain ⟨N, ff⟩ := pm.nd0 f f1 rfl
  obtain ⟨nk, kd, b1, b2, b3⟩ := ff.kv
  have nkl := kids_le b2 b3
  rw [List.length_map] at nkl
  have bl := b.len
  have oy : okT y1 := by have := (h.ok k hk).1 y1 (List.mem_of_getElem? ka.2.2); unfold okT maxLen; omega
  have hs : (kd y1).isSome = true := by rw [(b3 y1 _ oy).2 ⟨_, ka, rfl⟩]; rfl
  have fin : ∀ (w2 : World), Rp w1 w2 tb m r nf1 (T1.length : Int) T1 f → (∃ T2 nf2 f2, Up w2 tb m r P T f F x T2 nf2 f2) ∧ Ch (isT tb T) w w2 := fun w2 ⟨⟨kv, tm, hkv⟩, c2⟩ => by
    refine ⟨⟨T1.map (ukv f.s.A kv), nf1, f.kvd kv, ⟨by rw [List.length_map]; exact tm, q.ukv f1 pm.same hkv, List.mem_map.2 ⟨f, f1, ukv_at rfl⟩, rfl, fun a ha hl => List.mem_map.2 ⟨a, kU a ha (by omega), ukv_ne (fun c => by rw [c] at hl; omega)⟩, fun a hl y g => by rw [ukv_map]; exact at1 a hl y g⟩⟩, hc.trans c2 (fun j _ c => q.is j (.inr ⟨f, f1, hgC_has c⟩))⟩
  have other : ∀ y, y ≠ y1 → ∀ v, okT y → (kd y = some v ↔ ∃ g, AtK (T1.map Fn.s) f.s y g ∧ v = ptr g.p) := fun y hy v oy => by
    rw [b3 y v oy]
    exact ⟨fun ⟨g, c1, c2⟩ => ⟨g, (at2 y g hy).2 c1, c2⟩, fun ⟨g, c1, c2⟩ => ⟨g, (at2 y g hy).1 c1, c2⟩⟩
  rcases rs with ⟨rfl, no⟩ | ⟨g, hg, rfl, ga⟩
  · refine (replace_nil pm f1 hblk hrow oy b2 hs (by omega) (fun y v oy' => ?_)).mono ?_
    · unfold setG
      by_cases c : y = y1
      · rw [if_pos c, c]
        exact ⟨fun z => (by cases z), fun ⟨g, c1, _⟩ => absurd c1 (no g)⟩
      · rw [if_neg c]
        exact other y c v oy'
    · rintro e w2 ⟨rfl, rp⟩
      exact ⟨rfl, fin w2 rp⟩
  · have glt := ga.2.1.lt (pm.inv.le g.s ga.1).1
    refine (replace_some (q := g) pm f1 hg (fun c => by rw [c] at glt; omega) oy (edge_cons ga.2.2) b2 hs (by omega) (fun y v oy' => ?_) _).mono ?_
    · unfold setG
      by_cases c : y = y1
      · rw [if_pos c, c]
        constructor
        · intro z
          injection z with z
          exact ⟨g.s, ga, z.symm⟩
        · rintro ⟨g', c1, c2⟩
          rw [c2, pm.inv.atk c1 ga]
      · rw [if_neg c]
        exact other y c v oy'
    · rintro e w2 ⟨rfl, rp⟩
      exact ⟨rfl, fin w2 rp⟩
theorem Up.tidy {w2 : World} {T2 : List Fn} {nf2 : Int} {f2 : Fn} (u : Up w2 tb m r P T f F x T2 nf2 f2) (b : Bs P nf T) (hd : d ∈ T) (ha : AtK (T.map Fn.s) d.s y0 f.s) (fm : f.s.m ≤ f.s.A.length) (hc : Ch (isT tb T) w w2) :
    Calls Try.prog 51 #[ptr tb, ptr f.s.p] w2 fun e w' => ∃ res, e = .returned res ∧ WoE w' tb m r P T f.s.A f.s.p d y0 F x res ∧ Ch (isT tb T) w w' := by
  have dlt := ha.2.1.lt fm
  have bl := b.len
  have ql := u.q.le
  have := tidy_wo (e := f2) (d := d) (y0 := y0) (F := F) (x := x) (T := T) (P := P) u.tm u.mem (u.keepU d hd dlt) (by rw [u.s]; exact u.q) (by rw [u.s]; exact u.keepU) (by rw [u.s]; exact u.atk) (by rw [u.s]; exact (u.atk d.s dlt y0 f.s).2 ha) (by omega)
  rw [u.s] at this
  refine this.mono ?_
  rintro e w' ⟨res, rfl, wo, c⟩
  exact ⟨res, rfl, wo, hc.trans c (fun j _ z => u.q.is j z)⟩
end Go.Proofs.Ytepjcfhbbcaldaa.Li
namespace Go.Proofs.Ytepjcfhbbcaldaa.Li
open Go Go.RowKit
set_option linter.unusedSimpArgs false
set_option linter.unusedVariables false
variable {w : World} {tb m r P : Nat} {nf : Int} {T : List Fn} {d f g k : Fn} {L : List ByteArray} {x y0 : ByteArray} {v : Value} {q : Int}
theorem Rw.head' {w : World} {g o n c : Nat} {y : ByteArray} {ys : List ByteArray} (h : Rw w (.slice (some ⟨g, o, none⟩) n c) (y :: ys)) : w.cell? ⟨g, o, none⟩ = some (.string y) := by
  obtain ⟨g', o', n', c', e, _, _, _, hc, _⟩ := h.row.cons
  injection e with e1 e2 e3
  injection e1 with e1
  injection e1 with e1 e4 e5
  subst e1 e4
  exact hc
theorem CN.le (h : CN T nf) : nf ≤ T.length := by
  obtain ⟨Fs, a, b, c⟩ := h
  have := nodup_le Fs (T.map (fun f => f.s.A)) a (fun F hF => by
    obtain ⟨f, hf, e, _⟩ := (b F).1 hF
    exact List.mem_map.2 ⟨f, hf, e⟩)
  rw [List.length_map] at this
  omega
theorem ne_pos (h : TM w tb m r nf (T.length : Int) T) (b : Bs P nf T) (hf : f ∈ T) (hq : f.en x = some q) : okT x ∧ 0 < f.ne := by
  have ox := b.ok _ _ _ ⟨f, hf, rfl, hq⟩
  refine ⟨ox, ?_⟩
  obtain ⟨K, k1, k2, k3⟩ := (h.nd f hf).ev.keys
  rw [← k2]
  exact List.length_pos_of_mem ((k3 x).2 ⟨ox, by show ((f.en x).map _).isSome = true; rw [hq]; rfl⟩)
/-- The key is forgotten where the levels end. -/
theorem forget_up (h : TM w tb m r nf (T.length : Int) T) (b : Bs P nf T) (hP : P ≤ 100000) (hf : f ∈ T) (hq : f.en x = some q) {w1 : World} (hb : Below w.heap.size w w1) :
    Calls Try.prog 50 #[ptr tb, ptr f.s.p, .string x] w1 fun e w2 => e = .returned (.tuple #[]) ∧ (∃ T2 nf2 f2, Up w2 tb m r P T f f.s.A x T2 nf2 f2) ∧ Ch (isT tb T) w w2 := by
  obtain ⟨ox, h0⟩ := ne_pos h b hf hq
  have c1 := (CN.nf0 (f := f) b.cn).2 hf h0
  have c2 := b.cn.le
  have c3 := b.len
  have c4 := b.few f hf
  refine (forget_any (h.below hb) hf ox hq c1 (by omega) (by omega)).mono ?_
  rintro e w2 ⟨rfl, ⟨ev, hev, tm⟩, hc⟩
  refine ⟨rfl, ⟨T.map (frg f.s.A x ev), _, { f with en := setN f.en x, ne := f.ne - 1, ev := ev }, ⟨by rw [List.length_map]; exact tm, qs_frg h b hf h0 hev, List.mem_map.2 ⟨f, hf, frg_at f⟩, rfl, fun a ha hl => List.mem_map.2 ⟨a, ha, frg_ne (fun c => by rw [c] at hl; omega)⟩, fun a _ y g => by rw [frg_map]⟩⟩, (Below.ch hb).trans hc (fun j _ c => c.elim .inl (fun c => .inr ⟨f, hf, c⟩))⟩
/-- What without does below a node, with at most so many levels left. -/
def WithoutOk (tb m r P : Nat) (x : ByteArray) (N : Nat) : Prop := ∀ (w : World) (nf : Int) (T : List Fn) (f d g : Fn) (v : Value) (L : List ByteArray) (y0 : ByteArray) (q : Int), L.length ≤ N → TM w tb m r nf (T.length : Int) T → Bs P nf T → f ∈ T → d ∈ T → AtK (T.map Fn.s) d.s y0 f.s → Rw w v L → g ∈ T → g.s.A = f.s.A ++ L → g.en x = some q →
  Calls Try.prog 30 #[ptr tb, ptr f.s.p, v, .string x] w fun e w' => ∃ res, e = .returned res ∧ WoE w' tb m r P T f.s.A f.s.p d y0 (f.s.A ++ L) x res ∧ Ch (isT tb T) w w'
/-- The ends of both ways: what tidy is asked. -/
def TidyOk (tb m r P : Nat) (T : List Fn) (f : Fn) (F : List ByteArray) (x : ByteArray) (w : World) (Q : Value → World → Prop) : Prop := ∀ (w2 : World) (T2 : List Fn) (nf2 : Int) (f2 : Fn), Up w2 tb m r P T f F x T2 nf2 f2 → Ch (isT tb T) w w2 → Calls Try.prog 51 #[ptr tb, ptr f.s.p] w2 fun e w' => ∃ res, e = .returned res ∧ Q res w'
set_option maxRecDepth 100000 in
set_option maxHeartbeats 4000000 in
theorem without_zero (h : TM w tb m r nf (T.length : Int) T) (b : Bs P nf T) (hP : P ≤ 100000) (hf : f ∈ T) (R : Rw w v []) (hq : f.en x = some q) {Q : Value → World → Prop} (ti : TidyOk tb m r P T f f.s.A x w Q) :
    Calls Try.prog 30 #[ptr tb, ptr f.s.p, v, .string x] w fun e w' => ∃ res, e = .returned res ∧ Q res w' := by
  obtain ⟨a, cap, rfl⟩ := R.row.nil
  have OW := hidi (own_any h.tr (h.nd f hf).at_)
  have FO := hidi (fun (w1 : World) (hb : Below w.heap.size w w1) => forget_up h b hP hf hq hb)
  have TI := hidi ti
  unfold ptr at *
  clear h b hP hf R hq ti
  go_enter Try.func30, Try.ntmps30
  go_wp2_with (first
    | (go_at_call 25; refine OW.out.mono ?_; rintro e w1 ⟨rfl, hb⟩; have F1 := hidi (FO.out w1 hb); clear hb OW FO)
    | (go_at_call 50; refine F1.out.mono ?_; rintro e w2 ⟨rfl, ⟨T2, nf2, f2, u⟩, hc⟩; have T1 := hidi (TI.out w2 T2 nf2 f2 u hc); clear u hc F1 TI)
    | (go_at_call 51; refine T1.out.mono ?_; rintro e w3 ⟨res, rfl, hQ⟩; have HQ := hidi hQ; clear hQ T1))
  go_ret
  exact ⟨res, rfl, HQ.out⟩
set_option maxRecDepth 100000 in
set_option maxHeartbeats 4000000 in
theorem without_cons {z : ByteArray} {rs : List ByteArray} {N : Nat} (IH : WithoutOk tb m r P x N) (h : TM w tb m r nf (T.length : Int) T) (b : Bs P nf T) (hf : f ∈ T) (R : Rw w v (z :: rs)) (hN : rs.length ≤ N) (hg : g ∈ T) (hgA : g.s.A = f.s.A ++ z :: rs) (hq : g.en x = some q) {Q : Value → World → Prop} (ti : TidyOk tb m r P T f (f.s.A ++ z :: rs) x w Q) :
    Calls Try.prog 30 #[ptr tb, ptr f.s.p, v, .string x] w fun e w' => ∃ res, e = .returned res ∧ Q res w' := by
  obtain ⟨k, hk, ka, kp⟩ := atk_rest h hf hg hgA
  have fd := h.nd f hf
  have fk := h.nd k hk
  have oz : okT z := by have := (h.ok k hk).1 z (List.mem_of_getElem? ka.2.2); unfold okT maxLen; omega
  obtain ⟨nk, kd, b1, b2, b3⟩ := fd.kv
  have hkx : kd z = some (ptr k.s.p) := (b3 z _ oz).2 ⟨_, ka, rfl⟩
  obtain ⟨mo, hmo⟩ := map_of b2
  obtain ⟨g0, o, n, cap, rfl, hn, hcap, hgl, hc0, -⟩ := R.row.cons
  have km := (h.inv.le k.s ka.1).1
  have kl := len_take k.s km
  have ktop := ka.2.1.2.1
  have kle := kp.length_le
  rw [hgA, List.length_append, List.length_cons] at kle
  obtain ⟨qa, qc, hlv⟩ : ∃ qa qc, k.lv = .slice qa k.s.m qc := own_sl fk.lv
  have hmn : k.s.m ≤ n := by omega
  have k0 := ka.2.1.1
  have eA : k.s.A = f.s.A ++ (z :: rs).take k.s.m := by
    have h1 := prefix_take kp
    rw [← h1, hgA, List.take_append, List.take_of_length_le (by omega)]
    congr 2
    omega
  have eF : k.s.A ++ (z :: rs).drop k.s.m = f.s.A ++ z :: rs := by rw [eA, List.append_assoc, List.take_append_drop]
  have c3 : w.cell? ⟨f.s.p, 3, none⟩ = some (.map mo) := by rw [← hmo]; exact box_cells fd.at_ 3 _ rfl
  have OW := hidi (own_any h.tr fd.at_)
  have LK := hidi (fun (w1 : World) (hb : Below w.heap.size w w1) => (show w1.cell? ⟨f.s.p, 3, none⟩ = some (.map mo) ∧ w1.cell? ⟨g0, o, none⟩ = some (.string z) ∧ (∀ M, (Instr.lookup 60 (.map mo) (.string z) false).run Try.prog (w1.drewN M) = .ok (ptr k.s.p) (w1.drewN M)) from by
    refine ⟨by rw [← hmo]; exact box_cells ((h.below hb).nd f hf).at_ 3 _ rfl, Rw.head' (R.below hb), fun M => ?_⟩
    have bd : Below w.heap.size w (w1.drewN M) := below_drewN hb
    have := (b2.keep (w' := w1.drewN M) (fun b e => bd.block b (b2.lt e))).look Try.underlying60 zero59 oz
    rw [hkx, hmo] at this
    exact this))
  have CK := hidi (fun (w1 : World) (hb : Below w.heap.size w w1) => (show w1.cell? ⟨k.s.p, 1, none⟩ = some (.slice qa k.s.m qc) from by rw [← hlv]; exact box_cells ((h.below hb).nd k hk).at_ 1 _ rfl))
  have IC := hidi (fun (w1 : World) (hb : Below w.heap.size w w1) => (show Calls Try.prog 30 #[ptr tb, ptr k.s.p, .slice (if cap = k.s.m then some ⟨g0, o, none⟩ else some ⟨g0, o + k.s.m, none⟩) (n - k.s.m) (cap - k.s.m), .string x] w1 fun e w2 => ∃ res, e = .returned res ∧ WoE w2 tb m r P T k.s.A k.s.p f z (f.s.A ++ z :: rs) x res ∧ Ch (isT tb T) w w2 from by
    have := IH w1 nf T k f g _ ((z :: rs).drop k.s.m) z q (by rw [List.length_drop, List.length_cons]; omega) (h.below hb) b hk hf ka ((R.below hb).drop hmn) hg (by rw [eF]; exact hgA) hq
    rw [eF] at this
    refine this.mono ?_
    rintro e w2 ⟨res, rfl, wo, hc⟩
    exact ⟨res, rfl, wo, (Below.ch hb).then hc⟩))
  have RU := hidi (fun (w2 : World) (res : Value) (wo : WoE w2 tb m r P T k.s.A k.s.p f z (f.s.A ++ z :: rs) x res) (hc : Ch (isT tb T) w w2) => replace_up h b hf hk ka wo hc)
  have TI := hidi ti
  have e0 : ((n : Int) == 0) = false := by rw [beq_eq_false_iff_ne]; omega
  have p0 : (0 : Int) < n := by omega
  have i1 : (k.s.m : Int) ≤ n := by omega
  have i2 : (k.s.m : Int) ≤ cap := by omega
  have i3 : (0 : Int) ≤ k.s.m := by omega
  unfold ptr at *
  clear IH h b hf R hN hg hgA hq ti hk ka kp fd fk oz b1 b2 b3 hkx hmo hn hcap hgl hc0 km kl ktop kle hlv hmn k0 eA eF c3
  go_enter Try.func30, Try.ntmps30
  go_wp2_with (go_at_call 25; refine OW.out.mono ?_; rintro e w1 ⟨rfl, hb⟩; have B1 := hidi hb; obtain ⟨l1, l2, hlook⟩ := LK.out w1 hb; clear hb OW LK)
  go_quiet (fail)
  obtain ⟨w2, hw2⟩ : ∃ w2, w2 = w1.drewN nq := ⟨_, rfl⟩
  have B2 : Hid (Below w.heap.size w w2) := by show Below _ _ _; rw [hw2]; exact below_drewN B1.out
  rw [← hw2]
  clear hw2 hlook l1 l2 B1
  have l3 := CK.out w2 B2.out
  have I1 := hidi (IC.out w2 B2.out)
  clear CK IC
  go_wp2_with (first
    | (go_at_call 30; refine I1.out.mono ?_; rintro e w3 ⟨res1, rfl, wo, hc⟩; have R1 := hidi (RU.out w3 res1 wo hc); clear wo hc I1 RU l3)
    | (go_at_call 52; refine R1.out.mono ?_; rintro e w4 ⟨rfl, ⟨T2, nf2, f2, u⟩, hc⟩; have T1 := hidi (TI.out w4 T2 nf2 f2 u hc); clear u hc R1 TI)
    | (go_at_call 51; refine T1.out.mono ?_; rintro e w5 ⟨res, rfl, hQ⟩; have HQ := hidi hQ; clear hQ T1))
  all_goals go_ret
  all_goals exact ⟨res, rfl, HQ.out⟩
/-- WITHOUT, below the root. -/
theorem without_any (hP : P ≤ 100000) : ∀ N, WithoutOk tb m r P x N
  | 0 => fun w nf T f d g v L y0 q hL h b hf hd ha R hg hgA hq => by
    obtain rfl : L = [] := List.length_eq_zero_iff.1 (by omega)
    rw [List.append_nil] at hgA ⊢
    obtain rfl := h.same hg hf hgA
    exact without_zero h b hP hg R hq (fun w2 T2 nf2 f2 u hc => u.tidy b hd ha (h.inv.le g.s (List.mem_map_of_mem hg)).1 hc)
  | N + 1 => fun w nf T f d g v L y0 q hL h b hf hd ha R hg hgA hq => by
    cases L with
    | nil =>
      rw [List.append_nil] at hgA ⊢
      obtain rfl := h.same hg hf hgA
      exact without_zero h b hP hg R hq (fun w2 T2 nf2 f2 u hc => u.tidy b hd ha (h.inv.le g.s (List.mem_map_of_mem hg)).1 hc)
    | cons z rs => exact without_cons (without_any hP N) h b hf R (by simp at hL; omega) hg hgA hq (fun w2 T2 nf2 f2 u hc => u.tidy b hd ha (h.inv.le f.s (List.mem_map_of_mem hf)).1 hc)
end Go.Proofs.Ytepjcfhbbcaldaa.Li
namespace Go.Proofs.Ytepjcfhbbcaldaa.Li
open Go Go.RowKit
set_option linter.unusedSimpArgs false
set_option linter.unusedVariables false
variable {w : World} {tb m r P : Nat} {nf nn : Int} {T : List Fn} {d f g k : Fn} {L : List ByteArray} {x y0 : ByteArray} {v : Value} {q : Int}
theorem alk_pre : ∀ {a b : List ByteArray}, a <+: b → alk a b = a.length
  | [], b, _ => by cases b <;> rfl
  | x :: a, [], h => by have := h.length_le; simp at this
  | x :: a, y :: b, h => by
    obtain ⟨t, e⟩ := h
    rw [List.cons_append] at e
    injection e with e1 e2
    unfold alk
    rw [if_pos e1, alk_pre ⟨t, e2⟩]
    simp
    try omega
set_option maxRecDepth 100000 in
set_option maxHeartbeats 4000000 in
theorem alike_dr (l1 l2 : List ByteArray) (v1 v2 : Value) (w : World) (R1 : Row w v1 l1) (R2 : Row w v2 l2) (hl1 : l1.length ≤ 1000001) (hl2 : l2.length ≤ 1000001) : Calls Try.prog 47 #[v1, v2] w fun e w' => e = .returned (.int .i64 (alk l1 l2)) ∧ ∃ M, w' = w.drewN M := by
  obtain ⟨x, hx⟩ : ∃ x, x = alk l1 l2 := ⟨_, rfl⟩
  rw [← hx]
  have HX : Hid (x = 0 + alk (l1.drop 0) (l2.drop 0)) := by show _ = _; simpa using hx
  obtain ⟨a, n, cap, rfl, hn, hc, hrow⟩ := R1
  obtain ⟨a2, n2, cap2, rfl, hn2, hc2, hrow2⟩ := R2
  have HN : Hid (n = l1.length ∧ n ≤ cap ∧ l1.length ≤ 1000001) := ⟨hn, hc, hl1⟩
  have HM : Hid (n2 = l2.length ∧ n2 ≤ cap2 ∧ l2.length ≤ 1000001) := ⟨hn2, hc2, hl2⟩
  have HA : Hid (l1 ≠ [] → ∃ g o, a = some ⟨g, o, none⟩ ∧ g < w.heap.size ∧ ∀ k x, l1[k]? = some x → w.cell? ⟨g, o + k, none⟩ = some (.string x)) := hrow
  have HC : Hid (l2 ≠ [] → ∃ g o, a2 = some ⟨g, o, none⟩ ∧ g < w.heap.size ∧ ∀ k x, l2[k]? = some x → w.cell? ⟨g, o + k, none⟩ = some (.string x)) := hrow2
  obtain ⟨q, hq⟩ : ∃ q : Nat, q = min n n2 := ⟨_, rfl⟩
  have hqi : min (n : Int) (n2 : Int) = (q : Int) := by omega
  have HQ : Hid (q ≤ n ∧ q ≤ n2 ∧ q = min n n2) := by constructor <;> omega
  clear hx hn hc hl1 hrow hn2 hc2 hl2 hrow2 hq
  go_enter Try.func47, Try.ntmps47
  go_wp2_with fail
  go_loopg [5] q (fun gg s5 wx => ∃ k : Nat, k ≤ q ∧ gg = q - k ∧ s5 = .int .i64 k ∧ Hid (∃ M, wx = w.drewN M) ∧ Hid (x = k + alk (l1.drop k) (l2.drop k)))
  case atStart => exact ⟨0, Nat.zero_le _, rfl, rfl, ⟨0, rfl⟩, HX⟩
  case round =>
    obtain ⟨k, hk, rfl, rfl, B, HE⟩ := hrel
    by_cases hlt : k < q
    · have hlt' : (k : Int) < q := by omega
      obtain ⟨t, ht⟩ : ∃ t, l1[k]? = some t := ⟨_, List.getElem?_eq_getElem (by have := HN.out.1; have := HQ.out; omega)⟩
      obtain ⟨u, hu⟩ : ∃ u, l2[k]? = some u := ⟨_, List.getElem?_eq_getElem (by have := HM.out.1; have := HQ.out; omega)⟩
      obtain ⟨g, o, rfl, hg, hcells⟩ := HA.out (fun e => by subst e; simp at ht)
      obtain ⟨g2, o2, rfl, hg2, hcells2⟩ := HC.out (fun e => by subst e; simp at hu)
      have c1 : wr.cell? ⟨g, o + k, none⟩ = some (.string t) := by obtain ⟨M, hM⟩ := B.out; rw [hM]; exact hcells k t ht
      have c2 : wr.cell? ⟨g2, o2 + k, none⟩ = some (.string u) := by obtain ⟨M, hM⟩ := B.out; rw [hM]; exact hcells2 k u hu
      have hw : IntKind.i64.wrap ((k : Int) + 1) = (k : Int) + 1 := by rw [IntKind.wrap_i64]; have := HN.out; have := HQ.out; omega
      have i1 : (k : Int) < n := by have := HQ.out; omega
      have i2 : (k : Int) < n2 := by have := HQ.out; omega
      have HS := hidi (alk_on ht hu)
      clear ht hu hcells hcells2 hg hg2
      by_cases he : t = u
      · have hey : (t.toList == u.toList) = true := by rw [teq]; exact decide_eq_true he
        have HF : Hid (x = k + 1 + alk (l1.drop (k + 1)) (l2.drop (k + 1))) := by
          show _ = _
          have := HS.out
          rw [if_pos he] at this
          have := HE.out
          omega
        clear HS HE he
        go_wp2_with fail
        go_quiet (fail)
        go_wp2_with fail
        go_roundg (q - (k + 1))
        case measure => omega
        case rel => exact ⟨k + 1, by omega, rfl, rfl, (by obtain ⟨M, hM⟩ := B.out; exact ⟨M + nq, by rw [hM, World.drewN_drewN]⟩), HF⟩
      · have hey : (t.toList == u.toList) = false := by rw [teq]; exact decide_eq_false he
        have HF : Hid (x = k) := by
          show _ = _
          have := HS.out
          rw [if_neg he] at this
          have := HE.out
          omega
        clear HS HE he
        go_wp2_with fail
        go_quiet (fail)
        go_wp2_with fail
        go_ret
        exact ⟨by have := HF.out; subst this; rfl, (by obtain ⟨M, hM⟩ := B.out; exact ⟨M + nq, by rw [hM, World.drewN_drewN]⟩)⟩
    · have hlt' : ¬ (k : Int) < q := by omega
      have HF : Hid (x = k) := by
        show _ = _
        have h1 := HN.out
        have h2 := HM.out
        have h3 := HQ.out
        have := HE.out
        rw [alk_end (by omega)] at this
        omega
      go_wp2_with fail
      go_quiet (fail)
      go_wp2_with fail
      go_ret
      exact ⟨by have := HF.out; subst this; rfl, (by obtain ⟨M, hM⟩ := B.out; exact ⟨M + nq, by rw [hM, World.drewN_drewN]⟩)⟩
/-- Where levels end. -/
def AtR (T : List Fn) (F : List ByteArray) (mv : Value) : Prop := (∃ g ∈ T, g.s.A = F ∧ mv = g.ev) ∨ (mv = .map none ∧ ∀ g ∈ T, g.s.A ≠ F)
def AtOk (tb m r : Nat) (nf nn : Int) (T : List Fn) (N : Nat) : Prop := ∀ (w : World) (f : Fn) (v : Value) (L : List ByteArray), L.length ≤ N → TM w tb m r nf nn T → f ∈ T → Rw w v L → (∀ t ∈ L, okT t) → L.length ≤ 1000001 →
  Calls Try.prog 29 #[ptr f.s.p, v] w fun e w' => ∃ mo, e = .returned (.map mo) ∧ AtR T (f.s.A ++ L) (.map mo) ∧ Below w.heap.size w w'
set_option maxRecDepth 100000 in
set_option maxHeartbeats 4000000 in
theorem at_zero (h : TM w tb m r nf nn T) (hf : f ∈ T) (R : Rw w v []) : Calls Try.prog 29 #[ptr f.s.p, v] w fun e w' => ∃ mo, e = .returned (.map mo) ∧ AtR T (f.s.A ++ []) (.map mo) ∧ Below w.heap.size w w' := by
  obtain ⟨a, cap, rfl⟩ := R.row.nil
  obtain ⟨mo, hmo⟩ := map_of (h.nd f hf).ev
  have c2 : w.cell? ⟨f.s.p, 2, none⟩ = some (.map mo) := by rw [← hmo]; exact box_cells (h.nd f hf).at_ 2 _ rfl
  have FIN := hidi (show AtR T (f.s.A ++ []) (.map mo) from .inl ⟨f, hf, by simp, hmo.symm⟩)
  unfold ptr at *
  clear h hf R hmo
  go_enter Try.func29, Try.ntmps29
  go_wp2_with fail
  go_ret
  exact ⟨mo, rfl, FIN.out, Below.refl _ _⟩
set_option maxRecDepth 100000 in
set_option maxHeartbeats 4000000 in
theorem at_cons {z : ByteArray} {rs : List ByteArray} {N : Nat} (IH : AtOk tb m r nf nn T N) (h : TM w tb m r nf nn T) (hf : f ∈ T) (R : Rw w v (z :: rs)) (hN : rs.length ≤ N) (okL : ∀ t ∈ z :: rs, okT t) (hl : (z :: rs).length ≤ 1000001) :
    Calls Try.prog 29 #[ptr f.s.p, v] w fun e w' => ∃ mo, e = .returned (.map mo) ∧ AtR T (f.s.A ++ z :: rs) (.map mo) ∧ Below w.heap.size w w' := by
  have oz := okL z List.mem_cons_self
  obtain ⟨nk, kd, b1, b2, b3, b4⟩ := h.look hf oz
  have fd := h.nd f hf
  obtain ⟨ko, hko⟩ := map_of b2
  obtain ⟨g0, o, n, cap, rfl, hn, hcap, hgl, hc0, -⟩ := R.row.cons
  have c3 : w.cell? ⟨f.s.p, 3, none⟩ = some (.map ko) := by rw [← hko]; exact box_cells fd.at_ 3 _ rfl
  have LK2 : ∀ M, (Instr.lookup 60 (.map ko) (.string z) true).run Try.prog (w.drewN M) = .ok (.tuple #[(kd z).getD (.pointer none), .bool (kd z).isSome]) (w.drewN M) := fun M => by
    have bd : Below w.heap.size w (w.drewN M) := below_drewN (Below.refl _ _)
    have := (b2.keep (w' := w.drewN M) (fun b e => bd.block b (b2.lt e))).look2 Try.underlying60 zero59 oz
    rw [hko] at this
    exact this
  have e0 : ((n : Int) == 0) = false := by rw [beq_eq_false_iff_ne]; omega
  have p0 : (0 : Int) < n := by omega
  rcases b4 with ⟨k, hk, ka, hkz⟩ | ⟨hkz, no⟩
  · have hlook : ∀ M, (Instr.lookup 60 (.map ko) (.string z) true).run Try.prog (w.drewN M) = .ok (.tuple #[ptr k.s.p, .bool true]) (w.drewN M) := fun M => by rw [LK2 M, hkz]; rfl
    clear LK2
    have fk := h.nd k hk
    have km := (h.inv.le k.s ka.1).1
    have klen := edge_len k.s km
    have ktop := ka.2.1.2.1
    obtain ⟨qa, qc, hlv⟩ : ∃ qa qc, k.lv = .slice qa k.s.m qc := own_sl fk.lv
    obtain ⟨j, hj⟩ : ∃ j, j = alk k.s.edge (z :: rs) := ⟨_, rfl⟩
    have kle := alk_le k.s.edge (z :: rs)
    rw [← hj] at kle
    have ktk := alk_take k.s.edge (z :: rs)
    rw [← hj] at ktk
    have CQ := hidi (fun (w2 : World) (hb : Below w.heap.size w w2) => (show w2.cell? ⟨k.s.p, 1, none⟩ = some (.slice qa k.s.m qc) from by rw [← hlv]; exact box_cells ((h.below hb).nd k hk).at_ 1 _ rfl))
    have AL := hidi (fun (w2 : World) (hb : Below w.heap.size w w2) => (show Calls Try.prog 47 #[.slice qa k.s.m qc, .slice (some ⟨g0, o, none⟩) n cap] w2 fun e w' => e = .returned (.int .i64 j) ∧ ∃ M, w' = w2.drewN M from by
      rw [hj, ← hlv]
      exact alike_dr k.s.edge (z :: rs) _ _ w2 (row_own ((h.below hb).nd k hk).lv) (R.below hb).row (by have := (h.ok k hk).2; omega) hl))
    by_cases jm : j < k.s.m
    · have jmi : (j : Int) < k.s.m := by omega
      have FIN := hidi (show AtR T (f.s.A ++ z :: rs) (.map none) from by
        refine .inr ⟨rfl, fun g hg e => ?_⟩
        obtain ⟨k', hk', ka', kp⟩ := atk_rest h hf hg e
        have := h.inv.atk ka ka'
        obtain rfl := h.same hk hk' (congrArg Nd.A this)
        have pe : k.s.edge <+: z :: rs := by
          obtain ⟨t, et⟩ := kp
          refine ⟨t, ?_⟩
          have h1 := congrArg (List.drop f.s.A.length) et
          rw [e, List.drop_left, List.drop_append_of_le_length (by have := len_take k.s km; omega)] at h1
          unfold Nd.edge
          rw [ktop]
          exact h1
        have := alk_pre pe
        omega)
      unfold ptr at *
      clear IH h hf R hN okL hl oz b1 b2 b3 fd hko hn hcap hgl hk ka hkz fk km klen ktop hlv hj kle ktk jm
      go_enter Try.func29, Try.ntmps29
      go_wp2_with fail
      go_quiet (fail)
      obtain ⟨w1, hw1⟩ : ∃ w1, w1 = w.drewN nq := ⟨_, rfl⟩
      have B1 : Hid (Below w.heap.size w w1) := by show Below _ _ _; rw [hw1]; exact below_drewN (Below.refl _ _)
      rw [← hw1]
      clear hw1 hlook c3 hc0
      have l2 := CQ.out w1 B1.out
      go_wp2_with fail
      have AQ := hidi (fun K => AL.out (w1.drewN K) (below_drewN B1.out))
      go_quiet ((go_at_call 47; exact Calls.quiet_of (AQ.out _)))
      obtain ⟨w3, hw3⟩ : ∃ w3, w3 = w1.drewN nq := ⟨_, rfl⟩
      have B3 : Hid (Below w.heap.size w w3) := by show Below _ _ _; rw [hw3]; exact below_drewN B1.out
      rw [← hw3]
      clear hw3 AL AQ l2
      have l2 := CQ.out w3 B3.out
      all_goals go_wp2_with fail
      all_goals go_ret
      all_goals exact ⟨none, rfl, FIN.out, B3.out⟩
    · have jmi : ¬ (j : Int) < k.s.m := by omega
      have jk : j = k.s.m := by omega
      have hmn : k.s.m ≤ n := by have := kle.2; simp at this; omega
      have eA : k.s.A = f.s.A ++ (z :: rs).take k.s.m := by
        rw [← jk, ← ktk, jk, List.take_of_length_le (by omega), ← ka.2.1.2.2]
        unfold Nd.edge
        rw [List.take_append_drop]
      have eF : k.s.A ++ (z :: rs).drop k.s.m = f.s.A ++ z :: rs := by rw [eA, List.append_assoc, List.take_append_drop]
      have k0 := ka.2.1.1
      have IC := hidi (fun (w1 : World) (hb : Below w.heap.size w w1) => (show Calls Try.prog 29 #[ptr k.s.p, .slice (if cap = k.s.m then some ⟨g0, o, none⟩ else some ⟨g0, o + k.s.m, none⟩) (n - k.s.m) (cap - k.s.m)] w1 fun e w' => ∃ mo, e = .returned (.map mo) ∧ AtR T (f.s.A ++ z :: rs) (.map mo) ∧ Below w.heap.size w w' from by
        have := IH w1 k _ ((z :: rs).drop k.s.m) (by rw [List.length_drop, List.length_cons]; omega) (h.below hb) hk ((R.below hb).drop hmn) (fun t ht => okL t (List.mem_of_mem_drop ht)) (by rw [List.length_drop]; omega)
        rw [eF] at this
        refine this.mono ?_
        rintro e w' ⟨mo, rfl, ar, b'⟩
        exact ⟨mo, rfl, ar, hb.trans (b'.mono hb.size)⟩))
      have i1 : (k.s.m : Int) ≤ n := by omega
      have i2 : (k.s.m : Int) ≤ cap := by omega
      have i3 : (0 : Int) ≤ k.s.m := by omega
      unfold ptr at *
      clear IH h hf R hN okL hl oz b1 b2 b3 fd hko hn hcap hgl hk ka hkz fk km klen ktop hlv hj kle ktk jm jk hmn eA eF k0
      go_enter Try.func29, Try.ntmps29
      go_wp2_with fail
      go_quiet (fail)
      obtain ⟨w1, hw1⟩ : ∃ w1, w1 = w.drewN nq := ⟨_, rfl⟩
      have B1 : Hid (Below w.heap.size w w1) := by show Below _ _ _; rw [hw1]; exact below_drewN (Below.refl _ _)
      rw [← hw1]
      clear hw1 hlook c3 hc0
      have l2 := CQ.out w1 B1.out
      go_wp2_with fail
      have AQ := hidi (fun K => AL.out (w1.drewN K) (below_drewN B1.out))
      go_quiet ((go_at_call 47; exact Calls.quiet_of (AQ.out _)))
      obtain ⟨w3, hw3⟩ : ∃ w3, w3 = w1.drewN nq := ⟨_, rfl⟩
      have B3 : Hid (Below w.heap.size w w3) := by show Below _ _ _; rw [hw3]; exact below_drewN B1.out
      rw [← hw3]
      clear hw3 AL AQ l2
      have l2 := CQ.out w3 B3.out
      all_goals go_wp2_with (go_at_call 29; refine (IC.out w3 B3.out).mono ?_; rintro e w4 ⟨mo4, rfl, ar, b4⟩; have A4 := hidi ar; have B4 := hidi b4; clear ar b4 IC)
      all_goals go_ret
      all_goals exact ⟨mo4, rfl, A4.out, B4.out⟩
  · have hlook : ∀ M, (Instr.lookup 60 (.map ko) (.string z) true).run Try.prog (w.drewN M) = .ok (.tuple #[.pointer none, .bool false]) (w.drewN M) := fun M => by rw [LK2 M, hkz]; rfl
    clear LK2
    have FIN := hidi (show AtR T (f.s.A ++ z :: rs) (.map none) from by
      refine .inr ⟨rfl, fun g hg e => ?_⟩
      obtain ⟨k', hk', ka', kp⟩ := atk_rest h hf hg e
      exact no _ ka')
    unfold ptr at *
    clear IH h hf R hN okL hl oz b1 b2 b3 fd hko hn hcap hgl hkz no
    go_enter Try.func29, Try.ntmps29
    go_wp2_with fail
    go_quiet (fail)
    obtain ⟨w1, hw1⟩ : ∃ w1, w1 = w.drewN nq := ⟨_, rfl⟩
    have B1 : Hid (Below w.heap.size w w1) := by show Below _ _ _; rw [hw1]; exact below_drewN (Below.refl _ _)
    rw [← hw1]
    clear hw1 hlook c3 hc0
    go_wp2_with fail
    go_quiet (fail)
    go_wp2_with fail
    all_goals go_ret
    all_goals exact ⟨none, rfl, FIN.out, below_drewN B1.out⟩
theorem at_any (tb m r : Nat) (nf nn : Int) (T : List Fn) : ∀ N, AtOk tb m r nf nn T N
  | 0 => fun w f v L hL h hf R okL hl => by
    obtain rfl : L = [] := List.length_eq_zero_iff.1 (by omega)
    exact at_zero h hf R
  | N + 1 => fun w f v L hL h hf R okL hl => by
    cases L with
    | nil => exact at_zero h hf R
    | cons z rs => exact at_cons (at_any tb m r nf nn T N) h hf R (by simp at hL; omega) okL hl
end Go.Proofs.Ytepjcfhbbcaldaa.Li
