import Derived.Test.YtepjcfhbbcaldaaKja
import Derived.Test.YtepjcfhbbcaldaaKjp
import Derived.Test.YtepjcfhbbcaldaaKib
import Derived.Test.YtepjcfhbbcaldaaKy
import Derived.Maps.RangeWalk
import Derived.Lib.MinMax
namespace Go.Proofs.Ytepjcfhbbcaldaa.Li
open Go Go.RowKit
set_option linter.unusedSimpArgs false
set_option linter.unusedVariables false
/-- How much a list of them comes to. -/
def sumS : List Sb → Nat
  | [] => 0
  | s :: l => 1 + s.f.size + s.x.size + sumS l
theorem sumS_app (a b : List Sb) : sumS (a ++ b) = sumS a + sumS b := by
  induction a with
  | nil => simp [sumS]
  | cons s a ih => simp [sumS, ih]; omega
theorem sumS_mem {l : List Sb} {s : Sb} (h : s ∈ l) : s.f.size ≤ sumS l ∧ s.x.size ≤ sumS l := by
  induction l with
  | nil => cases h
  | cons a l ih =>
    unfold sumS
    rcases List.mem_cons.1 h with rfl | h
    · omega
    · have := ih h; omega
/-- What small tells. -/
def SmR (l : List Sb) (b : Bool) : Prop := b = true → l.length ≤ 60 ∧ sumS l ≤ 60000
set_option maxRecDepth 100000 in
set_option maxHeartbeats 4000000 in
theorem small_any {w : World} {v : Value} {l : List Sb} {lb : Nat} (h : SbAt w v l) (hlb : lb < w.heap.size) (c0 : w.cell? ⟨lb, 0, none⟩ = some v) (hx : ∀ s ∈ l, s.f.size ≤ 140737488355328 ∧ s.x.size ≤ 140737488355328) :
    Calls Try.prog 5 #[.slice (some ⟨lb, 0, none⟩) 1 1] w fun e w' => ∃ b, e = .returned (.bool b) ∧ SmR l b ∧ Below w.heap.size w w' := by
  obtain ⟨a, n, cap, rfl, hn, hc, hrow⟩ := h.ex
  by_cases big : 60 < n
  · have b1 : (60 : Int) < n := by omega
    have b2 : (n : Int) > 60 := by omega
    have FIN := hidi (show SmR l false from fun c => by cases c)
    clear h hn hc hrow hx hlb
    go_enter Try.func5, Try.ntmps5
    go_wp2_with fail
    refine wp_loop_rounds 1 ?_
    rw [rounds_succ]
    go_wp2_with fail
    go_ret
    exact ⟨false, rfl, FIN.out, Below.refl _ _⟩
  · have b1 : ¬ (60 : Int) < n := by omega
    have b2 : ¬ (n : Int) > 60 := by omega
    have HN := hidi (show n = l.length ∧ n ≤ cap ∧ n ≤ 60 from ⟨hn, hc, by omega⟩)
    have HR := hidi hrow
    have HX := hidi hx
    have HL := hidi hlb
    clear h hn hc hrow hx big hlb
    go_enter Try.func5, Try.ntmps5
    go_wp2_with fail
    refine wp_loop_rounds 2 ?_
    rw [rounds_succ]
    go_wp2_with fail
    go_loopg [3, 5] n (fun gg s3 s5 wx => ∃ k : Nat, k ≤ n ∧ gg = n - k ∧ s3 = .int .i64 (sumS (l.take k) : Nat) ∧ s5 = .int .i64 k ∧ Hid (Below w.heap.size w wx ∧ (k = 0 ∨ sumS (l.take (k - 1)) ≤ 60000)))
    case atStart => exact ⟨0, Nat.zero_le _, rfl, rfl, rfl, Below.refl _ _, .inl rfl⟩
    case round =>
      obtain ⟨k, hk, rfl, rfl, rfl, Z⟩ := hrel
      have c1 : wr.cell? ⟨lb, 0, none⟩ = some (.slice a n cap) := by rw [Z.out.1.cell (by exact HL.out)]; exact c0
      obtain ⟨sm, hsm⟩ : ∃ sm, sm = sumS (l.take k) := ⟨_, rfl⟩
      rw [← hsm]
      have HS := hidi hsm
      clear hsm
      have bsm : sm ≤ 60000 + 281474976710657 := by
        rcases Z.out.2 with q | q
        · have := HS.out; rw [q] at this; simp [sumS] at this; omega
        · have h1 := HS.out
          by_cases k0 : k = 0
          · rw [k0] at h1; simp [sumS] at h1; omega
          · obtain ⟨t, ht⟩ : ∃ t, l[k - 1]? = some t := ⟨_, List.getElem?_eq_getElem (by have := HN.out.1; omega)⟩
            have h2 := HX.out t (List.mem_of_getElem? ht)
            rw [show k = (k - 1) + 1 by omega, List.take_add_one, ht, sumS_app] at h1
            simp [sumS] at h1
            omega
      by_cases lt : k < n
      · have lt' : (k : Int) < n := by omega
        by_cases le : sm ≤ 60000
        · have le' : (sm : Int) ≤ 60000 := by omega
          obtain ⟨t, ht⟩ : ∃ t, l[k]? = some t := ⟨_, List.getElem?_eq_getElem (by have := HN.out.1; omega)⟩
          obtain ⟨g, o, rfl, hg, hcells⟩ := HR.out (fun e => by subst e; simp at ht)
          obtain ⟨x1, x2, x3⟩ := hcells k t ht
          have y1 : wr.cell? ⟨g, o + k * 3, none⟩ = some (.string t.f) := by rw [Z.out.1.cell (by exact hg)]; exact x1
          have y2 : wr.cell? ⟨g, o + k * 3 + 1, none⟩ = some (.string t.x) := by rw [Z.out.1.cell (by exact hg)]; exact x2
          have tx := HX.out t (List.mem_of_getElem? ht)
          have hw1 : IntKind.i64.wrap ((sm : Int) + 1) = (sm : Int) + 1 := by rw [IntKind.wrap_i64]; omega
          have hw2 : IntKind.i64.wrap ((sm : Int) + 1 + (t.f.size : Int)) = (sm : Int) + 1 + (t.f.size : Int) := by rw [IntKind.wrap_i64]; omega
          have hw3 : IntKind.i64.wrap ((sm : Int) + 1 + (t.f.size : Int) + (t.x.size : Int)) = (sm : Int) + 1 + (t.f.size : Int) + (t.x.size : Int) := by rw [IntKind.wrap_i64]; omega
          have hw4 : IntKind.i64.wrap ((k : Int) + 1) = (k : Int) + 1 := by rw [IntKind.wrap_i64]; have := HN.out; omega
          have NX := hidi (show sm + 1 + t.f.size + t.x.size = sumS (l.take (k + 1)) ∧ sumS (l.take (k + 1 - 1)) ≤ 60000 from ⟨by rw [List.take_add_one, ht, sumS_app, ← HS.out]; simp [sumS]; omega, by rw [Nat.add_sub_cancel, ← HS.out]; exact le⟩)
          clear ht hcells x1 x2 x3 tx bsm le hg
          go_wp2_with fail
          go_quiet (fail)
          go_wp2_with fail
          go_roundg (n - (k + 1))
          case measure => omega
          case rel => exact ⟨k + 1, by omega, rfl, by rw [← NX.out.1]; simp, by simp, below_drewN Z.out.1, .inr NX.out.2⟩
        · have le' : ¬ (sm : Int) ≤ 60000 := by omega
          go_wp2_with fail
          rw [rounds_succ]
          go_wp2_with fail
          go_ret
          exact ⟨_, rfl, fun c => absurd (of_decide_eq_true c) (by omega), Z.out.1⟩
      · have lt' : ¬ (k : Int) < n := by omega
        obtain rfl : k = n := by omega
        by_cases le : sm ≤ 60000
        · have le' : (sm : Int) ≤ 60000 := by omega
          go_wp2_with fail
          rw [rounds_succ]
          go_wp2_with fail
          go_ret
          exact ⟨true, rfl, fun _ => ⟨by have := HN.out; omega, by have := HS.out; rw [List.take_of_length_le (by have := HN.out; omega)] at this; omega⟩, Z.out.1⟩
        · have le' : ¬ (sm : Int) ≤ 60000 := by omega
          go_wp2_with fail
          rw [rounds_succ]
          go_wp2_with fail
          go_ret
          exact ⟨_, rfl, fun c => absurd (of_decide_eq_true c) (by omega), Z.out.1⟩
end Go.Proofs.Ytepjcfhbbcaldaa.Li
namespace Go.Proofs.Ytepjcfhbbcaldaa.Li
open Go Go.RowKit
set_option linter.unusedSimpArgs false
set_option linter.unusedVariables false
/-- What does not change while a trie is searched. -/
structure GC (T : List Fn) (K : List ByteArray) : Prop where
  hl : HashLast T
  en : ∀ f ∈ T, ∀ y z, f.en y = some z → y ∈ K ∧ okT y ∧ 0 ≤ z
  few : K.length ≤ 100000
/-- A trie and what was found. -/
structure GS (w : World) (tb m r : Nat) (nf nn : Int) (T : List Fn) (fb : Nat) (K : List ByteArray) (E : ByteArray → Int → Prop) : Prop where
  tm : TM w tb m r nf nn T
  fr : ¬ isT tb T fb
  mg : ∃ (n : Nat) (g : ByteArray → Option Int), MG w (.map (some fb)) n (fun y => (g y).map (.int .i64)) ∧ ∀ y, okT y → Best (E y) (g y)
  ks : ∀ y z, E y z → y ∈ K ∧ 0 ≤ z
variable {w w' : World} {tb m r fb N : Nat} {nf nn : Int} {T : List Fn} {K : List ByteArray} {E E' : ByteArray → Int → Prop} {f : Fn} {L : List ByteArray} {v : Value}
theorem GS.congr (h : GS w tb m r nf nn T fb K E) (e : ∀ y z, E y z ↔ E' y z) : GS w tb m r nf nn T fb K E' := by
  obtain ⟨n, g, m1, m2⟩ := h.mg
  exact ⟨h.tm, h.fr, ⟨n, g, m1, fun y oy => (m2 y oy).congr (e y)⟩, fun y z c => h.ks y z ((e y z).2 c)⟩
theorem GS.no9 (h : GS w tb m r nf nn T fb K E) : No9 w fb := by
  obtain ⟨n, g, m1, m2⟩ := h.mg
  exact m1.no9 rfl
theorem GS.rw (h : GS w tb m r nf nn T fb K E) (R : Rw w v L) (hc : Ch (fun j => j = fb) w w') : Rw w' v L := R.ch hc (fun j hj e => by
  obtain ⟨cur, e1⟩ := R.ty j hj
  rw [e] at e1
  exact h.no9 cur e1)
theorem GS.tmch (h : GS w tb m r nf nn T fb K E) (hc : Ch (fun j => j = fb) w w') : TM w' tb m r nf nn T :=
  h.tm.keep hc (fun e => h.fr (.inl e.symm)) (fun f hf k c e => h.fr (.inr ⟨f, hf, e ▸ c⟩)) (fun k e => e ▸ h.no9)
/-- What gather does, so deep. -/
def GatherOk (tb m r : Nat) (nf nn : Int) (T : List Fn) (fb : Nat) (K : List ByteArray) (N : Nat) : Prop := ∀ (w : World) (f : Fn) (v : Value) (L : List ByteArray) (E : ByteArray → Int → Prop), f ∈ T → 65537 ≤ f.s.A.length + N → GS w tb m r nf nn T fb K E → Rw w v L → (∀ t ∈ L, okT t) → L.length ≤ 65536 →
  Calls Try.prog 37 #[ptr f.s.p, v, .map (some fb)] w fun e w' => e = .returned (.tuple #[]) ∧ GS w' tb m r nf nn T fb K (fun y z => E y z ∨ Sel T f L y z) ∧ Ch (fun j => j = fb) w w'
/-- What follow does from a node. -/
def FollowOk (tb m r : Nat) (nf nn : Int) (T : List Fn) (fb : Nat) (K : List ByteArray) (f : Fn) : Prop := ∀ (w : World) (x : ByteArray) (v : Value) (L : List ByteArray) (E : ByteArray → Int → Prop), okT x → GS w tb m r nf nn T fb K E → Rw w v L → (∀ t ∈ L, okT t) → L.length ≤ 65536 →
  Calls Try.prog 36 #[ptr f.s.p, .string x, v, .map (some fb)] w fun e w' => e = .returned (.tuple #[]) ∧ GS w' tb m r nf nn T fb K (fun y z => E y z ∨ SelK T f x L y z) ∧ Ch (fun j => j = fb) w w'
set_option maxRecDepth 100000 in
set_option maxHeartbeats 4000000 in
theorem follow_any (IH : GatherOk tb m r nf nn T fb K N) (hf : f ∈ T) (hN : 65536 ≤ f.s.A.length + N) : FollowOk tb m r nf nn T fb K f := fun w x v L E hx h R okL hL => by
  obtain ⟨nk, kd, b1, b2, b3, b4⟩ := h.tm.look hf hx
  have fd := h.tm.nd f hf
  obtain ⟨mo, hmo⟩ : ∃ mo, f.kv = .map mo := by
    rcases b2.mk with e | ⟨mb, e⟩
    · exact ⟨_, e⟩
    · exact ⟨_, e⟩
  have c3 : w.cell? ⟨f.s.p, 3, none⟩ = some (.map mo) := by rw [← hmo]; exact box_cells fd.at_ 3 _ rfl
  have hlook := b2.look2 Try.underlying60 zero59 hx
  obtain ⟨a, n, cap, rfl, -, -, -⟩ := R.row
  rcases b4 with ⟨q, hq, hk, e⟩ | ⟨e, no⟩
  · rw [e, hmo] at hlook
    have hlt := hk.2.1.lt (h.tm.inv.le q.s (List.mem_map_of_mem hq)).1
    have GA := hidi (IH w q _ L E hq (by omega) h R okL hL)
    have HS := hidi (fun y z => (show SelK T f x L y z ↔ Sel T q L y z from ⟨fun ⟨q', hq', hk', s⟩ => by
      have := h.tm.inv.atk hk hk'
      obtain rfl := h.tm.same hq hq' (congrArg Nd.A this)
      exact s, fun s => ⟨q, hq, hk, s⟩⟩))
    unfold ptr at *
    clear h R okL hL IH hN hf b1 b2 b3 fd hmo hq hk e hlt hx
    go_enter Try.func36, Try.ntmps36
    go_wp2_with (go_at_call 37; refine GA.out.mono ?_; rintro e w' ⟨rfl, g1, g2⟩; have G1 := hidi g1; have G2 := hidi g2; clear g1 g2 GA)
    go_end0
    exact ⟨rfl, G1.out.congr (fun y z => by rw [HS.out]), G2.out⟩
  · rw [e, hmo] at hlook
    have H := hidi (h.congr (E' := fun y z => E y z ∨ SelK T f x L y z) (fun y z => ⟨.inl, fun c => c.elim id (fun ⟨q, hq, hk, _⟩ => absurd hk (no _))⟩))
    unfold ptr at *
    clear h R okL hL IH hN hf b1 b2 b3 fd hmo e no hx
    go_enter Try.func36, Try.ntmps36
    go_wp2_with fail
    go_end0
    exact ⟨rfl, H.out, Ch.refl _ _⟩
end Go.Proofs.Ytepjcfhbbcaldaa.Li
namespace Go.Proofs.Ytepjcfhbbcaldaa.Li
open Go Go.RowKit
set_option linter.unusedSimpArgs false
set_option linter.unusedVariables false
/-- While the entries of a node are noted. -/
structure EL (w0 wr : World) (mb rb fb ne : Nat) (D : DataW Value) (f : Fn) (E : ByteArray → Int → Prop) (left : Lit → Bool) (cnt n : Nat) (g : ByteArray → Option Int) : Prop where
  rg : wr.ranges Try.prog 9 hv mb rb ne D left cnt
  ch : Ch (fun j => j = fb) w0 wr
  mg : MG wr (.map (some fb)) n (fun y => (g y).map (.int .i64))
  bs : ∀ y, okT y → Best (fun z => E y z ∨ (f.en y = some z ∧ left (kt y) = false)) (g y)
theorem kt_same {x y : ByteArray} : (kt y).sameKey (kt x) = true ↔ y = x := by
  constructor
  · intro h
    have h2 : (y.data.toList == x.data.toList) = true := h
    exact un_inj (eq_of_beq h2)
  · intro h
    rw [h]
    simp [Lit.sameKey, kt]
set_option maxRecDepth 100000 in
theorem EL.step {w0 wr w1 : World} {mb rb fb ne : Nat} {D : DataW Value} {f : Fn} {E : ByteArray → Int → Prop} {left : Lit → Bool} {cnt n cnt1 : Nat} {g : ByteArray → Option Int} {K : List ByteArray} {x : ByteArray} {q : Int} (h : EL w0 wr mb rb fb ne D f E left cnt n g)
    (hg : wr.grownBy w1 (some rb)) (hrb : w0.heap.size ≤ rb) (hfb : fb < w0.heap.size) (hmb : mb ≠ fb) (hr : w1.ranges Try.prog 9 hv mb rb ne D (fun z => left z && !z.sameKey (kt x)) cnt1) (hx : okT x) (hl : left (kt x) = true) (hq : f.en x = some q)
    (e0 : ∀ y z, E y z → y ∈ K ∧ 0 ≤ z) (n0 : ∀ y z, f.en y = some z → y ∈ K ∧ okT y ∧ 0 ≤ z) (hK : K.length ≤ 100000) :
    (Instr.lookup 53 (.map (some fb)) (.string x) false).run Try.prog w1 = .ok (.int .i64 ((g x).getD 0)) w1 ∧ ∃ w2 n' g', (Instr.mapUpdate 53 (.map (some fb)) (.string x) (.int .i64 (max ((g x).getD 0) q))).run Try.prog w1 = .ok () w2 ∧ EL w0 w2 mb rb fb ne D f E (fun z => left z && !z.sameKey (kt x)) cnt1 n' g' := by
  have fl : fb < wr.heap.size := Nat.lt_of_lt_of_le hfb h.ch.size
  have m1 : MG w1 (.map (some fb)) n (fun y => (g y).map (.int .i64)) := h.mg.keep (fun b e => by
    cases e
    exact hg.block fb fl (fun e => by injection e with e; omega))
  have hn : n ≤ K.length := m1.few (fun y oy hs => by
    have := h.bs y oy
    cases c : g y with
    | none => rw [c] at hs; cases hs
    | some z =>
      rw [c] at this
      rcases this.1 with e | ⟨e, _⟩
      · exact (e0 y z e).1
      · exact (n0 y z e).1)
  refine ⟨?_, ?_⟩
  · have := m1.look Try.underlying53 zero3 hx
    rw [this]
    cases g x <;> rfl
  · obtain ⟨w2, k1, k2, k3⟩ := m1.put (t := 53) Try.underlying53 (k := x) hx (.int .i64 (max ((g x).getD 0) q)) (by unfold maxLen; omega)
    refine ⟨w2, _, fun y => if y = x then some (max ((g x).getD 0) q) else g y, k1, ⟨?_, ?_, k2.congr (fun y _ => ?_), fun y oy => ?_⟩⟩
    · obtain ⟨es, clock, since, seen, c0, r1, r2, r3, r4, r5, r6⟩ := hr
      exact ⟨es, clock, since, seen, c0, (k3.block mb (Array.getElem?_eq_some_iff.1 r1).1 hmb).trans r1, r2, r3, r4, (k3.block _ (Array.getElem?_eq_some_iff.1 r5).1 (by omega)).trans r5, r6⟩
    · exact (h.ch.trans (ch_grown hg) (fun j hj e => by injection e with e; omega)).trans k3 (fun j _ e => e)
    · unfold setG
      by_cases c : y = x
      · rw [if_pos c, if_pos c]; rfl
      · rw [if_neg c, if_neg c]
    · have hb := h.bs y oy
      by_cases c : y = x
      · subst c
        rw [if_pos rfl]
        refine (hb.add (n0 y q hq).2.2 (fun z hz => ?_)).congr (fun z => ?_)
        · rcases hz with e | ⟨e, _⟩
          · exact (e0 y z e).2
          · exact (n0 y z e).2.2
        · rw [hl, kt_same.2 rfl]
          constructor
          · rintro ((a | ⟨_, b⟩) | b)
            · exact .inl a
            · cases b
            · exact .inr ⟨by rw [b]; exact hq, rfl⟩
          · rintro (a | ⟨b, _⟩)
            · exact .inl (.inl a)
            · rw [hq] at b
              exact .inr (by injection b with b; exact b.symm)
      · rw [if_neg c]
        refine hb.congr (fun z => ?_)
        have : (kt y).sameKey (kt x) = false := by
          cases d : (kt y).sameKey (kt x) with
          | false => rfl
          | true => exact absurd (kt_same.1 d) c
        rw [this]
        simp
theorem EL.ends {w0 wr : World} {tb m r mb rb fb ne : Nat} {nf nn : Int} {T : List Fn} {K : List ByteArray} {D : DataW Value} {f : Fn} {E : ByteArray → Int → Prop} {left : Lit → Bool} {cnt n : Nat} {g : ByteArray → Option Int} (h : EL w0 wr mb rb fb ne D f E left cnt n g) (g0 : GS w0 tb m r nf nn T fb K E) (hf : f ∈ T) (gc : GC T K) (hl : ∀ kl, left kl = false) : GS wr tb m r nf nn T fb K (fun y z => E y z ∨ f.en y = some z) := by
  refine ⟨g0.tmch h.ch, g0.fr, ⟨n, g, h.mg, fun y oy => (h.bs y oy).congr (fun z => ?_)⟩, fun y z c => ?_⟩
  · rw [hl]; simp
  · rcases c with c | c
    · exact g0.ks y z c
    · have := gc.en f hf y z c
      exact ⟨this.1, this.2.2⟩
theorem EL.start {w0 w1 : World} {tb m r mb fb : Nat} {nf nn : Int} {T : List Fn} {K : List ByteArray} {D : DataW Value} {f : Fn} {E : ByteArray → Int → Prop} (g0 : GS w0 tb m r nf nn T fb K E) (gc : GC T K) (hf : f ∈ T) (hD : ∀ k, okT k → Maps.has D (kt k) = (f.en k).isSome) (hr : w1.ranges Try.prog 9 hv mb w0.heap.size f.ne D (Maps.has D) (Maps.size D)) (hg : w0.grownBy w1 none) : ∃ n g, EL w0 w1 mb w0.heap.size fb f.ne D f E (Maps.has D) (Maps.size D) n g := by
  obtain ⟨n, g, m1, m2⟩ := g0.mg
  refine ⟨n, g, hr, (ch_grown hg).mono (fun j _ e => by cases e), m1.keep (fun b e => hg.block b (m1.lt e) (by simp)), fun y oy => (m2 y oy).congr (fun z => ⟨.inl, fun c => c.elim id (fun ⟨a, b⟩ => ?_)⟩)⟩
  rw [hD y oy, a] at b
  cases b
end Go.Proofs.Ytepjcfhbbcaldaa.Li
