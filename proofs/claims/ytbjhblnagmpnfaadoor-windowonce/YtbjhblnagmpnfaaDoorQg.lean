import Derived.Test.YtbjhblnagmpnfaaDoorQf
namespace Go.Proofs.YtbjhblnagmpnfaaDoor
open Go Go.RowKit Go.Shelf Go.Maps Go.Sort
set_option linter.unusedSimpArgs false
set_option linter.unusedVariables false
section
variable {w0 W : World} {wb sbx : Nat} {p : Pw} {c : Nat} {tv sv : Value} {MT MS : List Ms}
/-- The start: nothing is taken, nothing is sent. -/
theorem os_start {w2 : World} (hb : Below w0.heap.size w0 w2) (h0 : 0 < w0.heap.size) (k : KS (fun j => j < w2.heap.size) W wb p 0) (hw : Below w2.heap.size w2 W) (hf : Full p) (hwt : p.wt = []) (hfl : p.fl = []) : OS w0 (W.alloc (.cells #[.slice none 0 0] 39)) wb W.heap.size p 0 (.slice none 0 0) (.slice none 0 0) [] [] [] := by
  have hbA : Below W.heap.size W (W.alloc (.cells #[.slice none 0 0] 39)) := (Below.refl _ _).alloc (Nat.le_refl _) _
  have hs := hb.size
  have hs2 := hw.size
  have hnil : (W.alloc (.cells #[.slice none 0 0] 39)).ownsRow w0.heap.size 30 4 (.slice none 0 0) 0 (mrow []) := ⟨by simp [mrow], .inl ⟨rfl, rfl⟩⟩
  exact {
    ks := (k.add hbA (b := W.heap.size) (Nat.le_refl _) (by simp)).less (fun j hj => by
      rcases hj with z | z | z | z
      · exact .inl (by omega)
      · exact .inr z
      · cases z
      · cases z)
    box := heap_alloc_new W _
    sb0 := by omega
    w00 := h0
    tk := hnil
    st := hnil
    apt := fun j hj => by cases hj
    pt := fun m hm => by cases hm
    ps := fun m hm => by cases hm
    bel := hb.trans ((hw.mono hs).trans (hbA.mono (by omega)))
    fu := hf
    inv := by rw [hwt]; rfl
    fln := by rw [hfl]; simp }
/-- What was taken is laid down. -/
theorem SentO.yes {v : Value} {p' : Pw} {X : List Pp} {m : Ms} (h : SentO w0 W wb sbx c tv sv MT MS v p' X m.p true) (hm : PBi w0 m.v m.xs) (hl : MT.length ≤ 1000000) :
    ∃ g' cap' w2, (Builtin.append_ #[39, 39] 39 #[tv, .slice (some ⟨W.heap.size, 0, none⟩) 1 1]).run Tryd.prog (W.alloc (.cells #[.string m.t, m.v, .int .i64 m.q, .bool m.r] 30)) = .ok (.slice (some ⟨g', 0, none⟩) (MT.length + 1) cap') w2 ∧ OsL w0 w2 wb sbx c (.slice (some ⟨g', 0, none⟩) (MT.length + 1) cap') sv (MT ++ [m]) MS v p' X := by
  obtain ⟨S, h1, h2, h3, h4, h5, h6, h7⟩ := h
  obtain ⟨g', cap', w2, k1, k2, k3⟩ := h5.take (Y' := msgsOf X) m hm hl (by simpa using h6) h7
  have hkb : Kb W w2 := Kb.ch k3 (fun j hj cs fz q => by obtain ⟨cur, e⟩ := own_lt h5.tk hj; rw [e] at q; simp at q)
  exact ⟨g', cap', w2, k1, S, k2, h1, own_ch h2 k3 (fun g hg q => by obtain ⟨cur, e⟩ := own_lt h2 hg; obtain ⟨cur', e'⟩ := own_lt h5.tk q; rw [e] at e'; simp at e'), fun q hq => (h3 q hq).keep hkb, h4⟩
/-- The second loop: on, and i rounds are behind us. -/
structure OR (w0 W : World) (wb sbx : Nat) (p : Pw) (c : Nat) (tv sv : Value) (MT MS : List Ms) (i : Nat) : Prop extends OS w0 W wb sbx p c tv sv MT MS [] where
  on : p.on = true
  po : pot p + i ≤ 2 * MT.length
theorem up_on (p : Pw) : (pUp p).1.on = true := fill_on { p with on := true }
theorem OS.len (h : OS w0 W wb sbx p c tv sv MT MS []) : MT.length = MS.length + p.wt.length := by
  have := congrArg List.length h.inv
  simpa using this
theorem OS.len' {Y : List Mp} (h : OS w0 W wb sbx p c tv sv MT MS Y) : MS.length ≤ MT.length := by
  have := congrArg List.length h.inv
  simp at this
  omega
theorem OS.rounds (h : OS w0 W wb sbx p c tv sv MT MS []) (ho : p.on = true) : OR w0 W wb sbx p c tv sv MT MS 0 :=
  { h with
    on := ho
    po := by
      have h1 := pot_le p
      have h2 := h.fln
      have h3 := h.len
      simp at h2
      omega }
/-- What a round acknowledges. -/
def ackK (f : Fp) : Int := if f.rel then 7 else if f.m.q = 2 then 5 else 4
theorem or_ack {i : Nat} (h : OR w0 W wb sbx p c tv sv MT MS i) {ob : Nat} (hx : KS (fun j => FO w0 sbx tv sv j ∨ j = ob) W wb p c) (hob : ob < W.heap.size) (hc : c ≤ 200000) {f : Fp} {fl : List Fp} (hp : p.fl = f :: fl) : Calls Tryd.prog 20 #[.pointer (some ⟨wb, 0, none⟩), .int .i64 (ackK f), .int .i64 (f.id : Int)] W fun e w' => ∃ v p' X, e = .returned v ∧ OsL w0 w' wb sbx c tv sv MT MS v p' X ∧ p'.on = true ∧ pot p' + (i + 1) ≤ 2 * MT.length ∧ (f.rel = false → f.m.q = 2 → X = [⟨6, false, f.id, zMp⟩]) ∧ w'.heap[ob]? = W.heap[ob]? := by
  have hf := h.ks.facts
  have hid : f.id ≤ 65535 := (hf.2.1 f.id (by rw [hp]; simp)).2
  have hn : (p.fl.map (·.id)).Nodup := (List.nodup_append.1 hf.1).1
  obtain ⟨a7, a5, a4⟩ := ack_first hp h.on hn
  have hpt := h.po
  refine (os_ack h.toOS hx hob hc (ackK f) f.id (okI_nat _ (by omega))).mono ?_
  rintro e w' ⟨v, rfl, l, hh⟩
  refine ⟨v, _, _, rfl, l, ?_⟩
  unfold ackK
  cases hr : f.rel
  · by_cases hq : f.m.q = 2
    · obtain ⟨b1, b2, b3⟩ := a5 hr hq
      simp only [hq, if_true, Bool.false_eq_true, if_false]
      exact ⟨b2, by omega, fun _ _ => b3, hh⟩
    · obtain ⟨b1, b2⟩ := a4 hr hq
      simp only [hq, if_false, Bool.false_eq_true]
      exact ⟨b2, by omega, fun _ z => absurd z id, hh⟩
  · obtain ⟨b1, b2⟩ := a7 hr
    simp only [if_true]
    exact ⟨b2, by omega, fun z => (by cases z), hh⟩
/-- At the end all that was taken was sent. -/
theorem OR.done {i : Nat} (h : OR w0 W wb sbx p c tv sv MT MS i) (hfl : p.fl = []) : p.wt = [] ∧ MT.map Ms.p = MS.map Ms.p := by
  have hw := rest_wt h.fu h.on h.ks.facts.2.2.2.2.2.1 hfl
  refine ⟨hw, ?_⟩
  have := h.inv
  rw [hw] at this
  simpa using this
end
end Go.Proofs.YtbjhblnagmpnfaaDoor
