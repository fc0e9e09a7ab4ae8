import Derived.Test.YtbjhblnagmpnfaaDoorNp
namespace Go.Proofs.YtbjhblnagmpnfaaDoor
open Go Go.RowKit Go.Shelf Go.Maps Go.Sort
set_option linter.unusedSimpArgs false
set_option linter.unusedVariables false
theorem hidi {p : Prop} (h : p) : Hid p := h
/-! ### SortedFunc of a map's values -/
set_option maxHeartbeats 1000000 in
theorem sortedf_any (Bm nn : Nat) (mv : Value) (f : Int → Option Nat) (tn : Nat → Int) (w : World) (hM : MI w mv nn (fun k => (f k).map pt)) (hBm : Bm < w.heap.size) (hm : w.cell? ⟨Bm, 0, none⟩ = some mv) (hl : nn ≤ 1000000)
    (hlen : ∀ ps, AllOf f ps → ps.length ≤ 1000000)
    (hc : ∀ k b, okI k → f k = some b → b < w.heap.size ∧ w.cell? ⟨b, 0, none⟩ = some (.int .i64 (tn b))) :
    Calls Tryd.prog 52 #[.func (.func 65) #[] #[.pointer (some ⟨Bm, 0, none⟩)], .func (.func 54) #[] #[]] w fun e w' => ∃ v ps ys, e = .returned v ∧ AllOf f ps ∧ ys.Perm (ps.map (·.2)) ∧ ByT tn ys ∧ w'.ownsRow w.heap.size 78 1 v ys.length (ys.map pt) ∧ Below w.heap.size w w' := by
  have A := hidi (collect_any Bm nn mv f w hM hBm hm hl)
  have HC := hidi hc
  have HL := hidi hlen
  clear hM hBm hm hl hc hlen
  go_enter Tryd.func52, Tryd.ntmps52
  go_wp2_with fail
  go_must (go_at_call 63)
  refine A.out.mono ?_
  clear A
  rintro e w1 ⟨v, ps, rfl, hA, ho, hb⟩
  have S := hidi (sortfunc_any (ps.map (·.2)) tn v w1 w.heap.size (by simpa [ptrs, Function.comp_def] using ho) (by simpa using HL.out ps hA) (fun x hx => by
    obtain ⟨p, hp, rfl⟩ := List.mem_map.1 hx
    obtain ⟨q1, q2⟩ := hA.2.1 p hp
    obtain ⟨c1, c2⟩ := HC.out p.1 p.2 q1 q2
    refine ⟨by have := hb.size; omega, (hb.cell (p := ⟨p.2, 0, none⟩) c1).trans c2, fun e => ?_⟩
    rcases ho.2 with ⟨rfl, _⟩ | ⟨g, cap, cur, rfl, h1, _⟩
    · simp [Value.ownBlock] at e
    · simp [Value.ownBlock] at e
      omega))
  have HA := hidi hA
  have HB := hidi hb
  clear hA ho hb HC
  go_wp2_with fail
  go_must (go_at_call 64)
  refine S.out.mono ?_
  clear S
  rintro e w2 ⟨rfl, ys, hp, ht, ho, hb⟩
  have Z := hidi (And.intro hp (And.intro ht (And.intro ho hb)))
  clear hp ht ho hb
  go_wp2_with fail
  go_ret
  obtain ⟨hp, ht, ho, hb⟩ := Z.out
  have hl : ys.length = (ps.map (·.2)).length := hp.length_eq
  exact ⟨v, ps, ys, rfl, HA.out, hp, ht, by rw [hl]; exact ho, HB.out.trans hb⟩
/-! ### A window's flights -/
/-- A message purely. -/
structure Mp where
  t : ByteArray
  q : Int
  r : Bool
  xs : List Int
def Ms.p (m : Ms) : Mp := ⟨m.t, m.q, m.r, m.xs⟩
/-- A flight in memory: its block, its turn. -/
structure Fm where
  b : Nat
  tn : Nat
  id : Nat
  rel : Bool
  m : Ms
structure Fp where
  id : Nat
  rel : Bool
  m : Mp
def Fm.p (f : Fm) : Fp := ⟨f.id, f.rel, f.m.p⟩
def Fm.cs (f : Fm) : Array Value := #[.int .i64 f.tn, .int .i64 (awt f.m.q f.rel), .int .i64 f.id, .string f.m.t, f.m.v, .int .i64 f.m.q, .bool f.m.r]
structure FB (w : World) (f : Fm) : Prop where
  blk : w.heap[f.b]? = some (.cells f.cs 90 (0, 0))
  pay : PB w f.m.v f.m.xs
/-- Where a number's flight is. -/
def lookF (fs : List Fm) (k : Int) : Option Nat := (fs.find? (fun f => decide ((f.id : Int) = k))).map (·.b)
theorem lookF_some {fs : List Fm} {k : Int} {b : Nat} (h : lookF fs k = some b) : ∃ f ∈ fs, (f.id : Int) = k ∧ f.b = b := by
  unfold lookF at h
  obtain ⟨f, hf, rfl⟩ := Option.map_eq_some_iff.1 h
  refine ⟨f, List.mem_of_find?_eq_some hf, ?_, rfl⟩
  simpa using List.find?_some hf
theorem lookF_mem {fs : List Fm} (hn : (fs.map (·.id)).Nodup) {f : Fm} (hf : f ∈ fs) : lookF fs (f.id : Int) = some f.b := by
  induction fs with
  | nil => cases hf
  | cons g fs ih =>
    unfold lookF
    simp only [List.find?_cons]
    by_cases e : g.id = f.id
    · simp only [e, decide_true, Option.map_some]
      rcases List.mem_cons.1 hf with rfl | q
      · rfl
      · exfalso
        simp only [List.map_cons, List.nodup_cons] at hn
        exact hn.1 (by rw [e]; exact List.mem_map.2 ⟨f, q, rfl⟩)
    · have : decide ((g.id : Int) = (f.id : Int)) = false := by simp; omega
      simp only [this]
      rcases List.mem_cons.1 hf with rfl | q
      · exact absurd rfl e
      · exact ih (by simp only [List.map_cons, List.nodup_cons] at hn; exact hn.2) q
theorem lookF_none {fs : List Fm} {k : Int} (h : ∀ f ∈ fs, (f.id : Int) ≠ k) : lookF fs k = none := by
  unfold lookF
  rw [Option.map_eq_none_iff, List.find?_eq_none]
  intro f hf
  simpa using h f hf
theorem nodup_of_map {α β : Type} (f : α → β) {l : List α} (h : (l.map f).Nodup) : l.Nodup := (List.pairwise_map.1 h).imp (fun q e => q (congrArg f e))
/-- The places in the order of their turns are the flights'. -/
theorem order_is {fs : List Fm} {ps : List (Int × Nat)} {ys : List Nat} {tn : Nat → Int} (hn : (fs.map (·.id)).Nodup) (hid : ∀ f ∈ fs, f.id ≤ 65535) (hb : (fs.map (·.b)).Nodup) (ht : ∀ f ∈ fs, tn f.b = f.tn) (hs : fs.Pairwise (fun a b => a.tn < b.tn))
    (hA : AllOf (lookF fs) ps) (hp : ys.Perm (ps.map (·.2))) (hT : ByT tn ys) : ys = fs.map (·.b) := by
  obtain ⟨h1, h2, h3⟩ := hA
  have hpe : ps.Perm (fs.map (fun f => ((f.id : Int), f.b))) := by
    refine (List.perm_ext_iff_of_nodup ?_ ?_).2 (fun x => ?_)
    · exact nodup_of_map _ h1
    · refine nodup_of_map (fun x : Int × Nat => x.2) ?_
      simpa [Function.comp_def] using hb
    · constructor
      · intro hx
        obtain ⟨f, hf, e1, e2⟩ := lookF_some (h2 x hx).2
        exact List.mem_map.2 ⟨f, hf, by rw [e1, e2]⟩
      · intro hx
        obtain ⟨f, hf, rfl⟩ := List.mem_map.1 hx
        have hk := okI_nat f.id (by have := hid f hf; omega)
        have hl := lookF_mem hn hf
        obtain ⟨y, hy, e⟩ := List.mem_map.1 (h3 _ hk (by rw [hl]; rfl))
        have h5 := (h2 y hy).2
        rw [e, hl] at h5
        have : y = ((f.id : Int), f.b) := Prod.ext e (by injection h5 with h5; exact h5.symm)
        rw [← this]
        exact hy
  have hq : ys.Perm (fs.map (·.b)) := hp.trans (by
    have := hpe.map (fun x : Int × Nat => x.2)
    simpa [Function.comp_def] using this)
  refine List.Perm.eq_of_pairwise (le := fun a b => tn a ≤ tn b) (fun a b ha hb' l1 l2 => ?_) hT ?_ hq
  · obtain ⟨f, hf, rfl⟩ := List.mem_map.1 (hq.mem_iff.1 ha)
    obtain ⟨g, hg, rfl⟩ := List.mem_map.1 hb'
    rw [ht f hf, ht g hg] at l1 l2
    have : f.tn = g.tn := by omega
    have key : ∀ (l : List Fm), l.Pairwise (fun a b => a.tn < b.tn) → f ∈ l → g ∈ l → f = g := by
      intro l hl
      induction hl with
      | nil => intro q; cases q
      | cons h1 _ ih =>
        intro q1 q2
        rcases List.mem_cons.1 q1 with e1 | e1 <;> rcases List.mem_cons.1 q2 with e2 | e2
        · rw [e1, e2]
        · have := h1 _ e2; rw [← e1] at this; omega
        · have := h1 _ e1; rw [← e2] at this; omega
        · exact ih e1 e2
    rw [key fs hs hf hg]
  · rw [List.pairwise_map]
    exact hs.imp_of_mem (fun {a b} ha hb q => by rw [ht a ha, ht b hb]; omega)
end Go.Proofs.YtbjhblnagmpnfaaDoor
