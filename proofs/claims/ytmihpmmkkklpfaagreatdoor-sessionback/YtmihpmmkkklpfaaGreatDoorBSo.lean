import Derived.Test.YtmihpmmkkklpfaaGreatDoorBSv
import Derived.Test.YtmihpmmkkklpfaaGreatDoorBRd
import Derived.Test.YtmihpmmkkklpfaaGreatDoorBSi
import Derived.Test.YtmihpmmkkklpfaaGreatDoorBSs
namespace Go.Proofs.YtmihpmmkkklpfaaGreatDoor
open Go Go.RowKit Go.Shelf Go.Maps Go.Sort
set_option linter.unusedSimpArgs false
set_option linter.unusedVariables false
/-! ### A session among other things -/
def SU (sb : Nat) (sv nv : Value) (j : Nat) : Prop := j = sb ∨ sv = .map (some j) ∨ nv = .map (some j)
abbrev fS (f : ByteArray → Option Int) : ByteArray → Option Value := fun x => (f x).map (Value.int .i64)
/-- What is no window's and no session's stays. -/
def KQ (W W' : World) : Prop := ∀ (b : Nat) (cs : Array Value) (t : Nat) (fz : Nat × Nat), W.heap[b]? = some (.cells cs t fz) → t ≠ 101 → t ≠ 119 → t ≠ 45 → t ≠ 56 → W'.heap[b]? = some (.cells cs t fz)
theorem KQ.refl (W : World) : KQ W W := fun _ _ _ _ h _ _ _ _ => h
theorem KQ.trans {a b c : World} (h : KQ a b) (k : KQ b c) : KQ a c := fun x cs t fz q a1 a2 a3 a4 => k x cs t fz (h x cs t fz q a1 a2 a3 a4) a1 a2 a3 a4
theorem KQ.below {W W' : World} (h : Below W.heap.size W W') : KQ W W' := fun b cs t fz q _ _ _ _ => (h.block b (Array.getElem?_eq_some_iff.1 q).1).trans q
theorem KQ.ko {W W' : World} (h : KO W W') : KQ W W' := fun b cs t fz q a1 a2 a3 _ => h b _ q ⟨cs, t, fz, rfl, a1, a2, a3⟩
theorem KQ.kb {W W' : World} (h : KQ W W') : Kb W W' := fun b cs fz q => h b cs 5 fz q (by decide) (by decide) (by decide) (by decide)
theorem KQ.own {W W' : World} (h : KQ W W') {B e s n : Nat} {v : Value} {xs : List Value} (ho : W.ownsRow B e s v n xs) (h1 : e ≠ 101) (h2 : e ≠ 119) (h3 : e ≠ 45) (h4 : e ≠ 56) : W'.ownsRow B e s v n xs :=
  ⟨ho.1, ho.2.elim .inl (fun ⟨g, cap, cur, a, b, c, d⟩ => .inr ⟨g, cap, cur, a, b, h g _ _ _ c h1 h2 h3 h4, d⟩)⟩
theorem KQ.lst {W W' : World} (h : KQ W W') {v : Value} {X : List Pp} (l : Lst W v X) : Lst W' v X := by
  obtain ⟨S, h1, h2, h3⟩ := l
  exact ⟨S, h.own h1 (by decide) (by decide) (by decide) (by decide), fun p hp => (h2 p hp).keep h.kb, h3⟩
structure S1 (G : Nat → Prop) (W : World) (sb wb : Nat) (k : ByteArray) (la : Bool) (mo : Int) (p : Pw) (c : Nat) (sv nv : Value) (n : Nat) (f : ByteArray → Option Int) (m : Nat) (g : Int → Option Value) : Prop where
  ks : KS (fun j => G j ∨ SU sb sv nv j) W wb p c
  ss : SsAt W sb wb k la mo sv nv
  mg : MG W sv n (fS f)
  mi : MI W nv m g
  ap : ∀ j, sv = .map (some j) → nv ≠ .map (some j)
  ag : ∀ j, SU sb sv nv j → ¬ G j
  gq : ∀ x v, g x = some v → v = .agg #[]
  b0 : sb ≠ 0
section
variable {G : Nat → Prop} {W w' : World} {sb wb : Nat} {k : ByteArray} {la : Bool} {mo : Int} {p : Pw} {c : Nat} {sv nv sv' nv' : Value} {n n' m m' : Nat} {f f' : ByteArray → Option Int} {g g' : Int → Option Value}
theorem S1.su0 (h : S1 G W sb wb k la mo p c sv nv n f m g) : ¬ SU sb sv nv 0 := by
  rintro (z | z | z)
  · exact h.b0 z.symm
  · obtain ⟨es, cl, q⟩ := h.mg.block z
    obtain ⟨o, ho, cs, t, fz, rfl, _⟩ := h.ks.gd.oth
    rw [q] at ho
    cases ho
  · obtain ⟨es, cl, q⟩ := h.mi.block z
    obtain ⟨o, ho, cs, t, fz, rfl, _⟩ := h.ks.gd.oth
    rw [q] at ho
    cases ho
theorem S1.kq (h : S1 G W sb wb k la mo p c sv nv n f m g) (hc : Ch (SU sb sv nv) W w') : KQ W w' := fun b cs t fz q _ _ _ a4 => (hc.block b (Array.getElem?_eq_some_iff.1 q).1 (fun z => by
    rcases z with z | z | z
    · have := h.ss
      unfold SsAt at this
      rw [← z, q] at this
      simp at this
      exact a4 this.2.1
    · obtain ⟨es, cl, y⟩ := h.mg.block z
      rw [y] at q
      cases q
    · obtain ⟨es, cl, y⟩ := h.mi.block z
      rw [y] at q
      cases q)).trans q
theorem S1.fr (h : S1 G W sb wb k la mo p c sv nv n f m g) (hc : Ch (SU sb sv nv) W w') : Fr G W w' := hc.mono (fun j _ q z => h.ag j q z)
/-- The session's own blocks have changed. -/
theorem S1.turn (h : S1 G W sb wb k la mo p c sv nv n f m g) (hc : Ch (SU sb sv nv) W w') (hs : SsAt w' sb wb k la mo sv' nv') (hm : MG w' sv' n' (fS f')) (hi : MI w' nv' m' g')
    (nw : ∀ j, sv' = .map (some j) ∨ nv' = .map (some j) → (sv = .map (some j) ∨ nv = .map (some j)) ∨ W.heap.size ≤ j) (ap : ∀ j, sv' = .map (some j) → nv' ≠ .map (some j)) (gq : ∀ x v, g' x = some v → v = .agg #[]) :
    S1 G w' sb wb k la mo p c sv' nv' n' f' m' g' ∧ Fr G W w' ∧ KQ W w' := by
  have hgl : ∀ j, G j → j < W.heap.size := fun j hj => by
    obtain ⟨i, _, _, hF⟩ := h.ks.ex
    exact (hF j (.inl hj)).1
  refine ⟨⟨?_, hs, hm, hi, ap, fun j hj hG => ?_, gq, h.b0⟩, h.fr hc, h.kq hc⟩
  · refine h.ks.swapX hc (fun j hj => .inl (.inr hj)) (h.kq hc).kb h.su0 (fun j hj => ?_)
    rcases hj with z | z | z
    · exact .inl (.inl z)
    · exact .inl (.inr (.inl z))
    · rcases nw j z with y | y
      · exact .inl (.inr (.inr y))
      · refine .inr ⟨y, ?_⟩
        rcases z with z | z
        · exact hm.lt z
        · exact hi.lt z
  · rcases hj with z | z
    · exact h.ag j (.inl z) hG
    · rcases nw j z with y | y
      · exact h.ag j (.inr y) hG
      · have := hgl j hG
        omega
theorem S1.tk (h : S1 G W sb wb k la mo p c sv nv n f m g) (t : Tk W w' sb wb k la mo sv nv sv' nv' n' m' (fS f') g') (gq : ∀ x v, g' x = some v → v = .agg #[]) : S1 G w' sb wb k la mo p c sv' nv' n' f' m' g' ∧ Fr G W w' ∧ KQ W w' :=
  h.turn t.ch t.ss t.ms t.mn t.nw t.ap gq
theorem S1.below (h : S1 G W sb wb k la mo p c sv nv n f m g) (hb : Below W.heap.size W w') : S1 G w' sb wb k la mo p c sv nv n f m g :=
  ⟨h.ks.below hb, h.ss.below hb, h.mg.keep (fun b e => hb.block b (h.mg.lt e)), h.mi.keep (fun b e => hb.block b (h.mi.lt e)), h.ap, h.ag, h.gq, h.b0⟩
/-- The window has changed. -/
theorem S1.win (h : S1 G W sb wb k la mo p c sv nv n f m g) {q : Pw} {d : Nat} (hk : KS (fun j => G j ∨ SU sb sv nv j) w' wb q d) (hf : Fr (fun j => G j ∨ SU sb sv nv j) W w') : S1 G w' sb wb k la mo q d sv nv n f m g ∧ Fr G W w' := by
  refine ⟨⟨hk, (hf.at (.inr (.inl rfl)) (Array.getElem?_eq_some_iff.1 h.ss).1).trans h.ss, h.mg.keep (fun b e => hf.at (.inr (.inr (.inl e))) (h.mg.lt e)), h.mi.keep (fun b e => hf.at (.inr (.inr (.inr e))) (h.mi.lt e)), h.ap, h.ag, h.gq, h.b0⟩, hf.mono (fun j z => .inl z)⟩
/-- A filter granted. -/
def setI (f : ByteArray → Option Int) (x : ByteArray) (v : Option Int) : ByteArray → Option Int := fun j => if j = x then v else f j
def szI (f : ByteArray → Option Int) (x : ByteArray) (n : Nat) : Nat := if (f x).isSome then n else n + 1
theorem setG_fS (f : ByteArray → Option Int) (x : ByteArray) (v : Option Int) : setG (fS f) x (v.map (Value.int .i64)) = fS (setI f x v) := by
  funext j
  unfold setG fS setI
  split <;> rfl
theorem szG_fS (f : ByteArray → Option Int) (x : ByteArray) (n : Nat) : szG (fS f) x n = szI f x n := by
  unfold szG szI fS
  cases f x <;> rfl
theorem S1.gr (h : S1 G W sb wb k la mo p c sv nv n f m g) {fl : ByteArray} {q : Int} (r : Gr W w' sb wb k la mo sv nv n (fS f) fl q) : ∃ sv', S1 G w' sb wb k la mo p c sv' nv (szI f fl n) (setI f fl (some q)) m g ∧ Fr G W w' ∧ KQ W w' := by
  obtain ⟨mb, h1, h2, h3⟩ := r.ex
  have hc : Ch (SU sb sv nv) W w' := r.ch.mono (fun j _ z => z.elim .inl (fun y => .inr (.inl y)))
  rw [szG_fS, show (some (Value.int .i64 q)) = (some q).map (Value.int .i64) from rfl, setG_fS] at h2
  refine ⟨.map (some mb), h.turn hc h1 h2 (h.mi.keep (fun b e => r.ch.block b (h.mi.lt e) (fun z => ?_))) (fun j hj => ?_) (fun j z1 z2 => ?_) h.gq⟩
  · rcases z with z | z
    · exact ne_map h.mi h.ss (by rw [← z]; exact e)
    · exact h.ap b z e
  · rcases hj with z | z
    · cases z
      rcases h3 with y | y
      · exact .inl (.inl y)
      · exact .inr y
    · exact .inl (.inr z)
  · cases z1
    rcases h3 with y | y
    · exact h.ap _ y z2
    · have := h.mi.lt z2
      omega
theorem s1_grant (h : S1 G W sb wb k la mo p c sv nv n f m g) (fl : ByteArray) (hf : fl.size ≤ 1000000) (q : Int) (hn : n < 1000000) :
    Calls Tryz.prog 41 #[.pointer (some ⟨sb, 0, none⟩), .agg #[.string fl, .int .i64 q]] W fun e w' => e = .returned (.tuple #[]) ∧ Gr W w' sb wb k la mo sv nv n (fS f) fl q := by
  rcases h.mg.mk with rfl | ⟨mb, rfl⟩
  · have hz : n = 0 ∧ ∀ x, okT x → fS f x = none := by
      rcases h.mg with ⟨_, a, b⟩ | ⟨mb, D, a, _⟩
      · exact ⟨a, b⟩
      · cases a
    refine (grant_nil h.ss fl hf q).mono ?_
    rintro e w' ⟨rfl, r⟩
    refine ⟨rfl, ?_, r.ch⟩
    obtain ⟨mb, h1, h2, h3⟩ := r.ex
    refine ⟨mb, h1, ?_, h3⟩
    have hfl : fS f fl = none := hz.2 fl (by unfold okT maxLen; omega)
    have e1 : szG (fS f) fl n = szG (fun _ => none) fl 0 := by unfold szG; rw [hfl, hz.1]
    rw [e1]
    refine h2.congr (fun x hx => ?_)
    unfold setG
    split
    · rfl
    · exact hz.2 x hx
  · exact grant_some h.ss h.mg fl hf q hn
end
end Go.Proofs.YtmihpmmkkklpfaaGreatDoor
namespace Go.Proofs.YtmihpmmkkklpfaaGreatDoor
open Go Go.RowKit Go.Maps
set_option linter.unusedSimpArgs false
set_option linter.unusedVariables false
/-! ### Subscribe: what is wrong -/
set_option maxRecDepth 100000 in
set_option maxHeartbeats 1000000 in
theorem isAsk_no (f : ByteArray) (q : Int) (w : World) (hb : ¬ (Tp.fcode f = 0 ∧ 0 ≤ q ∧ q ≤ 2)) : Calls Tryz.prog 54 #[.agg #[.string f, .int .i64 q]] w fun e w' => e = .returned (.bool false) ∧ Below w.heap.size w w' := by
  obtain ⟨w1, hw1⟩ : ∃ w1, w1 = w.alloc (.cells #[.string f, .int .i64 q] 42) := ⟨_, rfl⟩
  have a1 := heap_alloc_new w (.cells #[.string f, .int .i64 q] 42)
  have b1 : Below w.heap.size w (w.alloc (.cells #[.string f, .int .i64 q] 42)) := (Below.refl _ _).alloc (Nat.le_refl _) _
  rw [← hw1] at a1 b1
  have e0 := box_cells a1 0 _ rfl
  have e1 := box_cells a1 1 _ rfl
  have CF := hidi (Tp.fcheck_any f w1)
  obtain ⟨fc, hfc⟩ : ∃ fc, fc = Tp.fcode f := ⟨_, rfl⟩
  rw [← hfc] at CF hb
  have HB := hidi (And.intro a1 b1)
  clear a1 b1 hfc
  go_enter Tryz.func54, Tryz.ntmps54
  go_upto_region 1 with fail
  rw [← hw1]
  clear hw1
  by_cases h0 : fc = 0
  · subst h0
    by_cases h1 : 0 ≤ q
    · have h2 : ¬ q ≤ 2 := fun z => hb ⟨rfl, h1, z⟩
      have h1' : q ≥ 0 := h1
      clear hb
      go_wp2_with (go_at_call 83; refine CF.out.mono ?_; clear CF; rintro e w2 ⟨rfl, hb⟩; have HB2 := hidi (HB.out.2.trans (hb.mono HB.out.2.size)); clear e0 e1; have a2 := later_at HB.out.1 hb; have e0 := box_cells a2 0 _ rfl; have e1 := box_cells a2 1 _ rfl; clear a2 hb)
      go_ret
      exact ⟨by have hd : decide (q ≤ 2) = false := decide_eq_false (by omega)
                simp only [hd]; rfl, HB2.out⟩
    · have h1' : ¬ q ≥ 0 := h1
      clear hb
      go_wp2_with (go_at_call 83; refine CF.out.mono ?_; clear CF; rintro e w2 ⟨rfl, hb⟩; have HB2 := hidi (HB.out.2.trans (hb.mono HB.out.2.size)); clear e0 e1; have a2 := later_at HB.out.1 hb; have e0 := box_cells a2 0 _ rfl; have e1 := box_cells a2 1 _ rfl; clear a2 hb)
      go_ret
      exact ⟨rfl, HB2.out⟩
  · clear hb
    have hne : (fc == 0) = false := by simpa using h0
    go_wp2_with (go_at_call 83; refine CF.out.mono ?_; clear CF; rintro e w2 ⟨rfl, hb⟩; have HB2 := hidi (HB.out.2.trans (hb.mono HB.out.2.size)); clear e0 e1; have a2 := later_at HB.out.1 hb; have e0 := box_cells a2 0 _ rfl; have e1 := box_cells a2 1 _ rfl; clear a2 hb)
    go_ret
    exact ⟨rfl, HB2.out⟩
section
variable {W : World} {sb wb : Nat} {k : ByteArray} {la : Bool} {mo : Int} {sv nv : Value} {n : Nat} {f : ByteArray → Option Int}
set_option maxRecDepth 100000 in
set_option maxHeartbeats 4000000 in
theorem subscribe_bad (h : SsAt W sb wb k la mo sv nv) (hm : MG W sv n (fS f)) (fl : ByteArray) (q : Int) (hbad : ¬ (Tp.fcode fl = 0 ∧ 0 ≤ q ∧ q ≤ 2)) (hfs : fl.size ≤ 1000000) :
    Calls Tryz.prog 27 #[.pointer (some ⟨sb, 0, none⟩), .agg #[.string fl, .int .i64 q]] W fun e w' => e = .returned (.int .i64 128) ∧ Below W.heap.size W w' := by
  obtain ⟨w1, hw1⟩ : ∃ w1, w1 = W.alloc (.cells #[.string fl, .int .i64 q] 42) := ⟨_, rfl⟩
  have x1 := heap_alloc_new W (.cells #[.string fl, .int .i64 q] 42)
  have b1 : Below W.heap.size W (W.alloc (.cells #[.string fl, .int .i64 q] 42)) := (Below.refl _ _).alloc (Nat.le_refl _) _
  rw [← hw1] at x1 b1
  have e0 := box_cells x1 0 _ rfl
  have e1 := box_cells x1 1 _ rfl
  have s1 := h.below b1
  have a4 : w1.cell? ⟨sb, 4, none⟩ = some sv := box_cells s1 4 _ rfl
  have hm1 : MG w1 sv n (fS f) := hm.keep (fun b e => b1.block b (hm.lt e))
  obtain ⟨vl, bl, hlk⟩ : ∃ (vl : Int) (bl : Bool), ∀ d, (Instr.lookup 53 sv (.string fl) true).run Tryz.prog (w1.drewN d) = .ok (.tuple #[.int .i64 vl, .bool bl]) (w1.drewN d) := by
    have := fun d => (hm1.keep (w' := w1.drewN d) (fun b e => by simp [World.drewN])).look2 (t := 53) Tryz.underlying53 zero3 (k := fl) (by unfold okT maxLen; omega)
    cases hf : f fl with
    | none => exact ⟨0, false, fun d => by have := this d; unfold fS at this; rw [hf] at this; exact this⟩
    | some v => exact ⟨v, true, fun d => by have := this d; unfold fS at this; rw [hf] at this; exact this⟩
  have HS := hidi (And.intro s1 (And.intro hm1 (And.intro x1 b1)))
  have IA := hidi (fun w => isAsk_no fl q w hbad)
  clear h hm x1 b1 s1 hm1 hbad
  go_enter Tryz.func27, Tryz.ntmps27
  go_upto_region 1 with fail
  rw [← hw1]
  clear hw1
  go_wp2_with fail
  go_quiet (fail)
  clear hlk a4 e0 e1
  have bd : Below w1.heap.size w1 (w1.drewN nq) := below_drewN (Below.refl _ _)
  obtain ⟨w3, hw3⟩ : ∃ w3, w3 = w1.drewN nq := ⟨_, rfl⟩
  rw [← hw3] at bd ⊢
  have x3 := later_at HS.out.2.2.1 bd
  have e0 := box_cells x3 0 _ rfl
  have e1 := box_cells x3 1 _ rfl
  have HB3 := hidi bd
  clear x3 bd hw3
  go_upto_region 2 with fail
  refine wp_region_held_drew (S := fun w' => w'.cell? ⟨W.heap.size, 0, none⟩ = some (.string fl) ∧ w'.cell? ⟨W.heap.size, 1, none⟩ = some (.int .i64 q)) (by kernel_rfl) ⟨e0, e1⟩ (fun hHeld => ?_)
  change wpAnyH _ _ _ _ _ 19 #[false, false, false, false, false, false, false, false, false, false, false, false, false, false, false, false, false, false, false] _ (World.drew _)
  refine wpAnyH_take (i := 0) (oi := { dst := some 17, op := Go.Op.load 42 (Go.Operand.tmp 3), type := 42, pos := "session.go:63", after := #[], guard := none }) (v := .agg #[.string fl, .int .i64 q]) rfl (by kernel_rfl) (by kernel_rfl) (by kernel_rfl) (fun _ _ _ h => h) (Or.inl ⟨by kernel_rfl, by intro wq hSw; (try dsimp only at hSw); clear hHeld; go_simp⟩) hHeld ?_
  simp only [Act.put, List.setIfInBounds_toArray, List.set_cons_zero, List.set_cons_succ]
  refine wpAnyH_ready (rs := [1]) (by kernel_rfl) (by simp) ?_
  refine AllReadyH.cons (o := { dst := some 18, op := Go.Op.call { callee := Go.Callee.value (Go.Operand.func 54), args := #[Go.Operand.tmp 17], argTypes := #[42] }, type := 4, pos := "session.go:63", after := #[{ on := 0, ground := Go.Ground.data }], guard := none }) (by rfl) (fun K hK => ?_) AllReadyH.nil
  go_simp
  go_wp2_with (go_at_call 54; refine (IA.out _).mono ?_; rintro e w4 ⟨rfl, hb⟩)
  have HB4 := hidi (HB3.out.trans ((((Below.refl w3.heap.size w3).drew).trans hb).mono HB3.out.size))
  clear e0 e1 hb hHeld
  have x4 := later_at HS.out.2.2.1 HB4.out
  have e0 := box_cells x4 0 _ rfl
  have e1 := box_cells x4 1 _ rfl
  clear x4
  refine hK.out _ _ ⟨e0, e1⟩ (fun hHeld => ?_)
  clear hK K
  (try simp only [Act.put, List.setIfInBounds_toArray, List.set_cons_zero, List.set_cons_succ])
  refine wpAnyH_take (i := 2) (oi := { dst := some 19, op := Go.Op.unOp Go.UnOp.not 4 (Go.Operand.tmp 18), type := 4, pos := "session.go:63", after := #[{ on := 1, ground := Go.Ground.data }], guard := none }) (v := .bool true) rfl (by kernel_rfl) (by kernel_rfl) (by kernel_rfl) (fun _ _ _ h => h) (Or.inl ⟨by kernel_rfl, by intro wq hSw; (try dsimp only at hSw); clear hHeld; go_simp⟩) hHeld ?_
  simp only [Act.put, List.setIfInBounds_toArray, List.set_cons_zero, List.set_cons_succ]
  refine wpAnyH_take (i := 3) (oi := { dst := some 20, op := Go.Op.move (Go.Operand.tmp 19), type := 4, pos := "session.go:63", after := #[{ on := 2, ground := Go.Ground.data }, { on := 1, ground := Go.Ground.chain }], guard := none }) (v := .bool true) rfl (by kernel_rfl) (by kernel_rfl) (by kernel_rfl) (fun _ _ _ h => h) (Or.inl ⟨by kernel_rfl, by intro wq hSw; (try dsimp only at hSw); clear hHeld; go_simp⟩) hHeld ?_
  simp only [Act.put, List.setIfInBounds_toArray, List.set_cons_zero, List.set_cons_succ]
  refine wpAnyH_take (i := 4) (oi := { dst := some 21, op := Go.Op.move (Go.Operand.tmp 6), type := 4, pos := "session.go:63", after := #[{ on := 3, ground := Go.Ground.guard }], guard := some (3, false) }) (v := undef) rfl (by kernel_rfl) (by kernel_rfl) (by kernel_rfl) (fun _ _ _ h => h) (Or.inr ⟨by kernel_rfl, rfl⟩) hHeld ?_
  simp only [Act.put, List.setIfInBounds_toArray, List.set_cons_zero, List.set_cons_succ]
  refine wpAnyH_take (i := 5) (oi := { dst := some 22, op := Go.Op.unOp Go.UnOp.not 4 (Go.Operand.tmp 21), type := 4, pos := "session.go:63", after := #[{ on := 4, ground := Go.Ground.data }, { on := 3, ground := Go.Ground.guard }], guard := some (3, false) }) (v := undef) rfl (by kernel_rfl) (by kernel_rfl) (by kernel_rfl) (fun _ _ _ h => h) (Or.inr ⟨by kernel_rfl, rfl⟩) hHeld ?_
  simp only [Act.put, List.setIfInBounds_toArray, List.set_cons_zero, List.set_cons_succ]
  refine wpAnyH_take (i := 6) (oi := { dst := some 23, op := Go.Op.move (Go.Operand.tmp 22), type := 4, pos := "session.go:63", after := #[{ on := 5, ground := Go.Ground.data }, { on := 3, ground := Go.Ground.chain }, { on := 3, ground := Go.Ground.guard }], guard := some (3, false) }) (v := undef) rfl (by kernel_rfl) (by kernel_rfl) (by kernel_rfl) (fun _ _ _ h => h) (Or.inr ⟨by kernel_rfl, rfl⟩) hHeld ?_
  simp only [Act.put, List.setIfInBounds_toArray, List.set_cons_zero, List.set_cons_succ]
  refine wpAnyH_take (i := 7) (oi := { dst := some 24, op := Go.Op.move (Go.Operand.tmp 0), type := 36, pos := "session.go:63", after := #[{ on := 6, ground := Go.Ground.guard }], guard := some (6, true) }) (v := undef) rfl (by kernel_rfl) (by kernel_rfl) (by kernel_rfl) (fun _ _ _ h => h) (Or.inr ⟨by kernel_rfl, rfl⟩) hHeld ?_
  simp only [Act.put, List.setIfInBounds_toArray, List.set_cons_zero, List.set_cons_succ]
  refine wpAnyH_take (i := 8) (oi := { dst := some 25, op := Go.Op.nilCheck (Go.Operand.tmp 24), type := 0, pos := "session.go:63", after := #[{ on := 7, ground := Go.Ground.data }, { on := 6, ground := Go.Ground.guard }], guard := some (6, true) }) (v := undef) rfl (by kernel_rfl) (by kernel_rfl) (by kernel_rfl) (fun _ _ _ h => h) (Or.inr ⟨by kernel_rfl, rfl⟩) hHeld ?_
  simp only [Act.put, List.setIfInBounds_toArray, List.set_cons_zero, List.set_cons_succ]
  refine wpAnyH_take (i := 9) (oi := { dst := some 26, op := Go.Op.fieldAddr 56 (Go.Operand.tmp 25) 4, type := 0, pos := "session.go:63", after := #[{ on := 8, ground := Go.Ground.data }, { on := 6, ground := Go.Ground.guard }], guard := some (6, true) }) (v := undef) rfl (by kernel_rfl) (by kernel_rfl) (by kernel_rfl) (fun _ _ _ h => h) (Or.inr ⟨by kernel_rfl, rfl⟩) hHeld ?_
  simp only [Act.put, List.setIfInBounds_toArray, List.set_cons_zero, List.set_cons_succ]
  refine wpAnyH_take (i := 10) (oi := { dst := some 27, op := Go.Op.load 53 (Go.Operand.tmp 26), type := 53, pos := "session.go:63", after := #[{ on := 9, ground := Go.Ground.data }, { on := 6, ground := Go.Ground.guard }], guard := some (6, true) }) (v := undef) rfl (by kernel_rfl) (by kernel_rfl) (by kernel_rfl) (fun _ _ _ h => h) (Or.inr ⟨by kernel_rfl, rfl⟩) hHeld ?_
  simp only [Act.put, List.setIfInBounds_toArray, List.set_cons_zero, List.set_cons_succ]
  refine wpAnyH_take (i := 11) (oi := { dst := some 28, op := Go.Op.call { callee := Go.Callee.builtin Go.Builtin.len, args := #[Go.Operand.tmp 27], argTypes := #[53] }, type := 3, pos := "session.go:63", after := #[{ on := 10, ground := Go.Ground.data }, { on := 6, ground := Go.Ground.chain }, { on := 6, ground := Go.Ground.guard }], guard := some (6, true) }) (v := undef) rfl (by kernel_rfl) (by kernel_rfl) (by kernel_rfl) (fun _ _ _ h => h) (Or.inr ⟨by kernel_rfl, rfl⟩) hHeld ?_
  simp only [Act.put, List.setIfInBounds_toArray, List.set_cons_zero, List.set_cons_succ]
  refine wpAnyH_take (i := 12) (oi := { dst := some 29, op := Go.Op.move (Go.Operand.tmp 0), type := 36, pos := "session.go:63", after := #[{ on := 6, ground := Go.Ground.guard }], guard := some (6, true) }) (v := undef) rfl (by kernel_rfl) (by kernel_rfl) (by kernel_rfl) (fun _ _ _ h => h) (Or.inr ⟨by kernel_rfl, rfl⟩) hHeld ?_
  simp only [Act.put, List.setIfInBounds_toArray, List.set_cons_zero, List.set_cons_succ]
  refine wpAnyH_take (i := 13) (oi := { dst := some 30, op := Go.Op.nilCheck (Go.Operand.tmp 29), type := 0, pos := "session.go:63", after := #[{ on := 12, ground := Go.Ground.data }, { on := 6, ground := Go.Ground.guard }], guard := some (6, true) }) (v := undef) rfl (by kernel_rfl) (by kernel_rfl) (by kernel_rfl) (fun _ _ _ h => h) (Or.inr ⟨by kernel_rfl, rfl⟩) hHeld ?_
  simp only [Act.put, List.setIfInBounds_toArray, List.set_cons_zero, List.set_cons_succ]
  refine wpAnyH_take (i := 14) (oi := { dst := some 31, op := Go.Op.fieldAddr 56 (Go.Operand.tmp 30) 3, type := 0, pos := "session.go:63", after := #[{ on := 13, ground := Go.Ground.data }, { on := 6, ground := Go.Ground.guard }], guard := some (6, true) }) (v := undef) rfl (by kernel_rfl) (by kernel_rfl) (by kernel_rfl) (fun _ _ _ h => h) (Or.inr ⟨by kernel_rfl, rfl⟩) hHeld ?_
  simp only [Act.put, List.setIfInBounds_toArray, List.set_cons_zero, List.set_cons_succ]
  refine wpAnyH_take (i := 15) (oi := { dst := some 32, op := Go.Op.load 3 (Go.Operand.tmp 31), type := 3, pos := "session.go:63", after := #[{ on := 14, ground := Go.Ground.data }, { on := 6, ground := Go.Ground.guard }], guard := some (6, true) }) (v := undef) rfl (by kernel_rfl) (by kernel_rfl) (by kernel_rfl) (fun _ _ _ h => h) (Or.inr ⟨by kernel_rfl, rfl⟩) hHeld ?_
  simp only [Act.put, List.setIfInBounds_toArray, List.set_cons_zero, List.set_cons_succ]
  refine wpAnyH_take (i := 16) (oi := { dst := some 33, op := Go.Op.binOp Go.BinOp.geq 3 (Go.Operand.tmp 28) (Go.Operand.tmp 32) 3, type := 4, pos := "session.go:63", after := #[{ on := 11, ground := Go.Ground.data }, { on := 15, ground := Go.Ground.data }, { on := 6, ground := Go.Ground.guard }], guard := some (6, true) }) (v := undef) rfl (by kernel_rfl) (by kernel_rfl) (by kernel_rfl) (fun _ _ _ h => h) (Or.inr ⟨by kernel_rfl, rfl⟩) hHeld ?_
  simp only [Act.put, List.setIfInBounds_toArray, List.set_cons_zero, List.set_cons_succ]
  refine wpAnyH_take (i := 17) (oi := { dst := some 34, op := Go.Op.pick (Go.Operand.tmp 23) (Go.Operand.tmp 33) (Go.Operand.const (Go.Value.bool false)), type := 4, pos := "session.go:63", after := #[{ on := 6, ground := Go.Ground.data }, { on := 16, ground := Go.Ground.data }, { on := 3, ground := Go.Ground.guard }], guard := some (3, false) }) (v := undef) rfl (by kernel_rfl) (by kernel_rfl) (by kernel_rfl) (fun _ _ _ h => h) (Or.inr ⟨by kernel_rfl, rfl⟩) hHeld ?_
  simp only [Act.put, List.setIfInBounds_toArray, List.set_cons_zero, List.set_cons_succ]
  refine wpAnyH_take (i := 18) (oi := { dst := some 35, op := Go.Op.pick (Go.Operand.tmp 20) (Go.Operand.const (Go.Value.bool true)) (Go.Operand.tmp 34), type := 4, pos := "session.go:63", after := #[{ on := 3, ground := Go.Ground.data }, { on := 17, ground := Go.Ground.data }], guard := none }) (v := .bool true) rfl (by kernel_rfl) (by kernel_rfl) (by kernel_rfl) (fun _ _ _ h => h) (Or.inl ⟨by kernel_rfl, by intro wq hSw; (try dsimp only at hSw); clear hHeld; go_simp⟩) hHeld ?_
  simp only [Act.put, List.setIfInBounds_toArray, List.set_cons_zero, List.set_cons_succ]
  refine wpAnyH_done (by kernel_rfl) ?_ _
  go_wp2_with fail
  go_ret
  exact ⟨rfl, HS.out.2.2.2.trans (HB4.out.mono HS.out.2.2.2.size)⟩
end
end Go.Proofs.YtmihpmmkkklpfaaGreatDoor
namespace Go.Proofs.YtmihpmmkkklpfaaGreatDoor
open Go Go.RowKit Go.Shelf Go.Maps Go.Sort
set_option linter.unusedSimpArgs false
set_option linter.unusedVariables false
/-! ### packet.Copy of a message alone -/
theorem info5 : (Tryz.prog.info? 5).map (fun i => (i.zero, i.size, i.bytes)) = some (some (.int .u8 0), 1, 1) := by kernel_rfl
theorem info3 : (Tryz.prog.info? 3).map (fun i => (i.zero, i.size, i.bytes)) = some (some (.int .i64 0), 1, 8) := by kernel_rfl
theorem info9 : (Tryz.prog.info? 9).map (fun i => (i.zero, i.size, i.bytes)) = some (some (.string ⟨#[]⟩), 1, 16) := by kernel_rfl
theorem renew78_nil (w : World) : Calls Tryz.prog 78 #[.slice none 0 0] w fun e w' => e = .returned (.slice none 0 0) ∧ w' = w := by
  obtain ⟨i0, hi, -⟩ := info_parts info5
  have hr := run_append_owned_none (P := Tryz.prog) w 0 43 43 5 i0 1 Tryz.underlying43 hi (.slice none 0 0) 0 [] (World.ownsRow_nil _ _ _ _)
  go_enter Tryz.func78, Tryz.ntmps78
  go_wp2_with (at_builtin; refine Lib.wpList_append_run w rfl _ _ 43 43 rfl _ _ rfl rfl _ _ hr ?_)
  go_ret
  exact ⟨rfl, rfl⟩
theorem renew79_nil (w : World) : Calls Tryz.prog 79 #[.slice none 0 0] w fun e w' => e = .returned (.slice none 0 0) ∧ w' = w := by
  obtain ⟨i0, hi, -⟩ := info_parts info42
  have hr := run_append_owned_none (P := Tryz.prog) w 0 27 27 42 i0 1 Tryz.underlying27 hi (.slice none 0 0) 0 [] (World.ownsRow_nil _ _ _ _)
  go_enter Tryz.func79, Tryz.ntmps79
  go_wp2_with (at_builtin; refine Lib.wpList_append_run w rfl _ _ 27 27 rfl _ _ rfl rfl _ _ hr ?_)
  go_ret
  exact ⟨rfl, rfl⟩
theorem renew80_nil (w : World) : Calls Tryz.prog 80 #[.slice none 0 0] w fun e w' => e = .returned (.slice none 0 0) ∧ w' = w := by
  obtain ⟨i0, hi, -⟩ := info_parts info3
  have hr := run_append_owned_none (P := Tryz.prog) w 0 32 32 3 i0 1 Tryz.underlying32 hi (.slice none 0 0) 0 [] (World.ownsRow_nil _ _ _ _)
  go_enter Tryz.func80, Tryz.ntmps80
  go_wp2_with (at_builtin; refine Lib.wpList_append_run w rfl _ _ 32 32 rfl _ _ rfl rfl _ _ hr ?_)
  go_ret
  exact ⟨rfl, rfl⟩
theorem renew81_nil (w : World) : Calls Tryz.prog 81 #[.slice none 0 0] w fun e w' => e = .returned (.slice none 0 0) ∧ w' = w := by
  obtain ⟨i0, hi, -⟩ := info_parts info9
  have hr := run_append_owned_none (P := Tryz.prog) w 0 64 64 9 i0 1 Tryz.underlying64 hi (.slice none 0 0) 0 [] (World.ownsRow_nil _ _ _ _)
  go_enter Tryz.func81, Tryz.ntmps81
  go_wp2_with (at_builtin; refine Lib.wpList_append_run w rfl _ _ 64 64 rfl _ _ rfl rfl _ _ hr ?_)
  go_ret
  exact ⟨rfl, rfl⟩
theorem renew78_any {w : World} {v : Value} {xs : List Int} (h : PBi w v xs) : Calls Tryz.prog 78 #[v] w fun e w' => ∃ v', e = .returned v' ∧ PB w' v' xs ∧ Below w.heap.size w w' := by
  rcases h with ⟨rfl, rfl⟩ | ⟨a, n, c, rfl, hl, hn, hc⟩
  · refine (renew78_nil w).mono ?_
    rintro e w' ⟨rfl, rfl⟩
    exact ⟨_, rfl, .inl ⟨rfl, rfl⟩, Below.refl _ _⟩
  · obtain ⟨i0, hi, hz0, hz1, hz2⟩ := info_parts info5
    obtain ⟨v', w', hr, h2, h3, h4, h5⟩ := run_append_own_at (P := Tryz.prog) w w.heap.size 43 43 5 i0 (.int .u8 0) 1 1 Tryz.underlying43 hi hz0 hz1 hz2 rfl (by omega) (.slice none 0 0) 0 [] (World.ownsRow_nil _ _ _ _) a n c (xs.map (Value.int .u8)) (by simp [hl]) (fun j u hu => by
      rw [List.getElem?_map] at hu
      obtain ⟨x, hx, rfl⟩ := Option.map_eq_some_iff.1 hu
      have hj : j < xs.length := (List.getElem?_eq_some_iff.1 hx).1
      rw [hc j (by omega)]
      simp [List.getD, hx]) (by simp [Value.oneCell']) (by unfold maxLen; omega) (by omega) (Nat.le_refl _)
    have hb : Below w.heap.size w w' := ⟨h3.os, h3.tape, h3.output, h3.size, fun j hj => h3.block j hj (by simp [Value.ownBlock])⟩
    have hp : PB w' v' xs := by
      rcases h2.2 with ⟨q1, q2⟩ | ⟨g, cap, cur, q1, q2, q3, q4, q5, q6, q7⟩
      · refine .inl ⟨q1, ?_⟩
        exact List.length_eq_zero_iff.1 (by omega)
      · refine .inr ⟨⟨g, 0, none⟩, n, cap, by rw [q1]; simp, hl, hn, fun i hi => ?_, fun _ => ⟨cur, _, q3⟩⟩
        have hi' : i < xs.length := by omega
        have := congrArg (fun l => l[i]?) q7
        simp only [List.getElem?_take, Nat.mul_one, Nat.zero_add, if_pos hi, List.nil_append, List.getElem?_map, List.getElem?_eq_getElem hi', Option.map_some] at this
        rw [addr_at]
        simp [World.cell?, q3, List.getD, List.getElem?_eq_getElem hi']
        simpa using this
    have HP := hidi (And.intro hp hb)
    obtain ⟨a', n', c', rfl⟩ := hp.sl
    clear hc hl h2 h3 h4 h5 hb hp
    go_enter Tryz.func78, Tryz.ntmps78
    go_wp2_with (at_builtin; refine Lib.wpList_append_run w rfl _ _ 43 43 rfl _ _ rfl rfl _ _ hr ?_)
    go_ret
    exact ⟨_, rfl, HP.out.1, HP.out.2⟩
theorem kb_set66 {w : World} {b i : Nat} {v : Value} {cs : Array Value} {fz : Nat × Nat} (h : w.heap[b]? = some (.cells cs 66 fz)) : Kb w (w.setCell ⟨b, i, none⟩ v) := Kb.ch (ch_set b i v) (fun j hj cs' fz' y => by
  have hj' : j = b := hj
  rw [hj', h] at y
  cases y)
theorem kb_row66 {w : World} {b : Nat} {cells : Array Value} {cs : Array Value} {fz : Nat × Nat} (h : w.heap[b]? = some (.cells cs 66 fz)) : Kb w (w.setRow b cells) := Kb.ch (ch_row b cells) (fun j hj cs' fz' y => by
  have hj' : j = b := hj
  rw [hj', h] at y
  cases y)
set_option maxRecDepth 100000 in
set_option maxHeartbeats 4000000 in
theorem copy_pub {W : World} {t : ByteArray} {ad : Option Addr} {cn c : Nat} {q : Int} {r : Bool} {xs : List Int} (h : PBi W (.slice ad cn c) xs) : Calls Tryz.prog 50 #[.agg (pkc 3 false t (.slice ad cn c) q r 0)] W fun e w' => ∃ a' n' c', e = .returned (.agg (pkc 3 false t (.slice a' n' c') q r 0)) ∧ PB w' (.slice a' n' c') xs ∧ Below W.heap.size W w' := by
  obtain ⟨w1, hw1⟩ : ∃ w1, w1 = (W.alloc (.cells #[.int .i64 3, .int .i64 0, .bool false, .int .i64 0, .string ⟨#[]⟩, .bool false, .string ⟨#[]⟩, .slice none 0 0, .int .i64 0, .bool false, .bool false, .string ⟨#[]⟩, .bool false, .slice none 0 0, .bool false, .int .i64 0, .bool false, .string t, .slice ad cn c, .int .i64 q, .bool r, .int .i64 0, .slice none 0 0, .slice none 0 0, .slice none 0 0] 66)).alloc (.cells #[.int .i64 0, .int .i64 0, .bool false, .int .i64 0, .string ⟨#[]⟩, .bool false, .string ⟨#[]⟩, .slice none 0 0, .int .i64 0, .bool false, .bool false, .string ⟨#[]⟩, .bool false, .slice none 0 0, .bool false, .int .i64 0, .bool false, .string ⟨#[]⟩, .slice none 0 0, .int .i64 0, .bool false, .int .i64 0, .slice none 0 0, .slice none 0 0, .slice none 0 0] 66) := ⟨_, rfl⟩
  have T := two_alloc W (.cells #[.int .i64 3, .int .i64 0, .bool false, .int .i64 0, .string ⟨#[]⟩, .bool false, .string ⟨#[]⟩, .slice none 0 0, .int .i64 0, .bool false, .bool false, .string ⟨#[]⟩, .bool false, .slice none 0 0, .bool false, .int .i64 0, .bool false, .string t, .slice ad cn c, .int .i64 q, .bool r, .int .i64 0, .slice none 0 0, .slice none 0 0, .slice none 0 0] 66) (.cells #[.int .i64 0, .int .i64 0, .bool false, .int .i64 0, .string ⟨#[]⟩, .bool false, .string ⟨#[]⟩, .slice none 0 0, .int .i64 0, .bool false, .bool false, .string ⟨#[]⟩, .bool false, .slice none 0 0, .bool false, .int .i64 0, .bool false, .string ⟨#[]⟩, .slice none 0 0, .int .i64 0, .bool false, .int .i64 0, .slice none 0 0, .slice none 0 0, .slice none 0 0] 66)
  have b1 := two_below W (.cells #[.int .i64 3, .int .i64 0, .bool false, .int .i64 0, .string ⟨#[]⟩, .bool false, .string ⟨#[]⟩, .slice none 0 0, .int .i64 0, .bool false, .bool false, .string ⟨#[]⟩, .bool false, .slice none 0 0, .bool false, .int .i64 0, .bool false, .string t, .slice ad cn c, .int .i64 q, .bool r, .int .i64 0, .slice none 0 0, .slice none 0 0, .slice none 0 0] 66) (.cells #[.int .i64 0, .int .i64 0, .bool false, .int .i64 0, .string ⟨#[]⟩, .bool false, .string ⟨#[]⟩, .slice none 0 0, .int .i64 0, .bool false, .bool false, .string ⟨#[]⟩, .bool false, .slice none 0 0, .bool false, .int .i64 0, .bool false, .string ⟨#[]⟩, .slice none 0 0, .int .i64 0, .bool false, .int .i64 0, .slice none 0 0, .slice none 0 0, .slice none 0 0] 66)
  rw [← hw1] at T b1
  have h1 : True := trivial
  have e7 : w1.cell? ⟨W.heap.size, 7, none⟩ = some (.slice none 0 0) := box_cells T.1 7 _ rfl
  have e13 : w1.cell? ⟨W.heap.size, 13, none⟩ = some (.slice none 0 0) := box_cells T.1 13 _ rfl
  have fz := fun k => box_frozen T.1 k
  have fy := fun k => box_frozen T.2.1 k
  have HT := hidi (And.intro T (And.intro b1 h1))
  have R1 := hidi renew78_nil
  have R2 := hidi renew79_nil
  have R3 := hidi renew80_nil
  have R4 := hidi renew81_nil
  unfold pkc
  clear T b1 h1
  go_enter Tryz.func50, Tryz.ntmps50
  go_upto_region 1 with fail
  rw [← hw1]
  clear hw1
  go_upto_region 3 with (go_at_call 78; refine (R1.out _).mono ?_; rintro e w' ⟨rfl, he⟩; obtain rfl := he.symm)
  obtain ⟨w2, hw2⟩ : ∃ w2, w2 = (w1.setCell ⟨W.heap.size, 7, none⟩ (.slice none 0 0)).setCell ⟨W.heap.size, 13, none⟩ (.slice none 0 0) := ⟨_, rfl⟩
  rw [← hw2]
  have p2 : w2.heap[W.heap.size]? = some (.cells #[.int .i64 3, .int .i64 0, .bool false, .int .i64 0, .string ⟨#[]⟩, .bool false, .string ⟨#[]⟩, .slice none 0 0, .int .i64 0, .bool false, .bool false, .string ⟨#[]⟩, .bool false, .slice none 0 0, .bool false, .int .i64 0, .bool false, .string t, .slice ad cn c, .int .i64 q, .bool r, .int .i64 0, .slice none 0 0, .slice none 0 0, .slice none 0 0] 66 (0, 0)) := by rw [hw2, heap_set (heap_set HT.out.1.1 _) _]; rfl
  have y2 : w2.heap[W.heap.size + 1]? = some (.cells #[.int .i64 0, .int .i64 0, .bool false, .int .i64 0, .string ⟨#[]⟩, .bool false, .string ⟨#[]⟩, .slice none 0 0, .int .i64 0, .bool false, .bool false, .string ⟨#[]⟩, .bool false, .slice none 0 0, .bool false, .int .i64 0, .bool false, .string ⟨#[]⟩, .slice none 0 0, .int .i64 0, .bool false, .int .i64 0, .slice none 0 0, .slice none 0 0, .slice none 0 0] 66 (0, 0)) := by rw [hw2, heap_set_ne _ (by omega), heap_set_ne _ (by omega)]; exact HT.out.1.2.1
  have b2 : Below W.heap.size W w2 := by rw [hw2]; exact (HT.out.2.1.setCell (Nat.le_refl _) _).setCell (Nat.le_refl _) _
  have h2 : PBi w2 (.slice ad cn c) xs := h.below b2
  clear hw2 e7 e13 fz fy
  have e18 : w2.cell? ⟨W.heap.size, 18, none⟩ = some (.slice ad cn c) := box_cells p2 18 _ rfl
  have H2 := hidi (And.intro p2 (And.intro y2 b2))
  have RP := hidi (renew78_any h2)
  clear p2 y2 b2 h2 h
  as_aux_lemma =>
  go_wp2_with fail
  go_must (go_at_call 78)
  refine RP.out.mono ?_
  clear RP e18
  rintro e w3 ⟨v', rfl, hp3, hb3⟩
  have HP3 := hidi hp3
  obtain ⟨a', n', c', rfl⟩ := hp3.sl
  clear hp3
  have p3 := later_at H2.out.1 hb3
  have f3 := box_frozen p3 18
  have g3 : w3.cell? ⟨W.heap.size, 18, none⟩ = some (.slice ad cn c) := box_cells p3 18 _ rfl
  have H3 := hidi (And.intro p3 (And.intro (later_at H2.out.2.1 hb3) (H2.out.2.2.trans (hb3.mono H2.out.2.2.size))))
  clear p3 hb3
  go_upto_region 4 with fail
  obtain ⟨w4, hw4⟩ : ∃ w4, w4 = w3.setCell ⟨W.heap.size, 18, none⟩ (.slice a' n' c') := ⟨_, rfl⟩
  rw [← hw4]
  have p4 : w4.heap[W.heap.size]? = some (.cells #[.int .i64 3, .int .i64 0, .bool false, .int .i64 0, .string ⟨#[]⟩, .bool false, .string ⟨#[]⟩, .slice none 0 0, .int .i64 0, .bool false, .bool false, .string ⟨#[]⟩, .bool false, .slice none 0 0, .bool false, .int .i64 0, .bool false, .string t, .slice a' n' c', .int .i64 q, .bool r, .int .i64 0, .slice none 0 0, .slice none 0 0, .slice none 0 0] 66 (0, 0)) := by rw [hw4, heap_set H3.out.1 _]; rfl
  have y4 : w4.heap[W.heap.size + 1]? = some (.cells #[.int .i64 0, .int .i64 0, .bool false, .int .i64 0, .string ⟨#[]⟩, .bool false, .string ⟨#[]⟩, .slice none 0 0, .int .i64 0, .bool false, .bool false, .string ⟨#[]⟩, .bool false, .slice none 0 0, .bool false, .int .i64 0, .bool false, .string ⟨#[]⟩, .slice none 0 0, .int .i64 0, .bool false, .int .i64 0, .slice none 0 0, .slice none 0 0, .slice none 0 0] 66 (0, 0)) := by rw [hw4, heap_set_ne _ (by omega)]; exact H3.out.2.1
  have b4 : Below W.heap.size W w4 := by rw [hw4]; exact H3.out.2.2.setCell (Nat.le_refl _) _
  have HP4 := hidi (show PB w4 (.slice a' n' c') xs from by rw [hw4]; exact HP3.out.keep (kb_set66 H3.out.1))
  clear hw4 f3 g3 HP3
  as_aux_lemma =>
  have e22 : w4.cell? ⟨W.heap.size, 22, none⟩ = some (.slice none 0 0) := box_cells p4 22 _ rfl
  have e23 : w4.cell? ⟨W.heap.size, 23, none⟩ = some (.slice none 0 0) := box_cells p4 23 _ rfl
  have e24 : w4.cell? ⟨W.heap.size, 24, none⟩ = some (.slice none 0 0) := box_cells p4 24 _ rfl
  have fz := fun k => box_frozen p4 k
  go_upto_region 7 with (first | (go_at_call 79; refine (R2.out _).mono ?_; rintro e w' ⟨rfl, he⟩; obtain rfl := he.symm) | (go_at_call 80; refine (R3.out _).mono ?_; rintro e w' ⟨rfl, he⟩; obtain rfl := he.symm) | (go_at_call 81; refine (R4.out _).mono ?_; rintro e w' ⟨rfl, he⟩; obtain rfl := he.symm))
  obtain ⟨w5, hw5⟩ : ∃ w5, w5 = ((w4.setCell ⟨W.heap.size, 22, none⟩ (.slice none 0 0)).setCell ⟨W.heap.size, 23, none⟩ (.slice none 0 0)).setCell ⟨W.heap.size, 24, none⟩ (.slice none 0 0) := ⟨_, rfl⟩
  rw [← hw5]
  have p5 : w5.heap[W.heap.size]? = some (.cells #[.int .i64 3, .int .i64 0, .bool false, .int .i64 0, .string ⟨#[]⟩, .bool false, .string ⟨#[]⟩, .slice none 0 0, .int .i64 0, .bool false, .bool false, .string ⟨#[]⟩, .bool false, .slice none 0 0, .bool false, .int .i64 0, .bool false, .string t, .slice a' n' c', .int .i64 q, .bool r, .int .i64 0, .slice none 0 0, .slice none 0 0, .slice none 0 0] 66 (0, 0)) := by rw [hw5, heap_set (heap_set (heap_set p4 _) _) _]; rfl
  have y5 : w5.heap[W.heap.size + 1]? = some (.cells #[.int .i64 0, .int .i64 0, .bool false, .int .i64 0, .string ⟨#[]⟩, .bool false, .string ⟨#[]⟩, .slice none 0 0, .int .i64 0, .bool false, .bool false, .string ⟨#[]⟩, .bool false, .slice none 0 0, .bool false, .int .i64 0, .bool false, .string ⟨#[]⟩, .slice none 0 0, .int .i64 0, .bool false, .int .i64 0, .slice none 0 0, .slice none 0 0, .slice none 0 0] 66 (0, 0)) := by rw [hw5, heap_set_ne _ (by omega), heap_set_ne _ (by omega), heap_set_ne _ (by omega)]; exact y4
  have b5 : Below W.heap.size W w5 := by rw [hw5]; exact ((b4.setCell (Nat.le_refl _) _).setCell (Nat.le_refl _) _).setCell (Nat.le_refl _) _
  have HP5 := hidi (show PB w5 (.slice a' n' c') xs from by rw [hw5]; exact HP4.out.keep (((kb_set66 p4).trans (kb_set66 (heap_set p4 _))).trans (kb_set66 (heap_set (heap_set p4 _) _))))
  clear hw5 e22 e23 e24 fz p4 y4 b4 HP4
  have H5 := hidi (And.intro p5 (And.intro y5 b5))
  clear p5 y5 b5 R1 R2 R3 R4 HT H2 H3
  as_aux_lemma =>
  go_wp2_with (first | (refine wpList_load_row rfl 66 _ rfl W.heap.size rfl 66 (pkc 3 false t (.slice a' n' c') q r 0) _ _ H5.out.1 Tryz.underlying66 rfl pkc_info ?_) | (refine wpList_store_row rfl 66 _ _ rfl (W.heap.size + 1) (pkc 3 false t (.slice a' n' c') q r 0) rfl rfl 66 _ H5.out.2.1 pkc_info rfl (pkc_one _ _ _ _ _ _ _ _ _) ?_))
  refine bodyPost_ret (results_cell_row rfl _ _ _ _ _ _ _ rfl (setRow_at H5.out.2.1) Tryz.underlying66 rfl (by kernel_rfl)) rfl ⟨a', n', c', rfl, HP5.out.keep (kb_row66 H5.out.2.1), below_row H5.out.2.2 (by omega) _⟩
end Go.Proofs.YtmihpmmkkklpfaaGreatDoor
