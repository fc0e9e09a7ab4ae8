import Derived.Test.YtmihpmmkkklpfaaGreatDoorBOe
import Derived.Test.YtmihpmmkkklpfaaGreatDoorBSs
import Derived.Test.YtmihpmmkkklpfaaGreatDoorBSq
namespace Go.Proofs.YtmihpmmkkklpfaaGreatDoor
open Go Go.RowKit Go.Maps
set_option linter.unusedSimpArgs false
set_option linter.unusedVariables false
/-! ### Numbers that came in -/
theorem okI5 : okI 5 := okI_nat 5 (by omega)
theorem okI0 : okI 0 := okI_nat 0 (by omega)
section
variable {W : World} {sb wb : Nat} {k : ByteArray} {la : Bool} {mo : Int} {sv nv : Value}
set_option maxRecDepth 100000 in
set_option maxHeartbeats 1000000 in
theorem note_new (h : SsAt W sb wb k la mo sv (.map none)) :
    Calls Tryz.prog 31 #[.pointer (some ⟨sb, 0, none⟩), .int .i64 5] W fun e w' => e = .returned (.bool true) ∧ ∃ mb, SsAt w' sb wb k la mo sv (.map (some mb)) ∧ MI w' (.map (some mb)) 1 (setF (fun _ => none) 5 (some (.agg #[]))) ∧ W.heap.size ≤ mb ∧ Ch (fun j => j = sb) W w' := by
  have hl := (MI.nil W).look2 (t := 54) Tryz.underlying54 zero88 (k := 5) okI5
  simp only [Option.getD_none, Option.isSome_none] at hl
  have a5 : W.cell? ⟨sb, 5, none⟩ = some (.map none) := box_cells h 5 _ rfl
  have hsl : sb < W.heap.size := (Array.getElem?_eq_some_iff.1 h).1
  obtain ⟨w1, hw1⟩ : ∃ w1, w1 = W.alloc (.cells #[] 88) := ⟨_, rfl⟩
  have b1 : Below W.heap.size W (W.alloc (.cells #[] 88)) := (Below.refl _ _).alloc (Nat.le_refl _) _
  rw [← hw1] at b1
  have h1 := h.below b1
  have c5 : w1.cell? ⟨sb, 5, none⟩ = some (.map none) := box_cells h1 5 _ rfl
  have f5 : w1.frozen? ⟨sb, 5, none⟩ = false := box_frozen h1 5
  have hsl1 : sb < w1.heap.size := (Array.getElem?_eq_some_iff.1 h1).1
  have heq := eqn54n
  have hmk := mk54
  obtain ⟨w2, hw2⟩ : ∃ w2, w2 = (w1.setCell ⟨sb, 5, none⟩ (.map (some w1.heap.size))).alloc (.map #[] 0) := ⟨_, rfl⟩
  have hsz : (w1.setCell ⟨sb, 5, none⟩ (.map (some w1.heap.size))).heap.size = w1.heap.size := by simp [World.setCell]
  have s2 : SsAt w2 sb wb k la mo sv (.map (some w1.heap.size)) := by
    rw [hw2]
    unfold SsAt
    rw [heap_alloc_old _ _ (by rw [hsz]; exact hsl1), heap_set h1]
    rfl
  have m2 : MI w2 (.map (some w1.heap.size)) 0 (fun _ => none) := by
    rw [hw2]
    have := MI.made (w1.setCell ⟨sb, 5, none⟩ (.map (some w1.heap.size)))
    rw [hsz] at this
    exact this
  have c2 : Ch (fun j => j = sb) W w2 := by
    rw [hw2]
    exact (Below.ch (S := fun j => j = sb) b1).then ((ch_set sb 5 _).then (ch_alloc _ _ _))
  obtain ⟨w3, k1, k2, k3⟩ := m2.put (t := 54) Tryz.underlying54 (k := 5) okI5 (.agg #[]) (by unfold maxLen; omega)
  have g5 : w2.cell? ⟨sb, 5, none⟩ = some (.map (some w1.heap.size)) := box_cells s2 5 _ rfl
  have hms := b1.size
  have s3 : SsAt w3 sb wb k la mo sv (.map (some w1.heap.size)) := (k3.block sb (Array.getElem?_eq_some_iff.1 s2).1 (by omega)).trans s2
  have HR := hidi (And.intro s3 (And.intro k2 (And.intro hms (c2.trans k3 (fun j hj e => absurd hj (by omega))))))
  clear h h1 b1 s2 m2 c2 k2 k3 s3 hms
  go_enter Tryz.func31, Tryz.ntmps31
  go_upto_region 2 with fail
  rw [← hw1]
  clear hw1 hl a5
  go_upto_region 6 with fail
  rw [← hw2]
  clear hw2 c5 f5 heq hmk
  go_wp2_with fail
  go_ret
  exact ⟨rfl, _, HR.out.1, HR.out.2.1, HR.out.2.2.1, HR.out.2.2.2⟩
set_option maxRecDepth 100000 in
set_option maxHeartbeats 1000000 in
theorem note_has {n : Nat} {f : Int → Option Value} (h : SsAt W sb wb k la mo sv nv) (hm : MI W nv n f) (id : Int) (hid : okI id) (hf : f id = some (.agg #[])) :
    Calls Tryz.prog 31 #[.pointer (some ⟨sb, 0, none⟩), .int .i64 id] W fun e w' => e = .returned (.bool false) ∧ Below W.heap.size W w' := by
  have hl := hm.look2 (t := 54) Tryz.underlying54 zero88 (k := id) hid
  rw [hf] at hl
  simp only [Option.getD_some, Option.isSome_some] at hl
  have a5 : W.cell? ⟨sb, 5, none⟩ = some nv := box_cells h 5 _ rfl
  clear h hm hf
  go_enter Tryz.func31, Tryz.ntmps31
  go_wp2_with fail
  go_ret
  exact ⟨rfl, (Below.refl _ _).alloc (Nat.le_refl _) _⟩
set_option maxRecDepth 100000 in
set_option maxHeartbeats 1000000 in
theorem note_zero (h : SsAt W sb wb k la mo sv (.map none)) :
    Calls Tryz.prog 31 #[.pointer (some ⟨sb, 0, none⟩), .int .i64 0] W fun e w' => e = .returned (.bool false) ∧ Below W.heap.size W w' := by
  have hl := (MI.nil W).look2 (t := 54) Tryz.underlying54 zero88 (k := 0) okI0
  simp only [Option.getD_none, Option.isSome_none] at hl
  have a5 : W.cell? ⟨sb, 5, none⟩ = some (.map none) := box_cells h 5 _ rfl
  clear h
  go_enter Tryz.func31, Tryz.ntmps31
  go_wp2_with fail
  go_ret
  exact ⟨rfl, (Below.refl _ _).alloc (Nat.le_refl _) _⟩
set_option maxRecDepth 100000 in
set_option maxHeartbeats 1000000 in
theorem release_has {mb : Nat} {f : Int → Option Value} (h : SsAt W sb wb k la mo sv (.map (some mb))) (hm : MI W (.map (some mb)) 1 f) (id : Int) (hid : okI id) (hf : f id = some (.agg #[])) :
    Calls Tryz.prog 32 #[.pointer (some ⟨sb, 0, none⟩), .int .i64 id] W fun e w' => e = .returned (.bool true) ∧ SsAt w' sb wb k la mo sv (.map none) ∧ Ch (fun j => j = sb ∨ j = mb) W w' := by
  have hl := hm.look2 (t := 54) Tryz.underlying54 zero88 (k := id) hid
  rw [hf] at hl
  simp only [Option.getD_some, Option.isSome_some] at hl
  have a5 : W.cell? ⟨sb, 5, none⟩ = some (.map (some mb)) := box_cells h 5 _ rfl
  have hne : sb ≠ mb := fun e => by obtain ⟨es, cl, q⟩ := hm.block (b := mb) rfl; rw [e] at h; unfold SsAt at h; rw [q] at h; cases h
  have hsl : sb < W.heap.size := (Array.getElem?_eq_some_iff.1 h).1
  obtain ⟨w1, hw1⟩ : ∃ w1, w1 = W.alloc (.cells #[] 88) := ⟨_, rfl⟩
  have b1 : Below W.heap.size W (W.alloc (.cells #[] 88)) := (Below.refl _ _).alloc (Nat.le_refl _) _
  rw [← hw1] at b1
  have h1 := h.below b1
  have c5 : w1.cell? ⟨sb, 5, none⟩ = some (.map (some mb)) := box_cells h1 5 _ rfl
  have WO := hidi (without58 (hm.keep (fun b e => b1.block b (hm.lt e))) id hid hf)
  have hsl1 : sb < w1.heap.size := (Array.getElem?_eq_some_iff.1 h1).1
  have H := hidi (And.intro h1 b1)
  clear h h1 b1 hm hf
  go_enter Tryz.func32, Tryz.ntmps32
  go_upto_region 2 with fail
  rw [← hw1]
  clear hw1 hl a5
  go_wp2_with fail
  go_must (go_at_call 58)
  refine WO.out.mono ?_
  clear WO
  rintro e w2 ⟨rfl, hc⟩
  have h2 : SsAt w2 sb wb k la mo sv (.map (some mb)) := (hc.block sb hsl1 hne).trans H.out.1
  have f5 := box_frozen h2 5
  have g5 : w2.cell? ⟨sb, 5, none⟩ = some (.map (some mb)) := box_cells h2 5 _ rfl
  have HH := hidi (And.intro h2 ((Below.ch (S := fun j => j = sb ∨ j = mb) H.out.2).then (hc.mono (fun j _ q => .inr q))))
  clear h2 hc c5
  go_wp2_with fail
  go_ret
  exact ⟨rfl, set5 HH.out.1 _, HH.out.2.trans (ch_set sb 5 _) (fun j _ q => .inl q)⟩
set_option maxRecDepth 100000 in
set_option maxHeartbeats 1000000 in
theorem release_nil (h : SsAt W sb wb k la mo sv (.map none)) (id : Int) (hid : okI id) :
    Calls Tryz.prog 32 #[.pointer (some ⟨sb, 0, none⟩), .int .i64 id] W fun e w' => e = .returned (.bool false) ∧ SsAt w' sb wb k la mo sv (.map none) ∧ Ch (fun j => j = sb) W w' := by
  have hl := (MI.nil W).look2 (t := 54) Tryz.underlying54 zero88 (k := id) hid
  simp only [Option.getD_none, Option.isSome_none] at hl
  have a5 : W.cell? ⟨sb, 5, none⟩ = some (.map none) := box_cells h 5 _ rfl
  have hsl : sb < W.heap.size := (Array.getElem?_eq_some_iff.1 h).1
  obtain ⟨w1, hw1⟩ : ∃ w1, w1 = W.alloc (.cells #[] 88) := ⟨_, rfl⟩
  have b1 : Below W.heap.size W (W.alloc (.cells #[] 88)) := (Below.refl _ _).alloc (Nat.le_refl _) _
  rw [← hw1] at b1
  have h1 := h.below b1
  have c5 : w1.cell? ⟨sb, 5, none⟩ = some (.map none) := box_cells h1 5 _ rfl
  have f5 := box_frozen h1 5
  have WO := hidi (without58n id hid)
  have H := hidi (And.intro h1 b1)
  clear h h1 b1
  go_enter Tryz.func32, Tryz.ntmps32
  go_upto_region 2 with fail
  rw [← hw1]
  clear hw1 hl a5
  go_wp2_with (go_at_call 58; refine (WO.out _).mono ?_; rintro e w2 ⟨rfl, rfl⟩)
  go_ret
  exact ⟨rfl, set5 H.out.1 _, (Below.ch (S := fun j => j = sb) H.out.2).then (ch_set sb 5 _)⟩
end
/-! ### Subs of none and of one -/
section
variable {W : World} {sb wb : Nat} {k : ByteArray} {la : Bool} {mo : Int} {sv nv : Value}
theorem subs_none (h : SsAt W sb wb k la mo (.map none) nv) : Calls Tryz.prog 29 #[.pointer (some ⟨sb, 0, none⟩)] W fun e w' => ∃ a c, e = .returned (.slice a 0 c) ∧ Below W.heap.size W w' := by
  refine (subs_nil h).mono ?_
  rintro e w' ⟨rfl, _, hb⟩
  exact ⟨_, _, rfl, hb⟩
theorem subs_one {mb : Nat} {f : ByteArray → Option Value} {fl : ByteArray} {q : Int} (h : SsAt W sb wb k la mo (.map (some mb)) nv) (hm : MG W (.map (some mb)) 1 f) (hfs : fl.size ≤ 1000000) (hf : f fl = some (.int .i64 q)) (ho : ∀ x, x ≠ fl → f x = none) :
    Calls Tryz.prog 29 #[.pointer (some ⟨sb, 0, none⟩)] W fun e w' => ∃ g c, e = .returned (.slice (some ⟨g, 0, none⟩) 1 c) ∧ w'.cell? ⟨g, 0, none⟩ = some (.string fl) ∧ w'.cell? ⟨g, 1, none⟩ = some (.int .i64 q) ∧ Below W.heap.size W w' := by
  have e : f = fun x => (if x = fl then some q else none : Option Int).map (Value.int .i64) := by
    funext x
    by_cases hx : x = fl
    · subst hx; rw [hf]; simp
    · rw [ho x hx]; simp [hx]
  rw [e] at hm
  refine (subs_some h hm (by omega) (fun x hx hs => ?_)).mono ?_
  · by_cases hx' : x = fl
    · rw [hx']; exact hfs
    · simp [hx'] at hs
  rintro e w' ⟨v, L, rfl, hr, hS, hb⟩
  match L, hS, hr with
  | [], hS, _ => exact absurd hS.len (by decide)
  | _ :: _ :: _, hS, _ => exact absurd hS.len (by simp)
  | [p], hS, hr =>
    have hp := (hS.val p (by simp)).2
    have hp1 : p.1 = fl ∧ p.2 = q := by
      by_cases hx : p.1 = fl
      · simp [hx] at hp; exact ⟨hx, hp.symm⟩
      · simp [hx] at hp
    rcases hr.2 with ⟨_, z⟩ | ⟨g, cap, cur, h1, h2, h3, h4, h5, h6, h7⟩
    · simp at z
    · refine ⟨g, cap, by rw [h1]; rfl, ?_, ?_, hb⟩
      · have := congrArg (fun l => l[0]?) h7
        simp [arow, acs, hp1.1] at this
        exact box_cells h3 0 _ this
      · have := congrArg (fun l => l[1]?) h7
        simp [arow, acs, hp1.2] at this
        exact box_cells h3 1 _ this
end
/-! ### A message -/
set_option maxRecDepth 100000 in
set_option maxHeartbeats 1000000 in
theorem msg_any (q : Int) (w : World) : Calls Tryz.prog 28 #[.int .i64 q] w fun e w' => ∃ b, e = .returned (.agg #[.string ⟨#[116]⟩, .slice (some ⟨b, 0, none⟩) 1 1, .int .i64 q, .bool false]) ∧ PBi w' (.slice (some ⟨b, 0, none⟩) 1 1) [7] ∧ Below w.heap.size w w' := by
  go_enter Tryz.func28, Tryz.ntmps28
  go_wp2_with fail
  have T := two_alloc w (.cells #[.string ⟨#[116]⟩, .slice (some ⟨w.heap.size + 1, 0, none⟩) 1 1, .int .i64 q, .bool false] 45) (.cells #[.int .u8 7] 5)
  refine bodyPost_ret (results_cell_row rfl _ _ _ _ _ _ _ rfl T.1 Tryz.underlying45 rfl (by kernel_rfl)) rfl ⟨_, rfl, ?_, two_below w _ _⟩
  refine .inr ⟨_, 1, 1, rfl, rfl, by omega, fun i hi => ?_⟩
  have hi0 : i = 0 := by omega
  subst hi0
  exact box_cells T.2.1 0 _ rfl
end Go.Proofs.YtmihpmmkkklpfaaGreatDoor
