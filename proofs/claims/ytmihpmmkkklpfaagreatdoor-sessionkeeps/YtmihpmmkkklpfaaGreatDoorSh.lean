import Derived.Test.YtmihpmmkkklpfaaGreatDoorSc
import Derived.Test.YtmihpmmkkklpfaaGreatDoorTPt
import Derived.Deep.RegionHeldLaw
import Derived.Test.YtmihpmmkkklpfaaGreatDoorTTe
namespace Go.Proofs.YtmihpmmkkklpfaaGreatDoor
open Go Go.RowKit Go.Maps
set_option linter.unusedSimpArgs false
set_option linter.unusedVariables false
/-! ### A session in memory -/
def ssC (wb : Nat) (k : ByteArray) (la : Bool) (mo : Int) (sv nv : Value) : Array Value := #[.pointer (some ⟨wb, 0, none⟩), .string k, .bool la, .int .i64 mo, sv, nv]
def SsAt (W : World) (sb wb : Nat) (k : ByteArray) (la : Bool) (mo : Int) (sv nv : Value) : Prop := W.heap[sb]? = some (.cells (ssC wb k la mo sv nv) 56 (0, 0))
section
variable {W : World} {sb wb : Nat} {k : ByteArray} {la : Bool} {mo : Int} {sv nv : Value}
theorem SsAt.below {W' : World} (h : SsAt W sb wb k la mo sv nv) (hb : Below W.heap.size W W') : SsAt W' sb wb k la mo sv nv := later_at h hb
theorem key_any (h : SsAt W sb wb k la mo sv nv) : Calls Tryz.prog 25 #[.pointer (some ⟨sb, 0, none⟩)] W fun e w' => e = .returned (.string k) ∧ w' = W := by
  have c1 : W.cell? ⟨sb, 1, none⟩ = some (.string k) := box_cells h 1 _ rfl
  clear h
  go_enter Tryz.func25, Tryz.ntmps25
  go_wp2_with fail
  go_ret
  exact ⟨rfl, rfl⟩
theorem lasting_any (h : SsAt W sb wb k la mo sv nv) : Calls Tryz.prog 26 #[.pointer (some ⟨sb, 0, none⟩)] W fun e w' => e = .returned (.bool la) ∧ w' = W := by
  have c1 : W.cell? ⟨sb, 2, none⟩ = some (.bool la) := box_cells h 2 _ rfl
  clear h
  go_enter Tryz.func26, Tryz.ntmps26
  go_wp2_with fail
  go_ret
  exact ⟨rfl, rfl⟩
/-! ### Filters -/
set_option maxRecDepth 100000 in
set_option maxHeartbeats 1000000 in
theorem isAsk_any (f : ByteArray) (q : Int) (w : World) (hf : Tp.fcode f = 0) (h0 : 0 ≤ q) (h2 : q ≤ 2) : Calls Tryz.prog 54 #[.agg #[.string f, .int .i64 q]] w fun e w' => e = .returned (.bool true) ∧ Below w.heap.size w w' := by
  obtain ⟨w1, hw1⟩ : ∃ w1, w1 = w.alloc (.cells #[.string f, .int .i64 q] 42) := ⟨_, rfl⟩
  have a1 := heap_alloc_new w (.cells #[.string f, .int .i64 q] 42)
  have b1 : Below w.heap.size w (w.alloc (.cells #[.string f, .int .i64 q] 42)) := (Below.refl _ _).alloc (Nat.le_refl _) _
  rw [← hw1] at a1 b1
  have e0 := box_cells a1 0 _ rfl
  have e1 := box_cells a1 1 _ rfl
  have CF := hidi (Tp.fcheck_any f w1)
  rw [hf] at CF
  have HB := hidi (And.intro a1 b1)
  clear a1 b1 hf
  go_enter Tryz.func54, Tryz.ntmps54
  go_upto_region 1 with fail
  rw [← hw1]
  clear hw1
  go_wp2_with (go_at_call 83; refine CF.out.mono ?_; clear CF; rintro e w2 ⟨rfl, hb⟩; have HB2 := hidi (HB.out.2.trans (hb.mono HB.out.2.size)); clear e0 e1; have a2 := later_at HB.out.1 hb; have e0 := box_cells a2 0 _ rfl; have e1 := box_cells a2 1 _ rfl; clear a2 hb)
  go_ret
  exact ⟨rfl, HB2.out⟩
end
end Go.Proofs.YtmihpmmkkklpfaaGreatDoor
namespace Go.Proofs.YtmihpmmkkklpfaaGreatDoor
open Go Go.RowKit Go.Maps
set_option linter.unusedSimpArgs false
set_option linter.unusedVariables false
/-! ### Subscribe -/
theorem MG.ne {w : World} {mb b n : Nat} {f : ByteArray → Option Value} {cs : Array Value} {t : Nat} {fz : Nat × Nat} (h : MG w (.map (some mb)) n f) (hb : w.heap[b]? = some (.cells cs t fz)) : b ≠ mb := fun e => by
  obtain ⟨es, cl, q⟩ := h.block (b := mb) rfl
  rw [e, q] at hb
  cases hb
theorem eqn53 (mb : Nat) (w : World) : (binOp .eql 53 (.map (some mb)) (.map none)).run Tryz.prog w = .ok (.bool false) w := eqn _ _ _ _ Tryz.underlying53 w
theorem eqn53n (w : World) : (binOp .eql 53 (.map none) (.map none)).run Tryz.prog w = .ok (.bool true) w := eqn _ _ _ _ Tryz.underlying53 w
section
variable {W : World} {sb wb : Nat} {k : ByteArray} {la : Bool} {mo : Int} {sv nv : Value} {n : Nat} {f : ByteArray → Option Value}
/-- What grant leaves. -/
structure Gr (W w' : World) (sb wb : Nat) (k : ByteArray) (la : Bool) (mo : Int) (sv nv : Value) (n : Nat) (f : ByteArray → Option Value) (fl : ByteArray) (q : Int) : Prop where
  ex : ∃ mb, SsAt w' sb wb k la mo (.map (some mb)) nv ∧ MG w' (.map (some mb)) (szG f fl n) (setG f fl (some (.int .i64 q))) ∧ (sv = .map (some mb) ∨ W.heap.size ≤ mb)
  ch : Ch (fun j => j = sb ∨ sv = .map (some j)) W w'
set_option maxRecDepth 100000 in
set_option maxHeartbeats 4000000 in
theorem grant_some {mb : Nat} (h : SsAt W sb wb k la mo (.map (some mb)) nv) (hm : MG W (.map (some mb)) n f) (fl : ByteArray) (hf : fl.size ≤ 1000000) (q : Int) (hn : n < 1000000) :
    Calls Tryz.prog 41 #[.pointer (some ⟨sb, 0, none⟩), .agg #[.string fl, .int .i64 q]] W fun e w' => e = .returned (.tuple #[]) ∧ Gr W w' sb wb k la mo (.map (some mb)) nv n f fl q := by
  obtain ⟨w1, hw1⟩ : ∃ w1, w1 = W.alloc (.cells #[.string fl, .int .i64 q] 42) := ⟨_, rfl⟩
  have x1 := heap_alloc_new W (.cells #[.string fl, .int .i64 q] 42)
  have b1 : Below W.heap.size W (W.alloc (.cells #[.string fl, .int .i64 q] 42)) := (Below.refl _ _).alloc (Nat.le_refl _) _
  rw [← hw1] at x1 b1
  have e0 := box_cells x1 0 _ rfl
  have e1 := box_cells x1 1 _ rfl
  have a4 : w1.cell? ⟨sb, 4, none⟩ = some (.map (some mb)) := box_cells (h.below b1) 4 _ rfl
  have CL := hidi (fun w => sclone_any fl w hf)
  have heq := eqn53 mb
  have KB := hidi (fun (w2 : World) (hb : Below w1.heap.size w1 w2) => (show w2.cell? ⟨sb, 4, none⟩ = some (.map (some mb)) ∧ w2.cell? ⟨W.heap.size, 0, none⟩ = some (.string fl) ∧ w2.cell? ⟨W.heap.size, 1, none⟩ = some (.int .i64 q) from ⟨box_cells ((h.below b1).below hb) 4 _ rfl, box_cells (later_at x1 hb) 0 _ rfl, box_cells (later_at x1 hb) 1 _ rfl⟩))
  have HG := hidi (fun (w2 : World) (hb : Below w1.heap.size w1 w2) => (show ∃ w3, (Instr.mapUpdate 53 (.map (some mb)) (.string fl) (.int .i64 q)).run Tryz.prog w2 = .ok () w3 ∧ (w3.cell? ⟨sb, 4, none⟩ = some (.map (some mb)) ∧ w3.cell? ⟨W.heap.size, 0, none⟩ = some (.string fl) ∧ w3.cell? ⟨W.heap.size, 1, none⟩ = some (.int .i64 q)) ∧ Gr W w3 sb wb k la mo (.map (some mb)) nv n f fl q from by
    have hb2 := b1.trans (hb.mono b1.size)
    have hm2 : MG w2 (.map (some mb)) n f := hm.keep (fun b e => hb2.block b (hm.lt e))
    obtain ⟨w3, k1, k2, k3⟩ := hm2.put (t := 53) Tryz.underlying53 (k := fl) (by unfold okT maxLen; omega) (.int .i64 q) (by unfold maxLen; omega)
    have s2 := h.below hb2
    have s3 : SsAt w3 sb wb k la mo (.map (some mb)) nv := (k3.block sb (Array.getElem?_eq_some_iff.1 s2).1 (hm2.ne s2)).trans s2
    have x2 := later_at x1 hb
    have x3 := (k3.block _ (Array.getElem?_eq_some_iff.1 x2).1 (hm2.ne x2)).trans x2
    refine ⟨w3, k1, ⟨box_cells s3 4 _ rfl, box_cells x3 0 _ rfl, box_cells x3 1 _ rfl⟩, ⟨⟨mb, s3, k2, .inl rfl⟩, ?_⟩⟩
    exact (Below.ch (S := fun j => j = sb ∨ Value.map (some mb) = .map (some j)) hb2).trans k3 (fun j _ e => .inr (by rw [e]))))
  clear h hm hf hn x1 b1
  go_enter Tryz.func41, Tryz.ntmps41
  go_upto_region 1 with fail
  rw [← hw1]
  clear hw1
  go_upto_region 3 with fail
  clear heq
  go_region_held_law (fun w' => w'.cell? ⟨sb, 4, none⟩ = some (.map (some mb)) ∧ w'.cell? ⟨W.heap.size, 0, none⟩ = some (.string fl) ∧ w'.cell? ⟨W.heap.size, 1, none⟩ = some (.int .i64 q)) (first | exact HK3.out | exact ⟨a4, e0, e1⟩ | go_keep) (first
    | (go_at_call 34; refine (CL.out _).mono ?_; rintro e w2 ⟨rfl, hb⟩; obtain ⟨w3, hm, hk, hr⟩ := HG.out w2 ((Below.refl w1.heap.size w1).drew.trans hb); have HK3 := hidi hk; have HR := hidi hr; clear a4 e0 e1; obtain ⟨a4, e0, e1⟩ := KB.out w2 ((Below.refl w1.heap.size w1).drew.trans hb); clear hb hk hr))
  all_goals go_end0
  all_goals exact ⟨rfl, HR.out⟩
theorem mk53 (W : World) : (Instr.makeMap 53 none).run Tryz.prog W = .ok (.map (some W.heap.size)) (W.alloc (.map #[] 0)) := by simp [Instr.makeMap, run_underlying Tryz.underlying53]; try rfl
set_option maxRecDepth 100000 in
set_option maxHeartbeats 4000000 in
theorem grant_nil (h : SsAt W sb wb k la mo (.map none) nv) (fl : ByteArray) (hf : fl.size ≤ 1000000) (q : Int) :
    Calls Tryz.prog 41 #[.pointer (some ⟨sb, 0, none⟩), .agg #[.string fl, .int .i64 q]] W fun e w' => e = .returned (.tuple #[]) ∧ Gr W w' sb wb k la mo (.map none) nv 0 (fun _ => none) fl q := by
  obtain ⟨w1, hw1⟩ : ∃ w1, w1 = W.alloc (.cells #[.string fl, .int .i64 q] 42) := ⟨_, rfl⟩
  have x1 := heap_alloc_new W (.cells #[.string fl, .int .i64 q] 42)
  have b1 : Below W.heap.size W (W.alloc (.cells #[.string fl, .int .i64 q] 42)) := (Below.refl _ _).alloc (Nat.le_refl _) _
  rw [← hw1] at x1 b1
  have e0 := box_cells x1 0 _ rfl
  have e1 := box_cells x1 1 _ rfl
  have h1 := h.below b1
  have a4 : w1.cell? ⟨sb, 4, none⟩ = some (.map none) := box_cells h1 4 _ rfl
  have f4 : w1.frozen? ⟨sb, 4, none⟩ = false := box_frozen h1 4
  have hsl : sb < w1.heap.size := (Array.getElem?_eq_some_iff.1 h1).1
  have hsw : sb < W.heap.size := (Array.getElem?_eq_some_iff.1 h).1
  have CL := hidi (fun w => sclone_any fl w hf)
  have heq := eqn53n
  have hmk := mk53
  obtain ⟨w2, hw2⟩ : ∃ w2, w2 = (w1.setCell ⟨sb, 4, none⟩ (.map (some w1.heap.size))).alloc (.map #[] 0) := ⟨_, rfl⟩
  have hsz : (w1.setCell ⟨sb, 4, none⟩ (.map (some w1.heap.size))).heap.size = w1.heap.size := by simp [World.setCell]
  have s2 : SsAt w2 sb wb k la mo (.map (some w1.heap.size)) nv := by
    rw [hw2]
    unfold SsAt
    rw [heap_alloc_old _ _ (by rw [hsz]; exact hsl), heap_set h1]
    rfl
  have m2 : MG w2 (.map (some w1.heap.size)) 0 (fun _ => none) := by
    rw [hw2]
    have := MG.made (w1.setCell ⟨sb, 4, none⟩ (.map (some w1.heap.size)))
    rw [hsz] at this
    exact this
  have y2 : w2.heap[W.heap.size]? = some (.cells #[.string fl, .int .i64 q] 42) := by
    rw [hw2, heap_alloc_old _ _ (by rw [hsz]; exact (Array.getElem?_eq_some_iff.1 x1).1), heap_set_ne _ (by omega)]
    exact x1
  have c2 : Ch (fun j => j = sb ∨ Value.map none = .map (some j)) W w2 := by
    rw [hw2]
    exact ((Below.ch (S := fun j => j = sb) b1).then ((ch_set sb 4 _).then (ch_alloc _ _ _))).mono (fun j _ q => .inl q)
  have hms : W.heap.size ≤ w1.heap.size := b1.size
  have g0 := box_cells y2 0 _ rfl
  have g1 := box_cells y2 1 _ rfl
  have g4 : w2.cell? ⟨sb, 4, none⟩ = some (.map (some w1.heap.size)) := box_cells s2 4 _ rfl
  have KB := hidi (fun (w3 : World) (hb : Below w2.heap.size w2 w3) => (show w3.cell? ⟨sb, 4, none⟩ = some (.map (some w1.heap.size)) ∧ w3.cell? ⟨W.heap.size, 0, none⟩ = some (.string fl) ∧ w3.cell? ⟨W.heap.size, 1, none⟩ = some (.int .i64 q) from ⟨box_cells (s2.below hb) 4 _ rfl, box_cells (later_at y2 hb) 0 _ rfl, box_cells (later_at y2 hb) 1 _ rfl⟩))
  have HG := hidi (fun (w3 : World) (hb : Below w2.heap.size w2 w3) => (show ∃ w4, (Instr.mapUpdate 53 (.map (some w1.heap.size)) (.string fl) (.int .i64 q)).run Tryz.prog w3 = .ok () w4 ∧ (w4.cell? ⟨sb, 4, none⟩ = some (.map (some w1.heap.size)) ∧ w4.cell? ⟨W.heap.size, 0, none⟩ = some (.string fl) ∧ w4.cell? ⟨W.heap.size, 1, none⟩ = some (.int .i64 q)) ∧ Gr W w4 sb wb k la mo (.map none) nv 0 (fun _ => none) fl q from by
    have hm3 : MG w3 (.map (some w1.heap.size)) 0 (fun _ => none) := m2.keep (fun b e => hb.block b (m2.lt e))
    obtain ⟨w4, k1, k2, k3⟩ := hm3.put (t := 53) Tryz.underlying53 (k := fl) (by unfold okT maxLen; omega) (.int .i64 q) (by unfold maxLen; omega)
    have s3 := s2.below hb
    have s4 : SsAt w4 sb wb k la mo (.map (some w1.heap.size)) nv := (k3.block sb (Array.getElem?_eq_some_iff.1 s3).1 (hm3.ne s3)).trans s3
    have x3 := later_at y2 hb
    have x4 := (k3.block _ (Array.getElem?_eq_some_iff.1 x3).1 (hm3.ne x3)).trans x3
    refine ⟨w4, k1, ⟨box_cells s4 4 _ rfl, box_cells x4 0 _ rfl, box_cells x4 1 _ rfl⟩, ⟨⟨w1.heap.size, s4, k2, .inr hms⟩, ?_⟩⟩
    exact (c2.then (Below.ch hb)).trans k3 (fun j hj e => absurd hj (by omega))))
  clear h hf x1 b1 h1 s2 m2 y2 c2 hms
  go_enter Tryz.func41, Tryz.ntmps41
  go_upto_region 1 with fail
  rw [← hw1]
  clear hw1
  go_upto_region 3 with fail
  rw [← hw2]
  clear heq hmk hw2 a4 e0 e1 f4
  go_region_held_law (fun w' => w'.cell? ⟨sb, 4, none⟩ = some (.map (some w1.heap.size)) ∧ w'.cell? ⟨W.heap.size, 0, none⟩ = some (.string fl) ∧ w'.cell? ⟨W.heap.size, 1, none⟩ = some (.int .i64 q)) (first | exact HK3.out | exact ⟨g4, g0, g1⟩ | go_keep) (first
    | (go_at_call 34; refine (CL.out _).mono ?_; rintro e w3 ⟨rfl, hb⟩; obtain ⟨w4, hm, hk, hr⟩ := HG.out w3 ((Below.refl w2.heap.size w2).drew.trans hb); have HK3 := hidi hk; have HR := hidi hr; clear g4 g0 g1; obtain ⟨g4, g0, g1⟩ := KB.out w3 ((Below.refl w2.heap.size w2).drew.trans hb); clear hb hk hr))
  all_goals go_end0
  all_goals exact ⟨rfl, HR.out⟩
end
end Go.Proofs.YtmihpmmkkklpfaaGreatDoor
namespace Go.Proofs.YtmihpmmkkklpfaaGreatDoor
open Go Go.RowKit Go.Maps
set_option linter.unusedSimpArgs false
set_option linter.unusedVariables false
/-! ### Taking out -/
theorem deln53 (k : ByteArray) (hk : k.size ≤ 1000000) (w : World) (ty : TypeId) : (Builtin.delete_ #[53, 9] ty #[.map none, .string k]).run Tryz.prog w = .ok (.tuple #[]) w := by
  have hl := keyOf_kt (k := k) (by unfold okT maxLen; omega)
  first
  | exact Maps.drop_nil law9 Tryz.underlying53 hl ty
  | simp [Builtin.delete_, run_underlying Tryz.underlying53]
theorem deln54 (k : Int) (hk : okI k) (w : World) (ty : TypeId) : (Builtin.delete_ #[54, 3] ty #[.map none, .int .i64 k]).run Tryz.prog w = .ok (.tuple #[]) w := by
  have hl := keyOf_ki hk
  first
  | exact Maps.drop_nil law3 Tryz.underlying54 hl ty
  | simp [Builtin.delete_, run_underlying Tryz.underlying54]
set_option maxRecDepth 100000 in
set_option maxHeartbeats 1000000 in
theorem without57 {w : World} {mb : Nat} {f : ByteArray → Option Value} (hm : MG w (.map (some mb)) 1 f) (fl : ByteArray) (hfs : fl.size ≤ 1000000) {v : Value} (hf : f fl = some v) : Calls Tryz.prog 57 #[.map (some mb), .string fl] w fun e w' => e = .returned (.map none) ∧ Ch (fun j => j = mb) w w' := by
  obtain ⟨w2, h1, h2, h3⟩ := hm.del (t := 53) Tryz.underlying53 (k := fl) (by unfold okT maxLen; omega) 0
  rw [hf] at h2
  have hlen := h2.len (t := 53) Tryz.underlying53 3
  simp at hlen
  have H := hidi h3
  clear hm h2 h3 hf
  go_enter Tryz.func57, Tryz.ntmps57
  go_wp2_with fail
  go_ret
  exact ⟨rfl, H.out⟩
set_option maxRecDepth 100000 in
set_option maxHeartbeats 1000000 in
theorem without57n (fl : ByteArray) (hfs : fl.size ≤ 1000000) (w : World) : Calls Tryz.prog 57 #[.map none, .string fl] w fun e w' => e = .returned (.map none) ∧ w' = w := by
  have hdel := fun ty => deln53 fl hfs w ty
  have hlen : ∀ ty, (Builtin.len_ #[53] ty #[.map none]).run Tryz.prog w = .ok (.int .i64 0) w := fun ty => Maps.len_nil Tryz.underlying53 ty
  go_enter Tryz.func57, Tryz.ntmps57
  go_wp2_with fail
  go_ret
  exact ⟨rfl, rfl⟩
set_option maxRecDepth 100000 in
set_option maxHeartbeats 1000000 in
theorem without58 {w : World} {mb : Nat} {f : Int → Option Value} (hm : MI w (.map (some mb)) 1 f) (id : Int) (hid : okI id) {v : Value} (hf : f id = some v) : Calls Tryz.prog 58 #[.map (some mb), .int .i64 id] w fun e w' => e = .returned (.map none) ∧ Ch (fun j => j = mb) w w' := by
  obtain ⟨w2, h1, h2, h3⟩ := hm.del (t := 54) Tryz.underlying54 (k := id) hid 0
  rw [hf] at h2
  have hlen := h2.len (t := 54) Tryz.underlying54 3
  simp at hlen
  have H := hidi h3
  clear hm h2 h3 hf
  go_enter Tryz.func58, Tryz.ntmps58
  go_wp2_with fail
  go_ret
  exact ⟨rfl, H.out⟩
set_option maxRecDepth 100000 in
set_option maxHeartbeats 1000000 in
theorem without58n (id : Int) (hid : okI id) (w : World) : Calls Tryz.prog 58 #[.map none, .int .i64 id] w fun e w' => e = .returned (.map none) ∧ w' = w := by
  have hdel := fun ty => deln54 id hid w ty
  have hlen : ∀ ty, (Builtin.len_ #[54] ty #[.map none]).run Tryz.prog w = .ok (.int .i64 0) w := fun ty => Maps.len_nil Tryz.underlying54 ty
  go_enter Tryz.func58, Tryz.ntmps58
  go_wp2_with fail
  go_ret
  exact ⟨rfl, rfl⟩
theorem zero3 (w : World) : (zeroValue 3).run Tryz.prog w = .ok (.int .i64 0) w := by kernel_rfl
theorem zero88 (w : World) : (zeroValue 88).run Tryz.prog w = .ok (.agg #[]) w := by kernel_rfl
theorem set4 {w : World} {sb wb : Nat} {k : ByteArray} {la : Bool} {mo : Int} {sv nv : Value} (h : SsAt w sb wb k la mo sv nv) (v : Value) : SsAt (w.setCell ⟨sb, 4, none⟩ v) sb wb k la mo v nv := (heap_set h v).trans rfl
theorem set5 {w : World} {sb wb : Nat} {k : ByteArray} {la : Bool} {mo : Int} {sv nv : Value} (h : SsAt w sb wb k la mo sv nv) (v : Value) : SsAt (w.setCell ⟨sb, 5, none⟩ v) sb wb k la mo sv v := (heap_set h v).trans rfl
section
variable {W : World} {sb wb : Nat} {k : ByteArray} {la : Bool} {mo : Int} {sv nv : Value}
set_option maxRecDepth 100000 in
set_option maxHeartbeats 1000000 in
theorem unsub_has {mb : Nat} {f : ByteArray → Option Value} {x : Int} (h : SsAt W sb wb k la mo (.map (some mb)) nv) (hm : MG W (.map (some mb)) 1 f) (fl : ByteArray) (hfs : fl.size ≤ 1000000) (hf : f fl = some (.int .i64 x)) :
    Calls Tryz.prog 30 #[.pointer (some ⟨sb, 0, none⟩), .string fl] W fun e w' => e = .returned (.bool true) ∧ SsAt w' sb wb k la mo (.map none) nv ∧ Ch (fun j => j = sb ∨ j = mb) W w' := by
  have hl := hm.look2 (t := 53) Tryz.underlying53 zero3 (k := fl) (by unfold okT maxLen; omega)
  rw [hf] at hl
  simp only [Option.getD_some, Option.isSome_some] at hl
  have a4 : W.cell? ⟨sb, 4, none⟩ = some (.map (some mb)) := box_cells h 4 _ rfl
  have hne := hm.ne h
  have H := hidi h
  have WO := hidi (without57 hm fl hfs hf)
  have hsl : sb < W.heap.size := (Array.getElem?_eq_some_iff.1 h).1
  clear h hm hf
  go_enter Tryz.func30, Tryz.ntmps30
  go_wp2_with fail
  go_must (go_at_call 57)
  refine WO.out.mono ?_
  clear WO
  rintro e w2 ⟨rfl, hc⟩
  have h2 : SsAt w2 sb wb k la mo (.map (some mb)) nv := (hc.block sb hsl hne).trans H.out
  have f4 := box_frozen h2 4
  have c4 : w2.cell? ⟨sb, 4, none⟩ = some (.map (some mb)) := box_cells h2 4 _ rfl
  have HH := hidi (And.intro h2 hc)
  clear h2 hc hl a4
  go_wp2_with fail
  go_ret
  exact ⟨rfl, set4 HH.out.1 _, (HH.out.2.mono (fun j _ q => .inr q)).trans (ch_set sb 4 _) (fun j _ q => .inl q)⟩
set_option maxRecDepth 100000 in
set_option maxHeartbeats 1000000 in
theorem unsub_nil (h : SsAt W sb wb k la mo (.map none) nv) (fl : ByteArray) (hfs : fl.size ≤ 1000000) :
    Calls Tryz.prog 30 #[.pointer (some ⟨sb, 0, none⟩), .string fl] W fun e w' => e = .returned (.bool false) ∧ SsAt w' sb wb k la mo (.map none) nv ∧ Ch (fun j => j = sb) W w' := by
  have hl := (MG.nil W).look2 (t := 53) Tryz.underlying53 zero3 (k := fl) (by unfold okT maxLen; omega)
  simp only [Option.getD_none, Option.isSome_none] at hl
  have a4 : W.cell? ⟨sb, 4, none⟩ = some (.map none) := box_cells h 4 _ rfl
  have f4 := box_frozen h 4
  have H := hidi h
  have WO := hidi (without57n fl hfs)
  clear h
  go_enter Tryz.func30, Tryz.ntmps30
  go_wp2_with (go_at_call 57; refine (WO.out _).mono ?_; rintro e w2 ⟨rfl, rfl⟩)
  go_ret
  exact ⟨rfl, set4 H.out _, ch_set sb 4 _⟩
end
end Go.Proofs.YtmihpmmkkklpfaaGreatDoor
namespace Go.Proofs.YtmihpmmkkklpfaaGreatDoor
open Go Go.RowKit Go.Maps
set_option linter.unusedSimpArgs false
set_option linter.unusedVariables false
/-! ### Numbers that came in -/
theorem eqn54n (w : World) : (binOp .eql 54 (.map none) (.map none)).run Tryz.prog w = .ok (.bool true) w := eqn _ _ _ _ Tryz.underlying54 w
theorem mk54 (W : World) : (Instr.makeMap 54 none).run Tryz.prog W = .ok (.map (some W.heap.size)) (W.alloc (.map #[] 0)) := by simp [Instr.makeMap, run_underlying Tryz.underlying54]; try rfl
theorem okI5 : okI 5 := okI_nat 5 (by omega)
theorem okI0 : okI 0 := okI_nat 0 (by omega)
section
variable {W : World} {sb wb : Nat} {k : ByteArray} {la : Bool} {mo : Int} {sv nv : Value}
set_option maxRecDepth 100000 in
set_option maxHeartbeats 1000000 in
theorem note_new (h : SsAt W sb wb k la mo sv (.map none)) :
    Calls Tryz.prog 31 #[.pointer (some ⟨sb, 0, none⟩), .int .i64 5] W fun e w' => e = .returned (.bool true) ∧ ∃ mb, SsAt w' sb wb k la mo sv (.map (some mb)) ∧ MI w' (.map (some mb)) 1 (setF (fun _ => none) 5 (some (.agg #[]))) ∧ W.heap.size ≤ mb ∧ Ch (fun j => j = sb) W w' := by
  have hl := (MI.nil W).look2 (t := 54) Tryz.underlying54 zero88 (k := 5) okI5
  simp only [Option.getD_none, Option.isSome_none] at hl
  have a5 : W.cell? ⟨sb, 5, none⟩ = some (.map none) := box_cells h 5 _ rfl
  have hsl : sb < W.heap.size := (Array.getElem?_eq_some_iff.1 h).1
  obtain ⟨w1, hw1⟩ : ∃ w1, w1 = W.alloc (.cells #[] 88) := ⟨_, rfl⟩
  have b1 : Below W.heap.size W (W.alloc (.cells #[] 88)) := (Below.refl _ _).alloc (Nat.le_refl _) _
  rw [← hw1] at b1
  have h1 := h.below b1
  have c5 : w1.cell? ⟨sb, 5, none⟩ = some (.map none) := box_cells h1 5 _ rfl
  have f5 : w1.frozen? ⟨sb, 5, none⟩ = false := box_frozen h1 5
  have hsl1 : sb < w1.heap.size := (Array.getElem?_eq_some_iff.1 h1).1
  have heq := eqn54n
  have hmk := mk54
  obtain ⟨w2, hw2⟩ : ∃ w2, w2 = (w1.setCell ⟨sb, 5, none⟩ (.map (some w1.heap.size))).alloc (.map #[] 0) := ⟨_, rfl⟩
  have hsz : (w1.setCell ⟨sb, 5, none⟩ (.map (some w1.heap.size))).heap.size = w1.heap.size := by simp [World.setCell]
  have s2 : SsAt w2 sb wb k la mo sv (.map (some w1.heap.size)) := by
    rw [hw2]
    unfold SsAt
    rw [heap_alloc_old _ _ (by rw [hsz]; exact hsl1), heap_set h1]
    rfl
  have m2 : MI w2 (.map (some w1.heap.size)) 0 (fun _ => none) := by
    rw [hw2]
    have := MI.made (w1.setCell ⟨sb, 5, none⟩ (.map (some w1.heap.size)))
    rw [hsz] at this
    exact this
  have c2 : Ch (fun j => j = sb) W w2 := by
    rw [hw2]
    exact (Below.ch (S := fun j => j = sb) b1).then ((ch_set sb 5 _).then (ch_alloc _ _ _))
  obtain ⟨w3, k1, k2, k3⟩ := m2.put (t := 54) Tryz.underlying54 (k := 5) okI5 (.agg #[]) (by unfold maxLen; omega)
  have g5 : w2.cell? ⟨sb, 5, none⟩ = some (.map (some w1.heap.size)) := box_cells s2 5 _ rfl
  have hms := b1.size
  have s3 : SsAt w3 sb wb k la mo sv (.map (some w1.heap.size)) := (k3.block sb (Array.getElem?_eq_some_iff.1 s2).1 (by omega)).trans s2
  have HR := hidi (And.intro s3 (And.intro k2 (And.intro hms (c2.trans k3 (fun j hj e => absurd hj (by omega))))))
  clear h h1 b1 s2 m2 c2 k2 k3 s3 hms
  go_enter Tryz.func31, Tryz.ntmps31
  go_upto_region 2 with fail
  rw [← hw1]
  clear hw1 hl a5
  go_upto_region 6 with fail
  rw [← hw2]
  clear hw2 c5 f5 heq hmk
  go_wp2_with fail
  go_ret
  exact ⟨rfl, _, HR.out.1, HR.out.2.1, HR.out.2.2.1, HR.out.2.2.2⟩
set_option maxRecDepth 100000 in
set_option maxHeartbeats 1000000 in
theorem note_has {n : Nat} {f : Int → Option Value} (h : SsAt W sb wb k la mo sv nv) (hm : MI W nv n f) (id : Int) (hid : okI id) (hf : f id = some (.agg #[])) :
    Calls Tryz.prog 31 #[.pointer (some ⟨sb, 0, none⟩), .int .i64 id] W fun e w' => e = .returned (.bool false) ∧ Below W.heap.size W w' := by
  have hl := hm.look2 (t := 54) Tryz.underlying54 zero88 (k := id) hid
  rw [hf] at hl
  simp only [Option.getD_some, Option.isSome_some] at hl
  have a5 : W.cell? ⟨sb, 5, none⟩ = some nv := box_cells h 5 _ rfl
  clear h hm hf
  go_enter Tryz.func31, Tryz.ntmps31
  go_wp2_with fail
  go_ret
  exact ⟨rfl, (Below.refl _ _).alloc (Nat.le_refl _) _⟩
set_option maxRecDepth 100000 in
set_option maxHeartbeats 1000000 in
theorem note_zero (h : SsAt W sb wb k la mo sv (.map none)) :
    Calls Tryz.prog 31 #[.pointer (some ⟨sb, 0, none⟩), .int .i64 0] W fun e w' => e = .returned (.bool false) ∧ Below W.heap.size W w' := by
  have hl := (MI.nil W).look2 (t := 54) Tryz.underlying54 zero88 (k := 0) okI0
  simp only [Option.getD_none, Option.isSome_none] at hl
  have a5 : W.cell? ⟨sb, 5, none⟩ = some (.map none) := box_cells h 5 _ rfl
  clear h
  go_enter Tryz.func31, Tryz.ntmps31
  go_wp2_with fail
  go_ret
  exact ⟨rfl, (Below.refl _ _).alloc (Nat.le_refl _) _⟩
set_option maxRecDepth 100000 in
set_option maxHeartbeats 1000000 in
theorem release_has {mb : Nat} {f : Int → Option Value} (h : SsAt W sb wb k la mo sv (.map (some mb))) (hm : MI W (.map (some mb)) 1 f) (id : Int) (hid : okI id) (hf : f id = some (.agg #[])) :
    Calls Tryz.prog 32 #[.pointer (some ⟨sb, 0, none⟩), .int .i64 id] W fun e w' => e = .returned (.bool true) ∧ SsAt w' sb wb k la mo sv (.map none) ∧ Ch (fun j => j = sb ∨ j = mb) W w' := by
  have hl := hm.look2 (t := 54) Tryz.underlying54 zero88 (k := id) hid
  rw [hf] at hl
  simp only [Option.getD_some, Option.isSome_some] at hl
  have a5 : W.cell? ⟨sb, 5, none⟩ = some (.map (some mb)) := box_cells h 5 _ rfl
  have hne : sb ≠ mb := fun e => by obtain ⟨es, cl, q⟩ := hm.block (b := mb) rfl; rw [e] at h; unfold SsAt at h; rw [q] at h; cases h
  have hsl : sb < W.heap.size := (Array.getElem?_eq_some_iff.1 h).1
  obtain ⟨w1, hw1⟩ : ∃ w1, w1 = W.alloc (.cells #[] 88) := ⟨_, rfl⟩
  have b1 : Below W.heap.size W (W.alloc (.cells #[] 88)) := (Below.refl _ _).alloc (Nat.le_refl _) _
  rw [← hw1] at b1
  have h1 := h.below b1
  have c5 : w1.cell? ⟨sb, 5, none⟩ = some (.map (some mb)) := box_cells h1 5 _ rfl
  have WO := hidi (without58 (hm.keep (fun b e => b1.block b (hm.lt e))) id hid hf)
  have hsl1 : sb < w1.heap.size := (Array.getElem?_eq_some_iff.1 h1).1
  have H := hidi (And.intro h1 b1)
  clear h h1 b1 hm hf
  go_enter Tryz.func32, Tryz.ntmps32
  go_upto_region 2 with fail
  rw [← hw1]
  clear hw1 hl a5
  go_wp2_with fail
  go_must (go_at_call 58)
  refine WO.out.mono ?_
  clear WO
  rintro e w2 ⟨rfl, hc⟩
  have h2 : SsAt w2 sb wb k la mo sv (.map (some mb)) := (hc.block sb hsl1 hne).trans H.out.1
  have f5 := box_frozen h2 5
  have g5 : w2.cell? ⟨sb, 5, none⟩ = some (.map (some mb)) := box_cells h2 5 _ rfl
  have HH := hidi (And.intro h2 ((Below.ch (S := fun j => j = sb ∨ j = mb) H.out.2).then (hc.mono (fun j _ q => .inr q))))
  clear h2 hc c5
  go_wp2_with fail
  go_ret
  exact ⟨rfl, set5 HH.out.1 _, HH.out.2.trans (ch_set sb 5 _) (fun j _ q => .inl q)⟩
set_option maxRecDepth 100000 in
set_option maxHeartbeats 1000000 in
theorem release_nil (h : SsAt W sb wb k la mo sv (.map none)) (id : Int) (hid : okI id) :
    Calls Tryz.prog 32 #[.pointer (some ⟨sb, 0, none⟩), .int .i64 id] W fun e w' => e = .returned (.bool false) ∧ SsAt w' sb wb k la mo sv (.map none) ∧ Ch (fun j => j = sb) W w' := by
  have hl := (MI.nil W).look2 (t := 54) Tryz.underlying54 zero88 (k := id) hid
  simp only [Option.getD_none, Option.isSome_none] at hl
  have a5 : W.cell? ⟨sb, 5, none⟩ = some (.map none) := box_cells h 5 _ rfl
  have hsl : sb < W.heap.size := (Array.getElem?_eq_some_iff.1 h).1
  obtain ⟨w1, hw1⟩ : ∃ w1, w1 = W.alloc (.cells #[] 88) := ⟨_, rfl⟩
  have b1 : Below W.heap.size W (W.alloc (.cells #[] 88)) := (Below.refl _ _).alloc (Nat.le_refl _) _
  rw [← hw1] at b1
  have h1 := h.below b1
  have c5 : w1.cell? ⟨sb, 5, none⟩ = some (.map none) := box_cells h1 5 _ rfl
  have f5 := box_frozen h1 5
  have WO := hidi (without58n id hid)
  have H := hidi (And.intro h1 b1)
  clear h h1 b1
  go_enter Tryz.func32, Tryz.ntmps32
  go_upto_region 2 with fail
  rw [← hw1]
  clear hw1 hl a5
  go_wp2_with (go_at_call 58; refine (WO.out _).mono ?_; rintro e w2 ⟨rfl, rfl⟩)
  go_ret
  exact ⟨rfl, set5 H.out.1 _, (Below.ch (S := fun j => j = sb) H.out.2).then (ch_set sb 5 _)⟩
end
end Go.Proofs.YtmihpmmkkklpfaaGreatDoor
