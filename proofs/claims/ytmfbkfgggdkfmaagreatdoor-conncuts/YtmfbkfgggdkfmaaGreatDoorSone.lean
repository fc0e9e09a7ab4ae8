import Derived.Test.YtmfbkfgggdkfmaaGreatDoorProg
import Derived.WalkKit
import Derived.WalkSpells
import Derived.WalkLawsBesides
import Derived.Recover
import Derived.Orders
namespace Go.Proofs.YtmfbkfgggdkfmaaGreatDoor
open Go Go.RowKit
set_option linter.unusedSimpArgs false
set_option linter.unusedVariables false

/-- A region that draws its order, in a deferred call that may recover. -/
theorem wpS_region_draw {P : Program} {Q : Exit → Act → List Frame → World → Prop} {a : Act} {cs : List Frame} {w : World} {id : Nat} {ops : Array Oper}
    (h : ∀ t, wpOpsS P ops Q (Region.schedule (P.follows .mixedOrders) ops t) a cs { w with drawn := w.drawn + 1 }) : (Code.region id ops true).wpS P Q a cs w :=
  fun b k hb hr => let ⟨e, a', cs', w', q, r⟩ := wp_opsS _ a cs _ (h _) b k hb hr; ⟨e, a', cs', w', q, .of_steps (.one step_region_draw) r⟩

/-- Something holds of every order in which a region's operations may come. -/
def AnyOrder (md : Region.Mode) (ops : Array Oper) : Nat → Array Bool → (List Nat → Prop) → Prop
  | 0, listed, F => Region.ready md ops listed = [] ∧ F []
  | fuel + 1, listed, F => (Region.ready md ops listed = [] → F []) ∧ ∀ i ∈ Region.ready md ops listed, AnyOrder md ops fuel (listed.setIfInBounds i true) fun l => F (i :: l)

theorem anyOrder_sound (md : Region.Mode) (ops : Array Oper) : ∀ (fuel t : Nat) (listed : Array Bool) (F : List Nat → Prop), AnyOrder md ops fuel listed F → F (Region.linearise.go md ops fuel t listed []) := by
  intro fuel
  induction fuel with
  | zero => intro t listed F h; simpa [Region.linearise.go] using h.2
  | succ fuel ih =>
    intro t listed F h
    obtain ⟨h₀, h₁⟩ := h
    simp only [Region.linearise.go]
    change F (match (Region.ready md ops listed)[t % (Region.ready md ops listed).length]? with
      | some i => Region.linearise.go md ops fuel (t / (Region.ready md ops listed).length) (listed.setIfInBounds i true) [i]
      | none => [].reverse)
    cases hi : (Region.ready md ops listed)[t % (Region.ready md ops listed).length]? with
    | none =>
      have hnil : Region.ready md ops listed = [] := by
        cases hr : Region.ready md ops listed with
        | nil => rfl
        | cons x xs =>
          rw [hr] at hi
          have hlt : t % (x :: xs).length < (x :: xs).length := Nat.mod_lt _ (by simp)
          simp at hi
          simp at hlt
          omega
      exact h₀ hnil
    | some i =>
      simp only []
      rw [linearise_go_acc, List.reverse_singleton, List.singleton_append]
      exact ih _ _ _ (h₁ i (List.mem_of_getElem? hi))

theorem wpS_region_any {P : Program} {Q : Exit → Act → List Frame → World → Prop} {a : Act} {cs : List Frame} {w : World} {id : Nat} {ops : Array Oper} (hm : P.follows .mixedOrders = true)
    (h : AnyOrder .any ops ops.size (Array.replicate ops.size false) fun l => wpOpsS P ops Q l a cs { w with drawn := w.drawn + 1 }) : (Code.region id ops true).wpS P Q a cs w :=
  wpS_region_draw fun t => by
    simp only [Region.schedule, hm, Bool.true_or, if_true]
    exact anyOrder_sound .any ops ops.size t _ _ h

/-! Worlds that part in one block alone. -/
theorem gb_refl (w : World) (r : Option Nat) : w.grownBy w r := ⟨rfl, rfl, rfl, Nat.le_refl _, fun _ _ _ => rfl⟩
theorem gb_trans {w w1 w2 : World} {r : Option Nat} (h : w.grownBy w1 r) (h' : w1.grownBy w2 r) : w.grownBy w2 r :=
  ⟨h'.os.trans h.os, h'.tape.trans h.tape, h'.output.trans h.output, Nat.le_trans h.size h'.size, fun k hk hn => (h'.block k (Nat.lt_of_lt_of_le hk h.size) hn).trans (h.block k hk hn)⟩
theorem gb_alloc {w w1 : World} {r : Option Nat} (h : w.grownBy w1 r) (o : Obj) : w.grownBy (w1.alloc o) r :=
  gb_trans h ⟨rfl, rfl, rfl, by simp, fun k hk _ => Below.heap_alloc w1 o k hk⟩
theorem gb_set {w w1 : World} {r : Nat} (h : w.grownBy w1 (some r)) (i : Nat) (v : Value) : w.grownBy (w1.setCell ⟨r, i, none⟩ v) (some r) :=
  gb_trans h ⟨rfl, rfl, rfl, by simp [World.setCell], fun k _ hn => Below.heap_setCell w1 _ v k (fun e => hn (by rw [e]))⟩
theorem gb_drew {w w1 : World} {r : Option Nat} (h : w.grownBy w1 r) : w.grownBy w1.drew r := gb_trans h ⟨rfl, rfl, rfl, Nat.le_refl _, fun _ _ _ => rfl⟩
end Go.Proofs.YtmfbkfgggdkfmaaGreatDoor
namespace Go.Proofs.YtmfbkfgggdkfmaaGreatDoor
open Go Go.RowKit
set_option linter.unusedSimpArgs false
set_option linter.unusedVariables false

/-- A reader as it lies in memory. -/
def RdAt (w : World) (rb : Nat) (bv : Value) (at0 p0 q0 : Int) : Prop := w.heap[rb]? = some (.cells #[bv, .int .i64 at0, .int .i64 p0, .int .i64 q0] 123 (0, 0))

theorem RdAt.facts {w : World} {rb : Nat} {bv : Value} {at0 p0 q0 : Int} (h : RdAt w rb bv at0 p0 q0) : rb < w.heap.size ∧ w.cell? ⟨rb, 0, none⟩ = some bv ∧ w.cell? ⟨rb, 1, none⟩ = some (.int .i64 at0) ∧ w.cell? ⟨rb, 2, none⟩ = some (.int .i64 p0) ∧ w.cell? ⟨rb, 3, none⟩ = some (.int .i64 q0) ∧
    w.frozen? ⟨rb, 1, none⟩ = false ∧ w.frozen? ⟨rb, 2, none⟩ = false ∧ w.frozen? ⟨rb, 3, none⟩ = false := by
  unfold RdAt at h
  refine ⟨lt_of_block h, ?_, ?_, ?_, ?_, ?_, ?_, ?_⟩
  all_goals simp [World.cell?, World.frozen?, h]

theorem heap_set {w : World} {R i t : Nat} {cs : Array Value} (h : w.heap[R]? = some (.cells cs t (0, 0))) (v : Value) : (w.setCell ⟨R, i, none⟩ v).heap[R]? = some (.cells (cs.setIfInBounds i v) t (0, 0)) := by
  simp [World.setCell, Array.getElem?_modify, h]
theorem RdAt.three {w : World} {rb : Nat} {bv : Value} {at0 p0 q0 : Int} (h : RdAt w rb bv at0 p0 q0) (f p q : Int) (o : Obj) :
    RdAt ((((w.setCell ⟨rb, 1, none⟩ (.int .i64 f)).setCell ⟨rb, 2, none⟩ (.int .i64 p)).setCell ⟨rb, 3, none⟩ (.int .i64 q)).alloc o).drew rb bv f p q := by
  have h3 := heap_set (i := 3) (heap_set (i := 2) (heap_set (i := 1) h (.int .i64 f)) (.int .i64 p)) (.int .i64 q)
  have e := Below.heap_alloc _ o rb (lt_of_block h3)
  exact (e.trans h3)

theorem ta_hit (v : Value) (w : World) : (Instr.typeAssert (.iface 61 v) 20 61 true).run Tryz.prog w = .ok (.tuple #[v, .bool true]) w := by kernel_rfl
theorem ta_nil (w : World) : (Instr.typeAssert .nilIface 20 61 true).run Tryz.prog w = .ok (.tuple #[.agg #[.int .i64 0, .int .i64 0], .bool false]) w := by kernel_rfl

set_option maxRecDepth 100000 in
set_option maxHeartbeats 1000000 in
theorem settle_hit (rb : Nat) (bv : Value) (at0 p0 q0 f p q : Int) (w : World) (hR : RdAt w rb bv at0 p0 q0) :
    Calls Tryz.prog 56 #[.pointer (some ⟨rb, 0, none⟩), .int .i64 f, .iface 61 (.agg #[.int .i64 p, .int .i64 q])] w fun e w' => e = .returned (.tuple #[]) ∧ RdAt w' rb bv f p q ∧ w.grownBy w' (some rb) := by
  obtain ⟨hlt, c0, c1, c2, c3, f1, f2, f3⟩ := hR.facts
  have HR : Hid (RdAt w rb bv at0 p0 q0) := hR
  clear hR
  have ta := ta_hit
  go_enter Tryz.func56, Tryz.ntmps56
  go_wp2
  go_region
  all_goals (try go_wp2)
  all_goals go_end0
  exact ⟨rfl, HR.out.three f p q _, gb_drew (gb_alloc (gb_set (gb_set (gb_set (gb_refl _ _) _ _) _ _) _ _) _)⟩

set_option maxRecDepth 100000 in
set_option maxHeartbeats 1000000 in
theorem settle_idle (rb : Nat) (f : Int) (w : World) :
    Calls Tryz.prog 56 #[.pointer (some ⟨rb, 0, none⟩), .int .i64 f, .nilIface] w fun e w' => e = .returned (.tuple #[]) ∧ Below w.heap.size w w' := by
  have ta := ta_nil
  go_enter Tryz.func56, Tryz.ntmps56
  go_wp2
  go_end0
  exact ⟨rfl, (Below.refl _ _).alloc (Nat.le_refl _) _⟩

theorem mixed : Tryz.prog.follows .mixedOrders = true := by kernel_rfl

/-- The operations of each deferred function of the reader's methods. -/
def cops (s : String) : Array Oper :=
  #[{ dst := some 3, op := Op.load 97 (Operand.tmp 1), type := 97, pos := s, after := #[], guard := .none },
    { dst := some 4, op := Op.move (Operand.tmp 0), type := 3, pos := s, after := #[], guard := .none },
    { dst := some 5, op := Op.call { callee := Callee.builtin Builtin.recover, args := #[], argTypes := #[] }, type := 20, pos := s, after := #[], guard := .none },
    { dst := some 6, op := Op.call { callee := Callee.value (Operand.func 56), args := #[Operand.tmp 3, Operand.tmp 4, Operand.tmp 5], argTypes := #[97, 3, 20] }, type := 0, pos := s,
      after := #[{ on := 0, ground := Ground.data }, { on := 1, ground := Ground.data }, { on := 2, ground := Ground.data }, { on := 2, ground := Ground.chain }], guard := .none }]

theorem corders (s : String) (F : List Nat → Prop) (h1 : F [0, 1, 2, 3]) (h2 : F [0, 2, 1, 3]) (h3 : F [1, 0, 2, 3]) (h4 : F [1, 2, 0, 3]) (h5 : F [2, 0, 1, 3]) (h6 : F [2, 1, 0, 3]) :
    AnyOrder .any (cops s) 4 (Array.replicate 4 false) F := by
  have r0 : Region.ready .any (cops s) (Array.replicate 4 false) = [0, 1, 2] := by kernel_rfl
  have a0 : Region.ready .any (cops s) #[true, false, false, false] = [1, 2] := by kernel_rfl
  have a1 : Region.ready .any (cops s) #[false, true, false, false] = [0, 2] := by kernel_rfl
  have a2 : Region.ready .any (cops s) #[false, false, true, false] = [0, 1] := by kernel_rfl
  have b0 : Region.ready .any (cops s) #[false, true, true, false] = [0] := by kernel_rfl
  have b1 : Region.ready .any (cops s) #[true, false, true, false] = [1] := by kernel_rfl
  have b2 : Region.ready .any (cops s) #[true, true, false, false] = [2] := by kernel_rfl
  have c0 : Region.ready .any (cops s) #[true, true, true, false] = [3] := by kernel_rfl
  have d0 : Region.ready .any (cops s) #[true, true, true, true] = [] := by kernel_rfl
  have fin : ∀ G : List Nat → Prop, G [3] → AnyOrder .any (cops s) 1 #[true, true, true, false] G := fun G g => by
    refine ⟨fun h => (by rw [c0] at h; cases h), fun i hi => ?_⟩
    rw [c0] at hi
    obtain rfl := List.mem_singleton.1 hi
    exact ⟨d0, g⟩
  refine ⟨fun h => (by rw [r0] at h; cases h), fun i hi => ?_⟩
  rw [r0] at hi
  simp only [List.mem_cons, List.not_mem_nil, or_false] at hi
  rcases hi with rfl | rfl | rfl
  · refine ⟨fun h => (by have h : Region.ready .any (cops s) #[true, false, false, false] = [] := h; rw [a0] at h; cases h), fun i hi => ?_⟩
    have hi : i ∈ Region.ready .any (cops s) #[true, false, false, false] := hi
    rw [a0] at hi
    simp only [List.mem_cons, List.not_mem_nil, or_false] at hi
    rcases hi with rfl | rfl
    · refine ⟨fun h => (by have h : Region.ready .any (cops s) #[true, true, false, false] = [] := h; rw [b2] at h; cases h), fun i hi => ?_⟩
      have hi : i ∈ Region.ready .any (cops s) #[true, true, false, false] := hi
      rw [b2] at hi
      obtain rfl := List.mem_singleton.1 hi
      exact fin _ h1
    · refine ⟨fun h => (by have h : Region.ready .any (cops s) #[true, false, true, false] = [] := h; rw [b1] at h; cases h), fun i hi => ?_⟩
      have hi : i ∈ Region.ready .any (cops s) #[true, false, true, false] := hi
      rw [b1] at hi
      obtain rfl := List.mem_singleton.1 hi
      exact fin _ h2
  · refine ⟨fun h => (by have h : Region.ready .any (cops s) #[false, true, false, false] = [] := h; rw [a1] at h; cases h), fun i hi => ?_⟩
    have hi : i ∈ Region.ready .any (cops s) #[false, true, false, false] := hi
    rw [a1] at hi
    simp only [List.mem_cons, List.not_mem_nil, or_false] at hi
    rcases hi with rfl | rfl
    · refine ⟨fun h => (by have h : Region.ready .any (cops s) #[true, true, false, false] = [] := h; rw [b2] at h; cases h), fun i hi => ?_⟩
      have hi : i ∈ Region.ready .any (cops s) #[true, true, false, false] := hi
      rw [b2] at hi
      obtain rfl := List.mem_singleton.1 hi
      exact fin _ h3
    · refine ⟨fun h => (by have h : Region.ready .any (cops s) #[false, true, true, false] = [] := h; rw [b0] at h; cases h), fun i hi => ?_⟩
      have hi : i ∈ Region.ready .any (cops s) #[false, true, true, false] := hi
      rw [b0] at hi
      obtain rfl := List.mem_singleton.1 hi
      exact fin _ h4
  · refine ⟨fun h => (by have h : Region.ready .any (cops s) #[false, false, true, false] = [] := h; rw [a2] at h; cases h), fun i hi => ?_⟩
    have hi : i ∈ Region.ready .any (cops s) #[false, false, true, false] := hi
    rw [a2] at hi
    simp only [List.mem_cons, List.not_mem_nil, or_false] at hi
    rcases hi with rfl | rfl
    · refine ⟨fun h => (by have h : Region.ready .any (cops s) #[true, false, true, false] = [] := h; rw [b1] at h; cases h), fun i hi => ?_⟩
      have hi : i ∈ Region.ready .any (cops s) #[true, false, true, false] := hi
      rw [b1] at hi
      obtain rfl := List.mem_singleton.1 hi
      exact fin _ h5
    · refine ⟨fun h => (by have h : Region.ready .any (cops s) #[false, true, true, false] = [] := h; rw [b0] at h; cases h), fun i hi => ?_⟩
      have hi : i ∈ Region.ready .any (cops s) #[false, true, true, false] := hi
      rw [b0] at hi
      obtain rfl := List.mem_singleton.1 hi
      exact fin _ h6

set_option maxRecDepth 100000 in
theorem clo_hit (s : String) (fn : Func) (hres : ∀ tmps (w : World), (results fn tmps).run Tryz.prog w = .ok (.tuple #[]) w) (rb : Nat) (pc : Addr) (bv : Value) (at0 p0 q0 f p q : Int) (older : List PanicEntry) (w : World) (hR : RdAt w rb bv at0 p0 q0) (hp : w.cell? pc = some (.pointer (some ⟨rb, 0, none⟩)))
    (c₀ : Frame) (cs : List Frame) (hu : c₀.mode = .panicking ({ v := .iface 61 (.agg #[.int .i64 p, .int .i64 q]), recovered := false } :: older)) :
    (Code.region 0 (cops s) true).wpS Tryz.prog (bodyPostS Tryz.prog fn c₀ cs fun e u' w' => e = .returned (.tuple #[]) ∧ u' = .panicking ({ v := .iface 61 (.agg #[.int .i64 p, .int .i64 q]), recovered := true } :: older) ∧ RdAt w' rb bv f p q ∧ w.grownBy w' (some rb))
      { tmps := #[.int .i64 f, .pointer (some pc), undef, undef, undef, undef, undef], defers := [] } (c₀ :: cs) w := by
  apply wpS_region_any mixed
  have key := settle_hit rb bv at0 p0 q0 f p q w.drew hR
  refine corders s _ ?_ ?_ ?_ ?_ ?_ ?_
  all_goals
    simp [wpOpsS, cops, go_sem, recoverD, hu, hp]
    refine key.mono ?_
    rintro e w' ⟨rfl, h1, h2⟩
    exact ⟨rfl, _, rfl, _, hres _ _, rfl, rfl, h1, gb_trans (gb_drew (gb_refl _ _)) h2⟩

set_option maxRecDepth 100000 in
theorem clo_idle (s : String) (fn : Func) (hres : ∀ tmps (w : World), (results fn tmps).run Tryz.prog w = .ok (.tuple #[]) w) (rb : Nat) (pc : Addr) (f : Int) (w : World) (hp : w.cell? pc = some (.pointer (some ⟨rb, 0, none⟩)))
    (c₀ : Frame) (cs : List Frame) (hu : c₀.mode = .returning) :
    (Code.region 0 (cops s) true).wpS Tryz.prog (bodyPostS Tryz.prog fn c₀ cs fun e u' w' => e = .returned (.tuple #[]) ∧ u' = .returning ∧ Below w.heap.size w w')
      { tmps := #[.int .i64 f, .pointer (some pc), undef, undef, undef, undef, undef], defers := [] } (c₀ :: cs) w := by
  apply wpS_region_any mixed
  have key := settle_idle rb f w.drew
  have hc : { c₀ with mode := .returning } = c₀ := by cases c₀; simp_all
  refine corders s _ ?_ ?_ ?_ ?_ ?_ ?_
  all_goals
    simp [wpOpsS, cops, go_sem, recoverD, hu, hp]
    refine key.mono ?_
    rintro e w' ⟨rfl, h1⟩
    exact ⟨rfl, .returning, by rw [hc], _, hres _ _, rfl, rfl, (Below.refl _ _).drew.trans h1⟩

theorem clo41_idle (rb : Nat) (pc : Addr) (f : Int) (w : World) (hp : w.cell? pc = some (.pointer (some ⟨rb, 0, none⟩))) :
    CallsD Tryz.prog 94 #[.int .i64 f, .pointer (some pc)] .returning w fun e u' w' => e = .returned (.tuple #[]) ∧ u' = .returning ∧ Below w.heap.size w w' :=
  callsD_of_wpS Tryz.func94 rfl fun c₀ cs hu => clo_idle "reader.go:55" Tryz.f94 (fun tmps w => results_none rfl _ _ _) rb pc f w hp c₀ cs hu

theorem clo43_hit (rb : Nat) (pc : Addr) (bv : Value) (at0 p0 q0 f p q : Int) (older : List PanicEntry) (w : World) (hR : RdAt w rb bv at0 p0 q0) (hp : w.cell? pc = some (.pointer (some ⟨rb, 0, none⟩))) :
    CallsD Tryz.prog 86 #[.int .i64 f, .pointer (some pc)] (.panicking ({ v := .iface 61 (.agg #[.int .i64 p, .int .i64 q]), recovered := false } :: older)) w fun e u' w' =>
      e = .returned (.tuple #[]) ∧ u' = .panicking ({ v := .iface 61 (.agg #[.int .i64 p, .int .i64 q]), recovered := true } :: older) ∧ RdAt w' rb bv f p q ∧ w.grownBy w' (some rb) :=
  callsD_of_wpS Tryz.func86 rfl fun c₀ cs hu => clo_hit "reader.go:79" Tryz.f86 (fun tmps w => results_none rfl _ _ _) rb pc bv at0 p0 q0 f p q older w hR hp c₀ cs hu

end Go.Proofs.YtmfbkfgggdkfmaaGreatDoor
