import Derived.Test.YtdhinpmjbcohaaaHb
namespace Go.Proofs.Ytdhinpmjbcohaaa
open Go Go.RowKit Go.Shelf
set_option linter.unusedSimpArgs false
set_option linter.unusedVariables false
open Rf (e2 e2_len e2_app e2_one e2_at ER own_er own_shape app_many addr0 RS)

theorem run_store_fn {P : Program} {w : World} {a : Addr} {m : Mode} (fn : Fn) (first captured : Array Value) : (store a (.func fn first captured) m).run P w = stored P w a (.func fn first captured) m := run_store P w a _ m rfl
attribute [local go_sem] run_store_fn
/-- The world of all behind its first two rows. -/
def alw (w : World) (cb mb kb vb : Nat) : World := ((w.alloc (.cells #[pt cb, pt mb, pt kb, pt vb] 28)).alloc (.cells #[pt cb] 23)).alloc (.cells #[.func (.func 60) #[] #[.pointer (some ⟨w.heap.size + 1, 0, none⟩)]] 84)
/-- What all reads of its own. -/
def AQ (W : World) (cb mb kb vb s n cap : Nat) (a : Option Addr) : Prop :=
  W.cell? ⟨s, 0, none⟩ = some (.pointer (some ⟨cb, 0, none⟩)) ∧ W.cell? ⟨s, 1, none⟩ = some (.pointer (some ⟨mb, 0, none⟩)) ∧ W.cell? ⟨s, 2, none⟩ = some (.pointer (some ⟨kb, 0, none⟩)) ∧ W.cell? ⟨s, 3, none⟩ = some (.pointer (some ⟨vb, 0, none⟩)) ∧ W.cell? ⟨mb, 1, none⟩ = some (.slice a n cap) ∧ W.cell? ⟨s + 1 + 1, 0, none⟩ = some (.func (.func 60) #[] #[.pointer (some ⟨s + 1, 0, none⟩)])
theorem hidi {p : Prop} (h : p) : Hid p := h
set_option maxRecDepth 100000 in
set_option maxHeartbeats 4000000 in
theorem all_walk {w : World} {cb mb rm kb vb n cap : Nat} {a : Option Addr} {stop : Int} {ns : Nat} (hmb : w.heap[mb]? = some (.cells #[.int .i64 rm, .slice a n cap] 79 (0, 0))) (hnc : n ≤ cap)
    (hsv : (stop < 0 ∧ ns = n) ∨ (¬ stop < 0 ∧ ¬ stop < n ∧ ns = n) ∨ (∃ g, a = some ⟨g, 0, none⟩ ∧ ¬ stop < 0 ∧ stop < n ∧ ns = stop.toNat))
    (Po : Ending → World → Prop) {R1 : Value → World → Prop} {R2 : Value → Value → World → Prop} {R3 : Value → World → Prop} {R4 : World → Prop}
    (h40 : ∀ W, Calls Try.prog 40 #[pt cb] W fun e w' => e = .returned (.func (.func 60) #[] #[.pointer (some ⟨W.heap.size, 0, none⟩)]) ∧ w' = W.alloc (.cells #[pt cb] 23))
    (h1 : Calls Try.prog 41 #[.agg #[.pointer (some ⟨cb, 0, none⟩), .pointer (some ⟨mb, 0, none⟩), .pointer (some ⟨kb, 0, none⟩), .pointer (some ⟨vb, 0, none⟩)], .func (.func 60) #[] #[.pointer (some ⟨w.heap.size + 1, 0, none⟩)], .int .i64 stop] (alw w cb mb kb vb) fun r w' => ∃ b m c, r = .returned (.tuple #[.slice b m c, .bool true]) ∧ AQ w' cb mb kb vb w.heap.size n cap a ∧ R1 (.slice b m c) w')
    (h2 : ∀ v W, R1 v W → Calls Try.prog 41 #[.agg #[.pointer (some ⟨cb, 0, none⟩), .pointer (some ⟨mb, 0, none⟩), .pointer (some ⟨kb, 0, none⟩), .pointer (some ⟨vb, 0, none⟩)], .func (.func 60) #[] #[.pointer (some ⟨w.heap.size + 1, 0, none⟩)], .int .i64 (-1)] W fun r w' => ∃ b m c, r = .returned (.tuple #[.slice b m c, .bool true]) ∧ R2 v (.slice b m c) w')
    (h3 : ∀ v u W, R2 v u W → Calls Try.prog 42 #[v, .slice a ns cap] W fun r w' => r = .returned (.bool true) ∧ AQ w' cb mb kb vb w.heap.size n cap a ∧ R3 u w')
    (h4 : ∀ u W, R3 u W → Calls Try.prog 42 #[u, .slice a n cap] W fun r w' => r = .returned (.bool true) ∧ AQ ((w'.alloc (.cells #[.int .i64 0] 3)).alloc (.cells #[.bool true] 4)) cb mb kb vb w.heap.size n cap a ∧ R4 w')
    (h5 : ∀ W, R4 W → Calls Try.prog 60 #[.func (.func 43) #[] #[.pointer (some ⟨w.heap.size, 0, none⟩), .pointer (some ⟨w.heap.size + 1 + 1, 0, none⟩), .pointer (some ⟨W.heap.size + 1, 0, none⟩), .pointer (some ⟨W.heap.size, 0, none⟩)], .pointer (some ⟨w.heap.size + 1, 0, none⟩)] ((W.alloc (.cells #[.int .i64 0] 3)).alloc (.cells #[.bool true] 4)) fun r w' => (∃ v, r = .returned v) ∧ w'.cell? ⟨W.heap.size + 1, 0, none⟩ = some (.bool true) ∧ Po (.returned (.bool true)) w') :
    Calls Try.prog 9 #[.agg #[pt cb, pt mb, pt kb, pt vb], .int .i64 stop] w Po := by
  have H40 : Hid (∀ W, Calls Try.prog 40 #[pt cb] W fun e w' => e = .returned (.func (.func 60) #[] #[.pointer (some ⟨W.heap.size, 0, none⟩)]) ∧ w' = W.alloc (.cells #[pt cb] 23)) := h40
  have H1 := hidi h1
  have H2 := hidi h2
  have H3 := hidi h3
  have H4 := hidi h4
  have H5 := hidi h5
  clear h40 h1 h2 h3 h4 h5
  have m1 : (alw w cb mb kb vb).cell? ⟨mb, 1, none⟩ = some (.slice a n cap) := by
    unfold alw
    have hl := (Array.getElem?_eq_some_iff.1 hmb).1
    refine box_cells (cs := #[.int .i64 rm, .slice a n cap]) (t := 79) (fz := (0, 0)) ?_ 1 _ rfl
    rw [(World.grownBy_alloc _ _ none).block _ (by simp; omega) (by simp), (World.grownBy_alloc _ _ none).block _ (by simp; omega) (by simp), (World.grownBy_alloc _ _ none).block _ hl (by simp)]
    exact hmb
  have hsz : ((w.alloc (.cells #[pt cb, pt mb, pt kb, pt vb] 28)).alloc (.cells #[pt cb] 23)).heap.size = w.heap.size + 1 + 1 := by simp
  have b0 : (((w.alloc (.cells #[pt cb, pt mb, pt kb, pt vb] 28)).alloc (.cells #[pt cb] 23)).alloc (.cells #[.nilFunc] 84)).heap[w.heap.size + 1 + 1]? = some (.cells #[.nilFunc] 84 (0, 0)) := by rw [← hsz]; exact (MapKept.heap_alloc _ _).1
  have s0 := box_cells b0 0 .nilFunc rfl
  have s1 := box_frozen b0 0
  have s2 : (((w.alloc (.cells #[pt cb, pt mb, pt kb, pt vb] 28)).alloc (.cells #[pt cb] 23)).alloc (.cells #[.nilFunc] 84)).setCell ⟨w.heap.size + 1 + 1, 0, none⟩ (.func (.func 60) #[] #[.pointer (some ⟨w.heap.size + 1, 0, none⟩)]) = ((w.alloc (.cells #[pt cb, pt mb, pt kb, pt vb] 28)).alloc (.cells #[pt cb] 23)).alloc (.cells #[.func (.func 60) #[] #[.pointer (some ⟨w.heap.size + 1, 0, none⟩)]] 84) := by
    rw [World.setCell_alloc_at _ _ _ _ _ hsz.symm]
    rfl
  clear b0 hsz
  unfold alw pt at *
  rcases hsv with ⟨k1, rfl⟩ | ⟨k1, k2, rfl⟩ | ⟨g, rfl, k1, k2, rfl⟩
  · go_enter Try.func9, Try.ntmps9
    go_wp2_with fail
    go_must (go_at_call 40)
    refine (H40.out _).mono ?_
    rintro r w' ⟨rfl, rfl⟩
    go_wp2_with fail
    go_must (go_at_call 41)
    refine (H1.out).mono ?_
    rintro r w1 ⟨b1, n1, c1, rfl, ⟨x0, x1, x2, x3, x4, x5⟩, hr1⟩
    have J1 := hidi (H2.out _ _ hr1)
    clear hr1 s0 s1 s2 m1
    go_wp2_with fail
    go_must (go_at_call 41)
    refine (J1.out).mono ?_
    rintro r w2 ⟨b2, n2, c2, rfl, hr2⟩
    have J2 := hidi (H3.out _ _ _ hr2)
    clear hr2 x0 x1 x2 x3 x4 x5
    go_wp2_with fail
    go_must (go_at_call 42)
    refine (J2.out).mono ?_
    rintro r w3 ⟨rfl, ⟨x0, x1, x2, x3, x4, x5⟩, hr3⟩
    have J3 := hidi (H4.out _ _ hr3)
    clear hr3
    go_wp2_with fail
    go_must (go_at_call 42)
    refine (J3.out).mono ?_
    rintro r w4 ⟨rfl, ⟨y0, y1, y2, y3, y4, y5⟩, hr4⟩
    have J4 := hidi (H5.out _ hr4)
    clear hr4 x0 x1 x2 x3 x4 x5
    go_wp2_with fail
    go_must (go_at_call 60)
    refine (J4.out).mono ?_
    rintro r w5 ⟨⟨u, rfl⟩, z0, hr5⟩
    have J5 := hidi hr5
    clear hr5
    go_wp2_with fail
    all_goals (try go_ret2)
    all_goals exact J5.out
  · go_enter Try.func9, Try.ntmps9
    go_wp2_with fail
    go_must (go_at_call 40)
    refine (H40.out _).mono ?_
    rintro r w' ⟨rfl, rfl⟩
    go_wp2_with fail
    go_must (go_at_call 41)
    refine (H1.out).mono ?_
    rintro r w1 ⟨b1, n1, c1, rfl, ⟨x0, x1, x2, x3, x4, x5⟩, hr1⟩
    have J1 := hidi (H2.out _ _ hr1)
    clear hr1 s0 s1 s2 m1
    go_wp2_with fail
    go_must (go_at_call 41)
    refine (J1.out).mono ?_
    rintro r w2 ⟨b2, n2, c2, rfl, hr2⟩
    have J2 := hidi (H3.out _ _ _ hr2)
    clear hr2 x0 x1 x2 x3 x4 x5
    go_wp2_with fail
    go_must (go_at_call 42)
    refine (J2.out).mono ?_
    rintro r w3 ⟨rfl, ⟨x0, x1, x2, x3, x4, x5⟩, hr3⟩
    have J3 := hidi (H4.out _ _ hr3)
    clear hr3
    go_wp2_with fail
    go_must (go_at_call 42)
    refine (J3.out).mono ?_
    rintro r w4 ⟨rfl, ⟨y0, y1, y2, y3, y4, y5⟩, hr4⟩
    have J4 := hidi (H5.out _ hr4)
    clear hr4 x0 x1 x2 x3 x4 x5
    go_wp2_with fail
    go_must (go_at_call 60)
    refine (J4.out).mono ?_
    rintro r w5 ⟨⟨u, rfl⟩, z0, hr5⟩
    have J5 := hidi hr5
    clear hr5
    go_wp2_with fail
    all_goals (try go_ret2)
    all_goals exact J5.out
  · go_enter Try.func9, Try.ntmps9
    go_wp2_with fail
    go_must (go_at_call 40)
    refine (H40.out _).mono ?_
    rintro r w' ⟨rfl, rfl⟩
    go_wp2_with fail
    go_must (go_at_call 41)
    refine (H1.out).mono ?_
    rintro r w1 ⟨b1, n1, c1, rfl, ⟨x0, x1, x2, x3, x4, x5⟩, hr1⟩
    have J1 := hidi (H2.out _ _ hr1)
    clear hr1 s0 s1 s2 m1
    go_wp2_with fail
    go_must (go_at_call 41)
    refine (J1.out).mono ?_
    rintro r w2 ⟨b2, n2, c2, rfl, hr2⟩
    have J2 := hidi (H3.out _ _ _ hr2)
    clear hr2 x0 x1 x2 x3 x4 x5
    go_wp2_with fail
    go_must (go_at_call 42)
    refine (J2.out).mono ?_
    rintro r w3 ⟨rfl, ⟨x0, x1, x2, x3, x4, x5⟩, hr3⟩
    have J3 := hidi (H4.out _ _ hr3)
    clear hr3
    go_wp2_with fail
    go_must (go_at_call 42)
    refine (J3.out).mono ?_
    rintro r w4 ⟨rfl, ⟨y0, y1, y2, y3, y4, y5⟩, hr4⟩
    have J4 := hidi (H5.out _ hr4)
    clear hr4 x0 x1 x2 x3 x4 x5
    go_wp2_with fail
    go_must (go_at_call 60)
    refine (J4.out).mono ?_
    rintro r w5 ⟨⟨u, rfl⟩, z0, hr5⟩
    have J5 := hidi hr5
    clear hr5
    go_wp2_with fail
    all_goals (try go_ret2)
    all_goals exact J5.out
end Go.Proofs.Ytdhinpmjbcohaaa
