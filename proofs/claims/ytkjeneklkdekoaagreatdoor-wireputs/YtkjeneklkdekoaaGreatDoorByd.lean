import Derived.Test.YtkjeneklkdekoaaGreatDoorByc
import Derived.Test.YtkjeneklkdekoaaGreatDoorByb
namespace Go.Proofs.YtkjeneklkdekoaaGreatDoor
open Go Go.RowKit
set_option linter.unusedSimpArgs false
set_option linter.unusedVariables false

theorem ownv_came {w' : World} {a : Option Addr} {n c base : Nat} {xs : List Value} {Z : Nat → Int} (ho : w'.ownsRow base 5 1 (.slice a n c) n xs) (hx : xs = cellsOf Z n) (hz : ∀ i, 0 ≤ Z i ∧ Z i ≤ 255) : Came w' a n c Z := by
  subst hx
  rcases ho.2 with ⟨q, h0⟩ | ⟨g, cap, cur, q, _⟩
  · injection q with q1 q2 q3
    subst q1 q2 q3
    exact ⟨Nat.le_refl _, hz, .inl ⟨rfl, rfl, rfl⟩⟩
  · injection q with q1 q2 q3
    subst q1 q3
    exact made_came (w := w') ho hz
theorem bz_behind (a0 a1 : Option Addr) (l0 k0 l1 k1 : Nat) (z0 z1 : Nat → Int) (w : World) (h0 : Came w a0 l0 k0 z0) (h1 : Came w a1 l1 k1 z1) (hl0 : l0 ≤ 400000) (hl1 : l1 ≤ 400000) :
    Calls Tryz.prog 10 #[.slice a0 l0 k0, .slice a1 l1 k1] w fun e w' => ∃ a c, e = .returned (.slice a (l0 + l1) c) ∧ Came w' a (l0 + l1) c (cat z0 l0 z1) ∧ Below w.heap.size w w' := by
  refine (lbehind_any a0 a1 l0 k0 l1 k1 z0 z1 w h0 h1 hl0 hl1).mono ?_
  rintro e w' ⟨a, c, rfl, ho, hb⟩
  exact ⟨a, c, rfl, ownv_came ho (cells_cat _ _ _ _) (cat_bd h0.2.1 h1.2.1), hb⟩
theorem bel_ch {S : Nat → Prop} {a b : World} (h : Below a.heap.size a b) : Ch S a b := ⟨h.os, h.tape, h.output, h.size, fun k hk _ => h.block k hk⟩
/-- Lists that are only looked at. -/
def EM (W : World) (l : List Value) (sp : List (Nat × (Nat → Int))) : Prop := ∀ (j : Nat) (v : Value) (p : Nat × (Nat → Int)), l[j]? = some v → sp[j]? = some p → ∃ a cp, v = .slice a p.1 cp ∧ Came W a p.1 cp p.2
theorem EM.later {W W' : World} {l : List Value} {sp : List (Nat × (Nat → Int))} (h : EM W l sp) (hb : Below W.heap.size W W') : EM W' l sp := fun j v p e1 e2 => by
  obtain ⟨a, cp, rfl, hc⟩ := h j v p e1 e2
  exact ⟨a, cp, rfl, came_below (B := 0) hc hb⟩
theorem EM.add {W : World} {l : List Value} {sp : List (Nat × (Nat → Int))} (h : EM W l sp) {a : Option Addr} {cp : Nat} {p : Nat × (Nat → Int)} (hc : Came W a p.1 cp p.2) (hl : l.length = sp.length := by rfl) : EM W (l ++ [.slice a p.1 cp]) (sp ++ [p]) := fun j v q e1 e2 => by
  by_cases hj : j < l.length
  · rw [List.getElem?_append_left hj] at e1
    rw [List.getElem?_append_left (by omega)] at e2
    exact h j v q e1 e2
  · have hj : j = l.length := by
      have := (List.getElem?_eq_some_iff.1 e1).1
      simp at this
      omega
    subst hj
    rw [List.getElem?_append_right (Nat.le_refl _)] at e1
    rw [List.getElem?_append_right (by omega), hl] at e2
    simp at e1 e2
    subst e1 e2
    exact ⟨a, cp, rfl, hc⟩
theorem EM.got {W : World} {l : List Value} {sp : List (Nat × (Nat → Int))} (h : EM W l sp) (j : Nat) {v : Value} {p : Nat × (Nat → Int)} (e1 : l[j]? = some v) (e2 : sp[j]? = some p) : ∃ a cp, v = .slice a p.1 cp ∧ Came W a p.1 cp p.2 := h j v p e1 e2
theorem EM.take {W : World} {l : List Value} {sp : List (Nat × (Nat → Int))} (h : EM W l sp) (m : Nat) : EM W (l.take m) (sp.take m) := fun j v p e1 e2 => by
  rw [List.getElem?_take] at e1 e2
  split at e1
  · rename_i hj
    rw [if_pos hj] at e2
    exact h j v p e1 e2
  · cases e1
theorem RB.nil {w W : World} {U0 : Nat → Prop} {bb N : Nat} {l : List Value} (h : RB w U0 bb N l W) : RB w U0 bb N (.slice none 0 0 :: l) W := by
  obtain ⟨U, h1, h2, h3, h4, h5⟩ := h
  refine ⟨U, h1, h2, h3, fun v hv => ?_, List.pairwise_cons.2 ⟨fun u _ k e => by simp [Value.ownBlock] at e, h5⟩⟩
  rcases List.mem_cons.1 hv with rfl | hv
  · exact la_nil _ _ _
  · exact h4 v hv
set_option maxHeartbeats 1000000 in
theorem puts_tt_any {w : World} {bb N : Nat} {U : Nat → Prop} (hbk : Bk w bb N U) (hN : N ≤ 400) {a0 ab a1 ao : Option Addr} {l0 k0 kb l1 k1 ko : Nat} {z0 z1 : Nat → Int} (n mark : Int) (s : ByteArray) (h0 : Came w a0 l0 k0 z0) (hb : Came w ab l0 kb z0) (hd : Came w a1 l1 k1 z1) (ho : Came w ao l1 ko z1) (hl0 : l0 ≤ 140000) (hl1 : l1 ≤ 140000) (hm : 0 ≤ mark ∧ mark ≤ 100000) (hl2 : l1 ≤ 65535) (hs : s.size ≤ 65535) (hc : (chk s).2 = 0) :
    Calls Tryz.prog 7 #[.pointer (some ⟨bb, 0, none⟩), .slice a0 l0 k0, .slice ab l0 kb, .int .i64 n, .string s, .slice a1 l1 k1, .slice ao l1 ko, .int .i64 mark] w fun r w' => r = .returned (.bool true) ∧ RB w U bb (N + 5) [] w' := by
  have c0 : ∀ W, Below w.heap.size w W → Came W a0 l0 k0 z0 := fun W b => came_below (B := 0) h0 b
  have cB : ∀ W, Below w.heap.size w W → Came W ab l0 kb z0 := fun W b => came_below (B := 0) hb b
  have c1 : ∀ W, Below w.heap.size w W → Came W a1 l1 k1 z1 := fun W b => came_below (B := 0) hd b
  have cO : ∀ W, Below w.heap.size w W → Came W ao l1 ko z1 := fun W b => came_below (B := 0) ho b
  have rb : ∀ (W : World) (l : List Value) (sp : List (Nat × (Nat → Int))), AM w W l sp → (∀ p ∈ sp, p.1 ≤ 900000) → RB w U bb N l W := fun W l sp hA hsp => ⟨U, hbk.keep (fun k hk => hA.bel.block k (hbk.lt hk)), fun k hk => .inl hk, bel_ch hA.bel, hA.la hsp (fun k hk => hbk.lt hk), hA.sep⟩
  refine puts_tt (ec := 0) (fun i l W => match i with
    | 1 => AM w W (l.take 1) [(l0 + 2, cat z0 l0 (numZ n))] ∧ EM W (l.drop 1) []
    | 2 => AM w W (l.take 2) [(l0 + 2, cat z0 l0 (numZ n)), (l0 + 4, cat z0 l0 (lngZ n))] ∧ EM W (l.drop 2) []
    | 3 => AM w W (l.take 3) [(l0 + 2, cat z0 l0 (numZ n)), (l0 + 4, cat z0 l0 (lngZ n)), (l0 + kn (cl n), cat z0 l0 (glZ (cl n)))] ∧ EM W (l.drop 3) []
    | 4 => AM w W (l.take 4) [(l0 + 2, cat z0 l0 (numZ n)), (l0 + 4, cat z0 l0 (lngZ n)), (l0 + kn (cl n), cat z0 l0 (glZ (cl n))), (l0 + (2 + s.size), cat z0 l0 (cat (numZ s.size) 2 (sZ s)))] ∧ EM W (l.drop 4) []
    | 5 => AM w W (l.take 5) [(l0 + 2, cat z0 l0 (numZ n)), (l0 + 4, cat z0 l0 (lngZ n)), (l0 + kn (cl n), cat z0 l0 (glZ (cl n))), (l0 + (2 + s.size), cat z0 l0 (cat (numZ s.size) 2 (sZ s))), (l0 + (2 + l1), cat z0 l0 (cat (numZ l1) 2 z1))] ∧ EM W (l.drop 5) []
    | 6 => AM w W (l.take 5) [(l0 + 2, cat z0 l0 (numZ n)), (l0 + 4, cat z0 l0 (lngZ n)), (l0 + kn (cl n), cat z0 l0 (glZ (cl n))), (l0 + (2 + s.size), cat z0 l0 (cat (numZ s.size) 2 (sZ s))), (l0 + (2 + l1), cat z0 l0 (cat (numZ l1) 2 z1))] ∧ EM W (l.drop 5) [(2, numZ n)]
    | 7 => AM w W (l.take 5) [(l0 + 2, cat z0 l0 (numZ n)), (l0 + 4, cat z0 l0 (lngZ n)), (l0 + kn (cl n), cat z0 l0 (glZ (cl n))), (l0 + (2 + s.size), cat z0 l0 (cat (numZ s.size) 2 (sZ s))), (l0 + (2 + l1), cat z0 l0 (cat (numZ l1) 2 z1))] ∧ EM W (l.drop 5) [(2, numZ n), (l0 + (2), cat z0 l0 (numZ n))]
    | 8 => AM w W (l.take 5) [(l0 + 2, cat z0 l0 (numZ n)), (l0 + 4, cat z0 l0 (lngZ n)), (l0 + kn (cl n), cat z0 l0 (glZ (cl n))), (l0 + (2 + s.size), cat z0 l0 (cat (numZ s.size) 2 (sZ s))), (l0 + (2 + l1), cat z0 l0 (cat (numZ l1) 2 z1))] ∧ EM W (l.drop 5) []
    | 9 => AM w W (l.take 5) [(l0 + 2, cat z0 l0 (numZ n)), (l0 + 4, cat z0 l0 (lngZ n)), (l0 + kn (cl n), cat z0 l0 (glZ (cl n))), (l0 + (2 + s.size), cat z0 l0 (cat (numZ s.size) 2 (sZ s))), (l0 + (2 + l1), cat z0 l0 (cat (numZ l1) 2 z1))] ∧ EM W (l.drop 5) [(4, lngZ n)]
    | 10 => AM w W (l.take 5) [(l0 + 2, cat z0 l0 (numZ n)), (l0 + 4, cat z0 l0 (lngZ n)), (l0 + kn (cl n), cat z0 l0 (glZ (cl n))), (l0 + (2 + s.size), cat z0 l0 (cat (numZ s.size) 2 (sZ s))), (l0 + (2 + l1), cat z0 l0 (cat (numZ l1) 2 z1))] ∧ EM W (l.drop 5) [(4, lngZ n), (l0 + (4), cat z0 l0 (lngZ n))]
    | 11 => AM w W (l.take 5) [(l0 + 2, cat z0 l0 (numZ n)), (l0 + 4, cat z0 l0 (lngZ n)), (l0 + kn (cl n), cat z0 l0 (glZ (cl n))), (l0 + (2 + s.size), cat z0 l0 (cat (numZ s.size) 2 (sZ s))), (l0 + (2 + l1), cat z0 l0 (cat (numZ l1) 2 z1))] ∧ EM W (l.drop 5) []
    | 12 => AM w W (l.take 5) [(l0 + 2, cat z0 l0 (numZ n)), (l0 + 4, cat z0 l0 (lngZ n)), (l0 + kn (cl n), cat z0 l0 (glZ (cl n))), (l0 + (2 + s.size), cat z0 l0 (cat (numZ s.size) 2 (sZ s))), (l0 + (2 + l1), cat z0 l0 (cat (numZ l1) 2 z1))] ∧ EM W (l.drop 5) [(kn (cl n), glZ (cl n))]
    | 13 => AM w W (l.take 5) [(l0 + 2, cat z0 l0 (numZ n)), (l0 + 4, cat z0 l0 (lngZ n)), (l0 + kn (cl n), cat z0 l0 (glZ (cl n))), (l0 + (2 + s.size), cat z0 l0 (cat (numZ s.size) 2 (sZ s))), (l0 + (2 + l1), cat z0 l0 (cat (numZ l1) 2 z1))] ∧ EM W (l.drop 5) [(kn (cl n), glZ (cl n)), (l0 + (kn (cl n)), cat z0 l0 (glZ (cl n)))]
    | 14 => AM w W (l.take 5) [(l0 + 2, cat z0 l0 (numZ n)), (l0 + 4, cat z0 l0 (lngZ n)), (l0 + kn (cl n), cat z0 l0 (glZ (cl n))), (l0 + (2 + s.size), cat z0 l0 (cat (numZ s.size) 2 (sZ s))), (l0 + (2 + l1), cat z0 l0 (cat (numZ l1) 2 z1))] ∧ EM W (l.drop 5) []
    | 15 => AM w W (l.take 5) [(l0 + 2, cat z0 l0 (numZ n)), (l0 + 4, cat z0 l0 (lngZ n)), (l0 + kn (cl n), cat z0 l0 (glZ (cl n))), (l0 + (2 + s.size), cat z0 l0 (cat (numZ s.size) 2 (sZ s))), (l0 + (2 + l1), cat z0 l0 (cat (numZ l1) 2 z1))] ∧ EM W (l.drop 5) [(2 + s.size, cat (numZ s.size) 2 (sZ s))]
    | 16 => AM w W (l.take 5) [(l0 + 2, cat z0 l0 (numZ n)), (l0 + 4, cat z0 l0 (lngZ n)), (l0 + kn (cl n), cat z0 l0 (glZ (cl n))), (l0 + (2 + s.size), cat z0 l0 (cat (numZ s.size) 2 (sZ s))), (l0 + (2 + l1), cat z0 l0 (cat (numZ l1) 2 z1))] ∧ EM W (l.drop 5) [(2 + s.size, cat (numZ s.size) 2 (sZ s)), (2 + l1, cat (numZ l1) 2 z1)]
    | 17 => AM w W (l.take 5) [(l0 + 2, cat z0 l0 (numZ n)), (l0 + 4, cat z0 l0 (lngZ n)), (l0 + kn (cl n), cat z0 l0 (glZ (cl n))), (l0 + (2 + s.size), cat z0 l0 (cat (numZ s.size) 2 (sZ s))), (l0 + (2 + l1), cat z0 l0 (cat (numZ l1) 2 z1))] ∧ EM W (l.drop 5) [(2 + s.size, cat (numZ s.size) 2 (sZ s)), (2 + l1, cat (numZ l1) 2 z1), (l0 + (2 + s.size), cat z0 l0 (cat (numZ s.size) 2 (sZ s)))]
    | 18 => AM w W (l.take 5) [(l0 + 2, cat z0 l0 (numZ n)), (l0 + 4, cat z0 l0 (lngZ n)), (l0 + kn (cl n), cat z0 l0 (glZ (cl n))), (l0 + (2 + s.size), cat z0 l0 (cat (numZ s.size) 2 (sZ s))), (l0 + (2 + l1), cat z0 l0 (cat (numZ l1) 2 z1))] ∧ EM W (l.drop 5) [(2 + s.size, cat (numZ s.size) 2 (sZ s)), (2 + l1, cat (numZ l1) 2 z1)]
    | 19 => AM w W (l.take 5) [(l0 + 2, cat z0 l0 (numZ n)), (l0 + 4, cat z0 l0 (lngZ n)), (l0 + kn (cl n), cat z0 l0 (glZ (cl n))), (l0 + (2 + s.size), cat z0 l0 (cat (numZ s.size) 2 (sZ s))), (l0 + (2 + l1), cat z0 l0 (cat (numZ l1) 2 z1))] ∧ EM W (l.drop 5) [(2 + s.size, cat (numZ s.size) 2 (sZ s)), (2 + l1, cat (numZ l1) 2 z1), (l0 + (2 + l1), cat z0 l0 (cat (numZ l1) 2 z1))]
    | 20 => RB w U bb N l W
    | 21 => RB w U bb (N + 1) l W
    | 22 => RB w U bb (N + 2) l W
    | 23 => RB w U bb (N + 3) l W
    | 24 => RB w U bb (N + 4) l W
    | _ => False) _ hm ?_ ?_ ?_ ?_ ?_ ?_ ?_ ?_ ?_ ?_ ?_ ?_ ?_ ?_ ?_ ?_ ?_ ?_ ?_ ?_ ?_ ?_ ?_ ?_ ?_
  · have hA := AM.start w
    have hE : EM w [] [] := by intro j v p e; simp at e
    refine (pz_number a0 l0 k0 z0 w (c0 w hA.bel) (by omega) n).mono ?_
    rintro e w' ⟨v, rfl, hm⟩
    exact ⟨v, rfl, hA.add hm, hE.later hm.bel⟩
  · intro x W hk
    have hA : AM w W [x] [(l0 + 2, cat z0 l0 (numZ n))] := hk.1
    have hE : EM W [] [] := hk.2
    refine (pz_long a0 l0 k0 z0 W (c0 W hA.bel) (by omega) n).mono ?_
    rintro e w' ⟨v, rfl, hm⟩
    exact ⟨v, rfl, hA.add hm, hE.later hm.bel⟩
  · intro x y W hk
    have hA : AM w W [x, y] [(l0 + 2, cat z0 l0 (numZ n)), (l0 + 4, cat z0 l0 (lngZ n))] := hk.1
    have hE : EM W [] [] := hk.2
    refine (pz_length a0 l0 k0 z0 W (c0 W hA.bel) (by omega) n).mono ?_
    rintro e w' ⟨v, rfl, hm⟩
    exact ⟨v, rfl, hA.add hm, hE.later hm.bel⟩
  · intro x y z W hk
    have hA : AM w W [x, y, z] [(l0 + 2, cat z0 l0 (numZ n)), (l0 + 4, cat z0 l0 (lngZ n)), (l0 + kn (cl n), cat z0 l0 (glZ (cl n)))] := hk.1
    have hE : EM W [] [] := hk.2
    refine (pz_text a0 l0 k0 z0 W (c0 W hA.bel) (by omega) s hs hc).mono ?_
    rintro e w' ⟨v, rfl, hm⟩
    exact ⟨v, rfl, hA.add hm, hE.later hm.bel⟩
  · intro x y z t W hk
    have hA : AM w W [x, y, z, t] [(l0 + 2, cat z0 l0 (numZ n)), (l0 + 4, cat z0 l0 (lngZ n)), (l0 + kn (cl n), cat z0 l0 (glZ (cl n))), (l0 + (2 + s.size), cat z0 l0 (cat (numZ s.size) 2 (sZ s)))] := hk.1
    have hE : EM W [] [] := hk.2
    refine (pz_data a0 l0 k0 z0 W (c0 W hA.bel) (by omega) a1 l1 k1 z1 (c1 W hA.bel) hl2).mono ?_
    rintro e w' ⟨v, rfl, hm⟩
    exact ⟨v, rfl, hA.add hm, hE.later hm.bel⟩
  · intro x y z t u W hk
    have hA : AM w W [x, y, z, t, u] [(l0 + 2, cat z0 l0 (numZ n)), (l0 + 4, cat z0 l0 (lngZ n)), (l0 + kn (cl n), cat z0 l0 (glZ (cl n))), (l0 + (2 + s.size), cat z0 l0 (cat (numZ s.size) 2 (sZ s))), (l0 + (2 + l1), cat z0 l0 (cat (numZ l1) 2 z1))] := hk.1
    have hE : EM W [] [] := hk.2
    refine (rz_number n W).mono ?_
    rintro e w' ⟨v, rfl, hm⟩
    obtain ⟨g, cp, rfl, hg⟩ := hm.sl
    exact ⟨_, rfl, hA.later hm.bel, (hE.later hm.bel).add (p := (2, numZ n)) hm.came⟩
  · intro x y z t u r1 W hk
    have hA : AM w W [x, y, z, t, u] [(l0 + 2, cat z0 l0 (numZ n)), (l0 + 4, cat z0 l0 (lngZ n)), (l0 + kn (cl n), cat z0 l0 (glZ (cl n))), (l0 + (2 + s.size), cat z0 l0 (cat (numZ s.size) 2 (sZ s))), (l0 + (2 + l1), cat z0 l0 (cat (numZ l1) 2 z1))] := hk.1
    have hE : EM W [r1] [(2, numZ n)] := hk.2
    obtain ⟨a, cp, rfl, hc⟩ := hE.got 0 rfl rfl
    refine (bz_behind ab a l0 kb (2) cp z0 (numZ n) W (cB W hA.bel) hc (by omega) (by have := kn_bd (cl n); omega)).mono ?_
    rintro e w' ⟨v, c, rfl, hc', hb⟩
    exact ⟨_, rfl, hA.later hb, (hE.later hb).add (p := (l0 + (2), cat z0 l0 (numZ n))) hc'⟩
  · intro x y z t u r1 q1 W hk
    have hA : AM w W [x, y, z, t, u] [(l0 + 2, cat z0 l0 (numZ n)), (l0 + 4, cat z0 l0 (lngZ n)), (l0 + kn (cl n), cat z0 l0 (glZ (cl n))), (l0 + (2 + s.size), cat z0 l0 (cat (numZ s.size) 2 (sZ s))), (l0 + (2 + l1), cat z0 l0 (cat (numZ l1) 2 z1))] := hk.1
    have hE : EM W [r1, q1] [(2, numZ n), (l0 + (2), cat z0 l0 (numZ n))] := hk.2
    obtain ⟨g, cp, rfl, hc⟩ := hA.got 0 rfl rfl
    obtain ⟨a, cp', rfl, hc'⟩ := hE.got 1 rfl rfl
    refine (same_d W _ _ _ cp cp' _ hc hc').mono ?_
    rintro e w' ⟨rfl, rfl⟩
    exact ⟨rfl, hA, hE.take 0⟩
  · intro x y z t u W hk
    have hA : AM w W [x, y, z, t, u] [(l0 + 2, cat z0 l0 (numZ n)), (l0 + 4, cat z0 l0 (lngZ n)), (l0 + kn (cl n), cat z0 l0 (glZ (cl n))), (l0 + (2 + s.size), cat z0 l0 (cat (numZ s.size) 2 (sZ s))), (l0 + (2 + l1), cat z0 l0 (cat (numZ l1) 2 z1))] := hk.1
    have hE : EM W [] [] := hk.2
    refine (rz_long n W).mono ?_
    rintro e w' ⟨v, rfl, hm⟩
    obtain ⟨g, cp, rfl, hg⟩ := hm.sl
    exact ⟨_, rfl, hA.later hm.bel, (hE.later hm.bel).add (p := (4, lngZ n)) hm.came⟩
  · intro x y z t u r1 W hk
    have hA : AM w W [x, y, z, t, u] [(l0 + 2, cat z0 l0 (numZ n)), (l0 + 4, cat z0 l0 (lngZ n)), (l0 + kn (cl n), cat z0 l0 (glZ (cl n))), (l0 + (2 + s.size), cat z0 l0 (cat (numZ s.size) 2 (sZ s))), (l0 + (2 + l1), cat z0 l0 (cat (numZ l1) 2 z1))] := hk.1
    have hE : EM W [r1] [(4, lngZ n)] := hk.2
    obtain ⟨a, cp, rfl, hc⟩ := hE.got 0 rfl rfl
    refine (bz_behind ab a l0 kb (4) cp z0 (lngZ n) W (cB W hA.bel) hc (by omega) (by have := kn_bd (cl n); omega)).mono ?_
    rintro e w' ⟨v, c, rfl, hc', hb⟩
    exact ⟨_, rfl, hA.later hb, (hE.later hb).add (p := (l0 + (4), cat z0 l0 (lngZ n))) hc'⟩
  · intro x y z t u r1 q1 W hk
    have hA : AM w W [x, y, z, t, u] [(l0 + 2, cat z0 l0 (numZ n)), (l0 + 4, cat z0 l0 (lngZ n)), (l0 + kn (cl n), cat z0 l0 (glZ (cl n))), (l0 + (2 + s.size), cat z0 l0 (cat (numZ s.size) 2 (sZ s))), (l0 + (2 + l1), cat z0 l0 (cat (numZ l1) 2 z1))] := hk.1
    have hE : EM W [r1, q1] [(4, lngZ n), (l0 + (4), cat z0 l0 (lngZ n))] := hk.2
    obtain ⟨g, cp, rfl, hc⟩ := hA.got 1 rfl rfl
    obtain ⟨a, cp', rfl, hc'⟩ := hE.got 1 rfl rfl
    refine (same_d W _ _ _ cp cp' _ hc hc').mono ?_
    rintro e w' ⟨rfl, rfl⟩
    exact ⟨rfl, hA, hE.take 0⟩
  · intro x y z t u W hk
    have hA : AM w W [x, y, z, t, u] [(l0 + 2, cat z0 l0 (numZ n)), (l0 + 4, cat z0 l0 (lngZ n)), (l0 + kn (cl n), cat z0 l0 (glZ (cl n))), (l0 + (2 + s.size), cat z0 l0 (cat (numZ s.size) 2 (sZ s))), (l0 + (2 + l1), cat z0 l0 (cat (numZ l1) 2 z1))] := hk.1
    have hE : EM W [] [] := hk.2
    refine (rz_groups n W).mono ?_
    rintro e w' ⟨v, rfl, hm⟩
    obtain ⟨g, cp, rfl, hg⟩ := hm.sl
    exact ⟨_, rfl, hA.later hm.bel, (hE.later hm.bel).add (p := (kn (cl n), glZ (cl n))) hm.came⟩
  · intro x y z t u r1 W hk
    have hA : AM w W [x, y, z, t, u] [(l0 + 2, cat z0 l0 (numZ n)), (l0 + 4, cat z0 l0 (lngZ n)), (l0 + kn (cl n), cat z0 l0 (glZ (cl n))), (l0 + (2 + s.size), cat z0 l0 (cat (numZ s.size) 2 (sZ s))), (l0 + (2 + l1), cat z0 l0 (cat (numZ l1) 2 z1))] := hk.1
    have hE : EM W [r1] [(kn (cl n), glZ (cl n))] := hk.2
    obtain ⟨a, cp, rfl, hc⟩ := hE.got 0 rfl rfl
    refine (bz_behind ab a l0 kb (kn (cl n)) cp z0 (glZ (cl n)) W (cB W hA.bel) hc (by omega) (by have := kn_bd (cl n); omega)).mono ?_
    rintro e w' ⟨v, c, rfl, hc', hb⟩
    exact ⟨_, rfl, hA.later hb, (hE.later hb).add (p := (l0 + (kn (cl n)), cat z0 l0 (glZ (cl n)))) hc'⟩
  · intro x y z t u r1 q1 W hk
    have hA : AM w W [x, y, z, t, u] [(l0 + 2, cat z0 l0 (numZ n)), (l0 + 4, cat z0 l0 (lngZ n)), (l0 + kn (cl n), cat z0 l0 (glZ (cl n))), (l0 + (2 + s.size), cat z0 l0 (cat (numZ s.size) 2 (sZ s))), (l0 + (2 + l1), cat z0 l0 (cat (numZ l1) 2 z1))] := hk.1
    have hE : EM W [r1, q1] [(kn (cl n), glZ (cl n)), (l0 + (kn (cl n)), cat z0 l0 (glZ (cl n)))] := hk.2
    obtain ⟨g, cp, rfl, hc⟩ := hA.got 2 rfl rfl
    obtain ⟨a, cp', rfl, hc'⟩ := hE.got 1 rfl rfl
    refine (same_d W _ _ _ cp cp' _ hc hc').mono ?_
    rintro e w' ⟨rfl, rfl⟩
    exact ⟨rfl, hA, hE.take 0⟩
  · intro x y z t u W hk
    have hA : AM w W [x, y, z, t, u] [(l0 + 2, cat z0 l0 (numZ n)), (l0 + 4, cat z0 l0 (lngZ n)), (l0 + kn (cl n), cat z0 l0 (glZ (cl n))), (l0 + (2 + s.size), cat z0 l0 (cat (numZ s.size) 2 (sZ s))), (l0 + (2 + l1), cat z0 l0 (cat (numZ l1) 2 z1))] := hk.1
    have hE : EM W [] [] := hk.2
    refine (rz_words s W hs hc).mono ?_
    rintro e w' ⟨v, rfl, hm⟩
    obtain ⟨g, cp, rfl, hg⟩ := hm.sl
    exact ⟨_, rfl, hA.later hm.bel, (hE.later hm.bel).add (p := (2 + s.size, cat (numZ s.size) 2 (sZ s))) hm.came⟩
  · intro x y z t u tx W hk
    have hA : AM w W [x, y, z, t, u] [(l0 + 2, cat z0 l0 (numZ n)), (l0 + 4, cat z0 l0 (lngZ n)), (l0 + kn (cl n), cat z0 l0 (glZ (cl n))), (l0 + (2 + s.size), cat z0 l0 (cat (numZ s.size) 2 (sZ s))), (l0 + (2 + l1), cat z0 l0 (cat (numZ l1) 2 z1))] := hk.1
    have hE : EM W [tx] [(2 + s.size, cat (numZ s.size) 2 (sZ s))] := hk.2
    refine (rdata_ok ao l1 ko z1 W (cO W hA.bel) hl2).mono ?_
    rintro e w' ⟨g, cp, rfl, hc, hb⟩
    exact ⟨_, rfl, hA.later hb, (hE.later hb).add (p := (2 + l1, cat (numZ l1) 2 z1)) hc⟩
  · intro x y z t u tx dt W hk
    have hA : AM w W [x, y, z, t, u] [(l0 + 2, cat z0 l0 (numZ n)), (l0 + 4, cat z0 l0 (lngZ n)), (l0 + kn (cl n), cat z0 l0 (glZ (cl n))), (l0 + (2 + s.size), cat z0 l0 (cat (numZ s.size) 2 (sZ s))), (l0 + (2 + l1), cat z0 l0 (cat (numZ l1) 2 z1))] := hk.1
    have hE : EM W [tx, dt] [(2 + s.size, cat (numZ s.size) 2 (sZ s)), (2 + l1, cat (numZ l1) 2 z1)] := hk.2
    obtain ⟨a, cp, rfl, hc⟩ := hE.got 0 rfl rfl
    refine (bz_behind ab a l0 kb (2 + s.size) cp z0 (cat (numZ s.size) 2 (sZ s)) W (cB W hA.bel) hc (by omega) (by have := kn_bd (cl n); omega)).mono ?_
    rintro e w' ⟨v, c, rfl, hc', hb⟩
    exact ⟨_, rfl, hA.later hb, (hE.later hb).add (p := (l0 + (2 + s.size), cat z0 l0 (cat (numZ s.size) 2 (sZ s)))) hc'⟩
  · intro x y z t u tx dt q1 W hk
    have hA : AM w W [x, y, z, t, u] [(l0 + 2, cat z0 l0 (numZ n)), (l0 + 4, cat z0 l0 (lngZ n)), (l0 + kn (cl n), cat z0 l0 (glZ (cl n))), (l0 + (2 + s.size), cat z0 l0 (cat (numZ s.size) 2 (sZ s))), (l0 + (2 + l1), cat z0 l0 (cat (numZ l1) 2 z1))] := hk.1
    have hE : EM W [tx, dt, q1] [(2 + s.size, cat (numZ s.size) 2 (sZ s)), (2 + l1, cat (numZ l1) 2 z1), (l0 + (2 + s.size), cat z0 l0 (cat (numZ s.size) 2 (sZ s)))] := hk.2
    obtain ⟨g, cp, rfl, hc⟩ := hA.got 3 rfl rfl
    obtain ⟨a, cp', rfl, hc'⟩ := hE.got 2 rfl rfl
    refine (same_d W _ _ _ cp cp' _ hc hc').mono ?_
    rintro e w' ⟨rfl, rfl⟩
    exact ⟨rfl, hA, hE.take 2⟩
  · intro x y z t u tx dt W hk
    have hA : AM w W [x, y, z, t, u] [(l0 + 2, cat z0 l0 (numZ n)), (l0 + 4, cat z0 l0 (lngZ n)), (l0 + kn (cl n), cat z0 l0 (glZ (cl n))), (l0 + (2 + s.size), cat z0 l0 (cat (numZ s.size) 2 (sZ s))), (l0 + (2 + l1), cat z0 l0 (cat (numZ l1) 2 z1))] := hk.1
    have hE : EM W [tx, dt] [(2 + s.size, cat (numZ s.size) 2 (sZ s)), (2 + l1, cat (numZ l1) 2 z1)] := hk.2
    obtain ⟨a, cp, rfl, hc⟩ := hE.got 1 rfl rfl
    refine (bz_behind ab a l0 kb (2 + l1) cp z0 (cat (numZ l1) 2 z1) W (cB W hA.bel) hc (by omega) (by have := kn_bd (cl n); omega)).mono ?_
    rintro e w' ⟨v, c, rfl, hc', hb⟩
    exact ⟨_, rfl, hA.later hb, (hE.later hb).add (p := (l0 + (2 + l1), cat z0 l0 (cat (numZ l1) 2 z1))) hc'⟩
  · intro x y z t u tx dt q1 W hk
    have hA : AM w W [x, y, z, t, u] [(l0 + 2, cat z0 l0 (numZ n)), (l0 + 4, cat z0 l0 (lngZ n)), (l0 + kn (cl n), cat z0 l0 (glZ (cl n))), (l0 + (2 + s.size), cat z0 l0 (cat (numZ s.size) 2 (sZ s))), (l0 + (2 + l1), cat z0 l0 (cat (numZ l1) 2 z1))] := hk.1
    have hE : EM W [tx, dt, q1] [(2 + s.size, cat (numZ s.size) 2 (sZ s)), (2 + l1, cat (numZ l1) 2 z1), (l0 + (2 + l1), cat z0 l0 (cat (numZ l1) 2 z1))] := hk.2
    obtain ⟨g, cp, rfl, hc⟩ := hA.got 4 rfl rfl
    obtain ⟨a, cp', rfl, hc'⟩ := hE.got 2 rfl rfl
    refine (same_d W _ _ _ cp cp' _ hc hc').mono ?_
    rintro e w' ⟨rfl, rfl⟩
    exact ⟨rfl, rb w' _ _ hA (by intro p hp; simp at hp; have := kn_bd (cl n); rcases hp with rfl | rfl | rfl | rfl | rfl <;> simp only <;> omega)⟩
  · intro x y z t u W hk
    have hk : RB w U bb (N + 0) [x, y, z, t, u] W := hk
    refine (hk.step (by omega) _).mono ?_
    rintro e w' ⟨rfl, q⟩
    exact ⟨rfl, q⟩
  · intro y z t u W hk
    have hk : RB w U bb (N + 1) [y, z, t, u] W := hk
    refine (hk.step (by omega) _).mono ?_
    rintro e w' ⟨rfl, q⟩
    exact ⟨rfl, q⟩
  · intro z t u W hk
    have hk : RB w U bb (N + 2) [z, t, u] W := hk
    refine (hk.step (by omega) _).mono ?_
    rintro e w' ⟨rfl, q⟩
    exact ⟨rfl, q⟩
  · intro t u W hk
    have hk : RB w U bb (N + 3) [t, u] W := hk
    refine (hk.step (by omega) _).mono ?_
    rintro e w' ⟨rfl, q⟩
    exact ⟨rfl, q⟩
  · intro u W hk
    have hk : RB w U bb (N + 4) [u] W := hk
    refine (hk.step (by omega) _).mono ?_
    rintro e w' ⟨rfl, q⟩
    exact ⟨rfl, rfl, q⟩
set_option maxHeartbeats 1000000 in
theorem puts_tn_any {w : World} {bb N : Nat} {U : Nat → Prop} (hbk : Bk w bb N U) (hN : N ≤ 400) {a0 ab a1 ao : Option Addr} {l0 k0 kb l1 k1 ko : Nat} {z0 z1 : Nat → Int} (n mark : Int) (s : ByteArray) (h0 : Came w a0 l0 k0 z0) (hb : Came w ab l0 kb z0) (hd : Came w a1 l1 k1 z1) (ho : Came w ao l1 ko z1) (hl0 : l0 ≤ 140000) (hl1 : l1 ≤ 140000) (hm : 0 ≤ mark ∧ mark ≤ 100000) (hl2 : 65535 < l1) (hs : s.size ≤ 65535) (hc : (chk s).2 = 0) :
    Calls Tryz.prog 7 #[.pointer (some ⟨bb, 0, none⟩), .slice a0 l0 k0, .slice ab l0 kb, .int .i64 n, .string s, .slice a1 l1 k1, .slice ao l1 ko, .int .i64 mark] w fun r w' => r = .returned (.bool true) ∧ RB w U bb (N + 5) [] w' := by
  have c0 : ∀ W, Below w.heap.size w W → Came W a0 l0 k0 z0 := fun W b => came_below (B := 0) h0 b
  have cB : ∀ W, Below w.heap.size w W → Came W ab l0 kb z0 := fun W b => came_below (B := 0) hb b
  have c1 : ∀ W, Below w.heap.size w W → Came W a1 l1 k1 z1 := fun W b => came_below (B := 0) hd b
  have cO : ∀ W, Below w.heap.size w W → Came W ao l1 ko z1 := fun W b => came_below (B := 0) ho b
  have rb : ∀ (W : World) (l : List Value) (sp : List (Nat × (Nat → Int))), AM w W l sp → (∀ p ∈ sp, p.1 ≤ 900000) → RB w U bb N l W := fun W l sp hA hsp => ⟨U, hbk.keep (fun k hk => hA.bel.block k (hbk.lt hk)), fun k hk => .inl hk, bel_ch hA.bel, hA.la hsp (fun k hk => hbk.lt hk), hA.sep⟩
  refine puts_tn (ec := 0) (fun i l W => match i with
    | 1 => AM w W (l.take 1) [(l0 + 2, cat z0 l0 (numZ n))] ∧ EM W (l.drop 1) []
    | 2 => AM w W (l.take 2) [(l0 + 2, cat z0 l0 (numZ n)), (l0 + 4, cat z0 l0 (lngZ n))] ∧ EM W (l.drop 2) []
    | 3 => AM w W (l.take 3) [(l0 + 2, cat z0 l0 (numZ n)), (l0 + 4, cat z0 l0 (lngZ n)), (l0 + kn (cl n), cat z0 l0 (glZ (cl n)))] ∧ EM W (l.drop 3) []
    | 4 => AM w W (l.take 4) [(l0 + 2, cat z0 l0 (numZ n)), (l0 + 4, cat z0 l0 (lngZ n)), (l0 + kn (cl n), cat z0 l0 (glZ (cl n))), (l0 + (2 + s.size), cat z0 l0 (cat (numZ s.size) 2 (sZ s)))] ∧ EM W (l.drop 4) []
    | 5 => AM w W (l.take 4) [(l0 + 2, cat z0 l0 (numZ n)), (l0 + 4, cat z0 l0 (lngZ n)), (l0 + kn (cl n), cat z0 l0 (glZ (cl n))), (l0 + (2 + s.size), cat z0 l0 (cat (numZ s.size) 2 (sZ s)))] ∧ EM W (l.drop 4) []
    | 6 => AM w W (l.take 4) [(l0 + 2, cat z0 l0 (numZ n)), (l0 + 4, cat z0 l0 (lngZ n)), (l0 + kn (cl n), cat z0 l0 (glZ (cl n))), (l0 + (2 + s.size), cat z0 l0 (cat (numZ s.size) 2 (sZ s)))] ∧ EM W (l.drop 4) [(2, numZ n)]
    | 7 => AM w W (l.take 4) [(l0 + 2, cat z0 l0 (numZ n)), (l0 + 4, cat z0 l0 (lngZ n)), (l0 + kn (cl n), cat z0 l0 (glZ (cl n))), (l0 + (2 + s.size), cat z0 l0 (cat (numZ s.size) 2 (sZ s)))] ∧ EM W (l.drop 4) [(2, numZ n), (l0 + (2), cat z0 l0 (numZ n))]
    | 8 => AM w W (l.take 4) [(l0 + 2, cat z0 l0 (numZ n)), (l0 + 4, cat z0 l0 (lngZ n)), (l0 + kn (cl n), cat z0 l0 (glZ (cl n))), (l0 + (2 + s.size), cat z0 l0 (cat (numZ s.size) 2 (sZ s)))] ∧ EM W (l.drop 4) []
    | 9 => AM w W (l.take 4) [(l0 + 2, cat z0 l0 (numZ n)), (l0 + 4, cat z0 l0 (lngZ n)), (l0 + kn (cl n), cat z0 l0 (glZ (cl n))), (l0 + (2 + s.size), cat z0 l0 (cat (numZ s.size) 2 (sZ s)))] ∧ EM W (l.drop 4) [(4, lngZ n)]
    | 10 => AM w W (l.take 4) [(l0 + 2, cat z0 l0 (numZ n)), (l0 + 4, cat z0 l0 (lngZ n)), (l0 + kn (cl n), cat z0 l0 (glZ (cl n))), (l0 + (2 + s.size), cat z0 l0 (cat (numZ s.size) 2 (sZ s)))] ∧ EM W (l.drop 4) [(4, lngZ n), (l0 + (4), cat z0 l0 (lngZ n))]
    | 11 => AM w W (l.take 4) [(l0 + 2, cat z0 l0 (numZ n)), (l0 + 4, cat z0 l0 (lngZ n)), (l0 + kn (cl n), cat z0 l0 (glZ (cl n))), (l0 + (2 + s.size), cat z0 l0 (cat (numZ s.size) 2 (sZ s)))] ∧ EM W (l.drop 4) []
    | 12 => AM w W (l.take 4) [(l0 + 2, cat z0 l0 (numZ n)), (l0 + 4, cat z0 l0 (lngZ n)), (l0 + kn (cl n), cat z0 l0 (glZ (cl n))), (l0 + (2 + s.size), cat z0 l0 (cat (numZ s.size) 2 (sZ s)))] ∧ EM W (l.drop 4) [(kn (cl n), glZ (cl n))]
    | 13 => AM w W (l.take 4) [(l0 + 2, cat z0 l0 (numZ n)), (l0 + 4, cat z0 l0 (lngZ n)), (l0 + kn (cl n), cat z0 l0 (glZ (cl n))), (l0 + (2 + s.size), cat z0 l0 (cat (numZ s.size) 2 (sZ s)))] ∧ EM W (l.drop 4) [(kn (cl n), glZ (cl n)), (l0 + (kn (cl n)), cat z0 l0 (glZ (cl n)))]
    | 14 => AM w W (l.take 4) [(l0 + 2, cat z0 l0 (numZ n)), (l0 + 4, cat z0 l0 (lngZ n)), (l0 + kn (cl n), cat z0 l0 (glZ (cl n))), (l0 + (2 + s.size), cat z0 l0 (cat (numZ s.size) 2 (sZ s)))] ∧ EM W (l.drop 4) []
    | 15 => AM w W (l.take 4) [(l0 + 2, cat z0 l0 (numZ n)), (l0 + 4, cat z0 l0 (lngZ n)), (l0 + kn (cl n), cat z0 l0 (glZ (cl n))), (l0 + (2 + s.size), cat z0 l0 (cat (numZ s.size) 2 (sZ s)))] ∧ EM W (l.drop 4) [(2 + s.size, cat (numZ s.size) 2 (sZ s))]
    | 16 => AM w W (l.take 4) [(l0 + 2, cat z0 l0 (numZ n)), (l0 + 4, cat z0 l0 (lngZ n)), (l0 + kn (cl n), cat z0 l0 (glZ (cl n))), (l0 + (2 + s.size), cat z0 l0 (cat (numZ s.size) 2 (sZ s)))] ∧ EM W (l.drop 4) [(2 + s.size, cat (numZ s.size) 2 (sZ s))]
    | 17 => AM w W (l.take 4) [(l0 + 2, cat z0 l0 (numZ n)), (l0 + 4, cat z0 l0 (lngZ n)), (l0 + kn (cl n), cat z0 l0 (glZ (cl n))), (l0 + (2 + s.size), cat z0 l0 (cat (numZ s.size) 2 (sZ s)))] ∧ EM W (l.drop 4) [(2 + s.size, cat (numZ s.size) 2 (sZ s)), (l0 + (2 + s.size), cat z0 l0 (cat (numZ s.size) 2 (sZ s)))]
    | 18 => RB w U bb N l W
    | 19 => RB w U bb (N + 1) l W
    | 20 => RB w U bb (N + 2) l W
    | 21 => RB w U bb (N + 3) l W
    | 22 => RB w U bb (N + 4) l W
    | _ => False) _ hm ?_ ?_ ?_ ?_ ?_ ?_ ?_ ?_ ?_ ?_ ?_ ?_ ?_ ?_ ?_ ?_ ?_ ?_ ?_ ?_ ?_ ?_ ?_
  · have hA := AM.start w
    have hE : EM w [] [] := by intro j v p e; simp at e
    refine (pz_number a0 l0 k0 z0 w (c0 w hA.bel) (by omega) n).mono ?_
    rintro e w' ⟨v, rfl, hm⟩
    exact ⟨v, rfl, hA.add hm, hE.later hm.bel⟩
  · intro x W hk
    have hA : AM w W [x] [(l0 + 2, cat z0 l0 (numZ n))] := hk.1
    have hE : EM W [] [] := hk.2
    refine (pz_long a0 l0 k0 z0 W (c0 W hA.bel) (by omega) n).mono ?_
    rintro e w' ⟨v, rfl, hm⟩
    exact ⟨v, rfl, hA.add hm, hE.later hm.bel⟩
  · intro x y W hk
    have hA : AM w W [x, y] [(l0 + 2, cat z0 l0 (numZ n)), (l0 + 4, cat z0 l0 (lngZ n))] := hk.1
    have hE : EM W [] [] := hk.2
    refine (pz_length a0 l0 k0 z0 W (c0 W hA.bel) (by omega) n).mono ?_
    rintro e w' ⟨v, rfl, hm⟩
    exact ⟨v, rfl, hA.add hm, hE.later hm.bel⟩
  · intro x y z W hk
    have hA : AM w W [x, y, z] [(l0 + 2, cat z0 l0 (numZ n)), (l0 + 4, cat z0 l0 (lngZ n)), (l0 + kn (cl n), cat z0 l0 (glZ (cl n)))] := hk.1
    have hE : EM W [] [] := hk.2
    refine (pz_text a0 l0 k0 z0 W (c0 W hA.bel) (by omega) s hs hc).mono ?_
    rintro e w' ⟨v, rfl, hm⟩
    exact ⟨v, rfl, hA.add hm, hE.later hm.bel⟩
  · intro x y z t W hk
    have hA : AM w W [x, y, z, t] [(l0 + 2, cat z0 l0 (numZ n)), (l0 + 4, cat z0 l0 (lngZ n)), (l0 + kn (cl n), cat z0 l0 (glZ (cl n))), (l0 + (2 + s.size), cat z0 l0 (cat (numZ s.size) 2 (sZ s)))] := hk.1
    have hE : EM W [] [] := hk.2
    refine (putData_long' a0 l0 k0 a1 l1 k1 hl2 W).mono ?_
    rintro e w' ⟨rfl, rfl⟩
    exact ⟨rfl, hA, hE⟩
  · intro x y z t W hk
    have hA : AM w W [x, y, z, t] [(l0 + 2, cat z0 l0 (numZ n)), (l0 + 4, cat z0 l0 (lngZ n)), (l0 + kn (cl n), cat z0 l0 (glZ (cl n))), (l0 + (2 + s.size), cat z0 l0 (cat (numZ s.size) 2 (sZ s)))] := hk.1
    have hE : EM W [] [] := hk.2
    refine (rz_number n W).mono ?_
    rintro e w' ⟨v, rfl, hm⟩
    obtain ⟨g, cp, rfl, hg⟩ := hm.sl
    exact ⟨_, rfl, hA.later hm.bel, (hE.later hm.bel).add (p := (2, numZ n)) hm.came⟩
  · intro x y z t r1 W hk
    have hA : AM w W [x, y, z, t] [(l0 + 2, cat z0 l0 (numZ n)), (l0 + 4, cat z0 l0 (lngZ n)), (l0 + kn (cl n), cat z0 l0 (glZ (cl n))), (l0 + (2 + s.size), cat z0 l0 (cat (numZ s.size) 2 (sZ s)))] := hk.1
    have hE : EM W [r1] [(2, numZ n)] := hk.2
    obtain ⟨a, cp, rfl, hc⟩ := hE.got 0 rfl rfl
    refine (bz_behind ab a l0 kb (2) cp z0 (numZ n) W (cB W hA.bel) hc (by omega) (by have := kn_bd (cl n); omega)).mono ?_
    rintro e w' ⟨v, c, rfl, hc', hb⟩
    exact ⟨_, rfl, hA.later hb, (hE.later hb).add (p := (l0 + (2), cat z0 l0 (numZ n))) hc'⟩
  · intro x y z t r1 q1 W hk
    have hA : AM w W [x, y, z, t] [(l0 + 2, cat z0 l0 (numZ n)), (l0 + 4, cat z0 l0 (lngZ n)), (l0 + kn (cl n), cat z0 l0 (glZ (cl n))), (l0 + (2 + s.size), cat z0 l0 (cat (numZ s.size) 2 (sZ s)))] := hk.1
    have hE : EM W [r1, q1] [(2, numZ n), (l0 + (2), cat z0 l0 (numZ n))] := hk.2
    obtain ⟨g, cp, rfl, hc⟩ := hA.got 0 rfl rfl
    obtain ⟨a, cp', rfl, hc'⟩ := hE.got 1 rfl rfl
    refine (same_d W _ _ _ cp cp' _ hc hc').mono ?_
    rintro e w' ⟨rfl, rfl⟩
    exact ⟨rfl, hA, hE.take 0⟩
  · intro x y z t W hk
    have hA : AM w W [x, y, z, t] [(l0 + 2, cat z0 l0 (numZ n)), (l0 + 4, cat z0 l0 (lngZ n)), (l0 + kn (cl n), cat z0 l0 (glZ (cl n))), (l0 + (2 + s.size), cat z0 l0 (cat (numZ s.size) 2 (sZ s)))] := hk.1
    have hE : EM W [] [] := hk.2
    refine (rz_long n W).mono ?_
    rintro e w' ⟨v, rfl, hm⟩
    obtain ⟨g, cp, rfl, hg⟩ := hm.sl
    exact ⟨_, rfl, hA.later hm.bel, (hE.later hm.bel).add (p := (4, lngZ n)) hm.came⟩
  · intro x y z t r1 W hk
    have hA : AM w W [x, y, z, t] [(l0 + 2, cat z0 l0 (numZ n)), (l0 + 4, cat z0 l0 (lngZ n)), (l0 + kn (cl n), cat z0 l0 (glZ (cl n))), (l0 + (2 + s.size), cat z0 l0 (cat (numZ s.size) 2 (sZ s)))] := hk.1
    have hE : EM W [r1] [(4, lngZ n)] := hk.2
    obtain ⟨a, cp, rfl, hc⟩ := hE.got 0 rfl rfl
    refine (bz_behind ab a l0 kb (4) cp z0 (lngZ n) W (cB W hA.bel) hc (by omega) (by have := kn_bd (cl n); omega)).mono ?_
    rintro e w' ⟨v, c, rfl, hc', hb⟩
    exact ⟨_, rfl, hA.later hb, (hE.later hb).add (p := (l0 + (4), cat z0 l0 (lngZ n))) hc'⟩
  · intro x y z t r1 q1 W hk
    have hA : AM w W [x, y, z, t] [(l0 + 2, cat z0 l0 (numZ n)), (l0 + 4, cat z0 l0 (lngZ n)), (l0 + kn (cl n), cat z0 l0 (glZ (cl n))), (l0 + (2 + s.size), cat z0 l0 (cat (numZ s.size) 2 (sZ s)))] := hk.1
    have hE : EM W [r1, q1] [(4, lngZ n), (l0 + (4), cat z0 l0 (lngZ n))] := hk.2
    obtain ⟨g, cp, rfl, hc⟩ := hA.got 1 rfl rfl
    obtain ⟨a, cp', rfl, hc'⟩ := hE.got 1 rfl rfl
    refine (same_d W _ _ _ cp cp' _ hc hc').mono ?_
    rintro e w' ⟨rfl, rfl⟩
    exact ⟨rfl, hA, hE.take 0⟩
  · intro x y z t W hk
    have hA : AM w W [x, y, z, t] [(l0 + 2, cat z0 l0 (numZ n)), (l0 + 4, cat z0 l0 (lngZ n)), (l0 + kn (cl n), cat z0 l0 (glZ (cl n))), (l0 + (2 + s.size), cat z0 l0 (cat (numZ s.size) 2 (sZ s)))] := hk.1
    have hE : EM W [] [] := hk.2
    refine (rz_groups n W).mono ?_
    rintro e w' ⟨v, rfl, hm⟩
    obtain ⟨g, cp, rfl, hg⟩ := hm.sl
    exact ⟨_, rfl, hA.later hm.bel, (hE.later hm.bel).add (p := (kn (cl n), glZ (cl n))) hm.came⟩
  · intro x y z t r1 W hk
    have hA : AM w W [x, y, z, t] [(l0 + 2, cat z0 l0 (numZ n)), (l0 + 4, cat z0 l0 (lngZ n)), (l0 + kn (cl n), cat z0 l0 (glZ (cl n))), (l0 + (2 + s.size), cat z0 l0 (cat (numZ s.size) 2 (sZ s)))] := hk.1
    have hE : EM W [r1] [(kn (cl n), glZ (cl n))] := hk.2
    obtain ⟨a, cp, rfl, hc⟩ := hE.got 0 rfl rfl
    refine (bz_behind ab a l0 kb (kn (cl n)) cp z0 (glZ (cl n)) W (cB W hA.bel) hc (by omega) (by have := kn_bd (cl n); omega)).mono ?_
    rintro e w' ⟨v, c, rfl, hc', hb⟩
    exact ⟨_, rfl, hA.later hb, (hE.later hb).add (p := (l0 + (kn (cl n)), cat z0 l0 (glZ (cl n)))) hc'⟩
  · intro x y z t r1 q1 W hk
    have hA : AM w W [x, y, z, t] [(l0 + 2, cat z0 l0 (numZ n)), (l0 + 4, cat z0 l0 (lngZ n)), (l0 + kn (cl n), cat z0 l0 (glZ (cl n))), (l0 + (2 + s.size), cat z0 l0 (cat (numZ s.size) 2 (sZ s)))] := hk.1
    have hE : EM W [r1, q1] [(kn (cl n), glZ (cl n)), (l0 + (kn (cl n)), cat z0 l0 (glZ (cl n)))] := hk.2
    obtain ⟨g, cp, rfl, hc⟩ := hA.got 2 rfl rfl
    obtain ⟨a, cp', rfl, hc'⟩ := hE.got 1 rfl rfl
    refine (same_d W _ _ _ cp cp' _ hc hc').mono ?_
    rintro e w' ⟨rfl, rfl⟩
    exact ⟨rfl, hA, hE.take 0⟩
  · intro x y z t W hk
    have hA : AM w W [x, y, z, t] [(l0 + 2, cat z0 l0 (numZ n)), (l0 + 4, cat z0 l0 (lngZ n)), (l0 + kn (cl n), cat z0 l0 (glZ (cl n))), (l0 + (2 + s.size), cat z0 l0 (cat (numZ s.size) 2 (sZ s)))] := hk.1
    have hE : EM W [] [] := hk.2
    refine (rz_words s W hs hc).mono ?_
    rintro e w' ⟨v, rfl, hm⟩
    obtain ⟨g, cp, rfl, hg⟩ := hm.sl
    exact ⟨_, rfl, hA.later hm.bel, (hE.later hm.bel).add (p := (2 + s.size, cat (numZ s.size) 2 (sZ s))) hm.came⟩
  · intro x y z t tx W hk
    have hA : AM w W [x, y, z, t] [(l0 + 2, cat z0 l0 (numZ n)), (l0 + 4, cat z0 l0 (lngZ n)), (l0 + kn (cl n), cat z0 l0 (glZ (cl n))), (l0 + (2 + s.size), cat z0 l0 (cat (numZ s.size) 2 (sZ s)))] := hk.1
    have hE : EM W [tx] [(2 + s.size, cat (numZ s.size) 2 (sZ s))] := hk.2
    refine (rdata_long ao l1 ko hl2 W).mono ?_
    rintro e w' ⟨rfl, rfl⟩
    exact ⟨rfl, hA, hE⟩
  · intro x y z t tx W hk
    have hA : AM w W [x, y, z, t] [(l0 + 2, cat z0 l0 (numZ n)), (l0 + 4, cat z0 l0 (lngZ n)), (l0 + kn (cl n), cat z0 l0 (glZ (cl n))), (l0 + (2 + s.size), cat z0 l0 (cat (numZ s.size) 2 (sZ s)))] := hk.1
    have hE : EM W [tx] [(2 + s.size, cat (numZ s.size) 2 (sZ s))] := hk.2
    obtain ⟨a, cp, rfl, hc⟩ := hE.got 0 rfl rfl
    refine (bz_behind ab a l0 kb (2 + s.size) cp z0 (cat (numZ s.size) 2 (sZ s)) W (cB W hA.bel) hc (by omega) (by have := kn_bd (cl n); omega)).mono ?_
    rintro e w' ⟨v, c, rfl, hc', hb⟩
    exact ⟨_, rfl, hA.later hb, (hE.later hb).add (p := (l0 + (2 + s.size), cat z0 l0 (cat (numZ s.size) 2 (sZ s)))) hc'⟩
  · intro x y z t tx q1 W hk
    have hA : AM w W [x, y, z, t] [(l0 + 2, cat z0 l0 (numZ n)), (l0 + 4, cat z0 l0 (lngZ n)), (l0 + kn (cl n), cat z0 l0 (glZ (cl n))), (l0 + (2 + s.size), cat z0 l0 (cat (numZ s.size) 2 (sZ s)))] := hk.1
    have hE : EM W [tx, q1] [(2 + s.size, cat (numZ s.size) 2 (sZ s)), (l0 + (2 + s.size), cat z0 l0 (cat (numZ s.size) 2 (sZ s)))] := hk.2
    obtain ⟨g, cp, rfl, hc⟩ := hA.got 3 rfl rfl
    obtain ⟨a, cp', rfl, hc'⟩ := hE.got 1 rfl rfl
    refine (same_d W _ _ _ cp cp' _ hc hc').mono ?_
    rintro e w' ⟨rfl, rfl⟩
    exact ⟨rfl, rb w' _ _ hA (by intro p hp; simp at hp; have := kn_bd (cl n); rcases hp with rfl | rfl | rfl | rfl <;> simp only <;> omega)⟩
  · intro x y z t W hk
    have hk : RB w U bb (N + 0) [x, y, z, t] W := hk
    refine (hk.step (by omega) _).mono ?_
    rintro e w' ⟨rfl, q⟩
    exact ⟨rfl, q⟩
  · intro y z t W hk
    have hk : RB w U bb (N + 1) [y, z, t] W := hk
    refine (hk.step (by omega) _).mono ?_
    rintro e w' ⟨rfl, q⟩
    exact ⟨rfl, q⟩
  · intro z t W hk
    have hk : RB w U bb (N + 2) [z, t] W := hk
    refine (hk.step (by omega) _).mono ?_
    rintro e w' ⟨rfl, q⟩
    exact ⟨rfl, q⟩
  · intro t W hk
    have hk : RB w U bb (N + 3) [t] W := hk
    refine (hk.step (by omega) _).mono ?_
    rintro e w' ⟨rfl, q⟩
    exact ⟨rfl, q⟩
  · intro W hk
    have hk : RB w U bb (N + 4) [] W := hk
    refine (hk.nil.step (by omega) _).mono ?_
    rintro e w' ⟨rfl, q⟩
    exact ⟨rfl, rfl, q⟩
set_option maxHeartbeats 1000000 in
theorem puts_nt_any {w : World} {bb N : Nat} {U : Nat → Prop} (hbk : Bk w bb N U) (hN : N ≤ 400) {a0 ab a1 ao : Option Addr} {l0 k0 kb l1 k1 ko : Nat} {z0 z1 : Nat → Int} (n mark : Int) (s : ByteArray) (h0 : Came w a0 l0 k0 z0) (hb : Came w ab l0 kb z0) (hd : Came w a1 l1 k1 z1) (ho : Came w ao l1 ko z1) (hl0 : l0 ≤ 140000) (hl1 : l1 ≤ 140000) (hm : 0 ≤ mark ∧ mark ≤ 100000) (hl2 : l1 ≤ 65535) (hc : (chk s).2 ≠ 0) :
    Calls Tryz.prog 7 #[.pointer (some ⟨bb, 0, none⟩), .slice a0 l0 k0, .slice ab l0 kb, .int .i64 n, .string s, .slice a1 l1 k1, .slice ao l1 ko, .int .i64 mark] w fun r w' => r = .returned (.bool true) ∧ RB w U bb (N + 5) [] w' := by
  have c0 : ∀ W, Below w.heap.size w W → Came W a0 l0 k0 z0 := fun W b => came_below (B := 0) h0 b
  have cB : ∀ W, Below w.heap.size w W → Came W ab l0 kb z0 := fun W b => came_below (B := 0) hb b
  have c1 : ∀ W, Below w.heap.size w W → Came W a1 l1 k1 z1 := fun W b => came_below (B := 0) hd b
  have cO : ∀ W, Below w.heap.size w W → Came W ao l1 ko z1 := fun W b => came_below (B := 0) ho b
  have rb : ∀ (W : World) (l : List Value) (sp : List (Nat × (Nat → Int))), AM w W l sp → (∀ p ∈ sp, p.1 ≤ 900000) → RB w U bb N l W := fun W l sp hA hsp => ⟨U, hbk.keep (fun k hk => hA.bel.block k (hbk.lt hk)), fun k hk => .inl hk, bel_ch hA.bel, hA.la hsp (fun k hk => hbk.lt hk), hA.sep⟩
  refine puts_nt (ec := ((chk s).2 : Nat)) (fun i l W => match i with
    | 1 => AM w W (l.take 1) [(l0 + 2, cat z0 l0 (numZ n))] ∧ EM W (l.drop 1) []
    | 2 => AM w W (l.take 2) [(l0 + 2, cat z0 l0 (numZ n)), (l0 + 4, cat z0 l0 (lngZ n))] ∧ EM W (l.drop 2) []
    | 3 => AM w W (l.take 3) [(l0 + 2, cat z0 l0 (numZ n)), (l0 + 4, cat z0 l0 (lngZ n)), (l0 + kn (cl n), cat z0 l0 (glZ (cl n)))] ∧ EM W (l.drop 3) []
    | 4 => AM w W (l.take 3) [(l0 + 2, cat z0 l0 (numZ n)), (l0 + 4, cat z0 l0 (lngZ n)), (l0 + kn (cl n), cat z0 l0 (glZ (cl n)))] ∧ EM W (l.drop 3) []
    | 5 => AM w W (l.take 4) [(l0 + 2, cat z0 l0 (numZ n)), (l0 + 4, cat z0 l0 (lngZ n)), (l0 + kn (cl n), cat z0 l0 (glZ (cl n))), (l0 + (2 + l1), cat z0 l0 (cat (numZ l1) 2 z1))] ∧ EM W (l.drop 4) []
    | 6 => AM w W (l.take 4) [(l0 + 2, cat z0 l0 (numZ n)), (l0 + 4, cat z0 l0 (lngZ n)), (l0 + kn (cl n), cat z0 l0 (glZ (cl n))), (l0 + (2 + l1), cat z0 l0 (cat (numZ l1) 2 z1))] ∧ EM W (l.drop 4) [(2, numZ n)]
    | 7 => AM w W (l.take 4) [(l0 + 2, cat z0 l0 (numZ n)), (l0 + 4, cat z0 l0 (lngZ n)), (l0 + kn (cl n), cat z0 l0 (glZ (cl n))), (l0 + (2 + l1), cat z0 l0 (cat (numZ l1) 2 z1))] ∧ EM W (l.drop 4) [(2, numZ n), (l0 + (2), cat z0 l0 (numZ n))]
    | 8 => AM w W (l.take 4) [(l0 + 2, cat z0 l0 (numZ n)), (l0 + 4, cat z0 l0 (lngZ n)), (l0 + kn (cl n), cat z0 l0 (glZ (cl n))), (l0 + (2 + l1), cat z0 l0 (cat (numZ l1) 2 z1))] ∧ EM W (l.drop 4) []
    | 9 => AM w W (l.take 4) [(l0 + 2, cat z0 l0 (numZ n)), (l0 + 4, cat z0 l0 (lngZ n)), (l0 + kn (cl n), cat z0 l0 (glZ (cl n))), (l0 + (2 + l1), cat z0 l0 (cat (numZ l1) 2 z1))] ∧ EM W (l.drop 4) [(4, lngZ n)]
    | 10 => AM w W (l.take 4) [(l0 + 2, cat z0 l0 (numZ n)), (l0 + 4, cat z0 l0 (lngZ n)), (l0 + kn (cl n), cat z0 l0 (glZ (cl n))), (l0 + (2 + l1), cat z0 l0 (cat (numZ l1) 2 z1))] ∧ EM W (l.drop 4) [(4, lngZ n), (l0 + (4), cat z0 l0 (lngZ n))]
    | 11 => AM w W (l.take 4) [(l0 + 2, cat z0 l0 (numZ n)), (l0 + 4, cat z0 l0 (lngZ n)), (l0 + kn (cl n), cat z0 l0 (glZ (cl n))), (l0 + (2 + l1), cat z0 l0 (cat (numZ l1) 2 z1))] ∧ EM W (l.drop 4) []
    | 12 => AM w W (l.take 4) [(l0 + 2, cat z0 l0 (numZ n)), (l0 + 4, cat z0 l0 (lngZ n)), (l0 + kn (cl n), cat z0 l0 (glZ (cl n))), (l0 + (2 + l1), cat z0 l0 (cat (numZ l1) 2 z1))] ∧ EM W (l.drop 4) [(kn (cl n), glZ (cl n))]
    | 13 => AM w W (l.take 4) [(l0 + 2, cat z0 l0 (numZ n)), (l0 + 4, cat z0 l0 (lngZ n)), (l0 + kn (cl n), cat z0 l0 (glZ (cl n))), (l0 + (2 + l1), cat z0 l0 (cat (numZ l1) 2 z1))] ∧ EM W (l.drop 4) [(kn (cl n), glZ (cl n)), (l0 + (kn (cl n)), cat z0 l0 (glZ (cl n)))]
    | 14 => AM w W (l.take 4) [(l0 + 2, cat z0 l0 (numZ n)), (l0 + 4, cat z0 l0 (lngZ n)), (l0 + kn (cl n), cat z0 l0 (glZ (cl n))), (l0 + (2 + l1), cat z0 l0 (cat (numZ l1) 2 z1))] ∧ EM W (l.drop 4) []
    | 15 => AM w W (l.take 4) [(l0 + 2, cat z0 l0 (numZ n)), (l0 + 4, cat z0 l0 (lngZ n)), (l0 + kn (cl n), cat z0 l0 (glZ (cl n))), (l0 + (2 + l1), cat z0 l0 (cat (numZ l1) 2 z1))] ∧ EM W (l.drop 4) []
    | 16 => AM w W (l.take 4) [(l0 + 2, cat z0 l0 (numZ n)), (l0 + 4, cat z0 l0 (lngZ n)), (l0 + kn (cl n), cat z0 l0 (glZ (cl n))), (l0 + (2 + l1), cat z0 l0 (cat (numZ l1) 2 z1))] ∧ EM W (l.drop 4) [(2 + l1, cat (numZ l1) 2 z1)]
    | 17 => AM w W (l.take 4) [(l0 + 2, cat z0 l0 (numZ n)), (l0 + 4, cat z0 l0 (lngZ n)), (l0 + kn (cl n), cat z0 l0 (glZ (cl n))), (l0 + (2 + l1), cat z0 l0 (cat (numZ l1) 2 z1))] ∧ EM W (l.drop 4) [(2 + l1, cat (numZ l1) 2 z1), (l0 + (2 + l1), cat z0 l0 (cat (numZ l1) 2 z1))]
    | 18 => RB w U bb N l W
    | 19 => RB w U bb (N + 1) l W
    | 20 => RB w U bb (N + 2) l W
    | 21 => RB w U bb (N + 3) l W
    | 22 => RB w U bb (N + 4) l W
    | _ => False) _ hm (by simpa using hc) ?_ ?_ ?_ ?_ ?_ ?_ ?_ ?_ ?_ ?_ ?_ ?_ ?_ ?_ ?_ ?_ ?_ ?_ ?_ ?_ ?_ ?_ ?_
  · have hA := AM.start w
    have hE : EM w [] [] := by intro j v p e; simp at e
    refine (pz_number a0 l0 k0 z0 w (c0 w hA.bel) (by omega) n).mono ?_
    rintro e w' ⟨v, rfl, hm⟩
    exact ⟨v, rfl, hA.add hm, hE.later hm.bel⟩
  · intro x W hk
    have hA : AM w W [x] [(l0 + 2, cat z0 l0 (numZ n))] := hk.1
    have hE : EM W [] [] := hk.2
    refine (pz_long a0 l0 k0 z0 W (c0 W hA.bel) (by omega) n).mono ?_
    rintro e w' ⟨v, rfl, hm⟩
    exact ⟨v, rfl, hA.add hm, hE.later hm.bel⟩
  · intro x y W hk
    have hA : AM w W [x, y] [(l0 + 2, cat z0 l0 (numZ n)), (l0 + 4, cat z0 l0 (lngZ n))] := hk.1
    have hE : EM W [] [] := hk.2
    refine (pz_length a0 l0 k0 z0 W (c0 W hA.bel) (by omega) n).mono ?_
    rintro e w' ⟨v, rfl, hm⟩
    exact ⟨v, rfl, hA.add hm, hE.later hm.bel⟩
  · intro x y z W hk
    have hA : AM w W [x, y, z] [(l0 + 2, cat z0 l0 (numZ n)), (l0 + 4, cat z0 l0 (lngZ n)), (l0 + kn (cl n), cat z0 l0 (glZ (cl n)))] := hk.1
    have hE : EM W [] [] := hk.2
    refine (putText_bad' a0 l0 k0 s (chk s).1 (chk s).2 rfl hc W).mono ?_
    rintro e w' ⟨rfl, hb⟩
    exact ⟨rfl, hA.later hb, hE.later hb⟩
  · intro x y z W hk
    have hA : AM w W [x, y, z] [(l0 + 2, cat z0 l0 (numZ n)), (l0 + 4, cat z0 l0 (lngZ n)), (l0 + kn (cl n), cat z0 l0 (glZ (cl n)))] := hk.1
    have hE : EM W [] [] := hk.2
    refine (pz_data a0 l0 k0 z0 W (c0 W hA.bel) (by omega) a1 l1 k1 z1 (c1 W hA.bel) hl2).mono ?_
    rintro e w' ⟨v, rfl, hm⟩
    exact ⟨v, rfl, hA.add hm, hE.later hm.bel⟩
  · intro x y z u W hk
    have hA : AM w W [x, y, z, u] [(l0 + 2, cat z0 l0 (numZ n)), (l0 + 4, cat z0 l0 (lngZ n)), (l0 + kn (cl n), cat z0 l0 (glZ (cl n))), (l0 + (2 + l1), cat z0 l0 (cat (numZ l1) 2 z1))] := hk.1
    have hE : EM W [] [] := hk.2
    refine (rz_number n W).mono ?_
    rintro e w' ⟨v, rfl, hm⟩
    obtain ⟨g, cp, rfl, hg⟩ := hm.sl
    exact ⟨_, rfl, hA.later hm.bel, (hE.later hm.bel).add (p := (2, numZ n)) hm.came⟩
  · intro x y z u r1 W hk
    have hA : AM w W [x, y, z, u] [(l0 + 2, cat z0 l0 (numZ n)), (l0 + 4, cat z0 l0 (lngZ n)), (l0 + kn (cl n), cat z0 l0 (glZ (cl n))), (l0 + (2 + l1), cat z0 l0 (cat (numZ l1) 2 z1))] := hk.1
    have hE : EM W [r1] [(2, numZ n)] := hk.2
    obtain ⟨a, cp, rfl, hc⟩ := hE.got 0 rfl rfl
    refine (bz_behind ab a l0 kb (2) cp z0 (numZ n) W (cB W hA.bel) hc (by omega) (by have := kn_bd (cl n); omega)).mono ?_
    rintro e w' ⟨v, c, rfl, hc', hb⟩
    exact ⟨_, rfl, hA.later hb, (hE.later hb).add (p := (l0 + (2), cat z0 l0 (numZ n))) hc'⟩
  · intro x y z u r1 q1 W hk
    have hA : AM w W [x, y, z, u] [(l0 + 2, cat z0 l0 (numZ n)), (l0 + 4, cat z0 l0 (lngZ n)), (l0 + kn (cl n), cat z0 l0 (glZ (cl n))), (l0 + (2 + l1), cat z0 l0 (cat (numZ l1) 2 z1))] := hk.1
    have hE : EM W [r1, q1] [(2, numZ n), (l0 + (2), cat z0 l0 (numZ n))] := hk.2
    obtain ⟨g, cp, rfl, hc⟩ := hA.got 0 rfl rfl
    obtain ⟨a, cp', rfl, hc'⟩ := hE.got 1 rfl rfl
    refine (same_d W _ _ _ cp cp' _ hc hc').mono ?_
    rintro e w' ⟨rfl, rfl⟩
    exact ⟨rfl, hA, hE.take 0⟩
  · intro x y z u W hk
    have hA : AM w W [x, y, z, u] [(l0 + 2, cat z0 l0 (numZ n)), (l0 + 4, cat z0 l0 (lngZ n)), (l0 + kn (cl n), cat z0 l0 (glZ (cl n))), (l0 + (2 + l1), cat z0 l0 (cat (numZ l1) 2 z1))] := hk.1
    have hE : EM W [] [] := hk.2
    refine (rz_long n W).mono ?_
    rintro e w' ⟨v, rfl, hm⟩
    obtain ⟨g, cp, rfl, hg⟩ := hm.sl
    exact ⟨_, rfl, hA.later hm.bel, (hE.later hm.bel).add (p := (4, lngZ n)) hm.came⟩
  · intro x y z u r1 W hk
    have hA : AM w W [x, y, z, u] [(l0 + 2, cat z0 l0 (numZ n)), (l0 + 4, cat z0 l0 (lngZ n)), (l0 + kn (cl n), cat z0 l0 (glZ (cl n))), (l0 + (2 + l1), cat z0 l0 (cat (numZ l1) 2 z1))] := hk.1
    have hE : EM W [r1] [(4, lngZ n)] := hk.2
    obtain ⟨a, cp, rfl, hc⟩ := hE.got 0 rfl rfl
    refine (bz_behind ab a l0 kb (4) cp z0 (lngZ n) W (cB W hA.bel) hc (by omega) (by have := kn_bd (cl n); omega)).mono ?_
    rintro e w' ⟨v, c, rfl, hc', hb⟩
    exact ⟨_, rfl, hA.later hb, (hE.later hb).add (p := (l0 + (4), cat z0 l0 (lngZ n))) hc'⟩
  · intro x y z u r1 q1 W hk
    have hA : AM w W [x, y, z, u] [(l0 + 2, cat z0 l0 (numZ n)), (l0 + 4, cat z0 l0 (lngZ n)), (l0 + kn (cl n), cat z0 l0 (glZ (cl n))), (l0 + (2 + l1), cat z0 l0 (cat (numZ l1) 2 z1))] := hk.1
    have hE : EM W [r1, q1] [(4, lngZ n), (l0 + (4), cat z0 l0 (lngZ n))] := hk.2
    obtain ⟨g, cp, rfl, hc⟩ := hA.got 1 rfl rfl
    obtain ⟨a, cp', rfl, hc'⟩ := hE.got 1 rfl rfl
    refine (same_d W _ _ _ cp cp' _ hc hc').mono ?_
    rintro e w' ⟨rfl, rfl⟩
    exact ⟨rfl, hA, hE.take 0⟩
  · intro x y z u W hk
    have hA : AM w W [x, y, z, u] [(l0 + 2, cat z0 l0 (numZ n)), (l0 + 4, cat z0 l0 (lngZ n)), (l0 + kn (cl n), cat z0 l0 (glZ (cl n))), (l0 + (2 + l1), cat z0 l0 (cat (numZ l1) 2 z1))] := hk.1
    have hE : EM W [] [] := hk.2
    refine (rz_groups n W).mono ?_
    rintro e w' ⟨v, rfl, hm⟩
    obtain ⟨g, cp, rfl, hg⟩ := hm.sl
    exact ⟨_, rfl, hA.later hm.bel, (hE.later hm.bel).add (p := (kn (cl n), glZ (cl n))) hm.came⟩
  · intro x y z u r1 W hk
    have hA : AM w W [x, y, z, u] [(l0 + 2, cat z0 l0 (numZ n)), (l0 + 4, cat z0 l0 (lngZ n)), (l0 + kn (cl n), cat z0 l0 (glZ (cl n))), (l0 + (2 + l1), cat z0 l0 (cat (numZ l1) 2 z1))] := hk.1
    have hE : EM W [r1] [(kn (cl n), glZ (cl n))] := hk.2
    obtain ⟨a, cp, rfl, hc⟩ := hE.got 0 rfl rfl
    refine (bz_behind ab a l0 kb (kn (cl n)) cp z0 (glZ (cl n)) W (cB W hA.bel) hc (by omega) (by have := kn_bd (cl n); omega)).mono ?_
    rintro e w' ⟨v, c, rfl, hc', hb⟩
    exact ⟨_, rfl, hA.later hb, (hE.later hb).add (p := (l0 + (kn (cl n)), cat z0 l0 (glZ (cl n)))) hc'⟩
  · intro x y z u r1 q1 W hk
    have hA : AM w W [x, y, z, u] [(l0 + 2, cat z0 l0 (numZ n)), (l0 + 4, cat z0 l0 (lngZ n)), (l0 + kn (cl n), cat z0 l0 (glZ (cl n))), (l0 + (2 + l1), cat z0 l0 (cat (numZ l1) 2 z1))] := hk.1
    have hE : EM W [r1, q1] [(kn (cl n), glZ (cl n)), (l0 + (kn (cl n)), cat z0 l0 (glZ (cl n)))] := hk.2
    obtain ⟨g, cp, rfl, hc⟩ := hA.got 2 rfl rfl
    obtain ⟨a, cp', rfl, hc'⟩ := hE.got 1 rfl rfl
    refine (same_d W _ _ _ cp cp' _ hc hc').mono ?_
    rintro e w' ⟨rfl, rfl⟩
    exact ⟨rfl, hA, hE.take 0⟩
  · intro x y z u W hk
    have hA : AM w W [x, y, z, u] [(l0 + 2, cat z0 l0 (numZ n)), (l0 + 4, cat z0 l0 (lngZ n)), (l0 + kn (cl n), cat z0 l0 (glZ (cl n))), (l0 + (2 + l1), cat z0 l0 (cat (numZ l1) 2 z1))] := hk.1
    have hE : EM W [] [] := hk.2
    refine (words_bad s W hc).mono ?_
    rintro e w' ⟨rfl, rfl⟩
    exact ⟨rfl, hA, hE⟩
  · intro x y z u W hk
    have hA : AM w W [x, y, z, u] [(l0 + 2, cat z0 l0 (numZ n)), (l0 + 4, cat z0 l0 (lngZ n)), (l0 + kn (cl n), cat z0 l0 (glZ (cl n))), (l0 + (2 + l1), cat z0 l0 (cat (numZ l1) 2 z1))] := hk.1
    have hE : EM W [] [] := hk.2
    refine (rdata_ok ao l1 ko z1 W (cO W hA.bel) hl2).mono ?_
    rintro e w' ⟨g, cp, rfl, hc, hb⟩
    exact ⟨_, rfl, hA.later hb, (hE.later hb).add (p := (2 + l1, cat (numZ l1) 2 z1)) hc⟩
  · intro x y z u dt W hk
    have hA : AM w W [x, y, z, u] [(l0 + 2, cat z0 l0 (numZ n)), (l0 + 4, cat z0 l0 (lngZ n)), (l0 + kn (cl n), cat z0 l0 (glZ (cl n))), (l0 + (2 + l1), cat z0 l0 (cat (numZ l1) 2 z1))] := hk.1
    have hE : EM W [dt] [(2 + l1, cat (numZ l1) 2 z1)] := hk.2
    obtain ⟨a, cp, rfl, hc⟩ := hE.got 0 rfl rfl
    refine (bz_behind ab a l0 kb (2 + l1) cp z0 (cat (numZ l1) 2 z1) W (cB W hA.bel) hc (by omega) (by have := kn_bd (cl n); omega)).mono ?_
    rintro e w' ⟨v, c, rfl, hc', hb⟩
    exact ⟨_, rfl, hA.later hb, (hE.later hb).add (p := (l0 + (2 + l1), cat z0 l0 (cat (numZ l1) 2 z1))) hc'⟩
  · intro x y z u dt q1 W hk
    have hA : AM w W [x, y, z, u] [(l0 + 2, cat z0 l0 (numZ n)), (l0 + 4, cat z0 l0 (lngZ n)), (l0 + kn (cl n), cat z0 l0 (glZ (cl n))), (l0 + (2 + l1), cat z0 l0 (cat (numZ l1) 2 z1))] := hk.1
    have hE : EM W [dt, q1] [(2 + l1, cat (numZ l1) 2 z1), (l0 + (2 + l1), cat z0 l0 (cat (numZ l1) 2 z1))] := hk.2
    obtain ⟨g, cp, rfl, hc⟩ := hA.got 3 rfl rfl
    obtain ⟨a, cp', rfl, hc'⟩ := hE.got 1 rfl rfl
    refine (same_d W _ _ _ cp cp' _ hc hc').mono ?_
    rintro e w' ⟨rfl, rfl⟩
    exact ⟨rfl, rb w' _ _ hA (by intro p hp; simp at hp; have := kn_bd (cl n); rcases hp with rfl | rfl | rfl | rfl <;> simp only <;> omega)⟩
  · intro x y z u W hk
    have hk : RB w U bb (N + 0) [x, y, z, u] W := hk
    refine (hk.step (by omega) _).mono ?_
    rintro e w' ⟨rfl, q⟩
    exact ⟨rfl, q⟩
  · intro y z u W hk
    have hk : RB w U bb (N + 1) [y, z, u] W := hk
    refine (hk.step (by omega) _).mono ?_
    rintro e w' ⟨rfl, q⟩
    exact ⟨rfl, q⟩
  · intro z u W hk
    have hk : RB w U bb (N + 2) [z, u] W := hk
    refine (hk.step (by omega) _).mono ?_
    rintro e w' ⟨rfl, q⟩
    exact ⟨rfl, q⟩
  · intro u W hk
    have hk : RB w U bb (N + 3) [u] W := hk
    refine (hk.nil.step (by omega) _).mono ?_
    rintro e w' ⟨rfl, q⟩
    exact ⟨rfl, q⟩
  · intro u W hk
    have hk : RB w U bb (N + 4) [u] W := hk
    refine (hk.step (by omega) _).mono ?_
    rintro e w' ⟨rfl, q⟩
    exact ⟨rfl, rfl, q⟩
set_option maxHeartbeats 1000000 in
theorem puts_nn_any {w : World} {bb N : Nat} {U : Nat → Prop} (hbk : Bk w bb N U) (hN : N ≤ 400) {a0 ab a1 ao : Option Addr} {l0 k0 kb l1 k1 ko : Nat} {z0 z1 : Nat → Int} (n mark : Int) (s : ByteArray) (h0 : Came w a0 l0 k0 z0) (hb : Came w ab l0 kb z0) (hd : Came w a1 l1 k1 z1) (ho : Came w ao l1 ko z1) (hl0 : l0 ≤ 140000) (hl1 : l1 ≤ 140000) (hm : 0 ≤ mark ∧ mark ≤ 100000) (hl2 : 65535 < l1) (hc : (chk s).2 ≠ 0) :
    Calls Tryz.prog 7 #[.pointer (some ⟨bb, 0, none⟩), .slice a0 l0 k0, .slice ab l0 kb, .int .i64 n, .string s, .slice a1 l1 k1, .slice ao l1 ko, .int .i64 mark] w fun r w' => r = .returned (.bool true) ∧ RB w U bb (N + 5) [] w' := by
  have c0 : ∀ W, Below w.heap.size w W → Came W a0 l0 k0 z0 := fun W b => came_below (B := 0) h0 b
  have cB : ∀ W, Below w.heap.size w W → Came W ab l0 kb z0 := fun W b => came_below (B := 0) hb b
  have c1 : ∀ W, Below w.heap.size w W → Came W a1 l1 k1 z1 := fun W b => came_below (B := 0) hd b
  have cO : ∀ W, Below w.heap.size w W → Came W ao l1 ko z1 := fun W b => came_below (B := 0) ho b
  have rb : ∀ (W : World) (l : List Value) (sp : List (Nat × (Nat → Int))), AM w W l sp → (∀ p ∈ sp, p.1 ≤ 900000) → RB w U bb N l W := fun W l sp hA hsp => ⟨U, hbk.keep (fun k hk => hA.bel.block k (hbk.lt hk)), fun k hk => .inl hk, bel_ch hA.bel, hA.la hsp (fun k hk => hbk.lt hk), hA.sep⟩
  refine puts_nn (ec := ((chk s).2 : Nat)) (fun i l W => match i with
    | 1 => AM w W (l.take 1) [(l0 + 2, cat z0 l0 (numZ n))] ∧ EM W (l.drop 1) []
    | 2 => AM w W (l.take 2) [(l0 + 2, cat z0 l0 (numZ n)), (l0 + 4, cat z0 l0 (lngZ n))] ∧ EM W (l.drop 2) []
    | 3 => AM w W (l.take 3) [(l0 + 2, cat z0 l0 (numZ n)), (l0 + 4, cat z0 l0 (lngZ n)), (l0 + kn (cl n), cat z0 l0 (glZ (cl n)))] ∧ EM W (l.drop 3) []
    | 4 => AM w W (l.take 3) [(l0 + 2, cat z0 l0 (numZ n)), (l0 + 4, cat z0 l0 (lngZ n)), (l0 + kn (cl n), cat z0 l0 (glZ (cl n)))] ∧ EM W (l.drop 3) []
    | 5 => AM w W (l.take 3) [(l0 + 2, cat z0 l0 (numZ n)), (l0 + 4, cat z0 l0 (lngZ n)), (l0 + kn (cl n), cat z0 l0 (glZ (cl n)))] ∧ EM W (l.drop 3) []
    | 6 => AM w W (l.take 3) [(l0 + 2, cat z0 l0 (numZ n)), (l0 + 4, cat z0 l0 (lngZ n)), (l0 + kn (cl n), cat z0 l0 (glZ (cl n)))] ∧ EM W (l.drop 3) [(2, numZ n)]
    | 7 => AM w W (l.take 3) [(l0 + 2, cat z0 l0 (numZ n)), (l0 + 4, cat z0 l0 (lngZ n)), (l0 + kn (cl n), cat z0 l0 (glZ (cl n)))] ∧ EM W (l.drop 3) [(2, numZ n), (l0 + (2), cat z0 l0 (numZ n))]
    | 8 => AM w W (l.take 3) [(l0 + 2, cat z0 l0 (numZ n)), (l0 + 4, cat z0 l0 (lngZ n)), (l0 + kn (cl n), cat z0 l0 (glZ (cl n)))] ∧ EM W (l.drop 3) []
    | 9 => AM w W (l.take 3) [(l0 + 2, cat z0 l0 (numZ n)), (l0 + 4, cat z0 l0 (lngZ n)), (l0 + kn (cl n), cat z0 l0 (glZ (cl n)))] ∧ EM W (l.drop 3) [(4, lngZ n)]
    | 10 => AM w W (l.take 3) [(l0 + 2, cat z0 l0 (numZ n)), (l0 + 4, cat z0 l0 (lngZ n)), (l0 + kn (cl n), cat z0 l0 (glZ (cl n)))] ∧ EM W (l.drop 3) [(4, lngZ n), (l0 + (4), cat z0 l0 (lngZ n))]
    | 11 => AM w W (l.take 3) [(l0 + 2, cat z0 l0 (numZ n)), (l0 + 4, cat z0 l0 (lngZ n)), (l0 + kn (cl n), cat z0 l0 (glZ (cl n)))] ∧ EM W (l.drop 3) []
    | 12 => AM w W (l.take 3) [(l0 + 2, cat z0 l0 (numZ n)), (l0 + 4, cat z0 l0 (lngZ n)), (l0 + kn (cl n), cat z0 l0 (glZ (cl n)))] ∧ EM W (l.drop 3) [(kn (cl n), glZ (cl n))]
    | 13 => AM w W (l.take 3) [(l0 + 2, cat z0 l0 (numZ n)), (l0 + 4, cat z0 l0 (lngZ n)), (l0 + kn (cl n), cat z0 l0 (glZ (cl n)))] ∧ EM W (l.drop 3) [(kn (cl n), glZ (cl n)), (l0 + (kn (cl n)), cat z0 l0 (glZ (cl n)))]
    | 14 => AM w W (l.take 3) [(l0 + 2, cat z0 l0 (numZ n)), (l0 + 4, cat z0 l0 (lngZ n)), (l0 + kn (cl n), cat z0 l0 (glZ (cl n)))] ∧ EM W (l.drop 3) []
    | 15 => AM w W (l.take 3) [(l0 + 2, cat z0 l0 (numZ n)), (l0 + 4, cat z0 l0 (lngZ n)), (l0 + kn (cl n), cat z0 l0 (glZ (cl n)))] ∧ EM W (l.drop 3) []
    | 16 => RB w U bb N l W
    | 17 => RB w U bb (N + 1) l W
    | 18 => RB w U bb (N + 2) l W
    | 19 => RB w U bb (N + 3) l W
    | 20 => RB w U bb (N + 4) l W
    | _ => False) _ hm (by simpa using hc) ?_ ?_ ?_ ?_ ?_ ?_ ?_ ?_ ?_ ?_ ?_ ?_ ?_ ?_ ?_ ?_ ?_ ?_ ?_ ?_ ?_
  · have hA := AM.start w
    have hE : EM w [] [] := by intro j v p e; simp at e
    refine (pz_number a0 l0 k0 z0 w (c0 w hA.bel) (by omega) n).mono ?_
    rintro e w' ⟨v, rfl, hm⟩
    exact ⟨v, rfl, hA.add hm, hE.later hm.bel⟩
  · intro x W hk
    have hA : AM w W [x] [(l0 + 2, cat z0 l0 (numZ n))] := hk.1
    have hE : EM W [] [] := hk.2
    refine (pz_long a0 l0 k0 z0 W (c0 W hA.bel) (by omega) n).mono ?_
    rintro e w' ⟨v, rfl, hm⟩
    exact ⟨v, rfl, hA.add hm, hE.later hm.bel⟩
  · intro x y W hk
    have hA : AM w W [x, y] [(l0 + 2, cat z0 l0 (numZ n)), (l0 + 4, cat z0 l0 (lngZ n))] := hk.1
    have hE : EM W [] [] := hk.2
    refine (pz_length a0 l0 k0 z0 W (c0 W hA.bel) (by omega) n).mono ?_
    rintro e w' ⟨v, rfl, hm⟩
    exact ⟨v, rfl, hA.add hm, hE.later hm.bel⟩
  · intro x y z W hk
    have hA : AM w W [x, y, z] [(l0 + 2, cat z0 l0 (numZ n)), (l0 + 4, cat z0 l0 (lngZ n)), (l0 + kn (cl n), cat z0 l0 (glZ (cl n)))] := hk.1
    have hE : EM W [] [] := hk.2
    refine (putText_bad' a0 l0 k0 s (chk s).1 (chk s).2 rfl hc W).mono ?_
    rintro e w' ⟨rfl, hb⟩
    exact ⟨rfl, hA.later hb, hE.later hb⟩
  · intro x y z W hk
    have hA : AM w W [x, y, z] [(l0 + 2, cat z0 l0 (numZ n)), (l0 + 4, cat z0 l0 (lngZ n)), (l0 + kn (cl n), cat z0 l0 (glZ (cl n)))] := hk.1
    have hE : EM W [] [] := hk.2
    refine (putData_long' a0 l0 k0 a1 l1 k1 hl2 W).mono ?_
    rintro e w' ⟨rfl, rfl⟩
    exact ⟨rfl, hA, hE⟩
  · intro x y z W hk
    have hA : AM w W [x, y, z] [(l0 + 2, cat z0 l0 (numZ n)), (l0 + 4, cat z0 l0 (lngZ n)), (l0 + kn (cl n), cat z0 l0 (glZ (cl n)))] := hk.1
    have hE : EM W [] [] := hk.2
    refine (rz_number n W).mono ?_
    rintro e w' ⟨v, rfl, hm⟩
    obtain ⟨g, cp, rfl, hg⟩ := hm.sl
    exact ⟨_, rfl, hA.later hm.bel, (hE.later hm.bel).add (p := (2, numZ n)) hm.came⟩
  · intro x y z r1 W hk
    have hA : AM w W [x, y, z] [(l0 + 2, cat z0 l0 (numZ n)), (l0 + 4, cat z0 l0 (lngZ n)), (l0 + kn (cl n), cat z0 l0 (glZ (cl n)))] := hk.1
    have hE : EM W [r1] [(2, numZ n)] := hk.2
    obtain ⟨a, cp, rfl, hc⟩ := hE.got 0 rfl rfl
    refine (bz_behind ab a l0 kb (2) cp z0 (numZ n) W (cB W hA.bel) hc (by omega) (by have := kn_bd (cl n); omega)).mono ?_
    rintro e w' ⟨v, c, rfl, hc', hb⟩
    exact ⟨_, rfl, hA.later hb, (hE.later hb).add (p := (l0 + (2), cat z0 l0 (numZ n))) hc'⟩
  · intro x y z r1 q1 W hk
    have hA : AM w W [x, y, z] [(l0 + 2, cat z0 l0 (numZ n)), (l0 + 4, cat z0 l0 (lngZ n)), (l0 + kn (cl n), cat z0 l0 (glZ (cl n)))] := hk.1
    have hE : EM W [r1, q1] [(2, numZ n), (l0 + (2), cat z0 l0 (numZ n))] := hk.2
    obtain ⟨g, cp, rfl, hc⟩ := hA.got 0 rfl rfl
    obtain ⟨a, cp', rfl, hc'⟩ := hE.got 1 rfl rfl
    refine (same_d W _ _ _ cp cp' _ hc hc').mono ?_
    rintro e w' ⟨rfl, rfl⟩
    exact ⟨rfl, hA, hE.take 0⟩
  · intro x y z W hk
    have hA : AM w W [x, y, z] [(l0 + 2, cat z0 l0 (numZ n)), (l0 + 4, cat z0 l0 (lngZ n)), (l0 + kn (cl n), cat z0 l0 (glZ (cl n)))] := hk.1
    have hE : EM W [] [] := hk.2
    refine (rz_long n W).mono ?_
    rintro e w' ⟨v, rfl, hm⟩
    obtain ⟨g, cp, rfl, hg⟩ := hm.sl
    exact ⟨_, rfl, hA.later hm.bel, (hE.later hm.bel).add (p := (4, lngZ n)) hm.came⟩
  · intro x y z r1 W hk
    have hA : AM w W [x, y, z] [(l0 + 2, cat z0 l0 (numZ n)), (l0 + 4, cat z0 l0 (lngZ n)), (l0 + kn (cl n), cat z0 l0 (glZ (cl n)))] := hk.1
    have hE : EM W [r1] [(4, lngZ n)] := hk.2
    obtain ⟨a, cp, rfl, hc⟩ := hE.got 0 rfl rfl
    refine (bz_behind ab a l0 kb (4) cp z0 (lngZ n) W (cB W hA.bel) hc (by omega) (by have := kn_bd (cl n); omega)).mono ?_
    rintro e w' ⟨v, c, rfl, hc', hb⟩
    exact ⟨_, rfl, hA.later hb, (hE.later hb).add (p := (l0 + (4), cat z0 l0 (lngZ n))) hc'⟩
  · intro x y z r1 q1 W hk
    have hA : AM w W [x, y, z] [(l0 + 2, cat z0 l0 (numZ n)), (l0 + 4, cat z0 l0 (lngZ n)), (l0 + kn (cl n), cat z0 l0 (glZ (cl n)))] := hk.1
    have hE : EM W [r1, q1] [(4, lngZ n), (l0 + (4), cat z0 l0 (lngZ n))] := hk.2
    obtain ⟨g, cp, rfl, hc⟩ := hA.got 1 rfl rfl
    obtain ⟨a, cp', rfl, hc'⟩ := hE.got 1 rfl rfl
    refine (same_d W _ _ _ cp cp' _ hc hc').mono ?_
    rintro e w' ⟨rfl, rfl⟩
    exact ⟨rfl, hA, hE.take 0⟩
  · intro x y z W hk
    have hA : AM w W [x, y, z] [(l0 + 2, cat z0 l0 (numZ n)), (l0 + 4, cat z0 l0 (lngZ n)), (l0 + kn (cl n), cat z0 l0 (glZ (cl n)))] := hk.1
    have hE : EM W [] [] := hk.2
    refine (rz_groups n W).mono ?_
    rintro e w' ⟨v, rfl, hm⟩
    obtain ⟨g, cp, rfl, hg⟩ := hm.sl
    exact ⟨_, rfl, hA.later hm.bel, (hE.later hm.bel).add (p := (kn (cl n), glZ (cl n))) hm.came⟩
  · intro x y z r1 W hk
    have hA : AM w W [x, y, z] [(l0 + 2, cat z0 l0 (numZ n)), (l0 + 4, cat z0 l0 (lngZ n)), (l0 + kn (cl n), cat z0 l0 (glZ (cl n)))] := hk.1
    have hE : EM W [r1] [(kn (cl n), glZ (cl n))] := hk.2
    obtain ⟨a, cp, rfl, hc⟩ := hE.got 0 rfl rfl
    refine (bz_behind ab a l0 kb (kn (cl n)) cp z0 (glZ (cl n)) W (cB W hA.bel) hc (by omega) (by have := kn_bd (cl n); omega)).mono ?_
    rintro e w' ⟨v, c, rfl, hc', hb⟩
    exact ⟨_, rfl, hA.later hb, (hE.later hb).add (p := (l0 + (kn (cl n)), cat z0 l0 (glZ (cl n)))) hc'⟩
  · intro x y z r1 q1 W hk
    have hA : AM w W [x, y, z] [(l0 + 2, cat z0 l0 (numZ n)), (l0 + 4, cat z0 l0 (lngZ n)), (l0 + kn (cl n), cat z0 l0 (glZ (cl n)))] := hk.1
    have hE : EM W [r1, q1] [(kn (cl n), glZ (cl n)), (l0 + (kn (cl n)), cat z0 l0 (glZ (cl n)))] := hk.2
    obtain ⟨g, cp, rfl, hc⟩ := hA.got 2 rfl rfl
    obtain ⟨a, cp', rfl, hc'⟩ := hE.got 1 rfl rfl
    refine (same_d W _ _ _ cp cp' _ hc hc').mono ?_
    rintro e w' ⟨rfl, rfl⟩
    exact ⟨rfl, hA, hE.take 0⟩
  · intro x y z W hk
    have hA : AM w W [x, y, z] [(l0 + 2, cat z0 l0 (numZ n)), (l0 + 4, cat z0 l0 (lngZ n)), (l0 + kn (cl n), cat z0 l0 (glZ (cl n)))] := hk.1
    have hE : EM W [] [] := hk.2
    refine (words_bad s W hc).mono ?_
    rintro e w' ⟨rfl, rfl⟩
    exact ⟨rfl, hA, hE⟩
  · intro x y z W hk
    have hA : AM w W [x, y, z] [(l0 + 2, cat z0 l0 (numZ n)), (l0 + 4, cat z0 l0 (lngZ n)), (l0 + kn (cl n), cat z0 l0 (glZ (cl n)))] := hk.1
    have hE : EM W [] [] := hk.2
    refine (rdata_long ao l1 ko hl2 W).mono ?_
    rintro e w' ⟨rfl, rfl⟩
    exact ⟨rfl, rb w' _ _ hA (by intro p hp; simp at hp; have := kn_bd (cl n); rcases hp with rfl | rfl | rfl <;> simp only <;> omega)⟩
  · intro x y z W hk
    have hk : RB w U bb (N + 0) [x, y, z] W := hk
    refine (hk.step (by omega) _).mono ?_
    rintro e w' ⟨rfl, q⟩
    exact ⟨rfl, q⟩
  · intro y z W hk
    have hk : RB w U bb (N + 1) [y, z] W := hk
    refine (hk.step (by omega) _).mono ?_
    rintro e w' ⟨rfl, q⟩
    exact ⟨rfl, q⟩
  · intro z W hk
    have hk : RB w U bb (N + 2) [z] W := hk
    refine (hk.step (by omega) _).mono ?_
    rintro e w' ⟨rfl, q⟩
    exact ⟨rfl, q⟩
  · intro W hk
    have hk : RB w U bb (N + 3) [] W := hk
    refine (hk.nil.step (by omega) _).mono ?_
    rintro e w' ⟨rfl, q⟩
    exact ⟨rfl, q⟩
  · intro W hk
    have hk : RB w U bb (N + 4) [] W := hk
    refine (hk.nil.step (by omega) _).mono ?_
    rintro e w' ⟨rfl, q⟩
    exact ⟨rfl, rfl, q⟩
end Go.Proofs.YtkjeneklkdekoaaGreatDoor
