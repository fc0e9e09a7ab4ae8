import Derived.Test.YtglnldopnoafoaaGreatDoorLa
import Derived.BigQuiet
import Derived.Deep.QuietTactic
import Derived.Deep.LoopGhost
import Derived.Test.YtglnldopnoafoaaGreatDoorAa
import Derived.OwnWalk
namespace Go.Proofs.YtglnldopnoafoaaGreatDoor
open Go Go.RowKit
set_option linter.unusedSimpArgs false
set_option linter.unusedVariables false

/-- A slice of texts, as it lies in memory. -/
def Row (w : World) (v : Value) (xs : List ByteArray) : Prop :=
  ∃ a n cap, v = .slice a n cap ∧ n = xs.length ∧ n ≤ cap ∧ (xs ≠ [] → ∃ g o, a = some ⟨g, o, none⟩ ∧ g < w.heap.size ∧ ∀ k x, xs[k]? = some x → w.cell? ⟨g, o + k, none⟩ = some (.string x))
theorem Row.later {w w' : World} {v : Value} {xs : List ByteArray} (h : Row w v xs) (hb : Below w.heap.size w w') : Row w' v xs := by
  obtain ⟨a, n, cap, rfl, hn, hc, hx⟩ := h
  refine ⟨a, n, cap, rfl, hn, hc, fun hne => ?_⟩
  obtain ⟨g, o, rfl, hg, hk⟩ := hx hne
  exact ⟨g, o, rfl, Nat.lt_of_lt_of_le hg hb.size, fun k x hk' => by rw [hb.cell (by exact hg)]; exact hk k x hk'⟩
theorem Row.drew {w : World} {v : Value} {xs : List ByteArray} (h : Row w v xs) (n : Nat) : Row (w.drewN n) v xs := h.later (below_drewN (Below.refl _ _) n)
theorem Row.cons {w : World} {v : Value} {x : ByteArray} {xs : List ByteArray} (h : Row w v (x :: xs)) : ∃ g o n cap, v = .slice (some ⟨g, o, none⟩) n cap ∧ n = xs.length + 1 ∧ n ≤ cap ∧ g < w.heap.size ∧ w.cell? ⟨g, o, none⟩ = some (.string x) ∧ ∀ k y, xs[k]? = some y → w.cell? ⟨g, o + (k + 1), none⟩ = some (.string y) := by
  obtain ⟨a, n, cap, rfl, hn, hc, hx⟩ := h
  obtain ⟨g, o, rfl, hg, hk⟩ := hx (by simp)
  exact ⟨g, o, n, cap, rfl, hn, hc, hg, hk 0 x rfl, fun k y h => hk (k + 1) y (by simpa using h)⟩
theorem Row.nil {w : World} {v : Value} (h : Row w v []) : ∃ a cap, v = .slice a 0 cap := by
  obtain ⟨a, n, cap, rfl, hn, hc, hx⟩ := h
  subst hn
  exact ⟨a, cap, rfl⟩
/-- Do a filter's levels match a topic's? -/
def mt : List Bs → List Bs → Bool
  | [], t => t.isEmpty
  | f :: fs, t => if f = [35] then true else
    match t with
    | [] => false
    | x :: xs => if f ≠ [43] ∧ f ≠ x then false else mt fs xs
theorem un_list (s : ByteArray) : s.toList = unB s := Lib.toList_data s
theorem eq_two (s t : ByteArray) : (s.toList == t.toList) = decide (unB s = unB t) := by
  rw [un_list, un_list]; by_cases h : unB s = unB t <;> simp [h]
theorem eq_one (s : ByteArray) (c : UInt8) : (s.toList == (⟨#[c]⟩ : ByteArray).toList) = decide (unB s = [c]) := eq_two s ⟨#[c]⟩
theorem eq_one' (s : ByteArray) (c : UInt8) : (s.toList == [c]) = decide (unB s = [c]) := by
  rw [← eq_one, un_list ⟨#[c]⟩]; rfl
theorem Row.tail {w : World} {g o n cap : Nat} {xs : List ByteArray} (hn : n = xs.length + 1) (hc : n ≤ cap) (hg : g < w.heap.size) (hk : ∀ k y, xs[k]? = some y → w.cell? ⟨g, o + (k + 1), none⟩ = some (.string y)) (a : Option Addr) (ha : xs ≠ [] → a = some ⟨g, o + 1, none⟩) : Row w (.slice a (n - 1) (cap - 1)) xs :=
  ⟨a, n - 1, cap - 1, rfl, by omega, by omega, fun hne => ⟨g, o + 1, ha hne, hg, fun k x h => by have := hk k x h; rw [show o + 1 + k = o + (k + 1) by omega]; exact this⟩⟩
end Go.Proofs.YtglnldopnoafoaaGreatDoor

namespace Go.Proofs.YtglnldopnoafoaaGreatDoor
open Go Go.RowKit
set_option linter.unusedSimpArgs false
set_option linter.unusedVariables false

theorem Row.at {w : World} {v : Value} {xs : List ByteArray} (h : Row w v xs) : ∃ a n cap, v = .slice a n cap ∧ n = xs.length ∧ n ≤ cap ∧ (xs ≠ [] → ∃ g o, a = some ⟨g, o, none⟩ ∧ g < w.heap.size ∧ ∀ k x, xs[k]? = some x → w.cell? ⟨g, o + k, none⟩ = some (.string x)) := h

theorem mt_drop (F T : List Bs) (i : Nat) (f t : Bs) (h1 : F[i]? = some f) (h2 : T[i]? = some t) : mt (F.drop i) (T.drop i) = (if f = [35] then true else if f ≠ [43] ∧ f ≠ t then false else mt (F.drop (i + 1)) (T.drop (i + 1))) := by
  obtain ⟨hi, e⟩ := List.getElem?_eq_some_iff.1 h1
  obtain ⟨hj, e'⟩ := List.getElem?_eq_some_iff.1 h2
  rw [List.drop_eq_getElem_cons hi, List.drop_eq_getElem_cons hj, e, e']
  rfl
theorem mt_drop_hash (F T : List Bs) (i : Nat) (h1 : F[i]? = some [35]) : mt (F.drop i) (T.drop i) = true := by
  obtain ⟨hi, e⟩ := List.getElem?_eq_some_iff.1 h1
  rw [List.drop_eq_getElem_cons hi, e]
  rfl
theorem mt_drop_short (F T : List Bs) (i : Nat) (f : Bs) (h1 : F[i]? = some f) (hf : ¬ f = [35]) (h2 : T.length ≤ i) : mt (F.drop i) (T.drop i) = false := by
  obtain ⟨hi, e⟩ := List.getElem?_eq_some_iff.1 h1
  rw [List.drop_eq_getElem_cons hi, e, List.drop_eq_nil_of_le h2]
  simp [mt, hf]

set_option maxRecDepth 100000 in
set_option maxHeartbeats 1000000 in
theorem goes_any (fs ts : List ByteArray) (vf vt : Value) (w : World) (Rf : Row w vf fs) (Rt : Row w vt ts) (hs : fs.length ≤ 1000001) : Calls Tryz.prog 158 #[vf, vt] w fun e w' => e = .returned (.bool (mt (fs.map unB) (ts.map unB))) ∧ ∃ k, w' = w.drewN k := by
  obtain ⟨x, hx⟩ : ∃ x, x = mt (fs.map unB) (ts.map unB) := ⟨_, rfl⟩
  rw [← hx]
  have HX : Hid (x = mt ((fs.map unB).drop 0) ((ts.map unB).drop 0)) := hx
  clear hx
  obtain ⟨a1, n1, cap1, rfl, hn1, hc1, hx1⟩ := Rf
  obtain ⟨a2, n2, cap2, rfl, hn2, hc2, hx2⟩ := Rt
  have HN : Hid (n1 = fs.length ∧ n2 = ts.length ∧ n1 ≤ cap1 ∧ n2 ≤ cap2 ∧ fs.length ≤ 1000001) := ⟨hn1, hn2, hc1, hc2, hs⟩
  have HA : Hid (fs ≠ [] → ∃ g o, a1 = some ⟨g, o, none⟩ ∧ ∀ k x, fs[k]? = some x → w.cell? ⟨g, o + k, none⟩ = some (.string x)) := fun h => by obtain ⟨g, o, h1, _, h3⟩ := hx1 h; exact ⟨g, o, h1, h3⟩
  have HB : Hid (ts ≠ [] → ∃ g o, a2 = some ⟨g, o, none⟩ ∧ ∀ k x, ts[k]? = some x → w.cell? ⟨g, o + k, none⟩ = some (.string x)) := fun h => by obtain ⟨g, o, h1, _, h3⟩ := hx2 h; exact ⟨g, o, h1, h3⟩
  clear hn1 hc1 hx1 hn2 hc2 hx2 hs
  go_enter Tryz.func158, Tryz.ntmps158
  go_wp2_with fail
  go_loopg [5] n1 (fun gg s5 wx => ∃ k q : Nat, k ≤ n1 ∧ gg = n1 - k ∧ s5 = .int .i64 k ∧ Hid (wx = w.drewN q) ∧ Hid (x = mt ((fs.map unB).drop k) ((ts.map unB).drop k)) ∧ Hid (k ≤ n2))
  case atStart => exact ⟨0, 0, Nat.zero_le _, rfl, rfl, rfl, HX, Nat.zero_le _⟩
  case round =>
    obtain ⟨k, q, hk, rfl, rfl, HW, HE, HK⟩ := hrel
    by_cases hlt : k < n1
    · have hlt' : (k : Int) < n1 := by omega
      obtain ⟨f, hf⟩ : ∃ f, fs[k]? = some f := ⟨_, List.getElem?_eq_getElem (by have := HN.out.1; omega)⟩
      obtain ⟨g, o, rfl, hcells⟩ := HA.out (fun e => by subst e; simp at hf)
      have c1 : wr.cell? ⟨g, o + k, none⟩ = some (.string f) := by rw [HW.out, World.cell?_drewN]; exact hcells k f hf
      have HF : Hid ((fs.map unB)[k]? = some (unB f)) := by show _ = _; rw [List.getElem?_map, hf]; rfl
      have hcap := HN.out.2.2.1
      have hw : IntKind.i64.wrap ((k : Int) + 1) = (k : Int) + 1 := by rw [IntKind.wrap_i64]; have := HN.out; omega
      clear hcells hf
      by_cases h35 : unB f = [35]
      · have q1 : (f.toList == (⟨#[35]⟩ : ByteArray).toList) = true := by rw [eq_one]; exact decide_eq_true h35
        have q1' : (f.toList == [35]) = true := by rw [eq_one']; exact decide_eq_true h35
        have HR : Hid (x = true) := by show _ = _; rw [HE.out]; exact mt_drop_hash _ _ k (by rw [HF.out, h35])
        clear h35
        go_wp2_with fail
        go_ret
        exact ⟨by rw [HR.out]; rfl, q, HW.out⟩
      have q1 : (f.toList == (⟨#[35]⟩ : ByteArray).toList) = false := by rw [eq_one]; exact decide_eq_false h35
      have q1' : (f.toList == [35]) = false := by rw [eq_one']; exact decide_eq_false h35
      by_cases h2 : k < n2
      · have h2' : ¬ (n2 : Int) ≤ k := by omega
        have h2d : decide ((n2 : Int) ≤ k) = false := decide_eq_false h2'
        have h2e : (k : Int) < n2 := by omega
        have h2f : decide (n2 ≤ k) = false := decide_eq_false (by omega)
        obtain ⟨t, ht⟩ : ∃ t, ts[k]? = some t := ⟨_, List.getElem?_eq_getElem (by have := HN.out.2.1; omega)⟩
        obtain ⟨g2, o2, rfl, hcells⟩ := HB.out (fun e => by subst e; simp at ht)
        have c2 : wr.cell? ⟨g2, o2 + k, none⟩ = some (.string t) := by rw [HW.out, World.cell?_drewN]; exact hcells k t ht
        have HT : Hid ((ts.map unB)[k]? = some (unB t)) := by show _ = _; rw [List.getElem?_map, ht]; rfl
        have hcap2 := HN.out.2.2.2.1
        have HS : Hid (x = (if unB f ≠ [43] ∧ unB f ≠ unB t then false else mt ((fs.map unB).drop (k + 1)) ((ts.map unB).drop (k + 1)))) := by
          show _ = _
          rw [HE.out, mt_drop _ _ k _ _ HF.out HT.out, if_neg h35]
        clear hcells ht h35
        by_cases h43 : unB f = [43]
        · have q2 : (f.toList == (⟨#[43]⟩ : ByteArray).toList) = true := by rw [eq_one]; exact decide_eq_true h43
          have q2' : (f.toList == [43]) = true := by rw [eq_one']; exact decide_eq_true h43
          have HS2 : Hid (x = mt ((fs.map unB).drop (k + 1)) ((ts.map unB).drop (k + 1))) := by show _ = _; rw [HS.out, if_neg (fun h => h.1 h43)]
          clear h43 HS
          go_wp2_with fail
          go_quiet (fail)
          obtain ⟨w1, hw1⟩ : ∃ w1, w1 = wr.drewN nq := ⟨_, rfl⟩
          have HW2 : Hid (w1 = w.drewN (q + nq)) := by show _ = _; rw [hw1, HW.out, World.drewN_drewN]
          have HK2 : Hid (k + 1 ≤ n2) := by show _ ≤ _; omega
          rw [← hw1]
          clear hw1
          go_wp2_with fail
          go_roundg (n1 - (k + 1))
          case measure => omega
          case rel => exact ⟨k + 1, _, by omega, by omega, by first | rfl | simp, HW2, HS2, HK2⟩
        have q2 : (f.toList == (⟨#[43]⟩ : ByteArray).toList) = false := by rw [eq_one]; exact decide_eq_false h43
        have q2' : (f.toList == [43]) = false := by rw [eq_one']; exact decide_eq_false h43
        by_cases hne : unB f = unB t
        · have q3 : (f.toList == t.toList) = true := by rw [eq_two]; exact decide_eq_true hne
          have HS2 : Hid (x = mt ((fs.map unB).drop (k + 1)) ((ts.map unB).drop (k + 1))) := by show _ = _; rw [HS.out, if_neg (fun h => h.2 hne)]
          clear h43 HS hne
          go_wp2_with fail
          go_quiet (fail)
          obtain ⟨w1, hw1⟩ : ∃ w1, w1 = wr.drewN nq := ⟨_, rfl⟩
          have HW2 : Hid (w1 = w.drewN (q + nq)) := by show _ = _; rw [hw1, HW.out, World.drewN_drewN]
          have HK2 : Hid (k + 1 ≤ n2) := by show _ ≤ _; omega
          rw [← hw1]
          clear hw1
          go_wp2_with fail
          go_roundg (n1 - (k + 1))
          case measure => omega
          case rel => exact ⟨k + 1, _, by omega, by omega, by first | rfl | simp, HW2, HS2, HK2⟩
        · have q3 : (f.toList == t.toList) = false := by rw [eq_two]; exact decide_eq_false hne
          have HR : Hid (x = false) := by show _ = _; rw [HS.out, if_pos ⟨h43, hne⟩]
          clear h43 HS hne
          go_wp2_with fail
          go_quiet (fail)
          obtain ⟨w1, hw1⟩ : ∃ w1, w1 = wr.drewN nq := ⟨_, rfl⟩
          have HW2 : Hid (w1 = w.drewN (q + nq)) := by show _ = _; rw [hw1, HW.out, World.drewN_drewN]
          rw [← hw1]
          clear hw1
          go_wp2_with fail
          go_ret
          exact ⟨by rw [HR.out]; rfl, _, HW2.out⟩
      · have h2' : (n2 : Int) ≤ k := by omega
        have h2d : decide ((n2 : Int) ≤ k) = true := decide_eq_true h2'
        have h2f : decide (n2 ≤ k) = true := decide_eq_true (by omega)
        have HR : Hid (x = false) := by show _ = _; rw [HE.out]; exact mt_drop_short _ _ k _ HF.out h35 (by rw [List.length_map]; have := HN.out.2.1; omega)
        clear h35
        go_wp2_with fail
        go_quiet (fail)
        obtain ⟨w1, hw1⟩ : ∃ w1, w1 = wr.drewN nq := ⟨_, rfl⟩
        have HW2 : Hid (w1 = w.drewN (q + nq)) := by show _ = _; rw [hw1, HW.out, World.drewN_drewN]
        rw [← hw1]
        clear hw1
        go_wp2_with fail
        go_ret
        exact ⟨by rw [HR.out]; rfl, _, HW2.out⟩
    · obtain rfl : k = n1 := by omega
      have hlt' : ¬ (k : Int) < k := by omega
      have HR : Hid (x = ((k : Int) == n2)) := by
        show _ = _
        have h1 := HN.out; have h2 := HK.out
        rw [HE.out, List.drop_eq_nil_of_le (by rw [List.length_map]; omega)]
        by_cases e : k = n2
        · subst e; rw [List.drop_eq_nil_of_le (by rw [List.length_map]; omega)]; simp [mt]
        · have : ((k : Int) == n2) = false := by rw [beq_eq_false_iff_ne]; omega
          rw [this]
          cases hd : List.drop k (ts.map unB) with
          | nil => have := congrArg List.length hd; simp at this; omega
          | cons a b => rfl
      go_wp2_with fail
      go_ret
      exact ⟨by rw [HR.out]; rfl, q, HW.out⟩
end Go.Proofs.YtglnldopnoafoaaGreatDoor

namespace Go.Proofs.YtglnldopnoafoaaGreatDoor
open Go Go.RowKit
set_option linter.unusedSimpArgs false
set_option linter.unusedVariables false

/-- How many bytes go on behind a first one, and between which bounds the first of them is. -/
def mr (c : Nat) : Int × Nat × Nat :=
  if c ≤ 127 then (0, 0, 0) else if c ≤ 193 then (-1, 0, 0) else if c ≤ 223 then (1, 128, 191) else if c ≤ 224 then (2, 160, 191) else if c ≤ 236 then (2, 128, 191) else if c ≤ 237 then (2, 128, 159) else if c ≤ 239 then (2, 128, 191) else if c ≤ 240 then (3, 144, 191) else if c ≤ 243 then (3, 128, 191) else if c ≤ 244 then (3, 128, 143) else (-1, 0, 0)
theorem mr_0 (c : Nat) (h1 : 0 ≤ c) (h2 : c ≤ 127) : mr c = (0, 0, 0) := by unfold mr; rw [if_pos (by omega)]
theorem mr_1 (c : Nat) (h1 : 128 ≤ c) (h2 : c ≤ 193) : mr c = (-1, 0, 0) := by unfold mr; rw [if_neg (by omega), if_pos (by omega)]
theorem mr_2 (c : Nat) (h1 : 194 ≤ c) (h2 : c ≤ 223) : mr c = (1, 128, 191) := by unfold mr; rw [if_neg (by omega), if_neg (by omega), if_pos (by omega)]
theorem mr_3 (c : Nat) (h1 : 224 ≤ c) (h2 : c ≤ 224) : mr c = (2, 160, 191) := by unfold mr; rw [if_neg (by omega), if_neg (by omega), if_neg (by omega), if_pos (by omega)]
theorem mr_4 (c : Nat) (h1 : 225 ≤ c) (h2 : c ≤ 236) : mr c = (2, 128, 191) := by unfold mr; rw [if_neg (by omega), if_neg (by omega), if_neg (by omega), if_neg (by omega), if_pos (by omega)]
theorem mr_5 (c : Nat) (h1 : 237 ≤ c) (h2 : c ≤ 237) : mr c = (2, 128, 159) := by unfold mr; rw [if_neg (by omega), if_neg (by omega), if_neg (by omega), if_neg (by omega), if_neg (by omega), if_pos (by omega)]
theorem mr_6 (c : Nat) (h1 : 238 ≤ c) (h2 : c ≤ 239) : mr c = (2, 128, 191) := by unfold mr; rw [if_neg (by omega), if_neg (by omega), if_neg (by omega), if_neg (by omega), if_neg (by omega), if_neg (by omega), if_pos (by omega)]
theorem mr_7 (c : Nat) (h1 : 240 ≤ c) (h2 : c ≤ 240) : mr c = (3, 144, 191) := by unfold mr; rw [if_neg (by omega), if_neg (by omega), if_neg (by omega), if_neg (by omega), if_neg (by omega), if_neg (by omega), if_neg (by omega), if_pos (by omega)]
theorem mr_8 (c : Nat) (h1 : 241 ≤ c) (h2 : c ≤ 243) : mr c = (3, 128, 191) := by unfold mr; rw [if_neg (by omega), if_neg (by omega), if_neg (by omega), if_neg (by omega), if_neg (by omega), if_neg (by omega), if_neg (by omega), if_neg (by omega), if_pos (by omega)]
theorem mr_9 (c : Nat) (h1 : 244 ≤ c) (h2 : c ≤ 244) : mr c = (3, 128, 143) := by unfold mr; rw [if_neg (by omega), if_neg (by omega), if_neg (by omega), if_neg (by omega), if_neg (by omega), if_neg (by omega), if_neg (by omega), if_neg (by omega), if_neg (by omega), if_pos (by omega)]
theorem mr_10 (c : Nat) (h1 : 245 ≤ c) (h2 : c ≤ 255) : mr c = (-1, 0, 0) := by unfold mr; rw [if_neg (by omega), if_neg (by omega), if_neg (by omega), if_neg (by omega), if_neg (by omega), if_neg (by omega), if_neg (by omega), if_neg (by omega), if_neg (by omega), if_neg (by omega)]
theorem more_0 (c : Int) (h1 : 0 ≤ c) (h2 : c ≤ 127) (w : World) : Calls Tryz.prog 155 #[.int .u8 c] w fun e w' => e = .returned (.tuple #[.int .i64 (0), .int .u8 0, .int .u8 0]) ∧ w' = w := by
  have a0 : c < 128 := by omega
  have a1 : ¬ 194 ≤ c := by omega
  have a2 : ¬ 225 ≤ c := by omega
  have a3 : ¬ 241 ≤ c := by omega
  have z0 : (c == 224) = false := by simp; omega
  have z1 : (c == 237) = false := by simp; omega
  have z2 : (c == 240) = false := by simp; omega
  have z3 : (c == 244) = false := by simp; omega
  clear h1 h2
  go_enter Tryz.func155, Tryz.ntmps155
  go_wp2
  go_ret3
  exact ⟨rfl, rfl⟩
theorem more_1 (c : Int) (h1 : 128 ≤ c) (h2 : c ≤ 193) (w : World) : Calls Tryz.prog 155 #[.int .u8 c] w fun e w' => e = .returned (.tuple #[.int .i64 (-1), .int .u8 0, .int .u8 0]) ∧ w' = w := by
  have a0 : ¬ c < 128 := by omega
  have a1 : ¬ 194 ≤ c := by omega
  have a2 : ¬ 225 ≤ c := by omega
  have a3 : ¬ 241 ≤ c := by omega
  have z0 : (c == 224) = false := by simp; omega
  have z1 : (c == 237) = false := by simp; omega
  have z2 : (c == 240) = false := by simp; omega
  have z3 : (c == 244) = false := by simp; omega
  clear h1 h2
  go_enter Tryz.func155, Tryz.ntmps155
  go_wp2
  go_ret3
  exact ⟨rfl, rfl⟩
theorem more_2 (c : Int) (h1 : 194 ≤ c) (h2 : c ≤ 223) (w : World) : Calls Tryz.prog 155 #[.int .u8 c] w fun e w' => e = .returned (.tuple #[.int .i64 (1), .int .u8 128, .int .u8 191]) ∧ w' = w := by
  have a0 : ¬ c < 128 := by omega
  have a1 : 194 ≤ c := by omega
  have a1b : c ≤ 223 := by omega
  have a2 : ¬ 225 ≤ c := by omega
  have a3 : ¬ 241 ≤ c := by omega
  have z0 : (c == 224) = false := by simp; omega
  have z1 : (c == 237) = false := by simp; omega
  have z2 : (c == 240) = false := by simp; omega
  have z3 : (c == 244) = false := by simp; omega
  clear h1 h2
  go_enter Tryz.func155, Tryz.ntmps155
  go_wp2
  go_ret3
  exact ⟨rfl, rfl⟩
theorem more_3 (c : Int) (h1 : 224 ≤ c) (h2 : c ≤ 224) (w : World) : Calls Tryz.prog 155 #[.int .u8 c] w fun e w' => e = .returned (.tuple #[.int .i64 (2), .int .u8 160, .int .u8 191]) ∧ w' = w := by
  have a0 : ¬ c < 128 := by omega
  have a1 : 194 ≤ c := by omega
  have a1b : ¬ c ≤ 223 := by omega
  have a2 : ¬ 225 ≤ c := by omega
  have a3 : ¬ 241 ≤ c := by omega
  have z0 : (c == 224) = true := by simp; omega
  have z1 : (c == 237) = false := by simp; omega
  have z2 : (c == 240) = false := by simp; omega
  have z3 : (c == 244) = false := by simp; omega
  clear h1 h2
  go_enter Tryz.func155, Tryz.ntmps155
  go_wp2
  go_ret3
  exact ⟨rfl, rfl⟩
theorem more_4 (c : Int) (h1 : 225 ≤ c) (h2 : c ≤ 236) (w : World) : Calls Tryz.prog 155 #[.int .u8 c] w fun e w' => e = .returned (.tuple #[.int .i64 (2), .int .u8 128, .int .u8 191]) ∧ w' = w := by
  have a0 : ¬ c < 128 := by omega
  have a1 : 194 ≤ c := by omega
  have a1b : ¬ c ≤ 223 := by omega
  have a2 : 225 ≤ c := by omega
  have a2b : c ≤ 239 := by omega
  have a3 : ¬ 241 ≤ c := by omega
  have z0 : (c == 224) = false := by simp; omega
  have z1 : (c == 237) = false := by simp; omega
  have z2 : (c == 240) = false := by simp; omega
  have z3 : (c == 244) = false := by simp; omega
  clear h1 h2
  go_enter Tryz.func155, Tryz.ntmps155
  go_wp2
  go_ret3
  exact ⟨rfl, rfl⟩
theorem more_5 (c : Int) (h1 : 237 ≤ c) (h2 : c ≤ 237) (w : World) : Calls Tryz.prog 155 #[.int .u8 c] w fun e w' => e = .returned (.tuple #[.int .i64 (2), .int .u8 128, .int .u8 159]) ∧ w' = w := by
  have a0 : ¬ c < 128 := by omega
  have a1 : 194 ≤ c := by omega
  have a1b : ¬ c ≤ 223 := by omega
  have a2 : 225 ≤ c := by omega
  have a2b : c ≤ 239 := by omega
  have a3 : ¬ 241 ≤ c := by omega
  have z0 : (c == 224) = false := by simp; omega
  have z1 : (c == 237) = true := by simp; omega
  have z2 : (c == 240) = false := by simp; omega
  have z3 : (c == 244) = false := by simp; omega
  clear h1 h2
  go_enter Tryz.func155, Tryz.ntmps155
  go_wp2
  go_ret3
  exact ⟨rfl, rfl⟩
theorem more_6 (c : Int) (h1 : 238 ≤ c) (h2 : c ≤ 239) (w : World) : Calls Tryz.prog 155 #[.int .u8 c] w fun e w' => e = .returned (.tuple #[.int .i64 (2), .int .u8 128, .int .u8 191]) ∧ w' = w := by
  have a0 : ¬ c < 128 := by omega
  have a1 : 194 ≤ c := by omega
  have a1b : ¬ c ≤ 223 := by omega
  have a2 : 225 ≤ c := by omega
  have a2b : c ≤ 239 := by omega
  have a3 : ¬ 241 ≤ c := by omega
  have z0 : (c == 224) = false := by simp; omega
  have z1 : (c == 237) = false := by simp; omega
  have z2 : (c == 240) = false := by simp; omega
  have z3 : (c == 244) = false := by simp; omega
  clear h1 h2
  go_enter Tryz.func155, Tryz.ntmps155
  go_wp2
  go_ret3
  exact ⟨rfl, rfl⟩
theorem more_7 (c : Int) (h1 : 240 ≤ c) (h2 : c ≤ 240) (w : World) : Calls Tryz.prog 155 #[.int .u8 c] w fun e w' => e = .returned (.tuple #[.int .i64 (3), .int .u8 144, .int .u8 191]) ∧ w' = w := by
  have a0 : ¬ c < 128 := by omega
  have a1 : 194 ≤ c := by omega
  have a1b : ¬ c ≤ 223 := by omega
  have a2 : 225 ≤ c := by omega
  have a2b : ¬ c ≤ 239 := by omega
  have a3 : ¬ 241 ≤ c := by omega
  have z0 : (c == 224) = false := by simp; omega
  have z1 : (c == 237) = false := by simp; omega
  have z2 : (c == 240) = true := by simp; omega
  have z3 : (c == 244) = false := by simp; omega
  clear h1 h2
  go_enter Tryz.func155, Tryz.ntmps155
  go_wp2
  go_ret3
  exact ⟨rfl, rfl⟩
theorem more_8 (c : Int) (h1 : 241 ≤ c) (h2 : c ≤ 243) (w : World) : Calls Tryz.prog 155 #[.int .u8 c] w fun e w' => e = .returned (.tuple #[.int .i64 (3), .int .u8 128, .int .u8 191]) ∧ w' = w := by
  have a0 : ¬ c < 128 := by omega
  have a1 : 194 ≤ c := by omega
  have a1b : ¬ c ≤ 223 := by omega
  have a2 : 225 ≤ c := by omega
  have a2b : ¬ c ≤ 239 := by omega
  have a3 : 241 ≤ c := by omega
  have a3b : c ≤ 243 := by omega
  have z0 : (c == 224) = false := by simp; omega
  have z1 : (c == 237) = false := by simp; omega
  have z2 : (c == 240) = false := by simp; omega
  have z3 : (c == 244) = false := by simp; omega
  clear h1 h2
  go_enter Tryz.func155, Tryz.ntmps155
  go_wp2
  go_ret3
  exact ⟨rfl, rfl⟩
theorem more_9 (c : Int) (h1 : 244 ≤ c) (h2 : c ≤ 244) (w : World) : Calls Tryz.prog 155 #[.int .u8 c] w fun e w' => e = .returned (.tuple #[.int .i64 (3), .int .u8 128, .int .u8 143]) ∧ w' = w := by
  have a0 : ¬ c < 128 := by omega
  have a1 : 194 ≤ c := by omega
  have a1b : ¬ c ≤ 223 := by omega
  have a2 : 225 ≤ c := by omega
  have a2b : ¬ c ≤ 239 := by omega
  have a3 : 241 ≤ c := by omega
  have a3b : ¬ c ≤ 243 := by omega
  have z0 : (c == 224) = false := by simp; omega
  have z1 : (c == 237) = false := by simp; omega
  have z2 : (c == 240) = false := by simp; omega
  have z3 : (c == 244) = true := by simp; omega
  clear h1 h2
  go_enter Tryz.func155, Tryz.ntmps155
  go_wp2
  go_ret3
  exact ⟨rfl, rfl⟩
theorem more_10 (c : Int) (h1 : 245 ≤ c) (h2 : c ≤ 255) (w : World) : Calls Tryz.prog 155 #[.int .u8 c] w fun e w' => e = .returned (.tuple #[.int .i64 (-1), .int .u8 0, .int .u8 0]) ∧ w' = w := by
  have a0 : ¬ c < 128 := by omega
  have a1 : 194 ≤ c := by omega
  have a1b : ¬ c ≤ 223 := by omega
  have a2 : 225 ≤ c := by omega
  have a2b : ¬ c ≤ 239 := by omega
  have a3 : 241 ≤ c := by omega
  have a3b : ¬ c ≤ 243 := by omega
  have z0 : (c == 224) = false := by simp; omega
  have z1 : (c == 237) = false := by simp; omega
  have z2 : (c == 240) = false := by simp; omega
  have z3 : (c == 244) = false := by simp; omega
  clear h1 h2
  go_enter Tryz.func155, Tryz.ntmps155
  go_wp2
  go_ret3
  exact ⟨rfl, rfl⟩
theorem more_any (c : Nat) (hc : c ≤ 255) (w : World) : Calls Tryz.prog 155 #[.int .u8 c] w fun e w' => e = .returned (.tuple #[.int .i64 (mr c).1, .int .u8 (mr c).2.1, .int .u8 (mr c).2.2]) ∧ w' = w := by
  by_cases h0 : c ≤ 127
  · rw [mr_0 c (by omega) h0]; exact more_0 c (by omega) (by omega) w
  by_cases h1 : c ≤ 193
  · rw [mr_1 c (by omega) h1]; exact more_1 c (by omega) (by omega) w
  by_cases h2 : c ≤ 223
  · rw [mr_2 c (by omega) h2]; exact more_2 c (by omega) (by omega) w
  by_cases h3 : c ≤ 224
  · rw [mr_3 c (by omega) h3]; exact more_3 c (by omega) (by omega) w
  by_cases h4 : c ≤ 236
  · rw [mr_4 c (by omega) h4]; exact more_4 c (by omega) (by omega) w
  by_cases h5 : c ≤ 237
  · rw [mr_5 c (by omega) h5]; exact more_5 c (by omega) (by omega) w
  by_cases h6 : c ≤ 239
  · rw [mr_6 c (by omega) h6]; exact more_6 c (by omega) (by omega) w
  by_cases h7 : c ≤ 240
  · rw [mr_7 c (by omega) h7]; exact more_7 c (by omega) (by omega) w
  by_cases h8 : c ≤ 243
  · rw [mr_8 c (by omega) h8]; exact more_8 c (by omega) (by omega) w
  by_cases h9 : c ≤ 244
  · rw [mr_9 c (by omega) h9]; exact more_9 c (by omega) (by omega) w
  rw [mr_10 c (by omega) hc]; exact more_10 c (by omega) (by omega) w

def lo5 (L j : Nat) : Nat := if j = 1 then L else 128
def hi5 (H j : Nat) : Nat := if j = 1 then H else 191
/-- Does a byte behind the first one fit? -/
def In5 (s : ByteArray) (k L H j : Nat) : Prop := lo5 L j ≤ atB s (k + j) ∧ atB s (k + j) ≤ hi5 H j
theorem mr_most (c : Nat) : (mr c).1 ≤ 3 ∧ -1 ≤ (mr c).1 := by unfold mr; (repeat' split) <;> (constructor <;> decide)
theorem mr_low (c : Nat) (h : 1 ≤ (mr c).1) : 128 ≤ (mr c).2.1 := by
  revert h; unfold mr; (repeat' split) <;> (intro h; first | (exact absurd h (by decide)) | decide)
theorem point_neg (s : ByteArray) (k : Nat) (h : (mr (atB s k)).1 < 0) : point s k = 0 := by
  have h0 := atB_lt s k
  revert h
  unfold point
  generalize atB s k = c at *
  intro h
  by_cases a : c ≤ 193
  · by_cases b : c ≤ 127
    · rw [mr_0 c (by omega) b] at h; exact absurd h (by decide)
    · unfold pt
      rw [if_neg (by omega), if_neg (by omega), if_neg (by omega), if_neg (by omega)]
  · by_cases b : c ≤ 244
    · exfalso
      revert h; unfold mr; (repeat' split) <;> (intro h; first | (exact absurd h (by decide)) | omega)
    · unfold pt
      rw [if_neg (by omega), if_neg (by omega), if_neg (by omega), if_neg (by omega)]
theorem point_ok (s : ByteArray) (k m : Nat) (hm : (mr (atB s k)).1 = m) (hj : ∀ j, 1 ≤ j → j ≤ m → In5 s k (mr (atB s k)).2.1 (mr (atB s k)).2.2 j) : point s k = m + 1 := by
  have h0 := atB_lt s k
  obtain ⟨c, hc⟩ : ∃ c, atB s k = c := ⟨_, rfl⟩
  rw [hc] at hm hj h0
  by_cases r0 : c ≤ 127
  · have e := mr_0 c (by omega) (by omega)
    rw [e] at hm hj
    obtain rfl : m = 0 := by simp at hm; omega
    unfold point pt
    rw [hc, if_pos (by omega)]
  by_cases r1 : c ≤ 193
  · have e := mr_1 c (by omega) (by omega)
    rw [e] at hm hj
    exfalso; revert hm; simp; try omega
  by_cases r2 : c ≤ 223
  · have e := mr_2 c (by omega) (by omega)
    rw [e] at hm hj
    obtain rfl : m = 1 := by simp at hm; omega
    have h1 := hj 1 (by decide) (by decide)
    simp [In5, lo5, hi5] at h1
    unfold point pt
    rw [hc, if_neg (by omega), if_pos (by omega)]
  by_cases r3 : c ≤ 224
  · have e := mr_3 c (by omega) (by omega)
    rw [e] at hm hj
    obtain rfl : m = 2 := by simp at hm; omega
    have h1 := hj 1 (by decide) (by decide)
    have h2 := hj 2 (by decide) (by decide)
    simp [In5, lo5, hi5] at h1 h2
    unfold point pt
    rw [hc, if_neg (by omega), if_neg (by omega), if_pos (by omega)]
  by_cases r4 : c ≤ 236
  · have e := mr_4 c (by omega) (by omega)
    rw [e] at hm hj
    obtain rfl : m = 2 := by simp at hm; omega
    have h1 := hj 1 (by decide) (by decide)
    have h2 := hj 2 (by decide) (by decide)
    simp [In5, lo5, hi5] at h1 h2
    unfold point pt
    rw [hc, if_neg (by omega), if_neg (by omega), if_pos (by omega)]
  by_cases r5 : c ≤ 237
  · have e := mr_5 c (by omega) (by omega)
    rw [e] at hm hj
    obtain rfl : m = 2 := by simp at hm; omega
    have h1 := hj 1 (by decide) (by decide)
    have h2 := hj 2 (by decide) (by decide)
    simp [In5, lo5, hi5] at h1 h2
    unfold point pt
    rw [hc, if_neg (by omega), if_neg (by omega), if_pos (by omega)]
  by_cases r6 : c ≤ 239
  · have e := mr_6 c (by omega) (by omega)
    rw [e] at hm hj
    obtain rfl : m = 2 := by simp at hm; omega
    have h1 := hj 1 (by decide) (by decide)
    have h2 := hj 2 (by decide) (by decide)
    simp [In5, lo5, hi5] at h1 h2
    unfold point pt
    rw [hc, if_neg (by omega), if_neg (by omega), if_pos (by omega)]
  by_cases r7 : c ≤ 240
  · have e := mr_7 c (by omega) (by omega)
    rw [e] at hm hj
    obtain rfl : m = 3 := by simp at hm; omega
    have h1 := hj 1 (by decide) (by decide)
    have h2 := hj 2 (by decide) (by decide)
    have h3 := hj 3 (by decide) (by decide)
    simp [In5, lo5, hi5] at h1 h2 h3
    unfold point pt
    rw [hc, if_neg (by omega), if_neg (by omega), if_neg (by omega), if_pos (by omega)]
  by_cases r8 : c ≤ 243
  · have e := mr_8 c (by omega) (by omega)
    rw [e] at hm hj
    obtain rfl : m = 3 := by simp at hm; omega
    have h1 := hj 1 (by decide) (by decide)
    have h2 := hj 2 (by decide) (by decide)
    have h3 := hj 3 (by decide) (by decide)
    simp [In5, lo5, hi5] at h1 h2 h3
    unfold point pt
    rw [hc, if_neg (by omega), if_neg (by omega), if_neg (by omega), if_pos (by omega)]
  by_cases r9 : c ≤ 244
  · have e := mr_9 c (by omega) (by omega)
    rw [e] at hm hj
    obtain rfl : m = 3 := by simp at hm; omega
    have h1 := hj 1 (by decide) (by decide)
    have h2 := hj 2 (by decide) (by decide)
    have h3 := hj 3 (by decide) (by decide)
    simp [In5, lo5, hi5] at h1 h2 h3
    unfold point pt
    rw [hc, if_neg (by omega), if_neg (by omega), if_neg (by omega), if_pos (by omega)]
  have e := mr_10 c (by omega) (by omega)
  rw [e] at hm hj
  exfalso; revert hm; simp; try omega
theorem point_no (s : ByteArray) (k m : Nat) (hm : (mr (atB s k)).1 = m) (hj : ∃ j, 1 ≤ j ∧ j ≤ m ∧ ¬ In5 s k (mr (atB s k)).2.1 (mr (atB s k)).2.2 j) : point s k = 0 := by
  have h0 := atB_lt s k
  obtain ⟨c, hc⟩ : ∃ c, atB s k = c := ⟨_, rfl⟩
  rw [hc] at hm hj h0
  by_cases r0 : c ≤ 127
  · have e := mr_0 c (by omega) (by omega)
    rw [e] at hm hj
    obtain rfl : m = 0 := by simp at hm; omega
    obtain ⟨j, j1, j2, hj⟩ := hj
    omega
  by_cases r1 : c ≤ 193
  · have e := mr_1 c (by omega) (by omega)
    rw [e] at hm hj
    exfalso; revert hm; simp; try omega
  by_cases r2 : c ≤ 223
  · have e := mr_2 c (by omega) (by omega)
    rw [e] at hm hj
    obtain rfl : m = 1 := by simp at hm; omega
    obtain ⟨j, j1, j2, hj⟩ := hj
    unfold point pt
    rw [hc]
    have jj : j = 1 := by omega
    rcases jj with rfl <;> simp [In5, lo5, hi5] at hj <;> rw [if_neg (by omega), if_neg (by omega), if_neg (by omega), if_neg (by omega)]
  by_cases r3 : c ≤ 224
  · have e := mr_3 c (by omega) (by omega)
    rw [e] at hm hj
    obtain rfl : m = 2 := by simp at hm; omega
    obtain ⟨j, j1, j2, hj⟩ := hj
    unfold point pt
    rw [hc]
    have jj : j = 1 ∨ j = 2 := by omega
    rcases jj with rfl | rfl <;> simp [In5, lo5, hi5] at hj <;> rw [if_neg (by omega), if_neg (by omega), if_neg (by omega), if_neg (by omega)]
  by_cases r4 : c ≤ 236
  · have e := mr_4 c (by omega) (by omega)
    rw [e] at hm hj
    obtain rfl : m = 2 := by simp at hm; omega
    obtain ⟨j, j1, j2, hj⟩ := hj
    unfold point pt
    rw [hc]
    have jj : j = 1 ∨ j = 2 := by omega
    rcases jj with rfl | rfl <;> simp [In5, lo5, hi5] at hj <;> rw [if_neg (by omega), if_neg (by omega), if_neg (by omega), if_neg (by omega)]
  by_cases r5 : c ≤ 237
  · have e := mr_5 c (by omega) (by omega)
    rw [e] at hm hj
    obtain rfl : m = 2 := by simp at hm; omega
    obtain ⟨j, j1, j2, hj⟩ := hj
    unfold point pt
    rw [hc]
    have jj : j = 1 ∨ j = 2 := by omega
    rcases jj with rfl | rfl <;> simp [In5, lo5, hi5] at hj <;> rw [if_neg (by omega), if_neg (by omega), if_neg (by omega), if_neg (by omega)]
  by_cases r6 : c ≤ 239
  · have e := mr_6 c (by omega) (by omega)
    rw [e] at hm hj
    obtain rfl : m = 2 := by simp at hm; omega
    obtain ⟨j, j1, j2, hj⟩ := hj
    unfold point pt
    rw [hc]
    have jj : j = 1 ∨ j = 2 := by omega
    rcases jj with rfl | rfl <;> simp [In5, lo5, hi5] at hj <;> rw [if_neg (by omega), if_neg (by omega), if_neg (by omega), if_neg (by omega)]
  by_cases r7 : c ≤ 240
  · have e := mr_7 c (by omega) (by omega)
    rw [e] at hm hj
    obtain rfl : m = 3 := by simp at hm; omega
    obtain ⟨j, j1, j2, hj⟩ := hj
    unfold point pt
    rw [hc]
    have jj : j = 1 ∨ j = 2 ∨ j = 3 := by omega
    rcases jj with rfl | rfl | rfl <;> simp [In5, lo5, hi5] at hj <;> rw [if_neg (by omega), if_neg (by omega), if_neg (by omega), if_neg (by omega)]
  by_cases r8 : c ≤ 243
  · have e := mr_8 c (by omega) (by omega)
    rw [e] at hm hj
    obtain rfl : m = 3 := by simp at hm; omega
    obtain ⟨j, j1, j2, hj⟩ := hj
    unfold point pt
    rw [hc]
    have jj : j = 1 ∨ j = 2 ∨ j = 3 := by omega
    rcases jj with rfl | rfl | rfl <;> simp [In5, lo5, hi5] at hj <;> rw [if_neg (by omega), if_neg (by omega), if_neg (by omega), if_neg (by omega)]
  by_cases r9 : c ≤ 244
  · have e := mr_9 c (by omega) (by omega)
    rw [e] at hm hj
    obtain rfl : m = 3 := by simp at hm; omega
    obtain ⟨j, j1, j2, hj⟩ := hj
    unfold point pt
    rw [hc]
    have jj : j = 1 ∨ j = 2 ∨ j = 3 := by omega
    rcases jj with rfl | rfl | rfl <;> simp [In5, lo5, hi5] at hj <;> rw [if_neg (by omega), if_neg (by omega), if_neg (by omega), if_neg (by omega)]
  have e := mr_10 c (by omega) (by omega)
  rw [e] at hm hj
  exfalso; revert hm; simp; try omega
end Go.Proofs.YtglnldopnoafoaaGreatDoor

