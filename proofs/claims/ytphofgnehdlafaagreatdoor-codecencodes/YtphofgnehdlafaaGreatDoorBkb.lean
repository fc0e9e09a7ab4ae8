import Derived.Test.YtphofgnehdlafaaGreatDoorMWthree
import Derived.Test.YtphofgnehdlafaaGreatDoorProg
import Derived.WalkKit
import Derived.WalkSpells
import Derived.WalkLawsBesides
import Derived.Laws.BitsAllLaws
import Derived.Laws.BytesArg
import Derived.Recover
import Derived.Orders
import Derived.Test.YtphofgnehdlafaaGreatDoorPt
import Derived.Lib.Strings
import Derived.Lib.AppendZeros
import Derived.Laws.AppendOwnNone
import Derived.Deep.RegionWith
namespace Go.Proofs.YtphofgnehdlafaaGreatDoor.Rm
open Go.RowKit
set_option linter.unusedSimpArgs false
set_option linter.unusedVariables false
set_option maxHeartbeats 400000
def chkF (s : ByteArray) : Nat → Nat → Nat × Nat
 | 0, _ => (0, 0)
 | b + 1, k => if k < s.size then (if atB s k = 0 then (k, 14) else if point s k = 0 then (k, 13) else chkF s b (k + point s k)) else (0, 0)
def chk (s : ByteArray) : Nat × Nat := if 65535 < s.size then (65535, 11) else chkF s s.size 0
theorem chkF_end (s : ByteArray) (b k : Nat) (h : ¬ k < s.size) : chkF s b k = (0, 0) := by
 cases b with
 | zero => rfl
 | succ b => simp [chkF, h]
theorem chkF_zero (s : ByteArray) (b k : Nat) (h : k < s.size) (hb : s.size ≤ k + b) (hz : atB s k = 0) : chkF s b k = (k, 14) := by
 cases b with
 | zero => omega
 | succ b => simp [chkF, h, hz]
theorem chkF_utf (s : ByteArray) (b k : Nat) (h : k < s.size) (hb : s.size ≤ k + b) (hz : ¬ atB s k = 0) (hp : point s k = 0) : chkF s b k = (k, 13) := by
 cases b with
 | zero => omega
 | succ b => simp [chkF, h, hz, hp]
theorem chkF_step (s : ByteArray) (b k : Nat) (h : k < s.size) (hb : s.size ≤ k + b) (hz : ¬ atB s k = 0) (hp : ¬ point s k = 0) : ∃ b', chkF s b k = chkF s b' (k + point s k) ∧ s.size ≤ k + point s k + b' := by
 cases b with
 | zero => omega
 | succ b => exact ⟨b, by simp [chkF, h, hz, hp], by omega⟩
theorem ref_any (s : ByteArray) (w : World) :
    Calls Tryz.prog 266 #[.string s] w fun e w' => e = .returned (.tuple #[.int .i64 (chk s).1, .int .i64 (chk s).2]) ∧ w' = w := by
  by_cases hl : 65535 < s.size
  · have e : chk s = (65535, 11) := by simp [chk, hl]
    rw [e]
    clear e
    have hl' : (65535 : Int) < s.size := by omega
    go_enter Tryz.func266, Tryz.ntmps266
    go_wp2
    go_ret2
    exact ⟨rfl, rfl⟩
  · have HE : Hid (chk s = chkF s s.size 0) := by simp [chk, hl, Hid]
    have hl' : ¬ (65535 : Int) < s.size := by omega
    have hs : s.size ≤ 65535 := by omega
    go_enter Tryz.func266, Tryz.ntmps266
    go_wp2
    go_loop [4] (fun i => ∃ k b : Nat, k ≤ s.size ∧ i = .int .i64 k ∧ chk s = chkF s b k ∧ s.size ≤ k + b) (fun i => s.size - (intOf i).toNat)
    case atStart => exact ⟨0, s.size, Nat.zero_le _, rfl, HE.out, by omega⟩
    case round =>
      obtain ⟨k, b, hk, rfl, hc, hb⟩ := hrel
      have HC : Hid (chk s = chkF s b k) := hc
      clear hc
      by_cases hlt : k < s.size
      · have hat := atB_in s k hlt
        have HA : Hid (atB s k = (s[k]'hlt).toNat) := hat
        clear hat
        by_cases hz : (s[k]'hlt).toNat = 0
        · have hz' : (((s[k]'hlt).toNat : Int) == 0) = true := by simp [hz]
          have HR : Hid (chk s = (k, 14)) := by have h1 := HC.out; rw [chkF_zero s b k hlt hb (by rw [HA.out]; exact hz)] at h1; exact h1
          clear hz
          go_wp2
          go_ret2
          exact ⟨by rw [HR.out]; rfl, rfl⟩
        · have hz' : (((s[k]'hlt).toNat : Int) == 0) = false := by simp; omega
          have HZ : Hid (¬ atB s k = 0) := by have h1 := HA.out; show ¬ atB s k = 0; rw [h1]; exact hz
          clear hz
          by_cases hp : point s k = 0
          · have hp' : ((point s k : Int) == 0) = true := by simp [hp]
            have HR : Hid (chk s = (k, 13)) := by have h1 := HC.out; rw [chkF_utf s b k hlt hb HZ.out hp] at h1; exact h1
            clear hp
            go_wp2_with (go_at_call 294; refine (point_any _ _ (by omega) _).mono ?_; rintro e w' ⟨rfl, rfl⟩)
            go_ret2
            exact ⟨by rw [HR.out]; rfl, rfl⟩
          · have hp' : ((point s k : Int) == 0) = false := by simp; omega
            have hple := point_le s k hlt
            have HP : Hid (¬ point s k = 0) := hp
            clear hp
            go_wp2_with (go_at_call 294; refine (point_any _ _ (by omega) _).mono ?_; rintro e w' ⟨rfl, rfl⟩)
            go_round
            case rel =>
              obtain ⟨b', e1, e2⟩ := chkF_step s b k hlt hb HZ.out HP.out
              exact ⟨k + point s k, b', hple, by go_num, HC.out.trans e1, e2⟩
            case measure => have h1 := HP.out; simp [intOf]; omega
      · have HR : Hid (chk s = (0, 0)) := by have h1 := HC.out; rw [chkF_end s b k hlt] at h1; exact h1
        go_wp2
        go_ret2
        exact ⟨by rw [HR.out]; rfl, rfl⟩
end Go.Proofs.YtphofgnehdlafaaGreatDoor.Rm
namespace Go.Proofs.YtphofgnehdlafaaGreatDoor
open Go.RowKit
set_option linter.unusedSimpArgs false
set_option linter.unusedVariables false
theorem wraps_i64 (n : Int) (h₀ : 0 ≤ n) (h₁ : n < 2 ^ 62) : IntKind.i64.wrap n = n := by rw [IntKind.wrap_i64]; omega
theorem or_up (i : Nat) (hi : i ≤ 62) (x y : Int) (hx₀ : 0 ≤ x) (hx : x < 2 ^ i) (hx₁ : x < 2 ^ 62) (hy₀ : 0 ≤ y) (hy : y % 2 ^ i = 0) (hy₁ : y < 2 ^ 62) : bits .or .i64 x y = x + y := by
 have h : bits .or .i64 y x = y + x := bits_join .i64 62 (by decide) wraps_i64 i y x hy₀ hy hy₁ hx₀ hx hx₁
 have c : bits .or .i64 x y = bits .or .i64 y x := by
  obtain ⟨a, rfl⟩ := Int.eq_ofNat_of_zero_le hx₀
  obtain ⟨b, rfl⟩ := Int.eq_ofNat_of_zero_le hy₀
  have ha : a < 2 ^ 62 := by exact_mod_cast hx₁
  have hb : b < 2 ^ 62 := by exact_mod_cast hy₁
  rw [(bits_nat .i64 62 (by decide) wraps_i64 a b ha hb).2, (bits_nat .i64 62 (by decide) wraps_i64 b a hb ha).2, Nat.or_comm]
 rw [c, h]
 omega
set_option maxHeartbeats 400000
def Came (w : World) (ao : Option Addr) (len cap : Nat) (z : Nat → Int) : Prop :=
 len ≤ cap ∧ (∀ i, 0 ≤ z i ∧ z i ≤ 255) ∧ ((ao = none ∧ len = 0 ∧ cap = 0) ∨ ∃ ad, ao = some ad ∧ ∀ i, i < len → w.cell? (ad.add i) = some (.int .u8 (z i)))
def cellsOf (z : Nat → Int) (n : Nat) : List Value := (List.range n).map fun i => .int .u8 (z i)
theorem cellsOf_length (z : Nat → Int) (n : Nat) : (cellsOf z n).length = n := by simp [cellsOf]
theorem cellsOf_get (z : Nat → Int) (n j : Nat) (u : Value) (h : (cellsOf z n)[j]? = some u) : j < n ∧ u = .int .u8 (z j) := by
 unfold cellsOf at h
 rw [List.getElem?_map] at h
 by_cases hj : j < n
 ·
  rw [List.getElem?_range hj] at h
  simp at h
  exact ⟨hj, h.symm⟩
 ·
  rw [List.getElem?_eq_none (by simpa using hj)] at h
  simp at h
theorem cellsOf_at (z : Nat → Int) (n j : Nat) (hj : j < n) : (cellsOf z n)[j]? = some (.int .u8 (z j)) := by
 unfold cellsOf
 rw [List.getElem?_map, List.getElem?_range hj]
 rfl
theorem cellsOf_succ (z : Nat → Int) (n : Nat) : cellsOf z (n + 1) = cellsOf z n ++ [.int .u8 (z n)] := by
 simp [cellsOf, List.range_succ]
theorem cellsOf_one (z : Nat → Int) (n : Nat) (u : Value) (h : u ∈ cellsOf z n) : u.oneCell' = true := by
 unfold cellsOf at h
 obtain ⟨i, _, rfl⟩ := List.mem_map.1 h
 rfl
def strZ (z : Nat → Int) (n : Nat) : ByteArray := strOfNums ((List.range n).map z)
theorem conv_any (ao : Option Addr) (len cap : Nat) (z : Nat → Int) (w : World) (h : Came w ao len cap z) : (convert 22 9 (.slice ao len cap)).run Tryz.prog w = .ok (.string (strZ z len)) w := by
 obtain ⟨_, _, ⟨rfl, rfl, rfl⟩ | ⟨ad, rfl, hc⟩⟩ := h
 ·
  rw [run_convert_bytes_nil w 22 5 Tryz.underlying22 Tryz.underlying5 0 0 9 Tryz.underlying9]
  rfl
 ·
  rw [run_convert_bytes_string w 22 9 5 _ len cap Tryz.underlying22 Tryz.underlying5 Tryz.underlying9]
  have hl : (loadCells ad len).run Tryz.prog w = .ok (((List.range len).map z).map (Value.int .u8)).toArray w := by
   have := run_loadCells_list (P := Tryz.prog) w ad (cellsOf z len) (fun j v hj => by
    obtain ⟨h1, rfl⟩ := cellsOf_get z len j v hj
    exact hc j h1)
   simpa [cellsOf, Function.comp_def] using this
  rw [run_bytesToString w ad len cap _ hl, foldl_push_bytes]
  simp [strZ, strOfNums, ByteArray.empty, ByteArray.emptyWithCapacity]
  rfl
theorem plain_add (b off j : Nat) : (⟨b, off, none⟩ : Addr).add j = ⟨b, off + j, none⟩ := by
 unfold Addr.add
 split <;> simp_all
theorem came_below {w w' : World} {B : Nat} {ao : Option Addr} {len cap : Nat} {z : Nat → Int} (h : Came w ao len cap z) (hb : Below w.heap.size w w') : Came w' ao len cap z := by
 obtain ⟨h1, h2, h3 | ⟨ad, rfl, hc⟩⟩ := h
 ·
  exact ⟨h1, h2, .inl h3⟩
 ·
  exact ⟨h1, h2, .inr ⟨ad, rfl, fun i hi => cell_later hb (hc i hi)⟩⟩
open Go Go.RowKit
theorem gb_refl (w : World) (r : Option Nat) : w.grownBy w r := ⟨rfl, rfl, rfl, Nat.le_refl _, fun _ _ _ => rfl⟩
theorem gb_trans {w w1 w2 : World} {r : Option Nat} (h : w.grownBy w1 r) (h' : w1.grownBy w2 r) : w.grownBy w2 r :=
 ⟨h'.os.trans h.os, h'.tape.trans h.tape, h'.output.trans h.output, Nat.le_trans h.size h'.size, fun k hk hn => (h'.block k (Nat.lt_of_lt_of_le hk h.size) hn).trans (h.block k hk hn)⟩
theorem gb_set {w w1 : World} {r : Nat} (h : w.grownBy w1 (some r)) (i : Nat) (v : Value) : w.grownBy (w1.setCell ⟨r, i, none⟩ v) (some r) :=
 gb_trans h ⟨rfl, rfl, rfl, by simp [World.setCell], fun k _ hn => Below.heap_setCell w1 _ v k (fun e => hn (by rw [e]))⟩
theorem heap_set {w : World} {R i t : Nat} {cs : Array Value} (h : w.heap[R]? = some (.cells cs t (0, 0))) (v : Value) : (w.setCell ⟨R, i, none⟩ v).heap[R]? = some (.cells (cs.setIfInBounds i v) t (0, 0)) := by
 simp [World.setCell, Array.getElem?_modify, h]
set_option maxRecDepth 1000000
def chkF (s : ByteArray) : Nat → Nat → Nat × Nat
 | 0, _ => (0, 0)
 | b + 1, k => if k < s.size then (if atB s k = 0 then (k, 14) else if point s k = 0 then (k, 13) else chkF s b (k + point s k)) else (0, 0)
def chk (s : ByteArray) : Nat × Nat := if 65535 < s.size then (65535, 11) else chkF s s.size 0
theorem chkF_end (s : ByteArray) (b k : Nat) (h : ¬ k < s.size) : chkF s b k = (0, 0) := by
 cases b with
 | zero => rfl
 | succ b => simp [chkF, h]
theorem chkF_zero (s : ByteArray) (b k : Nat) (h : k < s.size) (hb : s.size ≤ k + b) (hz : atB s k = 0) : chkF s b k = (k, 14) := by
 cases b with
 | zero => omega
 | succ b => simp [chkF, h, hz]
theorem chkF_utf (s : ByteArray) (b k : Nat) (h : k < s.size) (hb : s.size ≤ k + b) (hz : ¬ atB s k = 0) (hp : point s k = 0) : chkF s b k = (k, 13) := by
 cases b with
 | zero => omega
 | succ b => simp [chkF, h, hz, hp]
theorem chkF_step (s : ByteArray) (b k : Nat) (h : k < s.size) (hb : s.size ≤ k + b) (hz : ¬ atB s k = 0) (hp : ¬ point s k = 0) : ∃ b', chkF s b k = chkF s b' (k + point s k) ∧ s.size ≤ k + point s k + b' := by
 cases b with
 | zero => omega
 | succ b => exact ⟨b, by simp [chkF, h, hz, hp], by omega⟩
def begins (s p : ByteArray) : Bool := decide (p.size ≤ s.size) && ((s.extract 0 p.size).toList == p.toList)
theorem pre_any (s p : ByteArray) (w : World) :
    Calls Tryz.prog 287 #[.string s, .string p] w fun e w' => e = .returned (.bool (begins s p)) ∧ w' = w := by
  by_cases h : p.size ≤ s.size
  · have e : begins s p = ((s.extract 0 p.size).toList == p.toList) := by simp [begins, h]
    rw [e]
    clear e
    have h' : (p.size : Int) ≤ s.size := by omega
    go_enter Tryz.func287, Tryz.ntmps287
    go_wp2
    go_ret
    exact ⟨rfl, rfl⟩
  · have e : begins s p = false := by simp [begins, h]
    rw [e]
    clear e
    have h' : ¬ (p.size : Int) ≤ s.size := by omega
    go_enter Tryz.func287, Tryz.ntmps287
    go_wp2
    go_ret
    exact ⟨rfl, rfl⟩
theorem atB_list (s : ByteArray) (i : Nat) : atB s i = (s.data.toList[i]?.getD 0).toNat := by
 by_cases h : i < s.size
 ·
  rw [atB_in s i h]
  have h' : i < s.data.toList.length := by simpa using h
  rw [List.getElem?_eq_getElem h']
  rfl
 ·
  rw [atB_out s i h]
  have h' : s.data.toList.length ≤ i := by simpa using h
  rw [List.getElem?_eq_none h']
  rfl
theorem three (l : List UInt8) : List.isPrefixOf [239, 191, 189] l = decide ((l[0]?.getD 0).toNat = 239 ∧ (l[1]?.getD 0).toNat = 191 ∧ (l[2]?.getD 0).toNat = 189) := by
 have hq : ∀ (a b : UInt8), (a == b) = decide (b.toNat = a.toNat) := by
  intro a b
  rw [Bool.eq_iff_iff]
  simp only [beq_iff_eq, decide_eq_true_eq, UInt8.toNat_inj]
  exact eq_comm
 match l with
 | [] => rfl
 | [a] => simp [List.isPrefixOf]
 | [a, b] => simp [List.isPrefixOf]
 | a :: b :: c :: r =>
  simp only [List.isPrefixOf, hq, Bool.and_true]
  rw [Bool.eq_iff_iff]
  simp
theorem begins_three (s : ByteArray) (k : Nat) : begins (s.extract k s.size) ⟨#[239, 191, 189]⟩ = decide (atB s k = 239 ∧ atB s (k + 1) = 191 ∧ atB s (k + 2) = 189) := by
 unfold begins
 rw [Lib.hasPrefix_raw, Lib.extract_data, List.take_of_length_le (by simp)]
 unfold Lib.hasPrefix
 have e : (ByteArray.mk #[239, 191, 189]).data.toList = [239, 191, 189] := rfl
 rw [e, three]
 simp only [atB_list, List.getElem?_drop, Nat.add_zero]
theorem width_pos (s : ByteArray) (k : Nat) : 1 ≤ (Utf8.decode s k).2 := by
 have h := point_fits s k
 by_cases hp : point s k = 0
 ·
  rw [(h.1 hp).2.1]; exact Nat.le_refl _
 ·
  rw [(h.2 hp).1]; omega
theorem chk_world (s : ByteArray) (w : World) :
    Calls Tryz.prog 253 #[.string s] w fun e w' => e = .returned (.tuple #[.int .i64 (chk s).1, .int .i64 (chk s).2]) ∧ (w' = w ∨ ∃ k, w' = w.iter s k) := by
  by_cases hl : 65535 < s.size
  · have e : chk s = (65535, 11) := by simp [chk, hl]
    rw [e]
    clear e
    have hl' : (65535 : Int) < s.size := by omega
    go_enter Tryz.func253, Tryz.ntmps253
    go_wp2
    go_ret2
    exact ⟨rfl, .inl rfl⟩
  · have HE : Hid (chk s = chkF s s.size 0) := by simp [chk, hl, Hid]
    have hl' : ¬ (65535 : Int) < s.size := by omega
    have hs : s.size ≤ 65535 := by omega
    go_enter Tryz.func253, Tryz.ntmps253
    go_wp2
    go_loopw [4, 5] (fun i c w' => ∃ k b : Nat, w' = w.iter s k ∧ chk s = chkF s b k ∧ s.size ≤ k + b) (fun _ _ w' => s.size - w'.iterPos w.heap.size)
    case atStart => exact ⟨0, s.size, rfl, HE.out, by omega⟩
    case round =>
      obtain ⟨k, b, rfl, hc, hb⟩ := hrel
      have HC : Hid (chk s = chkF s b k) := hc
      clear hc
      by_cases hlt : k < s.size
      · obtain ⟨r, n, hd⟩ : ∃ r n, Utf8.decode s k = (r, n) := ⟨_, _, rfl⟩
        have hnx : ∀ ty, (Instr.next (.pointer (some ⟨w.heap.size, 0, none⟩)) true ty).run Tryz.prog (w.iter s k) = .ok (.tuple #[.bool true, .int .i64 k, .int .i32 r]) (w.iter s (k + n)) := by
          intro ty
          rw [run_next_any w s k ty hlt, hd]
        have hf := point_fits s k
        rw [hd] at hf
        clear hd
        have hg := begins_three s k
        have HF : Hid (Fits (point s k) (atB s k) (atB s (k + 1)) (atB s (k + 2)) (r, n)) := hf
        have HG : Hid (begins (s.extract k s.size) ⟨#[239, 191, 189]⟩ = decide (atB s k = 239 ∧ atB s (k + 1) = 191 ∧ atB s (k + 2) = 189)) := hg
        clear hf hg
        by_cases hz : atB s k = 0
        · have hp : point s k = 1 := by simp [point, pt, hz]
          have hr : r = 0 := ((HF.out.2 (by omega)).2.1).2 hz
          subst hr
          have HR : Hid (chk s = (k, 14)) := by have h1 := HC.out; rw [chkF_zero s b k hlt hb hz] at h1; exact h1
          clear hz hp
          go_wp2
          go_ret2
          exact ⟨by rw [HR.out]; rfl, .inr ⟨_, rfl⟩⟩
        · by_cases hp : point s k = 0
          · obtain ⟨h1, h2, _, h4⟩ := HF.out.1 hp
            have hr : r = 65533 := h1
            subst hr
            have hg : begins (s.extract k s.size) ⟨#[239, 191, 189]⟩ = false := by rw [HG.out]; exact decide_eq_false h4
            have HR : Hid (chk s = (k, 13)) := by have h1 := HC.out; rw [chkF_utf s b k hlt hb hz hp] at h1; exact h1
            clear hz hp h1 h2 h4
            go_wp2_with (go_at_call 287; refine (pre_any _ _ _).mono ?_; rintro e w' ⟨rfl, rfl⟩)
            go_ret2
            exact ⟨by rw [HR.out]; rfl, .inr ⟨_, rfl⟩⟩
          · obtain ⟨h1, h2, h3⟩ := HF.out.2 hp
            have hn : n = point s k := h1
            have hr0 : ¬ r = 0 := fun h => hz (h2.1 h)
            obtain ⟨b', e1, e2⟩ := chkF_step s b k hlt hb hz hp
            have HS : Hid (chk s = chkF s b' (k + n) ∧ s.size ≤ k + n + b' ∧ 1 ≤ n) := by rw [hn]; exact ⟨HC.out.trans e1, e2, by omega⟩
            by_cases hr : r = 65533
            · have hg : begins (s.extract k s.size) ⟨#[239, 191, 189]⟩ = true := by rw [HG.out]; exact decide_eq_true (h3 hr)
              clear h1 h2 h3 hn hr0 e1 e2 hz hp
              subst hr
              go_wp2_with (go_at_call 287; refine (pre_any _ _ _).mono ?_; rintro e w' ⟨rfl, rfl⟩)
              go_roundw
              case rel => exact ⟨k + n, b', rfl, HS.out.1, HS.out.2.1⟩
              case measure => have := HS.out.2.2; simp; omega
            · have q0 : ((r : Int) == 0) = false := by simp; omega
              have q1 : ((r : Int) == 65533) = false := by simp; omega
              clear h1 h2 h3 hn hr0 e1 e2 hz hp hr
              go_wp2_with (go_at_call 287; refine (pre_any _ _ _).mono ?_; rintro e w' ⟨rfl, rfl⟩)
              go_roundw
              case rel => exact ⟨k + n, b', rfl, HS.out.1, HS.out.2.1⟩
              case measure => have := HS.out.2.2; simp; omega
      · have hnx : ∀ ty, (Instr.next (.pointer (some ⟨w.heap.size, 0, none⟩)) true ty).run Tryz.prog (w.iter s k) = _ := fun ty => run_next_end w s k ty hlt
        have HR : Hid (chk s = (0, 0)) := by have h1 := HC.out; rw [chkF_end s b k hlt] at h1; exact h1
        go_wp2
        go_ret2
        exact ⟨by rw [HR.out]; rfl, .inr ⟨_, rfl⟩⟩
theorem below_iter (w : World) (s : ByteArray) (k : Nat) : Below w.heap.size w (w.iter s k) := (Below.refl _ _).alloc (Nat.le_refl _) _
theorem frozen_iter (w : World) (s : ByteArray) (k : Nat) (a : Addr) : (w.iter s k).frozen? a = w.frozen? a := by
 by_cases h : a.block = w.heap.size
 ·
  have e1 : (w.iter s k).heap[a.block]? = some (.stringIter s k) := by rw [h]; exact World.iter_heap w s k
  have e2 : w.heap[a.block]? = none := by rw [h]; simp
  simp [World.frozen?, e1, e2]
 ·
  by_cases h' : a.block < w.heap.size
  ·
   exact (below_iter w s k).frozen h'
  ·
   have e1 : (w.iter s k).heap[a.block]? = none := by
    show (w.heap.push _)[a.block]? = none
    rw [Array.getElem?_eq_none]
    simp; omega
   have e2 : w.heap[a.block]? = none := by rw [Array.getElem?_eq_none]; omega
   simp [World.frozen?, e1, e2]
theorem grown_iter (w : World) (s : ByteArray) (k : Nat) : Grown w (w.iter s k) :=
 ⟨World.keptBut_alloc _ _ _, frozen_iter w s k, (below_iter w s k).size⟩
theorem chk_any (s : ByteArray) (w : World) :
    Calls Tryz.prog 253 #[.string s] w fun e w' => e = .returned (.tuple #[.int .i64 (chk s).1, .int .i64 (chk s).2]) ∧ Below w.heap.size w w' ∧ Grown w w' := by
  refine (chk_world s w).mono ?_
  rintro e w' ⟨rfl, rfl | ⟨k, rfl⟩⟩
  · exact ⟨rfl, Below.refl _ _, Grown.refl _⟩
  · exact ⟨rfl, below_iter _ _ _, grown_iter _ _ _⟩
set_option maxRecDepth 100000
set_option maxHeartbeats 2000000
theorem Tryz.info5 : (Tryz.prog.info? 5).map (fun i => (i.zero, i.size, i.bytes)) = some (some (.int .u8 0), 1, 1) := by kernel_rfl
theorem grow_any (n : Nat) (h1 : 1 ≤ n) (h2 : n ≤ 4000000) (w : World) :
    Calls Tryz.prog 144 #[.slice none 0 0, .int .i64 n] w fun e w' => ∃ g cp, e = .returned (.slice (some ⟨g, 0, none⟩) 0 cp) ∧ w'.ownsRow w.heap.size 5 1 (.slice (some ⟨g, 0, none⟩) 0 cp) 0 [] ∧ Below w.heap.size w w' := by
  obtain ⟨i0, hi, hz0, hz1, hz2⟩ := info_parts Tryz.info5
  have hr : ∀ ty, (Builtin.append_ #[22, 3] ty #[.slice none 0 0, .int .i64 n]).run Tryz.prog w = _ := fun ty => Lib.run_append_nil_zeros w 22 3 ty 5 i0 (.int .u8 0) .i64 .i64 Tryz.underlying22 Tryz.underlying3 hi hz0 n (by omega) (by omega) (by omega) (by rw [hz2]; omega)
  have hn0 : ¬ (n : Int) < 0 := by omega
  have hn1 : (0 : Int) < n := by omega
  go_enter Tryz.func144, Tryz.ntmps144
  go_wp2_with (at_builtin; refine Lib.wpList_append_run _ rfl (.tmp 20) (.tmp 21) 22 3 rfl _ _ rfl rfl _ _ (hr _) ?_)
  go_ret
  have hge := grownCap_ge w n 0 5
  have hcm : grownCap w n 0 5 ≤ maxLen := grownCap_le_maxLen w n 0 5 (by unfold maxLen; omega)
  refine ⟨_, _, rfl, World.ownsRow.drew (World.ownsRow_made w _ _ (Nat.le_refl _) hcm ?_), ((Below.refl _ _).alloc (Nat.le_refl _) _).drew⟩
  simp only [Array.size_append, size_zeroCells]
  simp
  omega
theorem cellsOf_zero (z : Nat → Int) : cellsOf z 0 = [] := rfl
theorem concat_any (lb : Nat) (a0 : Option Addr) (ad : Addr) (l0 k0 l1 k1 : Nat) (z0 z1 : Nat → Int) (w : World) (c0 : w.cell? ⟨lb, 0, none⟩ = some (.slice a0 l0 k0)) (c1 : w.cell? ⟨lb, 1, none⟩ = some (.slice (some ad) l1 k1))
    (h0 : Came w a0 l0 k0 z0) (h1 : Came w (some ad) l1 k1 z1) (hp : 1 ≤ l0 + l1) (hl0 : l0 ≤ 1400000) (hl1 : l1 ≤ 1400000) :
    Calls Tryz.prog 258 #[.slice (some ⟨lb, 0, none⟩) 2 2] w fun e w' => ∃ g cp, e = .returned (.slice (some ⟨g, 0, none⟩) (l0 + l1) cp) ∧ w'.ownsRow w.heap.size 5 1 (.slice (some ⟨g, 0, none⟩) (l0 + l1) cp) (l0 + l1) (cellsOf z0 l0 ++ cellsOf z1 l1) ∧ Below w.heap.size w w' := by
  obtain ⟨i0, hi, hz0, hz1, hz2⟩ := info_parts Tryz.info5
  have G0 : Hid (Calls Tryz.prog 144 #[.slice none 0 0, .int .i64 ((l0 : Int) + (l1 : Int))] w fun e w' => ∃ g cp, e = .returned (.slice (some ⟨g, 0, none⟩) 0 cp) ∧ w'.ownsRow w.heap.size 5 1 (.slice (some ⟨g, 0, none⟩) 0 cp) 0 [] ∧ Below w.heap.size w w') := by
    have h := grow_any (l0 + l1) hp (by omega) w
    rw [Int.natCast_add] at h
    exact h
  have HC : Hid (∀ w', Below w.heap.size w w' → w'.cell? ⟨lb, 0, none⟩ = some (.slice a0 l0 k0) ∧ w'.cell? ⟨lb, 1, none⟩ = some (.slice (some ad) l1 k1) ∧ Came w' a0 l0 k0 z0 ∧ Came w' (some ad) l1 k1 z1) := fun w' hb => ⟨cell_later hb c0, cell_later hb c1, came_below (B := 0) h0 hb, came_below (B := 0) h1 hb⟩
  have hnil : a0 = none → l0 = 0 ∧ k0 = 0 := by
    rintro rfl
    obtain ⟨_, _, ⟨_, h, h'⟩ | ⟨_, h, _⟩⟩ := h0
    · exact ⟨h, h'⟩
    · cases h
  clear h0 h1
  go_enter Tryz.func258, Tryz.ntmps258
  go_wp2
  go_loop [3, 5, 11] (fun s _ i => (i = .int .i64 0 ∧ s = .int .i64 0) ∨ (i = .int .i64 1 ∧ s = .int .i64 l0) ∨ (i = .int .i64 2 ∧ s = .int .i64 ((l0 : Int) + (l1 : Int)))) (fun _ _ i => 2 - (intOf i).toNat)
  case atStart => exact .inl ⟨rfl, rfl⟩
  case round =>
    rcases hrel with ⟨rfl, rfl⟩ | ⟨rfl, rfl⟩ | ⟨rfl, rfl⟩
    · go_wp2
      go_round
      case rel => exact .inr (.inl ⟨rfl, by first | rfl | go_num⟩)
      case measure => simp [intOf]
    · go_wp2
      go_round
      case rel => exact .inr (.inr ⟨rfl, by first | rfl | go_num⟩)
      case measure => simp [intOf]
    · clear c0 c1
      go_wp2_with (go_at_call 144; refine G0.out.mono ?_; rintro e w1 ⟨g, cp, rfl, hown, hbel⟩; have O1 : Hid (w1.ownsRow w.heap.size 5 1 (.slice (some ⟨g, 0, none⟩) 0 cp) 0 [] ∧ Below w.heap.size w w1) := ⟨hown, hbel⟩; clear hown hbel)
      go_loopw [6, 8, 27] (fun v _ i wr => Below w.heap.size w wr ∧ v ≠ .slice none 0 0 ∧ ((i = .int .i64 0 ∧ wr.ownsRow w.heap.size 5 1 v 0 []) ∨ (i = .int .i64 1 ∧ wr.ownsRow w.heap.size 5 1 v l0 (cellsOf z0 l0)) ∨ (i = .int .i64 2 ∧ wr.ownsRow w.heap.size 5 1 v (l0 + l1) (cellsOf z0 l0 ++ cellsOf z1 l1)))) (fun _ _ i _ => 2 - (intOf i).toNat)
      case atStart => exact ⟨O1.out.2, by simp, .inl ⟨rfl, O1.out.1⟩⟩
      case round =>
        obtain ⟨hbel, hnn, hrel⟩ := hrel
        obtain ⟨d0, d1, m0, m1⟩ := HC.out wr hbel
        have HB : Hid (Below w.heap.size w wr) := hbel
        have HNN : Hid (u6 ≠ .slice none 0 0) := hnn
        have M0 : Hid (Came wr a0 l0 k0 z0) := m0
        have M1 : Hid (Came wr (some ad) l1 k1 z1) := m1
        clear hbel hnn m0 m1
        rcases hrel with ⟨rfl, ho⟩ | ⟨rfl, ho⟩ | ⟨rfl, ho⟩
        · have HO : Hid (wr.ownsRow w.heap.size 5 1 u6 0 []) := ho
          clear ho
          cases a0 with
          | none =>
            obtain ⟨rfl, rfl⟩ := hnil rfl
            go_wp2_with (at_builtin; refine wpList_append_own_none rfl (.tmp 31) (.tmp 32) 22 rfl w.heap.size 5 i0 1 Tryz.underlying22 hi _ 0 [] rfl HO.out rfl ?_)
            go_roundw
            case rel => first | exact ⟨HB.out, HNN.out, .inr (.inl ⟨rfl, HO.out⟩)⟩ | exact ⟨_, _, _, ⟨HB.out, HNN.out, .inr (.inl ⟨rfl, HO.out⟩)⟩, rfl, rfl, rfl⟩
            case measure => simp [intOf]
          | some a0 =>
            go_wp2_with (at_builtin; refine wpList_append_own _ rfl (.tmp 31) (.tmp 32) 22 rfl w.heap.size 5 i0 (.int .u8 0) 1 1 Tryz.underlying22 hi hz0 hz1 hz2 rfl (by decide) _ _ _ rfl HO.out a0 l0 k0 (cellsOf z0 l0) rfl ?c0 ?c1 ?c2 ?c3 ?c4 ?c5 ?_)
            case c0 => simp [cellsOf]
            case c1 =>
              intro j u hj
              obtain ⟨q1, rfl⟩ := cellsOf_get z0 l0 j u hj
              obtain ⟨_, _, ⟨h, _⟩ | ⟨ad', h, hc⟩⟩ := M0.out
              · cases h
              · obtain rfl := Option.some.inj h
                exact hc j q1
            case c2 => exact fun u hu => cellsOf_one z0 l0 u hu
            case c3 => unfold maxLen; omega
            case c4 => omega
            case c5 => exact HB.out.size
            intro v2 w2 hown2 hgrow2 hnil2
            have hb2 := HB.out.grown hgrow2 HB.out.size (fun q hq => (HO.out.lt q hq).1)
            have HS : Hid (Below w.heap.size w w2 ∧ v2 ≠ .slice none 0 0 ∧ w2.ownsRow w.heap.size 5 1 v2 l0 (cellsOf z0 l0)) := ⟨hb2, fun h => HNN.out (hnil2.1 h).1, by simpa using hown2⟩
            clear hown2 hgrow2 hnil2 hb2
            go_wp2
            go_roundw
            case rel => exact ⟨HS.out.1, HS.out.2.1, .inr (.inl ⟨rfl, HS.out.2.2⟩)⟩
            case measure => simp [intOf]
        · have HO : Hid (wr.ownsRow w.heap.size 5 1 u6 l0 (cellsOf z0 l0)) := ho
          clear ho
          go_wp2_with (at_builtin; refine wpList_append_own _ rfl (.tmp 31) (.tmp 32) 22 rfl w.heap.size 5 i0 (.int .u8 0) 1 1 Tryz.underlying22 hi hz0 hz1 hz2 rfl (by decide) _ _ _ rfl HO.out ad l1 k1 (cellsOf z1 l1) rfl ?e0 ?e1 ?e2 ?e3 ?e4 ?e5 ?_)
          case e0 => simp [cellsOf]
          case e1 =>
            intro j u hj
            obtain ⟨q1, rfl⟩ := cellsOf_get z1 l1 j u hj
            obtain ⟨_, _, ⟨h, _⟩ | ⟨ad', h, hc⟩⟩ := M1.out
            · cases h
            · obtain rfl := Option.some.inj h
              exact hc j q1
          case e2 => exact fun u hu => cellsOf_one z1 l1 u hu
          case e3 => unfold maxLen; omega
          case e4 => omega
          case e5 => exact HB.out.size
          intro v2 w2 hown2 hgrow2 hnil2
          have hb2 := HB.out.grown hgrow2 HB.out.size (fun q hq => (HO.out.lt q hq).1)
          have HS : Hid (Below w.heap.size w w2 ∧ v2 ≠ .slice none 0 0 ∧ w2.ownsRow w.heap.size 5 1 v2 (l0 + l1) (cellsOf z0 l0 ++ cellsOf z1 l1)) := ⟨hb2, fun h => HNN.out (hnil2.1 h).1, hown2⟩
          clear hown2 hgrow2 hnil2 hb2
          go_wp2
          go_roundw
          case rel => exact ⟨HS.out.1, HS.out.2.1, .inr (.inr ⟨rfl, HS.out.2.2⟩)⟩
          case measure => simp [intOf]
        · have hex : ∃ g cp, u6 = .slice (some ⟨g, 0, none⟩) (l0 + l1) cp := by
            obtain ⟨_, h | ⟨g, cp, cur, hv, _⟩⟩ := ho
            · exact absurd h.1 HNN.out
            · exact ⟨g, cp, hv⟩
          obtain ⟨g, cp, rfl⟩ := hex
          have HO : Hid (wr.ownsRow w.heap.size 5 1 (.slice (some ⟨g, 0, none⟩) (l0 + l1) cp) (l0 + l1) (cellsOf z0 l0 ++ cellsOf z1 l1)) := ho
          clear ho
          go_wp2
          go_ret
          exact ⟨g, cp, rfl, HO.out, HB.out⟩
end Go.Proofs.YtphofgnehdlafaaGreatDoor
namespace Go.Proofs.YtphofgnehdlafaaGreatDoor.Bk
open Go Go.RowKit
set_option linter.unusedSimpArgs false
set_option linter.unusedVariables false
def BkAt (w : World) (bb : Nat) (cs : Array Value) : Prop := w.heap[bb]? = some (.cells cs 55 (0, 0))
theorem bk_cell {w : World} {bb i : Nat} {cs : Array Value} {v : Value} (h : BkAt w bb cs) (hi : cs[i]? = some v) : w.cell? ⟨bb, i, none⟩ = some v ∧ w.frozen? ⟨bb, i, none⟩ = false := by
 unfold BkAt at h
 constructor
 ·
  simp [World.cell?, h, hi]
 ·
  simp [World.frozen?, h]
theorem set_same {cs : Array Value} {i : Nat} {v : Value} (hi : cs[i]? = some v) : cs.setIfInBounds i v = cs := by
 apply Array.ext_getElem?
 intro j
 rw [Array.getElem?_setIfInBounds]
 split
 ·
  rename_i e
  subst e
  split
  ·
   exact hi.symm
  ·
   rename_i h
   rw [Array.getElem?_eq_none (by omega)] at hi
   cases hi
 ·
  rfl
theorem BkAt.same {w : World} {bb i : Nat} {cs : Array Value} {v : Value} (h : BkAt w bb cs) (hi : cs[i]? = some v) : BkAt (w.setCell ⟨bb, i, none⟩ v) bb cs := by
 have q := heap_set (i := i) h v
 rw [set_same hi] at q
 exact q
def Rest (cs : Array Value) : Prop := ∀ k, 1 ≤ k → k ≤ 16 → ∀ i, i ≤ 7 → cs[4 + 9 * k + i]? = some (.slice none 0 0)
set_option maxRecDepth 100000
set_option maxHeartbeats 400000
theorem markInts_none (bb : Nat) (cs : Array Value) (w : World) (hB : BkAt w bb cs) (hr : Rest cs) :
    Calls Tryz.prog 172 #[.pointer (some ⟨bb, 0, none⟩)] w fun e w' => e = .returned (.tuple #[]) ∧ w' = w := by
  have x2 : w.cell? ⟨bb, 15, none⟩ = some (.slice none 0 0) := (bk_cell hB (hr 1 (by decide) (by decide) 2 (by decide))).1
  have x3 : w.cell? ⟨bb, 16, none⟩ = some (.slice none 0 0) := (bk_cell hB (hr 1 (by decide) (by decide) 3 (by decide))).1
  have x5 : w.cell? ⟨bb, 18, none⟩ = some (.slice none 0 0) := (bk_cell hB (hr 1 (by decide) (by decide) 5 (by decide))).1
  have x6 : w.cell? ⟨bb, 19, none⟩ = some (.slice none 0 0) := (bk_cell hB (hr 1 (by decide) (by decide) 6 (by decide))).1
  clear hB hr
  go_enter Tryz.func172, Tryz.ntmps172
  go_wp2
  exact bodyPost_ret (results_none rfl _ _ _) rfl ⟨rfl, rfl⟩
theorem holdInts_none (bb : Nat) (cs : Array Value) (w : World) (hB : BkAt w bb cs) (hr : Rest cs) :
    Calls Tryz.prog 59 #[.pointer (some ⟨bb, 0, none⟩)] w fun e w' => e = .returned (.bool true) ∧ w' = w := by
  have x0 : w.cell? ⟨bb, 13, none⟩ = some (.slice none 0 0) := (bk_cell hB (hr 1 (by decide) (by decide) 0 (by decide))).1
  have x2 : w.cell? ⟨bb, 15, none⟩ = some (.slice none 0 0) := (bk_cell hB (hr 1 (by decide) (by decide) 2 (by decide))).1
  clear hB hr
  go_enter Tryz.func59, Tryz.ntmps59
  go_wp2
  go_loop [3] (fun i => i = .int .i64 0) (fun _ => 0)
  case atStart => rfl
  case round =>
    subst hrel
    go_wp2
    go_loop [4] (fun i => i = .int .i64 0) (fun _ => 0)
    case atStart => rfl
    case round =>
      subst hrel
      go_wp2
      go_ret
      exact ⟨rfl, rfl⟩
theorem growInts_none (bb : Nat) (cs : Array Value) (w : World) (hB : BkAt w bb cs) (hr : Rest cs) :
    Calls Tryz.prog 189 #[.pointer (some ⟨bb, 0, none⟩)] w fun e w' => e = .returned (.tuple #[]) ∧ BkAt w' bb cs ∧ w.grownBy w' (some bb) := by
  have r4 : cs[17]? = some (.slice none 0 0) := hr 1 (by decide) (by decide) 4 (by decide)
  have r7 : cs[20]? = some (.slice none 0 0) := hr 1 (by decide) (by decide) 7 (by decide)
  obtain ⟨x4, y4⟩ := bk_cell hB r4
  obtain ⟨x7, y7⟩ := bk_cell hB r7
  have HB : Hid (BkAt w bb cs) := hB
  have R4 : Hid (cs[17]? = some (.slice none 0 0)) := r4
  have R7 : Hid (cs[20]? = some (.slice none 0 0)) := r7
  clear hB hr r4 r7
  go_enter Tryz.func189, Tryz.ntmps189
  go_wp2
  go_loop [2] (fun i => i = .int .i64 0) (fun _ => 0)
  case atStart => rfl
  case round =>
    subst hrel
    go_wp2
    go_end0
    exact ⟨rfl, (HB.out.same R4.out).same R7.out, gb_set (gb_set (gb_refl _ _) _ _) _ _⟩
theorem markTexts_none (bb : Nat) (cs : Array Value) (w : World) (hB : BkAt w bb cs) (hr : Rest cs) :
    Calls Tryz.prog 173 #[.pointer (some ⟨bb, 0, none⟩)] w fun e w' => e = .returned (.tuple #[]) ∧ w' = w := by
  have x2 : w.cell? ⟨bb, 24, none⟩ = some (.slice none 0 0) := (bk_cell hB (hr 2 (by decide) (by decide) 2 (by decide))).1
  have x3 : w.cell? ⟨bb, 25, none⟩ = some (.slice none 0 0) := (bk_cell hB (hr 2 (by decide) (by decide) 3 (by decide))).1
  have x5 : w.cell? ⟨bb, 27, none⟩ = some (.slice none 0 0) := (bk_cell hB (hr 2 (by decide) (by decide) 5 (by decide))).1
  have x6 : w.cell? ⟨bb, 28, none⟩ = some (.slice none 0 0) := (bk_cell hB (hr 2 (by decide) (by decide) 6 (by decide))).1
  clear hB hr
  go_enter Tryz.func173, Tryz.ntmps173
  go_wp2
  exact bodyPost_ret (results_none rfl _ _ _) rfl ⟨rfl, rfl⟩
theorem holdTexts_none (bb : Nat) (cs : Array Value) (w : World) (hB : BkAt w bb cs) (hr : Rest cs) :
    Calls Tryz.prog 60 #[.pointer (some ⟨bb, 0, none⟩)] w fun e w' => e = .returned (.bool true) ∧ w' = w := by
  have x0 : w.cell? ⟨bb, 22, none⟩ = some (.slice none 0 0) := (bk_cell hB (hr 2 (by decide) (by decide) 0 (by decide))).1
  have x2 : w.cell? ⟨bb, 24, none⟩ = some (.slice none 0 0) := (bk_cell hB (hr 2 (by decide) (by decide) 2 (by decide))).1
  clear hB hr
  go_enter Tryz.func60, Tryz.ntmps60
  go_wp2
  go_loop [3] (fun i => i = .int .i64 0) (fun _ => 0)
  case atStart => rfl
  case round =>
    subst hrel
    go_wp2
    go_loop [4] (fun i => i = .int .i64 0) (fun _ => 0)
    case atStart => rfl
    case round =>
      subst hrel
      go_wp2
      go_ret
      exact ⟨rfl, rfl⟩
theorem growTexts_none (bb : Nat) (cs : Array Value) (w : World) (hB : BkAt w bb cs) (hr : Rest cs) :
    Calls Tryz.prog 190 #[.pointer (some ⟨bb, 0, none⟩)] w fun e w' => e = .returned (.tuple #[]) ∧ BkAt w' bb cs ∧ w.grownBy w' (some bb) := by
  have r4 : cs[26]? = some (.slice none 0 0) := hr 2 (by decide) (by decide) 4 (by decide)
  have r7 : cs[29]? = some (.slice none 0 0) := hr 2 (by decide) (by decide) 7 (by decide)
  obtain ⟨x4, y4⟩ := bk_cell hB r4
  obtain ⟨x7, y7⟩ := bk_cell hB r7
  have HB : Hid (BkAt w bb cs) := hB
  have R4 : Hid (cs[26]? = some (.slice none 0 0)) := r4
  have R7 : Hid (cs[29]? = some (.slice none 0 0)) := r7
  clear hB hr r4 r7
  go_enter Tryz.func190, Tryz.ntmps190
  go_wp2
  go_loop [2] (fun i => i = .int .i64 0) (fun _ => 0)
  case atStart => rfl
  case round =>
    subst hrel
    go_wp2
    go_end0
    exact ⟨rfl, (HB.out.same R4.out).same R7.out, gb_set (gb_set (gb_refl _ _) _ _) _ _⟩
theorem markEntries_none (bb : Nat) (cs : Array Value) (w : World) (hB : BkAt w bb cs) (hr : Rest cs) :
    Calls Tryz.prog 174 #[.pointer (some ⟨bb, 0, none⟩)] w fun e w' => e = .returned (.tuple #[]) ∧ w' = w := by
  have x2 : w.cell? ⟨bb, 33, none⟩ = some (.slice none 0 0) := (bk_cell hB (hr 3 (by decide) (by decide) 2 (by decide))).1
  have x3 : w.cell? ⟨bb, 34, none⟩ = some (.slice none 0 0) := (bk_cell hB (hr 3 (by decide) (by decide) 3 (by decide))).1
  have x5 : w.cell? ⟨bb, 36, none⟩ = some (.slice none 0 0) := (bk_cell hB (hr 3 (by decide) (by decide) 5 (by decide))).1
  have x6 : w.cell? ⟨bb, 37, none⟩ = some (.slice none 0 0) := (bk_cell hB (hr 3 (by decide) (by decide) 6 (by decide))).1
  clear hB hr
  go_enter Tryz.func174, Tryz.ntmps174
  go_wp2
  exact bodyPost_ret (results_none rfl _ _ _) rfl ⟨rfl, rfl⟩
theorem holdEntries_none (bb : Nat) (cs : Array Value) (w : World) (hB : BkAt w bb cs) (hr : Rest cs) :
    Calls Tryz.prog 61 #[.pointer (some ⟨bb, 0, none⟩)] w fun e w' => e = .returned (.bool true) ∧ w' = w := by
  have x0 : w.cell? ⟨bb, 31, none⟩ = some (.slice none 0 0) := (bk_cell hB (hr 3 (by decide) (by decide) 0 (by decide))).1
  have x2 : w.cell? ⟨bb, 33, none⟩ = some (.slice none 0 0) := (bk_cell hB (hr 3 (by decide) (by decide) 2 (by decide))).1
  clear hB hr
  go_enter Tryz.func61, Tryz.ntmps61
  go_wp2
  go_loop [3] (fun i => i = .int .i64 0) (fun _ => 0)
  case atStart => rfl
  case round =>
    subst hrel
    go_wp2
    go_loop [4] (fun i => i = .int .i64 0) (fun _ => 0)
    case atStart => rfl
    case round =>
      subst hrel
      go_wp2
      go_ret
      exact ⟨rfl, rfl⟩
theorem growEntries_none (bb : Nat) (cs : Array Value) (w : World) (hB : BkAt w bb cs) (hr : Rest cs) :
    Calls Tryz.prog 191 #[.pointer (some ⟨bb, 0, none⟩)] w fun e w' => e = .returned (.tuple #[]) ∧ BkAt w' bb cs ∧ w.grownBy w' (some bb) := by
  have r4 : cs[35]? = some (.slice none 0 0) := hr 3 (by decide) (by decide) 4 (by decide)
  have r7 : cs[38]? = some (.slice none 0 0) := hr 3 (by decide) (by decide) 7 (by decide)
  obtain ⟨x4, y4⟩ := bk_cell hB r4
  obtain ⟨x7, y7⟩ := bk_cell hB r7
  have HB : Hid (BkAt w bb cs) := hB
  have R4 : Hid (cs[35]? = some (.slice none 0 0)) := r4
  have R7 : Hid (cs[38]? = some (.slice none 0 0)) := r7
  clear hB hr r4 r7
  go_enter Tryz.func191, Tryz.ntmps191
  go_wp2
  go_loop [2] (fun i => i = .int .i64 0) (fun _ => 0)
  case atStart => rfl
  case round =>
    subst hrel
    go_wp2
    go_end0
    exact ⟨rfl, (HB.out.same R4.out).same R7.out, gb_set (gb_set (gb_refl _ _) _ _) _ _⟩
theorem markAsks_none (bb : Nat) (cs : Array Value) (w : World) (hB : BkAt w bb cs) (hr : Rest cs) :
    Calls Tryz.prog 175 #[.pointer (some ⟨bb, 0, none⟩)] w fun e w' => e = .returned (.tuple #[]) ∧ w' = w := by
  have x2 : w.cell? ⟨bb, 42, none⟩ = some (.slice none 0 0) := (bk_cell hB (hr 4 (by decide) (by decide) 2 (by decide))).1
  have x3 : w.cell? ⟨bb, 43, none⟩ = some (.slice none 0 0) := (bk_cell hB (hr 4 (by decide) (by decide) 3 (by decide))).1
  have x5 : w.cell? ⟨bb, 45, none⟩ = some (.slice none 0 0) := (bk_cell hB (hr 4 (by decide) (by decide) 5 (by decide))).1
  have x6 : w.cell? ⟨bb, 46, none⟩ = some (.slice none 0 0) := (bk_cell hB (hr 4 (by decide) (by decide) 6 (by decide))).1
  clear hB hr
  go_enter Tryz.func175, Tryz.ntmps175
  go_wp2
  exact bodyPost_ret (results_none rfl _ _ _) rfl ⟨rfl, rfl⟩
theorem holdAsks_none (bb : Nat) (cs : Array Value) (w : World) (hB : BkAt w bb cs) (hr : Rest cs) :
    Calls Tryz.prog 62 #[.pointer (some ⟨bb, 0, none⟩)] w fun e w' => e = .returned (.bool true) ∧ w' = w := by
  have x0 : w.cell? ⟨bb, 40, none⟩ = some (.slice none 0 0) := (bk_cell hB (hr 4 (by decide) (by decide) 0 (by decide))).1
  have x2 : w.cell? ⟨bb, 42, none⟩ = some (.slice none 0 0) := (bk_cell hB (hr 4 (by decide) (by decide) 2 (by decide))).1
  clear hB hr
  go_enter Tryz.func62, Tryz.ntmps62
  go_wp2
  go_loop [3] (fun i => i = .int .i64 0) (fun _ => 0)
  case atStart => rfl
  case round =>
    subst hrel
    go_wp2
    go_loop [4] (fun i => i = .int .i64 0) (fun _ => 0)
    case atStart => rfl
    case round =>
      subst hrel
      go_wp2
      go_ret
      exact ⟨rfl, rfl⟩
theorem growAsks_none (bb : Nat) (cs : Array Value) (w : World) (hB : BkAt w bb cs) (hr : Rest cs) :
    Calls Tryz.prog 192 #[.pointer (some ⟨bb, 0, none⟩)] w fun e w' => e = .returned (.tuple #[]) ∧ BkAt w' bb cs ∧ w.grownBy w' (some bb) := by
  have r4 : cs[44]? = some (.slice none 0 0) := hr 4 (by decide) (by decide) 4 (by decide)
  have r7 : cs[47]? = some (.slice none 0 0) := hr 4 (by decide) (by decide) 7 (by decide)
  obtain ⟨x4, y4⟩ := bk_cell hB r4
  obtain ⟨x7, y7⟩ := bk_cell hB r7
  have HB : Hid (BkAt w bb cs) := hB
  have R4 : Hid (cs[44]? = some (.slice none 0 0)) := r4
  have R7 : Hid (cs[47]? = some (.slice none 0 0)) := r7
  clear hB hr r4 r7
  go_enter Tryz.func192, Tryz.ntmps192
  go_wp2
  go_loop [2] (fun i => i = .int .i64 0) (fun _ => 0)
  case atStart => rfl
  case round =>
    subst hrel
    go_wp2
    go_end0
    exact ⟨rfl, (HB.out.same R4.out).same R7.out, gb_set (gb_set (gb_refl _ _) _ _) _ _⟩
end Go.Proofs.YtphofgnehdlafaaGreatDoor.Bk
