import Derived.Test.YtibihbclijpkjaaGreatDoorProg
import Derived.Test.YtibihbclijpkjaaGreatDoorPt
import Derived.WalkKit
import Derived.WalkSpells
import Derived.WalkLawsBesides
import Derived.Lib.Strings
import Derived.Laws.BytesArg
import Derived.Lib.AppendZeros
import Derived.Laws.AppendOwnNone
namespace Go.Proofs.YtibihbclijpkjaaGreatDoor
open Go.RowKit
set_option linter.unusedSimpArgs false
set_option linter.unusedVariables false

/-- What Check tells from a place on, in so many steps at most. -/
def chkF (s : ByteArray) : Nat → Nat → Nat × Nat
  | 0, _ => (0, 0)
  | b + 1, k => if k < s.size then (if atB s k = 0 then (k, 14) else if point s k = 0 then (k, 13) else chkF s b (k + point s k)) else (0, 0)
/-- What Check tells. -/
def chk (s : ByteArray) : Nat × Nat := if 65535 < s.size then (65535, 11) else chkF s s.size 0

theorem chkF_end (s : ByteArray) (b k : Nat) (h : ¬ k < s.size) : chkF s b k = (0, 0) := by
  cases b with
  | zero => rfl
  | succ b => simp [chkF, h]
theorem chkF_zero (s : ByteArray) (b k : Nat) (h : k < s.size) (hb : s.size ≤ k + b) (hz : atB s k = 0) : chkF s b k = (k, 14) := by
  cases b with
  | zero => omega
  | succ b => simp [chkF, h, hz]
theorem chkF_utf (s : ByteArray) (b k : Nat) (h : k < s.size) (hb : s.size ≤ k + b) (hz : ¬ atB s k = 0) (hp : point s k = 0) : chkF s b k = (k, 13) := by
  cases b with
  | zero => omega
  | succ b => simp [chkF, h, hz, hp]
theorem chkF_step (s : ByteArray) (b k : Nat) (h : k < s.size) (hb : s.size ≤ k + b) (hz : ¬ atB s k = 0) (hp : ¬ point s k = 0) : ∃ b', chkF s b k = chkF s b' (k + point s k) ∧ s.size ≤ k + point s k + b' := by
  cases b with
  | zero => omega
  | succ b => exact ⟨b, by simp [chkF, h, hz, hp], by omega⟩

/-- Does a text begin with another? -/
def begins (s p : ByteArray) : Bool := decide (p.size ≤ s.size) && ((s.extract 0 p.size).toList == p.toList)

set_option maxHeartbeats 400000 in
theorem pre_any (s p : ByteArray) (w : World) :
    Calls Tryz.prog 82 #[.string s, .string p] w fun e w' => e = .returned (.bool (begins s p)) ∧ w' = w := by
  by_cases h : p.size ≤ s.size
  · have e : begins s p = ((s.extract 0 p.size).toList == p.toList) := by simp [begins, h]
    rw [e]
    clear e
    have h' : (p.size : Int) ≤ s.size := by omega
    go_enter Tryz.func82, Tryz.ntmps82
    go_wp2
    go_ret
    exact ⟨rfl, rfl⟩
  · have e : begins s p = false := by simp [begins, h]
    rw [e]
    clear e
    have h' : ¬ (p.size : Int) ≤ s.size := by omega
    go_enter Tryz.func82, Tryz.ntmps82
    go_wp2
    go_ret
    exact ⟨rfl, rfl⟩

theorem atB_list (s : ByteArray) (i : Nat) : atB s i = (s.data.toList[i]?.getD 0).toNat := by
  by_cases h : i < s.size
  · rw [atB_in s i h]
    have h' : i < s.data.toList.length := by simpa using h
    rw [List.getElem?_eq_getElem h']
    rfl
  · rw [atB_out s i h]
    have h' : s.data.toList.length ≤ i := by simpa using h
    rw [List.getElem?_eq_none h']
    rfl

theorem three (l : List UInt8) : List.isPrefixOf [239, 191, 189] l = decide ((l[0]?.getD 0).toNat = 239 ∧ (l[1]?.getD 0).toNat = 191 ∧ (l[2]?.getD 0).toNat = 189) := by
  have hq : ∀ (a b : UInt8), (a == b) = decide (b.toNat = a.toNat) := by
    intro a b
    rw [Bool.eq_iff_iff]
    simp only [beq_iff_eq, decide_eq_true_eq, UInt8.toNat_inj]
    exact eq_comm
  match l with
  | [] => rfl
  | [a] => simp [List.isPrefixOf]
  | [a, b] => simp [List.isPrefixOf]
  | a :: b :: c :: r =>
    simp only [List.isPrefixOf, hq, Bool.and_true]
    rw [Bool.eq_iff_iff]
    simp

theorem begins_three (s : ByteArray) (k : Nat) : begins (s.extract k s.size) ⟨#[239, 191, 189]⟩ = decide (atB s k = 239 ∧ atB s (k + 1) = 191 ∧ atB s (k + 2) = 189) := by
  unfold begins
  rw [Lib.hasPrefix_raw, Lib.extract_data, List.take_of_length_le (by simp)]
  unfold Lib.hasPrefix
  have e : (ByteArray.mk #[239, 191, 189]).data.toList = [239, 191, 189] := rfl
  rw [e, three]
  simp only [atB_list, List.getElem?_drop, Nat.add_zero]

theorem width_pos (s : ByteArray) (k : Nat) : 1 ≤ (Utf8.decode s k).2 := by
  have h := point_fits s k
  by_cases hp : point s k = 0
  · rw [(h.1 hp).2.1]; exact Nat.le_refl _
  · rw [(h.2 hp).1]; omega

set_option maxRecDepth 1000000 in
set_option maxHeartbeats 400000 in
theorem chk_world (s : ByteArray) (w : World) :
    Calls Tryz.prog 60 #[.string s] w fun e w' => e = .returned (.tuple #[.int .i64 (chk s).1, .int .i64 (chk s).2]) ∧ (w' = w ∨ ∃ k, w' = w.iter s k) := by
  by_cases hl : 65535 < s.size
  · have e : chk s = (65535, 11) := by simp [chk, hl]
    rw [e]
    clear e
    have hl' : (65535 : Int) < s.size := by omega
    go_enter Tryz.func60, Tryz.ntmps60
    go_wp2
    go_ret2
    exact ⟨rfl, .inl rfl⟩
  · have HE : Hid (chk s = chkF s s.size 0) := by simp [chk, hl, Hid]
    have hl' : ¬ (65535 : Int) < s.size := by omega
    have hs : s.size ≤ 65535 := by omega
    go_enter Tryz.func60, Tryz.ntmps60
    go_wp2
    go_loopw [4, 5] (fun i c w' => ∃ k b : Nat, w' = w.iter s k ∧ chk s = chkF s b k ∧ s.size ≤ k + b) (fun _ _ w' => s.size - w'.iterPos w.heap.size)
    case atStart => exact ⟨0, s.size, rfl, HE.out, by omega⟩
    case round =>
      obtain ⟨k, b, rfl, hc, hb⟩ := hrel
      have HC : Hid (chk s = chkF s b k) := hc
      clear hc
      by_cases hlt : k < s.size
      · obtain ⟨r, n, hd⟩ : ∃ r n, Utf8.decode s k = (r, n) := ⟨_, _, rfl⟩
        have hnx : ∀ ty, (Instr.next (.pointer (some ⟨w.heap.size, 0, none⟩)) true ty).run Tryz.prog (w.iter s k) = .ok (.tuple #[.bool true, .int .i64 k, .int .i32 r]) (w.iter s (k + n)) := by
          intro ty
          rw [run_next_any w s k ty hlt, hd]
        have hf := point_fits s k
        rw [hd] at hf
        clear hd
        have hg := begins_three s k
        have HF : Hid (Fits (point s k) (atB s k) (atB s (k + 1)) (atB s (k + 2)) (r, n)) := hf
        have HG : Hid (begins (s.extract k s.size) ⟨#[239, 191, 189]⟩ = decide (atB s k = 239 ∧ atB s (k + 1) = 191 ∧ atB s (k + 2) = 189)) := hg
        clear hf hg
        by_cases hz : atB s k = 0
        · have hp : point s k = 1 := by simp [point, pt, hz]
          have hr : r = 0 := ((HF.out.2 (by omega)).2.1).2 hz
          subst hr
          have HR : Hid (chk s = (k, 14)) := by have h1 := HC.out; rw [chkF_zero s b k hlt hb hz] at h1; exact h1
          clear hz hp
          go_wp2
          go_ret2
          exact ⟨by rw [HR.out]; rfl, .inr ⟨_, rfl⟩⟩
        · by_cases hp : point s k = 0
          · obtain ⟨h1, h2, _, h4⟩ := HF.out.1 hp
            have hr : r = 65533 := h1
            subst hr
            have hg : begins (s.extract k s.size) ⟨#[239, 191, 189]⟩ = false := by rw [HG.out]; exact decide_eq_false h4
            have HR : Hid (chk s = (k, 13)) := by have h1 := HC.out; rw [chkF_utf s b k hlt hb hz hp] at h1; exact h1
            clear hz hp h1 h2 h4
            go_wp2_with (go_at_call 82; refine (pre_any _ _ _).mono ?_; rintro e w' ⟨rfl, rfl⟩)
            go_ret2
            exact ⟨by rw [HR.out]; rfl, .inr ⟨_, rfl⟩⟩
          · obtain ⟨h1, h2, h3⟩ := HF.out.2 hp
            have hn : n = point s k := h1
            have hr0 : ¬ r = 0 := fun h => hz (h2.1 h)
            obtain ⟨b', e1, e2⟩ := chkF_step s b k hlt hb hz hp
            have HS : Hid (chk s = chkF s b' (k + n) ∧ s.size ≤ k + n + b' ∧ 1 ≤ n) := by rw [hn]; exact ⟨HC.out.trans e1, e2, by omega⟩
            by_cases hr : r = 65533
            · have hg : begins (s.extract k s.size) ⟨#[239, 191, 189]⟩ = true := by rw [HG.out]; exact decide_eq_true (h3 hr)
              clear h1 h2 h3 hn hr0 e1 e2 hz hp
              subst hr
              go_wp2_with (go_at_call 82; refine (pre_any _ _ _).mono ?_; rintro e w' ⟨rfl, rfl⟩)
              go_roundw
              case rel => exact ⟨k + n, b', rfl, HS.out.1, HS.out.2.1⟩
              case measure => have := HS.out.2.2; simp; omega
            · have q0 : ((r : Int) == 0) = false := by simp; omega
              have q1 : ((r : Int) == 65533) = false := by simp; omega
              clear h1 h2 h3 hn hr0 e1 e2 hz hp hr
              go_wp2_with (go_at_call 82; refine (pre_any _ _ _).mono ?_; rintro e w' ⟨rfl, rfl⟩)
              go_roundw
              case rel => exact ⟨k + n, b', rfl, HS.out.1, HS.out.2.1⟩
              case measure => have := HS.out.2.2; simp; omega
      · have hnx : ∀ ty, (Instr.next (.pointer (some ⟨w.heap.size, 0, none⟩)) true ty).run Tryz.prog (w.iter s k) = _ := fun ty => run_next_end w s k ty hlt
        have HR : Hid (chk s = (0, 0)) := by have h1 := HC.out; rw [chkF_end s b k hlt] at h1; exact h1
        go_wp2
        go_ret2
        exact ⟨by rw [HR.out]; rfl, .inr ⟨_, rfl⟩⟩

theorem below_iter (w : World) (s : ByteArray) (k : Nat) : Below w.heap.size w (w.iter s k) := (Below.refl _ _).alloc (Nat.le_refl _) _
theorem frozen_iter (w : World) (s : ByteArray) (k : Nat) (a : Addr) : (w.iter s k).frozen? a = w.frozen? a := by
  by_cases h : a.block = w.heap.size
  · have e1 : (w.iter s k).heap[a.block]? = some (.stringIter s k) := by rw [h]; exact World.iter_heap w s k
    have e2 : w.heap[a.block]? = none := by rw [h]; simp
    simp [World.frozen?, e1, e2]
  · by_cases h' : a.block < w.heap.size
    · exact (below_iter w s k).frozen h'
    · have e1 : (w.iter s k).heap[a.block]? = none := by
        show (w.heap.push _)[a.block]? = none
        rw [Array.getElem?_eq_none]
        simp; omega
      have e2 : w.heap[a.block]? = none := by rw [Array.getElem?_eq_none]; omega
      simp [World.frozen?, e1, e2]
theorem grown_iter (w : World) (s : ByteArray) (k : Nat) : Grown w (w.iter s k) :=
  ⟨World.keptBut_alloc _ _ _, frozen_iter w s k, (below_iter w s k).size⟩

theorem chk_any (s : ByteArray) (w : World) :
    Calls Tryz.prog 60 #[.string s] w fun e w' => e = .returned (.tuple #[.int .i64 (chk s).1, .int .i64 (chk s).2]) ∧ Below w.heap.size w w' ∧ Grown w w' := by
  refine (chk_world s w).mono ?_
  rintro e w' ⟨rfl, rfl | ⟨k, rfl⟩⟩
  · exact ⟨rfl, Below.refl _ _, Grown.refl _⟩
  · exact ⟨rfl, below_iter _ _ _, grown_iter _ _ _⟩
end Go.Proofs.YtibihbclijpkjaaGreatDoor
namespace Go.Proofs.YtibihbclijpkjaaGreatDoor
open Go.RowKit
set_option linter.unusedSimpArgs false
set_option linter.unusedVariables false

/-- A slice of bytes: these bytes are its elements. -/
def Byt (w : World) (ao : Option Addr) (len cap : Nat) (z : Nat → Int) : Prop :=
  len ≤ cap ∧ (∀ i, 0 ≤ z i ∧ z i ≤ 255) ∧ (len = 0 ∨ ∃ b off, ao = some ⟨b, off, none⟩ ∧ ∀ i, i < len → w.cell? ⟨b, off + i, none⟩ = some (.int .u8 (z i)))

/-- What Length tells of such a slice. -/
def lenZ (len : Nat) (z : Nat → Int) : Int × Int × Int := lenX len (z 0) (z 1) (z 2) (z 3)

/-- A slice of bytes that came in: nil, or these bytes lie from its address on. -/
def Came (w : World) (ao : Option Addr) (len cap : Nat) (z : Nat → Int) : Prop :=
  len ≤ cap ∧ (∀ i, 0 ≤ z i ∧ z i ≤ 255) ∧ ((ao = none ∧ len = 0 ∧ cap = 0) ∨ ∃ ad, ao = some ad ∧ ∀ i, i < len → w.cell? (ad.add i) = some (.int .u8 (z i)))

/-- The cells of so many bytes. -/
def cellsOf (z : Nat → Int) (n : Nat) : List Value := (List.range n).map fun i => .int .u8 (z i)
theorem cellsOf_length (z : Nat → Int) (n : Nat) : (cellsOf z n).length = n := by simp [cellsOf]
theorem cellsOf_get (z : Nat → Int) (n j : Nat) (u : Value) (h : (cellsOf z n)[j]? = some u) : j < n ∧ u = .int .u8 (z j) := by
  unfold cellsOf at h
  rw [List.getElem?_map] at h
  by_cases hj : j < n
  · rw [List.getElem?_range hj] at h
    simp at h
    exact ⟨hj, h.symm⟩
  · rw [List.getElem?_eq_none (by simpa using hj)] at h
    simp at h
theorem cellsOf_at (z : Nat → Int) (n j : Nat) (hj : j < n) : (cellsOf z n)[j]? = some (.int .u8 (z j)) := by
  unfold cellsOf
  rw [List.getElem?_map, List.getElem?_range hj]
  rfl
theorem cellsOf_succ (z : Nat → Int) (n : Nat) : cellsOf z (n + 1) = cellsOf z n ++ [.int .u8 (z n)] := by
  simp [cellsOf, List.range_succ]
theorem cellsOf_one (z : Nat → Int) (n : Nat) (u : Value) (h : u ∈ cellsOf z n) : u.oneCell' = true := by
  unfold cellsOf at h
  obtain ⟨i, _, rfl⟩ := List.mem_map.1 h
  rfl

/-- The text that so many bytes make. -/
def strZ (z : Nat → Int) (n : Nat) : ByteArray := strOfNums ((List.range n).map z)

theorem conv_any (ao : Option Addr) (len cap : Nat) (z : Nat → Int) (w : World) (h : Came w ao len cap z) : (convert 22 9 (.slice ao len cap)).run Tryz.prog w = .ok (.string (strZ z len)) w := by
  obtain ⟨_, _, ⟨rfl, rfl, rfl⟩ | ⟨ad, rfl, hc⟩⟩ := h
  · rw [run_convert_bytes_nil w 22 5 Tryz.underlying22 Tryz.underlying5 0 0 9 Tryz.underlying9]
    rfl
  · rw [run_convert_bytes_string w 22 9 5 _ len cap Tryz.underlying22 Tryz.underlying5 Tryz.underlying9]
    have hl : (loadCells ad len).run Tryz.prog w = .ok (((List.range len).map z).map (Value.int .u8)).toArray w := by
      have := run_loadCells_list (P := Tryz.prog) w ad (cellsOf z len) (fun j v hj => by
        obtain ⟨h1, rfl⟩ := cellsOf_get z len j v hj
        exact hc j h1)
      simpa [cellsOf, Function.comp_def] using this
    rw [run_bytesToString w ad len cap _ hl, foldl_push_bytes]
    simp [strZ, strOfNums, ByteArray.empty, ByteArray.emptyWithCapacity]
    rfl

set_option maxHeartbeats 400000 in
theorem plain_add (b off j : Nat) : (⟨b, off, none⟩ : Addr).add j = ⟨b, off + j, none⟩ := by
  unfold Addr.add
  split <;> simp_all

theorem came_byt {w : World} {ao : Option Addr} {len cap : Nat} {z : Nat → Int} (h : Came w ao len cap z) : Byt w ao len cap z := by
  obtain ⟨h1, h2, ⟨rfl, rfl, rfl⟩ | ⟨ad, rfl, hc⟩⟩ := h
  · exact ⟨h1, h2, .inl rfl⟩
  · refine ⟨h1, h2, ?_⟩
    by_cases h0 : len = 0
    · exact .inl h0
    · right
      obtain ⟨b, off, spot⟩ := ad
      have q := hc 0 (by omega)
      have hspot : spot = none := by simpa [Addr.add] using World.cell?_spot q
      subst hspot
      exact ⟨b, off, rfl, fun i hi => by have h := hc i hi; rw [plain_add] at h; exact h⟩

theorem came_below {w w' : World} {B : Nat} {ao : Option Addr} {len cap : Nat} {z : Nat → Int} (h : Came w ao len cap z) (hb : Below w.heap.size w w') : Came w' ao len cap z := by
  obtain ⟨h1, h2, h3 | ⟨ad, rfl, hc⟩⟩ := h
  · exact ⟨h1, h2, .inl h3⟩
  · exact ⟨h1, h2, .inr ⟨ad, rfl, fun i hi => cell_later hb (hc i hi)⟩⟩
end Go.Proofs.YtibihbclijpkjaaGreatDoor
namespace Go.Proofs.YtibihbclijpkjaaGreatDoor
open Go Go.RowKit
set_option linter.unusedSimpArgs false
set_option linter.unusedVariables false

theorem hmf (fn : Fn) (first cap : Array Value) (w : World) : (Instr.makeFunc fn first cap).run Tryz.prog w = .ok (.func fn first cap) w := rfl

/-- The reader's own bytes. -/
def Own (w : World) (g n : Nat) (z : Nat → Int) : Prop := (∀ i, 0 ≤ z i ∧ z i ≤ 255) ∧ ∀ i, i < n → w.cell? ⟨g, i, none⟩ = some (.int .u8 (z i))
theorem Own.grown {w w' : World} {g n rb : Nat} {z : Nat → Int} (h : Own w g n z) (hg : w.grownBy w' (some rb)) (hne : g ≠ rb) : Own w' g n z := ⟨h.1, fun i hi => hg.cell (h.2 i hi) (by simpa using hne)⟩
theorem Own.below {w w' : World} {g n : Nat} {z : Nat → Int} (h : Own w g n z) (hb : Below w.heap.size w w') : Own w' g n z := ⟨h.1, fun i hi => cell_later hb (h.2 i hi)⟩
theorem RdAt.grown {w w' : World} {rb rb' : Nat} {bv : Value} {at0 p0 q0 : Int} (h : RdAt w rb bv at0 p0 q0) (hg : w.grownBy w' (some rb')) (hne : rb ≠ rb') : RdAt w' rb bv at0 p0 q0 := (hg.block rb (lt_of_block h) (by simpa using hne)).trans h
theorem gb_below {w w' : World} {r : Option Nat} (h : Below w.heap.size w w') : w.grownBy w' r := ⟨h.os, h.tape, h.output, h.size, fun k hk _ => h.block k hk⟩

theorem box_cell {w w1 : World} {rb : Nat} {v : Value} {t : TypeId} (hlt : rb < w.heap.size) (h : (w.alloc (.cells #[v] t)).grownBy w1 (some rb)) : w1.cell? ⟨w.heap.size, 0, none⟩ = some v :=
  h.cell (a := ⟨w.heap.size, 0, none⟩) (by rw [World.cell?_alloc_at _ _ _ _ rfl]; rfl) (by simp; omega)

set_option maxRecDepth 100000 in
set_option maxHeartbeats 1000000 in
theorem text_ok (rb g n cp at0 L : Nat) (p0 : Int) (z : Nat → Int) (w : World) (hR : RdAt w rb (.slice (some ⟨g, 0, none⟩) n cp) at0 p0 0) (hO : Own w g n z) (h2 : n ≤ cp) (h3 : n ≤ 1000000) (hgr : g ≠ rb)
    (hL : z at0 * 256 + z (at0 + 1) = L) (hn : at0 + 2 + L ≤ n) (hc : (chk (strZ (fun i => z (at0 + 2 + i)) L)).2 = 0) :
    Calls Tryz.prog 116 #[.pointer (some ⟨rb, 0, none⟩)] w fun e w' => e = .returned (.string (strZ (fun i => z (at0 + 2 + i)) L)) ∧ RdAt w' rb (.slice (some ⟨g, 0, none⟩) n cp) ((at0 + 2 + L : Nat) : Int) p0 0 ∧ w.grownBy w' (some rb) := by
  have hlt : rb < w.heap.size := lt_of_block hR
  have W0 : Hid (RdAt (w.alloc (.cells #[.pointer (some ⟨rb, 0, none⟩)] 107)) rb (.slice (some ⟨g, 0, none⟩) n cp) at0 p0 0) := hR.kept ((Below.refl _ _).alloc (Nat.le_refl _) _)
  have O0 : Hid (Own (w.alloc (.cells #[.pointer (some ⟨rb, 0, none⟩)] 107)) g n z) := hO.below ((Below.refl _ _).alloc (Nat.le_refl _) _)
  obtain ⟨_, c0, c1, c2, c3, f1, f2, f3⟩ := hR.facts
  have N0 : Hid (Calls Tryz.prog 122 #[.pointer (some ⟨rb, 0, none⟩), .int .i64 2] (w.alloc (.cells #[.pointer (some ⟨rb, 0, none⟩)] 107)) fun e w' => e = .returned (.int .i64 L) ∧ RdAt w' rb (.slice (some ⟨g, 0, none⟩) n cp) ((at0 + 2 : Nat) : Int) p0 0 ∧ (w.alloc (.cells #[.pointer (some ⟨rb, 0, none⟩)] 107)).grownBy w' (some rb)) := by
    have h := num2_ok rb g n cp at0 p0 (z at0) (z (at0 + 1)) _ W0.out h2 h3 (by omega) hgr (hO.1 _) (hO.1 _) (O0.out.2 _ (by omega)) (O0.out.2 _ (by omega))
    rw [hL] at h
    exact h
  have hmf := hmf
  clear hR hO hL
  go_enter_defers Tryz.func116, Tryz.ntmps116
  go_wp2_with (go_at_call 122; refine N0.out.mono ?_; rintro e w1 ⟨rfl, hR1, hg1⟩; have bx1 := box_cell hlt hg1; have at1 := hR1.facts.2.2.1; have X1 : Hid (RdAt w1 rb (.slice (some ⟨g, 0, none⟩) n cp) ((at0 + 2 : Nat) : Int) p0 0 ∧ (w.alloc (.cells #[.pointer (some ⟨rb, 0, none⟩)] 107)).grownBy w1 (some rb)) := ⟨hR1, hg1⟩; clear hR1 hg1)
  go_must (go_at_call 96)
  have T1 := take_ok rb g n cp (at0 + 2) L p0 w1 X1.out.1 h2 h3 hn
  refine T1.mono ?_
  clear T1
  rintro e w2 ⟨⟨ad, rfl, had⟩, hR2, hg2⟩
  have hg02 := gb_trans X1.out.2 hg2
  have bx2 := box_cell hlt hg02
  have cv : (convert 22 9 (.slice (some ad) L (cp - (at0 + 2)))).run Tryz.prog w2 = .ok (.string (strZ (fun i => z (at0 + 2 + i)) L)) w2 := by
    refine conv_any (some ad) L (cp - (at0 + 2)) _ w2 ⟨by omega, fun i => O0.out.1 _, .inr ⟨ad, rfl, fun i hi => ?_⟩⟩
    obtain rfl := had (by omega)
    rw [plain_add]
    exact (O0.out.grown hg02 hgr).2 _ (by omega)
  clear had
  have X2 : Hid (RdAt w2 rb (.slice (some ⟨g, 0, none⟩) n cp) ((at0 + 2 + L : Nat) : Int) p0 0 ∧ (w.alloc (.cells #[.pointer (some ⟨rb, 0, none⟩)] 107)).grownBy w2 (some rb)) := ⟨hR2, hg02⟩
  clear hR2 hg2 hg02 bx1 at1
  obtain ⟨s, hs⟩ : ∃ s, strZ (fun i => z (at0 + 2 + i)) L = s := ⟨_, rfl⟩
  rw [hs] at hc cv
  have HS : Hid (strZ (fun i => z (at0 + 2 + i)) L = s) := hs
  clear hs
  obtain ⟨c, q, hcq⟩ : ∃ c q, chk s = (c, q) := ⟨_, _, rfl⟩
  have C0 : Hid (Calls Tryz.prog 60 #[.string s] w2 fun e w' => e = .returned (.tuple #[.int .i64 c, .int .i64 0]) ∧ Below w2.heap.size w2 w') := by
    refine (chk_any s w2).mono ?_
    rw [hcq] at hc ⊢
    have hq : q = 0 := hc
    subst hq
    rintro e w' ⟨rfl, hb, _⟩
    exact ⟨rfl, hb⟩
  clear hc hcq
  go_wp2_with (go_at_call 60; refine C0.out.mono ?_; rintro e w3 ⟨rfl, hb3⟩)
  have bx3 := cell_later hb3 bx2
  have X3 : Hid (RdAt w3 rb (.slice (some ⟨g, 0, none⟩) n cp) ((at0 + 2 + L : Nat) : Int) p0 0 ∧ w.grownBy w3 (some rb)) := ⟨X2.out.1.kept hb3, gb_trans (gb_trans (gb_alloc (gb_refl _ _) _) X2.out.2) (gb_below hb3)⟩
  refine leaves_cons (f := 135) (args := #[.int .i64 at0, .pointer (some ⟨w.heap.size, 0, none⟩)]) (by simp) (by simp [go_sem]) ?_
  refine (clo41_idle rb _ at0 _ bx3).mono ?_
  rintro e u' w4 ⟨rfl, rfl, hb4⟩
  rw [HS.out]
  simp [Leaves, settle, results, Tryz.results116, go_sem]
  exact ⟨X3.out.1.kept hb4, gb_trans X3.out.2 (gb_below hb4)⟩
end Go.Proofs.YtibihbclijpkjaaGreatDoor
namespace Go.Proofs.YtibihbclijpkjaaGreatDoor
open Go Go.RowKit
set_option linter.unusedSimpArgs false
set_option linter.unusedVariables false

set_option maxRecDepth 100000 in
set_option maxHeartbeats 400000 in
theorem at_any (rb : Nat) (bv : Value) (at0 p0 q0 : Int) (w : World) (hR : RdAt w rb bv at0 p0 q0) :
    Calls Tryz.prog 115 #[.pointer (some ⟨rb, 0, none⟩)] w fun e w' => e = .returned (.int .i64 at0) ∧ w' = w := by
  obtain ⟨hlt, c0, c1, c2, c3, f1, f2, f3⟩ := hR.facts
  clear hR
  go_enter Tryz.func115, Tryz.ntmps115
  go_wp2
  go_ret
  exact ⟨rfl, rfl⟩

set_option maxRecDepth 100000 in
set_option maxHeartbeats 400000 in
theorem err_nil (rb : Nat) (bv : Value) (at0 p0 : Int) (w : World) (hR : RdAt w rb bv at0 p0 0) :
    Calls Tryz.prog 105 #[.pointer (some ⟨rb, 0, none⟩)] w fun e w' => e = .returned .nilIface ∧ w' = w := by
  obtain ⟨hlt, c0, c1, c2, c3, f1, f2, f3⟩ := hR.facts
  clear hR
  go_enter Tryz.func105, Tryz.ntmps105
  go_wp2
  go_ret
  exact ⟨rfl, rfl⟩

set_option maxRecDepth 100000 in
set_option maxHeartbeats 400000 in
theorem err_some (rb : Nat) (bv : Value) (at0 p0 q0 : Int) (w : World) (hR : RdAt w rb bv at0 p0 q0) (hq : ¬ q0 = 0) :
    Calls Tryz.prog 105 #[.pointer (some ⟨rb, 0, none⟩)] w fun e w' => e = .returned (.iface 78 (.pointer (some ⟨w.heap.size, 0, none⟩))) ∧ w' = (w.alloc (.cells #[.int .i64 p0, .int .i64 q0] 81)).drew := by
  obtain ⟨hlt, c0, c1, c2, c3, f1, f2, f3⟩ := hR.facts
  clear hR
  have hq' : (q0 == 0) = false := by simpa using hq
  clear hq
  go_enter Tryz.func105, Tryz.ntmps105
  go_wp2
  go_region
  all_goals (try go_wp2)
  all_goals go_ret
  all_goals exact ⟨rfl, rfl⟩

set_option maxRecDepth 100000 in
set_option maxHeartbeats 1000000 in
theorem end_rest (rb g n cp at0 : Nat) (p0 : Int) (w : World) (hR : RdAt w rb (.slice (some ⟨g, 0, none⟩) n cp) at0 p0 0) (h1 : at0 < n) (h2 : n ≤ cp) (h3 : n ≤ 1000000) :
    Calls Tryz.prog 104 #[.pointer (some ⟨rb, 0, none⟩)] w fun e w' => e = .returned (.tuple #[]) ∧ RdAt w' rb (.slice (some ⟨g, 0, none⟩) n cp) at0 at0 15 ∧ w.grownBy w' (some rb) := by
  have hlt : rb < w.heap.size := lt_of_block hR
  have W0 : Hid (RdAt (w.alloc (.cells #[.pointer (some ⟨rb, 0, none⟩)] 107)) rb (.slice (some ⟨g, 0, none⟩) n cp) at0 p0 0) := hR.kept ((Below.refl _ _).alloc (Nat.le_refl _) _)
  obtain ⟨_, c0, c1, c2, c3, f1, f2, f3⟩ := hR.facts
  have L0 : Hid (Calls Tryz.prog 113 #[.pointer (some ⟨rb, 0, none⟩)] (w.alloc (.cells #[.pointer (some ⟨rb, 0, none⟩)] 107)) fun e w' => (∃ ad, e = .returned (.slice (some ad) (n - at0) (cp - at0)) ∧ (at0 < cp → ad = ⟨g, at0, none⟩)) ∧ w' = (w.alloc (.cells #[.pointer (some ⟨rb, 0, none⟩)] 107)).drew) := left_ok rb g n cp at0 p0 _ W0.out (by omega) h2 h3
  have hx : (0 : Int) < ((n - at0 : Nat) : Int) := by omega
  have hmf := hmf
  clear hR
  go_enter_defers Tryz.func104, Tryz.ntmps104
  go_wp2_with (first | (go_at_call 113; refine L0.out.mono ?_; rintro e w' ⟨⟨ad, rfl, _⟩, rfl⟩) | (go_at_call 114; refine (give_any _ _ _).mono ?_; rintro e w' ⟨rfl, rfl⟩))
  refine leaves_cons (f := 123) (args := #[.int .i64 at0, .pointer (some ⟨w.heap.size, 0, none⟩)]) (by simp) (by simp [go_sem]) ?_
  refine (clo43_hit rb _ (.slice (some ⟨g, 0, none⟩) n cp) at0 p0 0 at0 at0 15 [] _ ?_ ?_).mono ?_
  · exact W0.out
  · simp [go_sem]
  rintro e u' w4 ⟨rfl, rfl, hR4, hg4⟩
  simp [Leaves, settle, results, Tryz.results104, go_sem]
  exact ⟨hR4, gb_trans (gb_drew (gb_alloc (gb_refl _ _) _)) hg4⟩

set_option maxRecDepth 100000 in
set_option maxHeartbeats 1000000 in
theorem byte_bad (rb : Nat) (bv : Value) (at0 p0 q0 : Int) (w : World) (hR : RdAt w rb bv at0 p0 q0) (hq : ¬ q0 = 0) :
    Calls Tryz.prog 74 #[.pointer (some ⟨rb, 0, none⟩)] w fun e w' => e = .returned (.int .u8 0) ∧ RdAt w' rb bv at0 p0 q0 ∧ w.grownBy w' (some rb) := by
  have hlt : rb < w.heap.size := lt_of_block hR
  have W0 : Hid (RdAt (w.alloc (.cells #[.pointer (some ⟨rb, 0, none⟩)] 107)) rb bv at0 p0 q0) := hR.kept ((Below.refl _ _).alloc (Nat.le_refl _) _)
  obtain ⟨_, c0, c1, c2, c3, f1, f2, f3⟩ := hR.facts
  have T0 : Hid (Calls Tryz.prog 96 #[.pointer (some ⟨rb, 0, none⟩), .int .i64 1] (w.alloc (.cells #[.pointer (some ⟨rb, 0, none⟩)] 107)) fun e w' => e = gave p0 q0 ∧ Below (w.alloc (.cells #[.pointer (some ⟨rb, 0, none⟩)] 107)).heap.size (w.alloc (.cells #[.pointer (some ⟨rb, 0, none⟩)] 107)) w') := take_bad rb bv at0 p0 q0 1 _ W0.out hq
  have hmf := hmf
  clear hR hq
  go_enter_defers Tryz.func74, Tryz.ntmps74
  go_wp2_with (go_at_call 96; refine T0.out.mono ?_; rintro e w1 ⟨rfl, hb1⟩)
  refine leaves_cons (f := 94) (args := #[.int .i64 at0, .pointer (some ⟨w.heap.size, 0, none⟩)]) (by simp) (by simp [go_sem]) ?_
  refine (clo50_hit rb _ bv at0 p0 q0 at0 p0 q0 [] _ (W0.out.kept hb1) ?_).mono ?_
  · exact box_cell hlt (gb_below hb1)
  rintro e u' w4 ⟨rfl, rfl, hR4, hg4⟩
  simp [Leaves, settle, results, Tryz.results74, go_sem]
  exact ⟨hR4, gb_trans (gb_trans (gb_alloc (gb_refl _ _) _) (gb_below hb1)) hg4⟩
end Go.Proofs.YtibihbclijpkjaaGreatDoor
namespace Go.Proofs.YtibihbclijpkjaaGreatDoor
open Go Go.RowKit
set_option linter.unusedSimpArgs false
set_option linter.unusedVariables false

theorem Tryz.info5 : (Tryz.prog.info? 5).map (fun i => (i.zero, i.size, i.bytes)) = some (some (.int .u8 0), 1, 1) := by kernel_rfl

set_option maxRecDepth 100000 in
set_option maxHeartbeats 1000000 in
theorem grow_any (n : Nat) (h1 : 1 ≤ n) (h2 : n ≤ 1000000) (w : World) :
    Calls Tryz.prog 41 #[.slice none 0 0, .int .i64 n] w fun e w' => ∃ g cp, e = .returned (.slice (some ⟨g, 0, none⟩) 0 cp) ∧ w'.ownsRow w.heap.size 5 1 (.slice (some ⟨g, 0, none⟩) 0 cp) 0 [] ∧ Below w.heap.size w w' := by
  obtain ⟨i0, hi, hz0, hz1, hz2⟩ := info_parts Tryz.info5
  have hr : ∀ ty, (Builtin.append_ #[22, 3] ty #[.slice none 0 0, .int .i64 n]).run Tryz.prog w = _ := fun ty => Lib.run_append_nil_zeros w 22 3 ty 5 i0 (.int .u8 0) .i64 .i64 Tryz.underlying22 Tryz.underlying3 hi hz0 n (by omega) (by omega) (by omega) (by rw [hz2]; omega)
  have hn0 : ¬ (n : Int) < 0 := by omega
  have hn1 : (0 : Int) < n := by omega
  go_enter Tryz.func41, Tryz.ntmps41
  go_wp2_with (at_builtin; refine Lib.wpList_append_run _ rfl (.tmp 20) (.tmp 21) 22 3 rfl _ _ rfl rfl _ _ (hr _) ?_)
  go_ret
  have hge := grownCap_ge w n 0 5
  have hcm : grownCap w n 0 5 ≤ maxLen := grownCap_le_maxLen w n 0 5 (by unfold maxLen; omega)
  refine ⟨_, _, rfl, World.ownsRow.drew (World.ownsRow_made w _ _ (Nat.le_refl _) hcm ?_), ((Below.refl _ _).alloc (Nat.le_refl _) _).drew⟩
  simp only [Array.size_append, size_zeroCells]
  simp
  omega

theorem cellsOf_zero (z : Nat → Int) : cellsOf z 0 = [] := rfl

set_option maxRecDepth 100000 in
set_option maxHeartbeats 2000000 in
theorem concat_any (lb : Nat) (a0 : Option Addr) (ad : Addr) (l0 k0 l1 k1 : Nat) (z0 z1 : Nat → Int) (w : World) (c0 : w.cell? ⟨lb, 0, none⟩ = some (.slice a0 l0 k0)) (c1 : w.cell? ⟨lb, 1, none⟩ = some (.slice (some ad) l1 k1))
    (h0 : Came w a0 l0 k0 z0) (h1 : Came w (some ad) l1 k1 z1) (hp : 1 ≤ l0 + l1) (hl0 : l0 ≤ 400000) (hl1 : l1 ≤ 400000) :
    Calls Tryz.prog 87 #[.slice (some ⟨lb, 0, none⟩) 2 2] w fun e w' => ∃ g cp, e = .returned (.slice (some ⟨g, 0, none⟩) (l0 + l1) cp) ∧ w'.ownsRow w.heap.size 5 1 (.slice (some ⟨g, 0, none⟩) (l0 + l1) cp) (l0 + l1) (cellsOf z0 l0 ++ cellsOf z1 l1) ∧ Below w.heap.size w w' := by
  obtain ⟨i0, hi, hz0, hz1, hz2⟩ := info_parts Tryz.info5
  have G0 : Hid (Calls Tryz.prog 41 #[.slice none 0 0, .int .i64 ((l0 : Int) + (l1 : Int))] w fun e w' => ∃ g cp, e = .returned (.slice (some ⟨g, 0, none⟩) 0 cp) ∧ w'.ownsRow w.heap.size 5 1 (.slice (some ⟨g, 0, none⟩) 0 cp) 0 [] ∧ Below w.heap.size w w') := by
    have h := grow_any (l0 + l1) hp (by omega) w
    rw [Int.natCast_add] at h
    exact h
  have HC : Hid (∀ w', Below w.heap.size w w' → w'.cell? ⟨lb, 0, none⟩ = some (.slice a0 l0 k0) ∧ w'.cell? ⟨lb, 1, none⟩ = some (.slice (some ad) l1 k1) ∧ Came w' a0 l0 k0 z0 ∧ Came w' (some ad) l1 k1 z1) := fun w' hb => ⟨cell_later hb c0, cell_later hb c1, came_below (B := 0) h0 hb, came_below (B := 0) h1 hb⟩
  have hnil : a0 = none → l0 = 0 ∧ k0 = 0 := by
    rintro rfl
    obtain ⟨_, _, ⟨_, h, h'⟩ | ⟨_, h, _⟩⟩ := h0
    · exact ⟨h, h'⟩
    · cases h
  clear h0 h1
  go_enter Tryz.func87, Tryz.ntmps87
  go_wp2
  go_loop [3, 5, 11] (fun s _ i => (i = .int .i64 0 ∧ s = .int .i64 0) ∨ (i = .int .i64 1 ∧ s = .int .i64 l0) ∨ (i = .int .i64 2 ∧ s = .int .i64 ((l0 : Int) + (l1 : Int)))) (fun _ _ i => 2 - (intOf i).toNat)
  case atStart => exact .inl ⟨rfl, rfl⟩
  case round =>
    rcases hrel with ⟨rfl, rfl⟩ | ⟨rfl, rfl⟩ | ⟨rfl, rfl⟩
    · go_wp2
      go_round
      case rel => exact .inr (.inl ⟨rfl, by first | rfl | go_num⟩)
      case measure => simp [intOf]
    · go_wp2
      go_round
      case rel => exact .inr (.inr ⟨rfl, by first | rfl | go_num⟩)
      case measure => simp [intOf]
    · clear c0 c1
      go_wp2_with (go_at_call 41; refine G0.out.mono ?_; rintro e w1 ⟨g, cp, rfl, hown, hbel⟩; have O1 : Hid (w1.ownsRow w.heap.size 5 1 (.slice (some ⟨g, 0, none⟩) 0 cp) 0 [] ∧ Below w.heap.size w w1) := ⟨hown, hbel⟩; clear hown hbel)
      go_loopw [6, 8, 27] (fun v _ i wr => Below w.heap.size w wr ∧ v ≠ .slice none 0 0 ∧ ((i = .int .i64 0 ∧ wr.ownsRow w.heap.size 5 1 v 0 []) ∨ (i = .int .i64 1 ∧ wr.ownsRow w.heap.size 5 1 v l0 (cellsOf z0 l0)) ∨ (i = .int .i64 2 ∧ wr.ownsRow w.heap.size 5 1 v (l0 + l1) (cellsOf z0 l0 ++ cellsOf z1 l1)))) (fun _ _ i _ => 2 - (intOf i).toNat)
      case atStart => exact ⟨O1.out.2, by simp, .inl ⟨rfl, O1.out.1⟩⟩
      case round =>
        obtain ⟨hbel, hnn, hrel⟩ := hrel
        obtain ⟨d0, d1, m0, m1⟩ := HC.out wr hbel
        have HB : Hid (Below w.heap.size w wr) := hbel
        have HNN : Hid (u6 ≠ .slice none 0 0) := hnn
        have M0 : Hid (Came wr a0 l0 k0 z0) := m0
        have M1 : Hid (Came wr (some ad) l1 k1 z1) := m1
        clear hbel hnn m0 m1
        rcases hrel with ⟨rfl, ho⟩ | ⟨rfl, ho⟩ | ⟨rfl, ho⟩
        · have HO : Hid (wr.ownsRow w.heap.size 5 1 u6 0 []) := ho
          clear ho
          cases a0 with
          | none =>
            obtain ⟨rfl, rfl⟩ := hnil rfl
            go_wp2_with (at_builtin; refine wpList_append_own_none rfl (.tmp 31) (.tmp 32) 22 rfl w.heap.size 5 i0 1 Tryz.underlying22 hi _ 0 [] rfl HO.out rfl ?_)
            go_roundw
            case rel => first | exact ⟨HB.out, HNN.out, .inr (.inl ⟨rfl, HO.out⟩)⟩ | exact ⟨_, _, _, ⟨HB.out, HNN.out, .inr (.inl ⟨rfl, HO.out⟩)⟩, rfl, rfl, rfl⟩
            case measure => simp [intOf]
          | some a0 =>
            go_wp2_with (at_builtin; refine wpList_append_own _ rfl (.tmp 31) (.tmp 32) 22 rfl w.heap.size 5 i0 (.int .u8 0) 1 1 Tryz.underlying22 hi hz0 hz1 hz2 rfl (by decide) _ _ _ rfl HO.out a0 l0 k0 (cellsOf z0 l0) rfl ?c0 ?c1 ?c2 ?c3 ?c4 ?c5 ?_)
            case c0 => simp [cellsOf]
            case c1 =>
              intro j u hj
              obtain ⟨q1, rfl⟩ := cellsOf_get z0 l0 j u hj
              obtain ⟨_, _, ⟨h, _⟩ | ⟨ad', h, hc⟩⟩ := M0.out
              · cases h
              · obtain rfl := Option.some.inj h
                exact hc j q1
            case c2 => exact fun u hu => cellsOf_one z0 l0 u hu
            case c3 => unfold maxLen; omega
            case c4 => omega
            case c5 => exact HB.out.size
            intro v2 w2 hown2 hgrow2 hnil2
            have hb2 := HB.out.grown hgrow2 HB.out.size (fun q hq => (HO.out.lt q hq).1)
            have HS : Hid (Below w.heap.size w w2 ∧ v2 ≠ .slice none 0 0 ∧ w2.ownsRow w.heap.size 5 1 v2 l0 (cellsOf z0 l0)) := ⟨hb2, fun h => HNN.out (hnil2.1 h).1, by simpa using hown2⟩
            clear hown2 hgrow2 hnil2 hb2
            go_wp2
            go_roundw
            case rel => exact ⟨HS.out.1, HS.out.2.1, .inr (.inl ⟨rfl, HS.out.2.2⟩)⟩
            case measure => simp [intOf]
        · have HO : Hid (wr.ownsRow w.heap.size 5 1 u6 l0 (cellsOf z0 l0)) := ho
          clear ho
          go_wp2_with (at_builtin; refine wpList_append_own _ rfl (.tmp 31) (.tmp 32) 22 rfl w.heap.size 5 i0 (.int .u8 0) 1 1 Tryz.underlying22 hi hz0 hz1 hz2 rfl (by decide) _ _ _ rfl HO.out ad l1 k1 (cellsOf z1 l1) rfl ?e0 ?e1 ?e2 ?e3 ?e4 ?e5 ?_)
          case e0 => simp [cellsOf]
          case e1 =>
            intro j u hj
            obtain ⟨q1, rfl⟩ := cellsOf_get z1 l1 j u hj
            obtain ⟨_, _, ⟨h, _⟩ | ⟨ad', h, hc⟩⟩ := M1.out
            · cases h
            · obtain rfl := Option.some.inj h
              exact hc j q1
          case e2 => exact fun u hu => cellsOf_one z1 l1 u hu
          case e3 => unfold maxLen; omega
          case e4 => omega
          case e5 => exact HB.out.size
          intro v2 w2 hown2 hgrow2 hnil2
          have hb2 := HB.out.grown hgrow2 HB.out.size (fun q hq => (HO.out.lt q hq).1)
          have HS : Hid (Below w.heap.size w w2 ∧ v2 ≠ .slice none 0 0 ∧ w2.ownsRow w.heap.size 5 1 v2 (l0 + l1) (cellsOf z0 l0 ++ cellsOf z1 l1)) := ⟨hb2, fun h => HNN.out (hnil2.1 h).1, hown2⟩
          clear hown2 hgrow2 hnil2 hb2
          go_wp2
          go_roundw
          case rel => exact ⟨HS.out.1, HS.out.2.1, .inr (.inr ⟨rfl, HS.out.2.2⟩)⟩
          case measure => simp [intOf]
        · have hex : ∃ g cp, u6 = .slice (some ⟨g, 0, none⟩) (l0 + l1) cp := by
            obtain ⟨_, h | ⟨g, cp, cur, hv, _⟩⟩ := ho
            · exact absurd h.1 HNN.out
            · exact ⟨g, cp, hv⟩
          obtain ⟨g, cp, rfl⟩ := hex
          have HO : Hid (wr.ownsRow w.heap.size 5 1 (.slice (some ⟨g, 0, none⟩) (l0 + l1) cp) (l0 + l1) (cellsOf z0 l0 ++ cellsOf z1 l1)) := ho
          clear ho
          go_wp2
          go_ret
          exact ⟨g, cp, rfl, HO.out, HB.out⟩
end Go.Proofs.YtibihbclijpkjaaGreatDoor
