import Derived.Test.YtkjeneklkdekoaaGreatDoorCv
import Derived.Lib.AppendZeros
import Derived.Laws.AppendOwnNone
namespace Go.Proofs.YtkjeneklkdekoaaGreatDoor
open Go Go.RowKit
set_option linter.unusedSimpArgs false
set_option linter.unusedVariables false

theorem Tryz.info5 : (Tryz.prog.info? 5).map (fun i => (i.zero, i.size, i.bytes)) = some (some (.int .u8 0), 1, 1) := by kernel_rfl

set_option maxRecDepth 100000 in
set_option maxHeartbeats 1000000 in
theorem grow_any (n : Nat) (h1 : 1 ≤ n) (h2 : n ≤ 1000000) (w : World) :
    Calls Tryz.prog 133 #[.slice none 0 0, .int .i64 n] w fun e w' => ∃ g cp, e = .returned (.slice (some ⟨g, 0, none⟩) 0 cp) ∧ w'.ownsRow w.heap.size 5 1 (.slice (some ⟨g, 0, none⟩) 0 cp) 0 [] ∧ Below w.heap.size w w' := by
  obtain ⟨i0, hi, hz0, hz1, hz2⟩ := info_parts Tryz.info5
  have hr : ∀ ty, (Builtin.append_ #[22, 3] ty #[.slice none 0 0, .int .i64 n]).run Tryz.prog w = _ := fun ty => Lib.run_append_nil_zeros w 22 3 ty 5 i0 (.int .u8 0) .i64 .i64 Tryz.underlying22 Tryz.underlying3 hi hz0 n (by omega) (by omega) (by omega) (by rw [hz2]; omega)
  have hn0 : ¬ (n : Int) < 0 := by omega
  have hn1 : (0 : Int) < n := by omega
  go_enter Tryz.func133, Tryz.ntmps133
  go_wp2_with (at_builtin; refine Lib.wpList_append_run _ rfl (.tmp 20) (.tmp 21) 22 3 rfl _ _ rfl rfl _ _ (hr _) ?_)
  go_ret
  have hge := grownCap_ge w n 0 5
  have hcm : grownCap w n 0 5 ≤ maxLen := grownCap_le_maxLen w n 0 5 (by unfold maxLen; omega)
  refine ⟨_, _, rfl, World.ownsRow.drew (World.ownsRow_made w _ _ (Nat.le_refl _) hcm ?_), ((Below.refl _ _).alloc (Nat.le_refl _) _).drew⟩
  simp only [Array.size_append, size_zeroCells]
  simp
  omega

theorem cellsOf_zero (z : Nat → Int) : cellsOf z 0 = [] := rfl

set_option maxRecDepth 100000 in
set_option maxHeartbeats 2000000 in
theorem concat_any (lb : Nat) (a0 : Option Addr) (ad : Addr) (l0 k0 l1 k1 : Nat) (z0 z1 : Nat → Int) (w : World) (c0 : w.cell? ⟨lb, 0, none⟩ = some (.slice a0 l0 k0)) (c1 : w.cell? ⟨lb, 1, none⟩ = some (.slice (some ad) l1 k1))
    (h0 : Came w a0 l0 k0 z0) (h1 : Came w (some ad) l1 k1 z1) (hp : 1 ≤ l0 + l1) (hl0 : l0 ≤ 400000) (hl1 : l1 ≤ 400000) :
    Calls Tryz.prog 123 #[.slice (some ⟨lb, 0, none⟩) 2 2] w fun e w' => ∃ g cp, e = .returned (.slice (some ⟨g, 0, none⟩) (l0 + l1) cp) ∧ w'.ownsRow w.heap.size 5 1 (.slice (some ⟨g, 0, none⟩) (l0 + l1) cp) (l0 + l1) (cellsOf z0 l0 ++ cellsOf z1 l1) ∧ Below w.heap.size w w' := by
  obtain ⟨i0, hi, hz0, hz1, hz2⟩ := info_parts Tryz.info5
  have G0 : Hid (Calls Tryz.prog 133 #[.slice none 0 0, .int .i64 ((l0 : Int) + (l1 : Int))] w fun e w' => ∃ g cp, e = .returned (.slice (some ⟨g, 0, none⟩) 0 cp) ∧ w'.ownsRow w.heap.size 5 1 (.slice (some ⟨g, 0, none⟩) 0 cp) 0 [] ∧ Below w.heap.size w w') := by
    have h := grow_any (l0 + l1) hp (by omega) w
    rw [Int.natCast_add] at h
    exact h
  have HC : Hid (∀ w', Below w.heap.size w w' → w'.cell? ⟨lb, 0, none⟩ = some (.slice a0 l0 k0) ∧ w'.cell? ⟨lb, 1, none⟩ = some (.slice (some ad) l1 k1) ∧ Came w' a0 l0 k0 z0 ∧ Came w' (some ad) l1 k1 z1) := fun w' hb => ⟨cell_later hb c0, cell_later hb c1, came_below (B := 0) h0 hb, came_below (B := 0) h1 hb⟩
  have hnil : a0 = none → l0 = 0 ∧ k0 = 0 := by
    rintro rfl
    obtain ⟨_, _, ⟨_, h, h'⟩ | ⟨_, h, _⟩⟩ := h0
    · exact ⟨h, h'⟩
    · cases h
  clear h0 h1
  go_enter Tryz.func123, Tryz.ntmps123
  go_wp2
  go_loop [3, 5, 11] (fun s _ i => (i = .int .i64 0 ∧ s = .int .i64 0) ∨ (i = .int .i64 1 ∧ s = .int .i64 l0) ∨ (i = .int .i64 2 ∧ s = .int .i64 ((l0 : Int) + (l1 : Int)))) (fun _ _ i => 2 - (intOf i).toNat)
  case atStart => exact .inl ⟨rfl, rfl⟩
  case round =>
    rcases hrel with ⟨rfl, rfl⟩ | ⟨rfl, rfl⟩ | ⟨rfl, rfl⟩
    · go_wp2
      go_round
      case rel => exact .inr (.inl ⟨rfl, by first | rfl | go_num⟩)
      case measure => simp [intOf]
    · go_wp2
      go_round
      case rel => exact .inr (.inr ⟨rfl, by first | rfl | go_num⟩)
      case measure => simp [intOf]
    · clear c0 c1
      go_wp2_with (go_at_call 133; refine G0.out.mono ?_; rintro e w1 ⟨g, cp, rfl, hown, hbel⟩; have O1 : Hid (w1.ownsRow w.heap.size 5 1 (.slice (some ⟨g, 0, none⟩) 0 cp) 0 [] ∧ Below w.heap.size w w1) := ⟨hown, hbel⟩; clear hown hbel)
      go_loopw [6, 8, 27] (fun v _ i wr => Below w.heap.size w wr ∧ v ≠ .slice none 0 0 ∧ ((i = .int .i64 0 ∧ wr.ownsRow w.heap.size 5 1 v 0 []) ∨ (i = .int .i64 1 ∧ wr.ownsRow w.heap.size 5 1 v l0 (cellsOf z0 l0)) ∨ (i = .int .i64 2 ∧ wr.ownsRow w.heap.size 5 1 v (l0 + l1) (cellsOf z0 l0 ++ cellsOf z1 l1)))) (fun _ _ i _ => 2 - (intOf i).toNat)
      case atStart => exact ⟨O1.out.2, by simp, .inl ⟨rfl, O1.out.1⟩⟩
      case round =>
        obtain ⟨hbel, hnn, hrel⟩ := hrel
        obtain ⟨d0, d1, m0, m1⟩ := HC.out wr hbel
        have HB : Hid (Below w.heap.size w wr) := hbel
        have HNN : Hid (u6 ≠ .slice none 0 0) := hnn
        have M0 : Hid (Came wr a0 l0 k0 z0) := m0
        have M1 : Hid (Came wr (some ad) l1 k1 z1) := m1
        clear hbel hnn m0 m1
        rcases hrel with ⟨rfl, ho⟩ | ⟨rfl, ho⟩ | ⟨rfl, ho⟩
        · have HO : Hid (wr.ownsRow w.heap.size 5 1 u6 0 []) := ho
          clear ho
          cases a0 with
          | none =>
            obtain ⟨rfl, rfl⟩ := hnil rfl
            go_wp2_with (at_builtin; refine wpList_append_own_none rfl (.tmp 31) (.tmp 32) 22 rfl w.heap.size 5 i0 1 Tryz.underlying22 hi _ 0 [] rfl HO.out rfl ?_)
            go_roundw
            case rel => first | exact ⟨HB.out, HNN.out, .inr (.inl ⟨rfl, HO.out⟩)⟩ | exact ⟨_, _, _, ⟨HB.out, HNN.out, .inr (.inl ⟨rfl, HO.out⟩)⟩, rfl, rfl, rfl⟩
            case measure => simp [intOf]
          | some a0 =>
            go_wp2_with (at_builtin; refine wpList_append_own _ rfl (.tmp 31) (.tmp 32) 22 rfl w.heap.size 5 i0 (.int .u8 0) 1 1 Tryz.underlying22 hi hz0 hz1 hz2 rfl (by decide) _ _ _ rfl HO.out a0 l0 k0 (cellsOf z0 l0) rfl ?c0 ?c1 ?c2 ?c3 ?c4 ?c5 ?_)
            case c0 => simp [cellsOf]
            case c1 =>
              intro j u hj
              obtain ⟨q1, rfl⟩ := cellsOf_get z0 l0 j u hj
              obtain ⟨_, _, ⟨h, _⟩ | ⟨ad', h, hc⟩⟩ := M0.out
              · cases h
              · obtain rfl := Option.some.inj h
                exact hc j q1
            case c2 => exact fun u hu => cellsOf_one z0 l0 u hu
            case c3 => unfold maxLen; omega
            case c4 => omega
            case c5 => exact HB.out.size
            intro v2 w2 hown2 hgrow2 hnil2
            have hb2 := HB.out.grown hgrow2 HB.out.size (fun q hq => (HO.out.lt q hq).1)
            have HS : Hid (Below w.heap.size w w2 ∧ v2 ≠ .slice none 0 0 ∧ w2.ownsRow w.heap.size 5 1 v2 l0 (cellsOf z0 l0)) := ⟨hb2, fun h => HNN.out (hnil2.1 h).1, by simpa using hown2⟩
            clear hown2 hgrow2 hnil2 hb2
            go_wp2
            go_roundw
            case rel => exact ⟨HS.out.1, HS.out.2.1, .inr (.inl ⟨rfl, HS.out.2.2⟩)⟩
            case measure => simp [intOf]
        · have HO : Hid (wr.ownsRow w.heap.size 5 1 u6 l0 (cellsOf z0 l0)) := ho
          clear ho
          go_wp2_with (at_builtin; refine wpList_append_own _ rfl (.tmp 31) (.tmp 32) 22 rfl w.heap.size 5 i0 (.int .u8 0) 1 1 Tryz.underlying22 hi hz0 hz1 hz2 rfl (by decide) _ _ _ rfl HO.out ad l1 k1 (cellsOf z1 l1) rfl ?e0 ?e1 ?e2 ?e3 ?e4 ?e5 ?_)
          case e0 => simp [cellsOf]
          case e1 =>
            intro j u hj
            obtain ⟨q1, rfl⟩ := cellsOf_get z1 l1 j u hj
            obtain ⟨_, _, ⟨h, _⟩ | ⟨ad', h, hc⟩⟩ := M1.out
            · cases h
            · obtain rfl := Option.some.inj h
              exact hc j q1
          case e2 => exact fun u hu => cellsOf_one z1 l1 u hu
          case e3 => unfold maxLen; omega
          case e4 => omega
          case e5 => exact HB.out.size
          intro v2 w2 hown2 hgrow2 hnil2
          have hb2 := HB.out.grown hgrow2 HB.out.size (fun q hq => (HO.out.lt q hq).1)
          have HS : Hid (Below w.heap.size w w2 ∧ v2 ≠ .slice none 0 0 ∧ w2.ownsRow w.heap.size 5 1 v2 (l0 + l1) (cellsOf z0 l0 ++ cellsOf z1 l1)) := ⟨hb2, fun h => HNN.out (hnil2.1 h).1, hown2⟩
          clear hown2 hgrow2 hnil2 hb2
          go_wp2
          go_roundw
          case rel => exact ⟨HS.out.1, HS.out.2.1, .inr (.inr ⟨rfl, HS.out.2.2⟩)⟩
          case measure => simp [intOf]
        · have hex : ∃ g cp, u6 = .slice (some ⟨g, 0, none⟩) (l0 + l1) cp := by
            obtain ⟨_, h | ⟨g, cp, cur, hv, _⟩⟩ := ho
            · exact absurd h.1 HNN.out
            · exact ⟨g, cp, hv⟩
          obtain ⟨g, cp, rfl⟩ := hex
          have HO : Hid (wr.ownsRow w.heap.size 5 1 (.slice (some ⟨g, 0, none⟩) (l0 + l1) cp) (l0 + l1) (cellsOf z0 l0 ++ cellsOf z1 l1)) := ho
          clear ho
          go_wp2
          go_ret
          exact ⟨g, cp, rfl, HO.out, HB.out⟩
end Go.Proofs.YtkjeneklkdekoaaGreatDoor
