import Derived.Test.YtdhinpmjbcohaaaOd
import Derived.Lib.AppendZeros
namespace Go.Proofs.Ytdhinpmjbcohaaa
open Go Go.RowKit
set_option linter.unusedSimpArgs false
set_option linter.unusedVariables false
open Ki

set_option maxRecDepth 100000 in
set_option maxHeartbeats 8000000 in
theorem true_walk {a : Option Addr} {c : Nat} (n : Nat) (ops : List Op8) (most : Int) (w : World) (hn : n = ops.length) (hc : n ≤ c) (hS : ScR w a ops) (hok : ∀ p ∈ ops, okOp p) :
    Calls Try.prog 5 #[.int .i64 most, .slice a n c] w fun r w' => r = .returned (.bool true) ∧ Below w.heap.size w w' := by
  have HK0 : Hid (Calls Try.prog 13 #[] w fun r w' => r = .returned (.bool true) ∧ Below w.heap.size w w') := known_any w
  have HN : Hid (n = ops.length ∧ n ≤ c) := ⟨hn, hc⟩
  have HSC : Hid (∀ w', Below w.heap.size w w' → ScR w' a ops) := fun w' hb hne => by
    obtain ⟨g, o, h1, h2⟩ := hS hne
    exact ⟨g, o, h1, fun j p hp q u hu => cell_below hb (cell_lt' (h2 j p hp q u hu)) (h2 j p hp q u hu)⟩
  have HO : Hid (∀ p ∈ ops, okOp p) := hok
  have HNew : Hid (∀ w1 : World, Calls Try.prog 14 #[.int .i64 most] w1 fun r w' => r = .returned (pt w1.heap.size) ∧ Below w1.heap.size w1 w' ∧ CS w' w1.heap.size (rm most) [] (fun j => j = w1.heap.size)) := fun w1 => new_any most w1
  obtain ⟨x, hx⟩ : ∃ x : Int, max most 0 = x := ⟨_, rfl⟩
  have hy : min x 1048576 = (rm most : Int) := by rw [rm_eq, hx]
  have hmm := @run_makeMap Try.prog
  clear hn hc hS hok
  by_cases hlen : 600 < n
  · have hl : (600 : Int) < (n : Int) := by omega
    go_enter Try.func5, Try.ntmps5
    go_wp2_with fail
    go_must (go_at_call 13)
    refine (HK0.out).mono ?_
    rintro r w1 ⟨rfl, h1⟩
    have B1 : Hid (Below w.heap.size w w1) := h1
    clear h1
    go_wp2_with fail
    go_ret
    exact ⟨rfl, B1.out⟩
  · have hl : ¬ (600 : Int) < (n : Int) := by omega
    go_enter Try.func5, Try.ntmps5
    go_wp2_with fail
    go_must (go_at_call 13)
    refine (HK0.out).mono ?_
    rintro r w1 ⟨rfl, h1⟩
    have B1 : Hid (Below w.heap.size w w1) := h1
    clear h1
    go_wp2_with fail
    go_must (go_at_call 14)
    refine (HNew.out w1).mono ?_
    rintro r w2 ⟨rfl, h2, h3⟩
    have S2 : Hid (Below w1.heap.size w1 w2 ∧ CS w2 w1.heap.size (rm most) [] (fun j => j = w1.heap.size)) := ⟨h2, h3⟩
    clear h2 h3
    unfold pt
    go_wp2_with fail
    go_loopg [8, 9] n (fun gk s8 s9 wx => ∃ i : Nat, i + gk = n ∧ s9 = .int .i64 i ∧ Hid (∃ l lm U F, TS w wx w1.heap.size (rm most) w2.heap.size i s8 l lm U F ∧ Inv (rm most) l lm (U.map (·.1))))
    case atStart =>
      refine ⟨0, by omega, rfl, [], fun _ => none, [], fun j => j = w1.heap.size, ⟨?_, ?_, ?_, ?_, ?_, World.ownsRow_nil _ _ _ _, fun g hg => (by cases hg), (by simp), (by simp), ?_⟩, inv_start _⟩
      · exact CS.ch (S := fun _ => False) S2.out.2 (ch_alloc _ _ _) (fun _ _ q => q)
      · intro j hj
        rw [hj]
        exact B1.out.size
      · exact LM.made w2
      · exact Nat.le_trans B1.out.size S2.out.1.size
      · intro q
        have := S2.out.2.lt rfl
        omega
      · have c1 : Ch (fun j => w.heap.size ≤ j) w w1 := Below.ch B1.out
        exact (c1.then (Below.ch S2.out.1)).then (ch_alloc _ _ _)
    case round =>
      obtain ⟨i, hi, rfl, HH⟩ := hrel
      cases gk with
      | zero =>
        have hz : ¬ (i : Int) < (n : Int) := by omega
        have BB : Hid (Below w.heap.size w wr) := by
          obtain ⟨l, lm, U, F, hT, hI⟩ := HH.out
          exact ⟨hT.ch.os, hT.ch.tape, hT.ch.output, hT.ch.size, fun k hk => hT.ch.block k hk (by omega)⟩
        clear HH
        go_wp2_with fail
        go_ret
        exact ⟨rfl, BB.out⟩
      | succ gk =>
        have hz : (i : Int) < (n : Int) := by omega
        have hz0 : (0 : Int) ≤ (i : Int) := by omega
        obtain ⟨p, hp⟩ : ∃ p, ops[i]? = some p := ⟨_, List.getElem?_eq_getElem (by have := HN.out; omega)⟩
        have hne : ops ≠ [] := by intro h; rw [h] at hp; simp at hp
        obtain ⟨l, lm, U, F, hT, hI⟩ := HH.out
        have hBx : Below w.heap.size w wr := ⟨hT.ch.os, hT.ch.tape, hT.ch.output, hT.ch.size, fun k hk => hT.ch.block k hk (by omega)⟩
        obtain ⟨g, o, rfl, hcell⟩ := HSC.out wr hBx hne
        have d0 : wr.cell? ⟨g, o + i * 6, none⟩ = some (.int .i64 p.kind) := hcell i p hp 0 _ rfl
        have d1 := hcell i p hp 1 _ rfl
        have d2 := hcell i p hp 2 _ rfl
        have d3 := hcell i p hp 3 _ rfl
        have d4 := hcell i p hp 4 _ rfl
        have d5 := hcell i p hp 5 _ rfl
        have HP : Hid (ops[i]? = some p) := hp
        have HT : Hid (TS w wr w1.heap.size (rm most) w2.heap.size i u8 l lm U F ∧ Inv (rm most) l lm (U.map (·.1))) := ⟨hT, hI⟩
        clear hcell hne hp hT hI hBx HH
        obtain ⟨kind, sec, ⟨ka, ki⟩, v, st⟩ := p
        simp only at d0 d1 d2 d3 d4 d5
        have OK : Hid (okOp ⟨kind, sec, (ka, ki), v, st⟩) := HO.out _ (List.mem_of_getElem? HP.out)
        have hwi : IntKind.i64.wrap ((i : Int) + 1) = (i : Int) + 1 := by rw [IntKind.wrap_i64]; omega
        have hb52 : ∀ w', (Instr.build 52 #[(0, .agg #[.string ka, .int .i64 ki]), (1, .int .i64 i)]).run Try.prog w' = .ok (.agg #[.string ka, .int .i64 ki, .int .i64 i]) w' := fun w' => run_build w' 52 _ _ (by kernel_rfl)
        by_cases k2 : kind = 2
        · subst k2
          have T0 : Hid (TB w (wr.alloc (.cells #[.int .i64 2, .bool sec, .string ka, .int .i64 ki, .int .i64 v, .int .i64 st] 33)) w1.heap.size (rm most) w2.heap.size i u8 l lm U F wr.heap.size ⟨2, sec, (ka, ki), v, st⟩) := HT.out.1.box ⟨2, sec, (ka, ki), v, st⟩
          have a2 : (wr.alloc (.cells #[.int .i64 2, .bool sec, .string ka, .int .i64 ki, .int .i64 v, .int .i64 st] 33)).cell? ⟨wr.heap.size, 2, none⟩ = some (.string ka) := T0.out.cell.1
          have HC : Hid (Calls Try.prog 17 #[pt w1.heap.size, kc (ka, ki), vc v] (wr.alloc (.cells #[.int .i64 2, .bool sec, .string ka, .int .i64 ki, .int .i64 v, .int .i64 st] 33)) fun r w' => r = .returned (.tuple #[]) ∧ Aft (wr.alloc (.cells #[.int .i64 2, .bool sec, .string ka, .int .i64 ki, .int .i64 v, .int .i64 st] 33)) w1.heap.size (rm most) F ((ltop (ka, ki) v l).take (rm most)) w') := put_any T0.out.ts.cs OK.out.1 (rm_le most)
          unfold pt kc vc at HC
          go_wp2_with fail
          go_must (go_at_call 17)
          refine (HC.out).mono ?_
          rintro r w3 ⟨rfl, h3⟩
          obtain ⟨F3, hT3⟩ := T0.out.aft h3
          obtain ⟨w4, hrun, hL4, hC4⟩ := hT3.ts.lm_.put (k := (ka, ki)) OK.out.1 v (by unfold maxLen; omega)
          have T4 : Hid (TB w w4 w1.heap.size (rm most) w2.heap.size (i + 1) u8 ((ltop (ka, ki) v l).take (rm most)) (setF lm (ka, ki) (some v)) U F3 wr.heap.size ⟨2, sec, (ka, ki), v, st⟩) := hT3.laid hL4 (by omega) hC4
          have I4 : Hid (Inv (rm most) ((ltop (ka, ki) v l).take (rm most)) (setF lm (ka, ki) (some v)) (U.map (·.1) ++ [(ka, ki)])) := inv_put HT.out.2 (ka, ki) v
          have b2 : w3.cell? ⟨wr.heap.size, 2, none⟩ = some (.string ka) := hT3.cell.1
          have b3 : w3.cell? ⟨wr.heap.size, 3, none⟩ = some (.int .i64 ki) := hT3.cell.2.1
          have b4 : w3.cell? ⟨wr.heap.size, 4, none⟩ = some (.int .i64 v) := hT3.cell.2.2
          have e2 : w4.cell? ⟨wr.heap.size, 2, none⟩ = some (.string ka) := T4.out.cell.1
          have e3 : w4.cell? ⟨wr.heap.size, 3, none⟩ = some (.int .i64 ki) := T4.out.cell.2.1
          have e4 : w4.cell? ⟨wr.heap.size, 4, none⟩ = some (.int .i64 v) := T4.out.cell.2.2
          unfold kc at hrun
          clear h3 hT3 hL4 hC4
          obtain ⟨v9, w9, happ, hT9⟩ := T4.out.app (k := (ka, ki)) OK.out.1 (i : Int) (by have := HT.out.1.ul; omega) (by omega)
          have T9 : Hid (TB w w9 w1.heap.size (rm most) w2.heap.size (i + 1) v9 ((ltop (ka, ki) v l).take (rm most)) (setF lm (ka, ki) (some v)) (U ++ [((ka, ki), (i : Int))]) _ wr.heap.size _) := hT9
          have I9 : Hid (Inv (rm most) ((ltop (ka, ki) v l).take (rm most)) (setF lm (ka, ki) (some v)) ((U ++ [((ka, ki), (i : Int))]).map (·.1))) := by
            show Inv _ _ _ _
            rw [List.map_append]
            exact I4.out
          have HA : Hid ((Builtin.append_ #[47, 47] 47 #[u8, .slice (some ⟨w4.heap.size, 0, none⟩) 1 1]).run Try.prog (w4.alloc (.cells #[.string ka, .int .i64 ki, .int .i64 i] 52)) = .ok v9 w9) := happ
          clear hT9 happ
          go_wp2_with (at_builtin; refine Lib.wpList_append_run _ rfl (.tmp 114) (.tmp 119) 47 47 rfl _ _ rfl rfl v9 w9 HA.out ?_)
          obtain ⟨mm, hm1, hm2⟩ := T9.out.lens
          have HL : Hid (Calls Try.prog 20 #[pt w1.heap.size] _ fun r w' => r = .returned (.int .i64 mm) ∧ w' = _) := hm2
          have hm3 : ¬ ((rm most : Nat) : Int) < (mm : Int) := by omega
          have hm4 : ¬ (mm : Int) < 0 := by omega
          unfold pt at HL
          clear hm1 hm2
          go_wp2_with (fail)
          go_must (go_at_call 20)
          refine (HL.out).mono ?_
          rintro r w' ⟨rfl, he⟩
          obtain rfl := he.symm
          clear he
          go_wp2_with fail
          go_must (go_at_call 20)
          refine (HL.out).mono ?_
          rintro r w' ⟨rfl, he⟩
          obtain rfl := he.symm
          clear he
          go_wp2_with fail
          go_roundg gk
          case measure => omega
          case rel => exact ⟨i + 1, by omega, by first | rfl | simp, ⟨_, _, _, _, T9.out.ts, I9.out⟩⟩
        · by_cases k1 : kind = 1
          · subst k1
            have T0 : Hid (TB w (wr.alloc (.cells #[.int .i64 1, .bool sec, .string ka, .int .i64 ki, .int .i64 v, .int .i64 st] 33)) w1.heap.size (rm most) w2.heap.size i u8 l lm U F wr.heap.size ⟨1, sec, (ka, ki), v, st⟩) := HT.out.1.box ⟨1, sec, (ka, ki), v, st⟩
            have a2 : (wr.alloc (.cells #[.int .i64 1, .bool sec, .string ka, .int .i64 ki, .int .i64 v, .int .i64 st] 33)).cell? ⟨wr.heap.size, 2, none⟩ = some (.string ka) := T0.out.cell.1
            have HC : Hid (Calls Try.prog 15 #[pt w1.heap.size, kc (ka, ki)] (wr.alloc (.cells #[.int .i64 1, .bool sec, .string ka, .int .i64 ki, .int .i64 v, .int .i64 st] 33)) fun r w' => r = .returned (.tuple #[vc ((lget l (ka, ki)).getD 0), .bool (lget l (ka, ki)).isSome]) ∧ Aft (wr.alloc (.cells #[.int .i64 1, .bool sec, .string ka, .int .i64 ki, .int .i64 v, .int .i64 st] 33)) w1.heap.size (rm most) F (lused l (ka, ki)) w') := get_any T0.out.ts.cs OK.out.1
            cases hg : lget l (ka, ki) with
            | some u =>
              have hlm : lm (ka, ki) = some u := HT.out.2.i1 _ (lget_some hg)
              have hus : lused l (ka, ki) = ltop (ka, ki) u l := by simp [lused, hg]
              rw [hg, hus] at HC
              simp only [Option.getD_some, Option.isSome_some] at HC
              have I4 : Hid (Inv (rm most) (ltop (ka, ki) u l) lm (U.map (·.1) ++ [(ka, ki)])) := inv_hit HT.out.2 hg
              unfold pt kc vc at HC
              clear hg hus
              go_wp2_with fail
              go_must (go_at_call 15)
              refine (HC.out).mono ?_
              rintro r w3 ⟨rfl, h3⟩
              obtain ⟨F3, hT3⟩ := T0.out.aft h3
              have hlk := hT3.ts.lm_.look (k := (ka, ki)) OK.out.1
              rw [hlm] at hlk
              simp only [Option.getD_some, Option.isSome_some] at hlk
              have T4 : Hid (TB w w3 w1.heap.size (rm most) w2.heap.size (i + 1) u8 (ltop (ka, ki) u l) lm U F3 wr.heap.size ⟨1, sec, (ka, ki), v, st⟩) := hT3.more (by omega)
              have b2 : w3.cell? ⟨wr.heap.size, 2, none⟩ = some (.string ka) := hT3.cell.1
              have b3 : w3.cell? ⟨wr.heap.size, 3, none⟩ = some (.int .i64 ki) := hT3.cell.2.1
              have b4 : w3.cell? ⟨wr.heap.size, 4, none⟩ = some (.int .i64 v) := hT3.cell.2.2
              unfold kc at hlk
              clear h3 hT3 hlm
              obtain ⟨v9, w9, happ, hT9⟩ := T4.out.app (k := (ka, ki)) OK.out.1 (i : Int) (by have := HT.out.1.ul; omega) (by omega)
              have T9 : Hid (TB w w9 w1.heap.size (rm most) w2.heap.size (i + 1) v9 (ltop (ka, ki) u l) lm (U ++ [((ka, ki), (i : Int))]) _ wr.heap.size _) := hT9
              have I9 : Hid (Inv (rm most) (ltop (ka, ki) u l) lm ((U ++ [((ka, ki), (i : Int))]).map (·.1))) := by
                show Inv _ _ _ _
                rw [List.map_append]
                exact I4.out
              have HA : Hid ((Builtin.append_ #[47, 47] 47 #[u8, .slice (some ⟨w3.heap.size, 0, none⟩) 1 1]).run Try.prog (w3.alloc (.cells #[.string ka, .int .i64 ki, .int .i64 i] 52)) = .ok v9 w9) := happ
              clear hT9 happ
              go_wp2_with (at_builtin; refine Lib.wpList_append_run _ rfl (.tmp 91) (.tmp 96) 47 47 rfl _ _ rfl rfl v9 w9 HA.out ?_)
              obtain ⟨mm, hm1, hm2⟩ := T9.out.lens
              have HL : Hid (Calls Try.prog 20 #[pt w1.heap.size] _ fun r w' => r = .returned (.int .i64 mm) ∧ w' = _) := hm2
              have hm3 : ¬ ((rm most : Nat) : Int) < (mm : Int) := by omega
              have hm4 : ¬ (mm : Int) < 0 := by omega
              unfold pt at HL
              clear hm1 hm2
              go_wp2_with (fail)
              go_must (go_at_call 20)
              refine (HL.out).mono ?_
              rintro r w' ⟨rfl, he⟩
              obtain rfl := he.symm
              clear he
              go_wp2_with fail
              go_must (go_at_call 20)
              refine (HL.out).mono ?_
              rintro r w' ⟨rfl, he⟩
              obtain rfl := he.symm
              clear he
              go_wp2_with fail
              go_roundg gk
              case measure => omega
              case rel => exact ⟨i + 1, by omega, by first | rfl | simp, ⟨_, _, _, _, T9.out.ts, I9.out⟩⟩
            | none =>
              cases hlm : lm (ka, ki) with
              | none =>
                have hus : lused l (ka, ki) = l := by simp [lused, hg]
                rw [hg, hus] at HC
                simp only [Option.getD_none, Option.isSome_none] at HC
                have I4 : Hid (Inv (rm most) l (setF lm (ka, ki) none) (U.map (·.1))) := inv_miss HT.out.2 hg
                unfold pt kc vc at HC
                clear hg hus
                go_wp2_with fail
                go_must (go_at_call 15)
                refine (HC.out).mono ?_
                rintro r w3 ⟨rfl, h3⟩
                obtain ⟨F3, hT3⟩ := T0.out.aft h3
                have hlk := hT3.ts.lm_.look (k := (ka, ki)) OK.out.1
                rw [hlm] at hlk
                simp only [Option.getD_some, Option.isSome_some, Option.getD_none, Option.isSome_none] at hlk
                have b2 : w3.cell? ⟨wr.heap.size, 2, none⟩ = some (.string ka) := hT3.cell.1
                have b3 : w3.cell? ⟨wr.heap.size, 3, none⟩ = some (.int .i64 ki) := hT3.cell.2.1
                have b4 : w3.cell? ⟨wr.heap.size, 4, none⟩ = some (.int .i64 v) := hT3.cell.2.2
                obtain ⟨w4, hrun, hL4, hC4⟩ := hT3.ts.lm_.del (k := (ka, ki)) OK.out.1 0
                have T4 : Hid (TB w w4 w1.heap.size (rm most) w2.heap.size (i + 1) u8 l (setF lm (ka, ki) none) U F3 wr.heap.size ⟨1, sec, (ka, ki), v, st⟩) := (hT3.laid hL4 (Nat.le_refl _) hC4).more (by omega)
                unfold kc at hrun hlk
                clear h3 hT3 hlm hL4 hC4
                obtain ⟨mm, hm1, hm2⟩ := T4.out.lens
                have HL : Hid (Calls Try.prog 20 #[pt w1.heap.size] _ fun r w' => r = .returned (.int .i64 mm) ∧ w' = _) := hm2
                have hm3 : ¬ ((rm most : Nat) : Int) < (mm : Int) := by omega
                have hm4 : ¬ (mm : Int) < 0 := by omega
                unfold pt at HL
                clear hm1 hm2
                go_wp2_with (fail)
                go_must (go_at_call 20)
                refine (HL.out).mono ?_
                rintro r w' ⟨rfl, he⟩
                obtain rfl := he.symm
                clear he
                go_wp2_with fail
                go_must (go_at_call 20)
                refine (HL.out).mono ?_
                rintro r w' ⟨rfl, he⟩
                obtain rfl := he.symm
                clear he
                go_wp2_with fail
                go_roundg gk
                case measure => omega
                case rel => exact ⟨i + 1, by omega, by first | rfl | simp, ⟨_, _, _, _, T4.out.ts, I4.out⟩⟩
              | some u =>
                have hus : lused l (ka, ki) = l := by simp [lused, hg]
                rw [hg, hus] at HC
                simp only [Option.getD_none, Option.isSome_none] at HC
                have I4 : Hid (Inv (rm most) l (setF lm (ka, ki) none) (U.map (·.1))) := inv_miss HT.out.2 hg
                have HI2 : Hid (∀ s, Since (U.map (·.1)) (ka, ki) s → (rm most) ≤ dc s) := HT.out.2.i2 (ka, ki) (by rw [hlm]; rfl) (lget_none hg)
                obtain ⟨ua, ucap, hu8, hu1, hu2⟩ := HT.out.1.read
                unfold pt kc vc at HC
                clear hg hus
                subst hu8
                go_wp2_with fail
                go_must (go_at_call 15)
                refine (HC.out).mono ?_
                rintro r w3 ⟨rfl, h3⟩
                obtain ⟨F3, hT3⟩ := T0.out.aft h3
                have hlk := hT3.ts.lm_.look (k := (ka, ki)) OK.out.1
                rw [hlm] at hlk
                simp only [Option.getD_some, Option.isSome_some, Option.getD_none, Option.isSome_none] at hlk
                have b2 : w3.cell? ⟨wr.heap.size, 2, none⟩ = some (.string ka) := hT3.cell.1
                have b3 : w3.cell? ⟨wr.heap.size, 3, none⟩ = some (.int .i64 ki) := hT3.cell.2.1
                have b4 : w3.cell? ⟨wr.heap.size, 4, none⟩ = some (.int .i64 v) := hT3.cell.2.2
                obtain ⟨va, vcap, hv8, hv1, hv2⟩ := hT3.ts.read
                cases hv8
                have HOt : Hid (Calls Try.prog 16 #[.slice ua U.length ucap, kc (ka, ki)] w3 fun r w' => (∃ s, r = .returned (.int .i64 (dc s : Nat)) ∧ Since (U.map (·.1)) (ka, ki) s) ∧ Below w3.heap.size w3 w') := others_any U.length U (ka, ki) w3 rfl (by have := HT.out.1.ul; omega) hv1 hv2 OK.out.1 hT3.ts.uok
                have T3 : Hid (TB w w3 w1.heap.size (rm most) w2.heap.size i (.slice ua U.length ucap) l lm U F3 wr.heap.size ⟨1, sec, (ka, ki), v, st⟩) := hT3
                unfold kc at hlk HOt
                clear h3 hT3 hlm hv1 hv2 hu1 hu2
                go_wp2_with fail
                go_must (go_at_call 16)
                refine (HOt.out).mono ?_
                rintro r w5 ⟨⟨s9, rfl, hs9⟩, hb5⟩
                have hd9 := HI2.out s9 hs9
                obtain ⟨dd, hdd⟩ : ∃ dd, dd = dc s9 := ⟨_, rfl⟩
                rw [← hdd] at hd9 ⊢
                clear hdd
                have hd8 : ¬ (dd : Int) < ((rm most : Nat) : Int) := by omega
                have T5 : Hid (TB w w5 w1.heap.size (rm most) w2.heap.size i (.slice ua U.length ucap) l lm U F3 wr.heap.size ⟨1, sec, (ka, ki), v, st⟩) := T3.out.below hb5
                obtain ⟨w4, hrun, hL4, hC4⟩ := T5.out.ts.lm_.del (k := (ka, ki)) OK.out.1 0
                have T4 : Hid (TB w w4 w1.heap.size (rm most) w2.heap.size (i + 1) (.slice ua U.length ucap) l (setF lm (ka, ki) none) U F3 wr.heap.size ⟨1, sec, (ka, ki), v, st⟩) := (T5.out.laid hL4 (Nat.le_refl _) hC4).more (by omega)
                have f2 : w5.cell? ⟨wr.heap.size, 2, none⟩ = some (.string ka) := T5.out.cell.1
                have f3 : w5.cell? ⟨wr.heap.size, 3, none⟩ = some (.int .i64 ki) := T5.out.cell.2.1
                have f4 : w5.cell? ⟨wr.heap.size, 4, none⟩ = some (.int .i64 v) := T5.out.cell.2.2
                unfold kc at hrun
                clear hs9 hb5 hd9 hL4 hC4
                obtain ⟨mm, hm1, hm2⟩ := T4.out.lens
                have HL : Hid (Calls Try.prog 20 #[pt w1.heap.size] _ fun r w' => r = .returned (.int .i64 mm) ∧ w' = _) := hm2
                have hm3 : ¬ ((rm most : Nat) : Int) < (mm : Int) := by omega
                have hm4 : ¬ (mm : Int) < 0 := by omega
                unfold pt at HL
                clear hm1 hm2
                go_wp2_with (fail)
                go_must (go_at_call 20)
                refine (HL.out).mono ?_
                rintro r w' ⟨rfl, he⟩
                obtain rfl := he.symm
                clear he
                go_wp2_with fail
                go_must (go_at_call 20)
                refine (HL.out).mono ?_
                rintro r w' ⟨rfl, he⟩
                obtain rfl := he.symm
                clear he
                go_wp2_with fail
                go_roundg gk
                case measure => omega
                case rel => exact ⟨i + 1, by omega, by first | rfl | simp, ⟨_, _, _, _, T4.out.ts, I4.out⟩⟩
          · by_cases k3 : kind = 3
            · subst k3
              have T0 : Hid (TB w (wr.alloc (.cells #[.int .i64 3, .bool sec, .string ka, .int .i64 ki, .int .i64 v, .int .i64 st] 33)) w1.heap.size (rm most) w2.heap.size i u8 l lm U F wr.heap.size ⟨3, sec, (ka, ki), v, st⟩) := HT.out.1.box ⟨3, sec, (ka, ki), v, st⟩
              have a2 : (wr.alloc (.cells #[.int .i64 3, .bool sec, .string ka, .int .i64 ki, .int .i64 v, .int .i64 st] 33)).cell? ⟨wr.heap.size, 2, none⟩ = some (.string ka) := T0.out.cell.1
              have HC : Hid (Calls Try.prog 18 #[pt w1.heap.size, kc (ka, ki)] (wr.alloc (.cells #[.int .i64 3, .bool sec, .string ka, .int .i64 ki, .int .i64 v, .int .i64 st] 33)) fun r w' => r = .returned (.bool (lget l (ka, ki)).isSome) ∧ Aft (wr.alloc (.cells #[.int .i64 3, .bool sec, .string ka, .int .i64 ki, .int .i64 v, .int .i64 st] 33)) w1.heap.size (rm most) F (lout l (ka, ki)) w') := drop_any T0.out.ts.cs OK.out.1
              cases hg : lget l (ka, ki) with
              | some u =>
                have hlm : lm (ka, ki) = some u := HT.out.2.i1 _ (lget_some hg)
                rw [hg] at HC
                simp only [Option.isSome_some] at HC
                have I4 : Hid (Inv (rm most) (lout l (ka, ki)) (setF lm (ka, ki) none) (U.map (·.1))) := inv_drop HT.out.2 (ka, ki)
                unfold pt kc at HC
                clear hg
                go_wp2_with fail
                go_must (go_at_call 18)
                refine (HC.out).mono ?_
                rintro r w3 ⟨rfl, h3⟩
                obtain ⟨F3, hT3⟩ := T0.out.aft h3
                have hlk := hT3.ts.lm_.look (k := (ka, ki)) OK.out.1
                rw [hlm] at hlk
                simp only [Option.getD_some, Option.isSome_some] at hlk
                obtain ⟨w4, hrun, hL4, hC4⟩ := hT3.ts.lm_.del (k := (ka, ki)) OK.out.1 0
                have T4 : Hid (TB w w4 w1.heap.size (rm most) w2.heap.size (i + 1) u8 (lout l (ka, ki)) (setF lm (ka, ki) none) U F3 wr.heap.size ⟨3, sec, (ka, ki), v, st⟩) := (hT3.laid hL4 (Nat.le_refl _) hC4).more (by omega)
                have b2 : w3.cell? ⟨wr.heap.size, 2, none⟩ = some (.string ka) := hT3.cell.1
                have b3 : w3.cell? ⟨wr.heap.size, 3, none⟩ = some (.int .i64 ki) := hT3.cell.2.1
                have b4 : w3.cell? ⟨wr.heap.size, 4, none⟩ = some (.int .i64 v) := hT3.cell.2.2
                unfold kc at hlk hrun
                clear h3 hT3 hlm hL4 hC4
                obtain ⟨mm, hm1, hm2⟩ := T4.out.lens
                have HL : Hid (Calls Try.prog 20 #[pt w1.heap.size] _ fun r w' => r = .returned (.int .i64 mm) ∧ w' = _) := hm2
                have hm3 : ¬ ((rm most : Nat) : Int) < (mm : Int) := by omega
                have hm4 : ¬ (mm : Int) < 0 := by omega
                unfold pt at HL
                clear hm1 hm2
                go_wp2_with (fail)
                go_must (go_at_call 20)
                refine (HL.out).mono ?_
                rintro r w' ⟨rfl, he⟩
                obtain rfl := he.symm
                clear he
                go_wp2_with fail
                go_must (go_at_call 20)
                refine (HL.out).mono ?_
                rintro r w' ⟨rfl, he⟩
                obtain rfl := he.symm
                clear he
                go_wp2_with fail
                go_roundg gk
                case measure => omega
                case rel => exact ⟨i + 1, by omega, by first | rfl | simp, ⟨_, _, _, _, T4.out.ts, I4.out⟩⟩
              | none =>
                cases hlm : lm (ka, ki) with
                | none =>
                  have hus : lout l (ka, ki) = l := lout_not (lget_none hg)
                  rw [hg, hus] at HC
                  simp only [Option.getD_none, Option.isSome_none] at HC
                  have I4 : Hid (Inv (rm most) l (setF lm (ka, ki) none) (U.map (·.1))) := inv_miss HT.out.2 hg
                  unfold pt kc at HC
                  clear hg hus
                  go_wp2_with fail
                  go_must (go_at_call 18)
                  refine (HC.out).mono ?_
                  rintro r w3 ⟨rfl, h3⟩
                  obtain ⟨F3, hT3⟩ := T0.out.aft h3
                  have hlk := hT3.ts.lm_.look (k := (ka, ki)) OK.out.1
                  rw [hlm] at hlk
                  simp only [Option.getD_some, Option.isSome_some, Option.getD_none, Option.isSome_none] at hlk
                  have b2 : w3.cell? ⟨wr.heap.size, 2, none⟩ = some (.string ka) := hT3.cell.1
                  have b3 : w3.cell? ⟨wr.heap.size, 3, none⟩ = some (.int .i64 ki) := hT3.cell.2.1
                  have b4 : w3.cell? ⟨wr.heap.size, 4, none⟩ = some (.int .i64 v) := hT3.cell.2.2
                  obtain ⟨w4, hrun, hL4, hC4⟩ := hT3.ts.lm_.del (k := (ka, ki)) OK.out.1 0
                  have T4 : Hid (TB w w4 w1.heap.size (rm most) w2.heap.size (i + 1) u8 l (setF lm (ka, ki) none) U F3 wr.heap.size ⟨3, sec, (ka, ki), v, st⟩) := (hT3.laid hL4 (Nat.le_refl _) hC4).more (by omega)
                  unfold kc at hrun hlk
                  clear h3 hT3 hlm hL4 hC4
                  obtain ⟨mm, hm1, hm2⟩ := T4.out.lens
                  have HL : Hid (Calls Try.prog 20 #[pt w1.heap.size] _ fun r w' => r = .returned (.int .i64 mm) ∧ w' = _) := hm2
                  have hm3 : ¬ ((rm most : Nat) : Int) < (mm : Int) := by omega
                  have hm4 : ¬ (mm : Int) < 0 := by omega
                  unfold pt at HL
                  clear hm1 hm2
                  go_wp2_with (fail)
                  go_must (go_at_call 20)
                  refine (HL.out).mono ?_
                  rintro r w' ⟨rfl, he⟩
                  obtain rfl := he.symm
                  clear he
                  go_wp2_with fail
                  go_must (go_at_call 20)
                  refine (HL.out).mono ?_
                  rintro r w' ⟨rfl, he⟩
                  obtain rfl := he.symm
                  clear he
                  go_wp2_with fail
                  go_roundg gk
                  case measure => omega
                  case rel => exact ⟨i + 1, by omega, by first | rfl | simp, ⟨_, _, _, _, T4.out.ts, I4.out⟩⟩
                | some u =>
                  have hus : lout l (ka, ki) = l := lout_not (lget_none hg)
                  rw [hg, hus] at HC
                  simp only [Option.getD_none, Option.isSome_none] at HC
                  have I4 : Hid (Inv (rm most) l (setF lm (ka, ki) none) (U.map (·.1))) := inv_miss HT.out.2 hg
                  have HI2 : Hid (∀ s, Since (U.map (·.1)) (ka, ki) s → (rm most) ≤ dc s) := HT.out.2.i2 (ka, ki) (by rw [hlm]; rfl) (lget_none hg)
                  obtain ⟨ua, ucap, hu8, hu1, hu2⟩ := HT.out.1.read
                  unfold pt kc at HC
                  clear hg hus
                  subst hu8
                  go_wp2_with fail
                  go_must (go_at_call 18)
                  refine (HC.out).mono ?_
                  rintro r w3 ⟨rfl, h3⟩
                  obtain ⟨F3, hT3⟩ := T0.out.aft h3
                  have hlk := hT3.ts.lm_.look (k := (ka, ki)) OK.out.1
                  rw [hlm] at hlk
                  simp only [Option.getD_some, Option.isSome_some, Option.getD_none, Option.isSome_none] at hlk
                  have b2 : w3.cell? ⟨wr.heap.size, 2, none⟩ = some (.string ka) := hT3.cell.1
                  have b3 : w3.cell? ⟨wr.heap.size, 3, none⟩ = some (.int .i64 ki) := hT3.cell.2.1
                  have b4 : w3.cell? ⟨wr.heap.size, 4, none⟩ = some (.int .i64 v) := hT3.cell.2.2
                  obtain ⟨va, vcap, hv8, hv1, hv2⟩ := hT3.ts.read
                  cases hv8
                  have HOt : Hid (Calls Try.prog 16 #[.slice ua U.length ucap, kc (ka, ki)] w3 fun r w' => (∃ s, r = .returned (.int .i64 (dc s : Nat)) ∧ Since (U.map (·.1)) (ka, ki) s) ∧ Below w3.heap.size w3 w') := others_any U.length U (ka, ki) w3 rfl (by have := HT.out.1.ul; omega) hv1 hv2 OK.out.1 hT3.ts.uok
                  have T3 : Hid (TB w w3 w1.heap.size (rm most) w2.heap.size i (.slice ua U.length ucap) l lm U F3 wr.heap.size ⟨3, sec, (ka, ki), v, st⟩) := hT3
                  unfold kc at hlk HOt
                  clear h3 hT3 hlm hv1 hv2 hu1 hu2
                  go_wp2_with fail
                  go_must (go_at_call 16)
                  refine (HOt.out).mono ?_
                  rintro r w5 ⟨⟨s9, rfl, hs9⟩, hb5⟩
                  have hd9 := HI2.out s9 hs9
                  obtain ⟨dd, hdd⟩ : ∃ dd, dd = dc s9 := ⟨_, rfl⟩
                  rw [← hdd] at hd9 ⊢
                  clear hdd
                  have hd8 : ¬ (dd : Int) < ((rm most : Nat) : Int) := by omega
                  have T5 : Hid (TB w w5 w1.heap.size (rm most) w2.heap.size i (.slice ua U.length ucap) l lm U F3 wr.heap.size ⟨3, sec, (ka, ki), v, st⟩) := T3.out.below hb5
                  obtain ⟨w4, hrun, hL4, hC4⟩ := T5.out.ts.lm_.del (k := (ka, ki)) OK.out.1 0
                  have T4 : Hid (TB w w4 w1.heap.size (rm most) w2.heap.size (i + 1) (.slice ua U.length ucap) l (setF lm (ka, ki) none) U F3 wr.heap.size ⟨3, sec, (ka, ki), v, st⟩) := (T5.out.laid hL4 (Nat.le_refl _) hC4).more (by omega)
                  have f2 : w5.cell? ⟨wr.heap.size, 2, none⟩ = some (.string ka) := T5.out.cell.1
                  have f3 : w5.cell? ⟨wr.heap.size, 3, none⟩ = some (.int .i64 ki) := T5.out.cell.2.1
                  have f4 : w5.cell? ⟨wr.heap.size, 4, none⟩ = some (.int .i64 v) := T5.out.cell.2.2
                  unfold kc at hrun
                  clear hs9 hb5 hd9 hL4 hC4
                  obtain ⟨mm, hm1, hm2⟩ := T4.out.lens
                  have HL : Hid (Calls Try.prog 20 #[pt w1.heap.size] _ fun r w' => r = .returned (.int .i64 mm) ∧ w' = _) := hm2
                  have hm3 : ¬ ((rm most : Nat) : Int) < (mm : Int) := by omega
                  have hm4 : ¬ (mm : Int) < 0 := by omega
                  unfold pt at HL
                  clear hm1 hm2
                  go_wp2_with (fail)
                  go_must (go_at_call 20)
                  refine (HL.out).mono ?_
                  rintro r w' ⟨rfl, he⟩
                  obtain rfl := he.symm
                  clear he
                  go_wp2_with fail
                  go_must (go_at_call 20)
                  refine (HL.out).mono ?_
                  rintro r w' ⟨rfl, he⟩
                  obtain rfl := he.symm
                  clear he
                  go_wp2_with fail
                  go_roundg gk
                  case measure => omega
                  case rel => exact ⟨i + 1, by omega, by first | rfl | simp, ⟨_, _, _, _, T4.out.ts, I4.out⟩⟩
            · by_cases k4 : kind = 4
              · subst k4
                have T0 : Hid (TB w (wr.alloc (.cells #[.int .i64 4, .bool sec, .string ka, .int .i64 ki, .int .i64 v, .int .i64 st] 33)) w1.heap.size (rm most) w2.heap.size i u8 l lm U F wr.heap.size ⟨4, sec, (ka, ki), v, st⟩) := HT.out.1.box ⟨4, sec, (ka, ki), v, st⟩
                have a2 : (wr.alloc (.cells #[.int .i64 4, .bool sec, .string ka, .int .i64 ki, .int .i64 v, .int .i64 st] 33)).cell? ⟨wr.heap.size, 2, none⟩ = some (.string ka) := T0.out.cell.1
                have HC : Hid (Calls Try.prog 19 #[pt w1.heap.size] (wr.alloc (.cells #[.int .i64 4, .bool sec, .string ka, .int .i64 ki, .int .i64 v, .int .i64 st] 33)) fun r w' => r = .returned (.int .i64 l.length) ∧ Aft (wr.alloc (.cells #[.int .i64 4, .bool sec, .string ka, .int .i64 ki, .int .i64 v, .int .i64 st] 33)) w1.heap.size (rm most) F [] w') := clear_any T0.out.ts.cs
                unfold pt at HC
                go_wp2_with fail
                go_must (go_at_call 19)
                refine (HC.out).mono ?_
                rintro r w3 ⟨rfl, h3⟩
                obtain ⟨F3, hT3⟩ := T0.out.aft h3
                obtain ⟨w4, hrun, hL4, hC4⟩ := hT3.ts.lm_.clear 0
                have hT4 := (hT3.laid hL4 (Nat.le_refl _) hC4).more (show i ≤ i + 1 by omega)
                have T4 : Hid (TB w w4 w1.heap.size (rm most) w2.heap.size (i + 1) (.slice none 0 0) [] (fun _ => none) [] F3 wr.heap.size ⟨4, sec, (ka, ki), v, st⟩) := ⟨hT4.ts.forget, hT4.bx, hT4.bF, hT4.bm, by simp [Value.ownBlock]⟩
                have I4 : Hid (Inv (V := Int) (rm most) [] (fun _ => none) (([] : List (Ky × Int)).map (·.1))) := inv_start (rm most)
                clear h3 hT3 hL4 hC4 hT4
                obtain ⟨mm, hm1, hm2⟩ := T4.out.lens
                have HL : Hid (Calls Try.prog 20 #[pt w1.heap.size] _ fun r w' => r = .returned (.int .i64 mm) ∧ w' = _) := hm2
                have hm3 : ¬ ((rm most : Nat) : Int) < (mm : Int) := by omega
                have hm4 : ¬ (mm : Int) < 0 := by omega
                unfold pt at HL
                clear hm1 hm2
                go_wp2_with (fail)
                go_must (go_at_call 20)
                refine (HL.out).mono ?_
                rintro r w' ⟨rfl, he⟩
                obtain rfl := he.symm
                clear he
                go_wp2_with fail
                go_must (go_at_call 20)
                refine (HL.out).mono ?_
                rintro r w' ⟨rfl, he⟩
                obtain rfl := he.symm
                clear he
                go_wp2_with fail
                go_roundg gk
                case measure => omega
                case rel => exact ⟨i + 1, by omega, by first | rfl | simp, ⟨_, _, _, _, T4.out.ts, I4.out⟩⟩
              · have n1 : (kind == 1) = false := by simpa using k1
                have n2 : (kind == 2) = false := by simpa using k2
                have n3 : (kind == 3) = false := by simpa using k3
                have n4 : (kind == 4) = false := by simpa using k4
                clear k1 k2 k3 k4
                have T0 : Hid (TB w (wr.alloc (.cells #[.int .i64 kind, .bool sec, .string ka, .int .i64 ki, .int .i64 v, .int .i64 st] 33)) w1.heap.size (rm most) w2.heap.size i u8 l lm U F wr.heap.size ⟨kind, sec, (ka, ki), v, st⟩) := HT.out.1.box ⟨kind, sec, (ka, ki), v, st⟩
                have a2 : (wr.alloc (.cells #[.int .i64 kind, .bool sec, .string ka, .int .i64 ki, .int .i64 v, .int .i64 st] 33)).cell? ⟨wr.heap.size, 2, none⟩ = some (.string ka) := T0.out.cell.1
                have T4 : Hid (TB w (wr.alloc (.cells #[.int .i64 kind, .bool sec, .string ka, .int .i64 ki, .int .i64 v, .int .i64 st] 33)) w1.heap.size (rm most) w2.heap.size (i + 1) u8 l lm U F wr.heap.size ⟨kind, sec, (ka, ki), v, st⟩) := T0.out.more (by omega)
                have I4 : Hid (Inv (rm most) l lm (U.map (·.1))) := HT.out.2
                obtain ⟨mm, hm1, hm2⟩ := T4.out.lens
                have HL : Hid (Calls Try.prog 20 #[pt w1.heap.size] _ fun r w' => r = .returned (.int .i64 mm) ∧ w' = _) := hm2
                have hm3 : ¬ ((rm most : Nat) : Int) < (mm : Int) := by omega
                have hm4 : ¬ (mm : Int) < 0 := by omega
                unfold pt at HL
                clear hm1 hm2
                go_wp2_with (fail)
                go_must (go_at_call 20)
                refine (HL.out).mono ?_
                rintro r w' ⟨rfl, he⟩
                obtain rfl := he.symm
                clear he
                go_wp2_with fail
                go_must (go_at_call 20)
                refine (HL.out).mono ?_
                rintro r w' ⟨rfl, he⟩
                obtain rfl := he.symm
                clear he
                go_wp2_with fail
                go_roundg gk
                case measure => omega
                case rel => exact ⟨i + 1, by omega, by first | rfl | simp, ⟨_, _, _, _, T4.out.ts, I4.out⟩⟩
end Go.Proofs.Ytdhinpmjbcohaaa
