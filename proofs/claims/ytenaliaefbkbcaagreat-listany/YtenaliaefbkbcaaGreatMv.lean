import Derived.Test.YtenaliaefbkbcaaGreatNc
namespace Go.Proofs.YtenaliaefbkbcaaGreat.Li
open Go Go.RowKit Go.Maps
set_option linter.unusedSimpArgs false
set_option linter.unusedVariables false
def KnownOk : Prop := ∀ w, Calls Tryz.prog 5 #[] w fun e w' => e = .returned (.bool true) ∧ Below w.heap.size w w'
set_option maxRecDepth 100000 in
set_option maxHeartbeats 8000000 in
theorem finds_any (hkn : KnownOk) {W : World} {sa : Option Addr} {n cap : Nat} {ops : List Ow} (h : Scs W sa n cap ops) (t : ByteArray) (ht : t.size ≤ maxLen) :
    Calls Tryz.prog 3 #[.slice sa n cap, .string t] W fun e w' => e = .returned (.bool true) ∧ Below W.heap.size W w' := by
  have H := hidi h
  have KN := hidi (hkn W)
  have FW := hidi (fun (w1 : World) (hb : Below W.heap.size W w1) => few_any (h.keep (fun b hb' => hb.block b hb')))
  have NW := hidi (fun w => newSubs_any w)
  have NU := hidi (fun n w => num_any n w)
  clear h
  go_enter Tryz.func3, Tryz.ntmps3
  go_wp2_with fail
  go_must (go_at_call 5)
  refine KN.out.mono ?_
  rintro e w1 ⟨rfl, hb⟩
  have B1 := hidi hb
  clear hb KN
  go_wp2_with fail
  go_must (go_at_call 6)
  refine (FW.out w1 B1.out).mono ?_
  rintro e w2 ⟨x, rfl, hx, hb⟩
  have B2 := hidi (B1.out.trans (hb.mono B1.out.size))
  have HX := hidi hx
  clear hb hx FW
  cases x with
  | false =>
    go_wp2_with fail
    go_ret
    exact ⟨rfl, B2.out⟩
  | true =>
    by_cases htl : (100000 : Int) < (t.size : Int)
    · go_wp2_with fail
      go_ret
      exact ⟨rfl, B2.out⟩
    · have HF := hidi (HX.out rfl)
      have HT := hidi htl
      have mk27 : ∀ W, (Instr.makeMap 27 none).run Tryz.prog W = .ok (.map (some W.heap.size)) (W.alloc (.map #[] 0)) := fun W => by simp [Instr.makeMap, run_underlying Tryz.underlying27]; try rfl
      clear HX
      go_wp2_with (go_at_call 7; refine (NW.out _).mono ?_; rintro e w' ⟨rfl, he⟩; have HW3 := hidi he; obtain ⟨w3, hw3⟩ : ∃ w3, w3 = w' := ⟨_, rfl⟩; rw [← hw3]; rw [← hw3] at HW3; clear he hw3)
      have s3 : w3.heap.size = w2.heap.size + 1 := by rw [HW3.out]; exact size_alloc _ _
      have LS0 := hidi (show LS W w2.heap.size w3.heap.size 0 (w3.alloc (.map #[] 0)) from by rw [s3, HW3.out]; exact ls_start B2.out)
      obtain ⟨mb, hmb⟩ : ∃ mb, mb = w3.heap.size := ⟨_, rfl⟩
      obtain ⟨B, hB⟩ : ∃ B, B = w2.heap.size := ⟨_, rfl⟩
      rw [← hmb, ← hB] at LS0
      rw [← hmb, ← hB]
      clear hmb hB s3 HW3 NW mk27
      go_loopg [7, 8, 9, 10, 11, 12] n (fun gk s7 s8 s9 s10 s11 s12 wx => ∃ i : Nat, i + gk = n ∧ s7 = .int .i64 i ∧ Hid (LS W B mb i wx))
      case atStart => exact ⟨0, by omega, rfl, LS0.out⟩
      case round =>
        clear LS0
        obtain ⟨i, hi, rfl, HI⟩ := hrel
        by_cases hin : i < n
        · have hlt : (i : Int) < (n : Int) := by omega
          have hge : (0 : Int) ≤ (i : Int) := by omega
          have hn2 : n ≤ 200 := by have := HF.out.1; rw [H.out.len] at this; exact this
          have hw1 : IntKind.i64.wrap ((i : Int) + 1) = (i : Int) + 1 := by rw [IntKind.wrap_i64]; omega
          have hjf : i < ops.length := by rw [H.out.len]; exact hin
          have hscr := H.out.keep (fun b hb => HI.out.bel.block b hb)
          obtain ⟨g, o, hsa, hcell⟩ := hscr.cell (by omega)
          subst hsa
          have hpy := hscr.pay _ (List.getElem_mem hjf)
          have hab := HF.out.2 _ (List.getElem_mem hjf)
          have hc := hcell i hjf
          obtain ⟨f, hf⟩ : ∃ f, f = ops[i] := ⟨_, rfl⟩
          rw [← hf] at hpy hab hc
          obtain ⟨kd, sd, fa, fb, nn, st, mt, v, xs, mq, r⟩ := f
          obtain ⟨pa, pc, hv, hln⟩ := hpy.sl
          simp only at hv
          subst hv
          obtain ⟨pn, hpn⟩ : ∃ pn, pn = xs.length := ⟨_, rfl⟩
          have k0 : wr.cell? ⟨g, o + i * 10, none⟩ = some (.int .i64 kd) := hc 0 (by omega)
          have k1 : wr.cell? ⟨g, o + i * 10 + 1, none⟩ = some (.bool sd) := hc 1 (by omega)
          have k2 : wr.cell? ⟨g, o + i * 10 + 2, none⟩ = some (.string fa) := hc 2 (by omega)
          have k3 : wr.cell? ⟨g, o + i * 10 + 3, none⟩ = some (.string fb) := hc 3 (by omega)
          have k4 : wr.cell? ⟨g, o + i * 10 + 4, none⟩ = some (.int .i64 nn) := hc 4 (by omega)
          have k5 : wr.cell? ⟨g, o + i * 10 + 5, none⟩ = some (.int .i64 st) := hc 5 (by omega)
          have k6 : wr.cell? ⟨g, o + i * 10 + 6, none⟩ = some (.string mt) := hc 6 (by omega)
          have k7 : wr.cell? ⟨g, o + i * 10 + 7, none⟩ = some (.slice pa pn pc) := by rw [hpn]; exact hc 7 (by omega)
          have k8 : wr.cell? ⟨g, o + i * 10 + 8, none⟩ = some (.int .i64 mq) := hc 8 (by omega)
          have k9 : wr.cell? ⟨g, o + i * 10 + 9, none⟩ = some (.bool r) := hc 9 (by omega)
          have HAB := hidi hab
          have HN2 := hidi hn2
          clear hc hpy hln hpn hf hcell hscr hab hn2
          by_cases hkd : kd = 1
          · subst hkd
            go_upto_region 14 with fail
            obtain ⟨w5, hw5⟩ : ∃ w5, w5 = wr.alloc (.cells #[.int .i64 1, .bool sd, .string fa, .string fb, .int .i64 nn, .int .i64 st, .string mt, .slice pa pn pc, .int .i64 mq, .bool r] 32) := ⟨_, rfl⟩
            rw [← hw5]
            have x5 : w5.heap[wr.heap.size]? = some (.cells #[.int .i64 1, .bool sd, .string fa, .string fb, .int .i64 nn, .int .i64 st, .string mt, .slice pa pn pc, .int .i64 mq, .bool r] 32) := by rw [hw5]; exact heap_alloc_new _ _
            have L5 := hidi (show LS W B mb i w5 from by rw [hw5]; exact HI.out.below ((Below.refl _ _).alloc (Nat.le_refl _) _))
            obtain ⟨bx, hbx⟩ : ∃ bx, bx = wr.heap.size := ⟨_, rfl⟩
            rw [← hbx] at x5
            rw [← hbx]
            have e2 := box_cells x5 2 _ rfl
            have e3 := box_cells x5 3 _ rfl
            have e4 := box_cells x5 4 _ rfl
            have X5 := hidi x5
            clear hw5 x5 hbx HI k0 k1 k2 k3 k4 k5 k6 k7 k8 k9
            by_cases hf0 : rfc fa = 0
            · by_cases hq : 0 ≤ nn ∧ nn ≤ 2
              · have PT := hidi (ls_put L5.out (by have := HN2.out; omega) fa fb nn HAB.out.1 HAB.out.2 hf0 hq)
                have HQ := hidi hq
                clear hf0 hq
                go_wp2_with fail
                go_must (go_at_call 8)
                refine PT.out.mono ?_
                rintro e w6 ⟨rr, old, rfl, hlook, hold, hkl, w7, hup, hls⟩
                have x6 : w6.heap[bx]? = some (.cells #[.int .i64 1, .bool sd, .string fa, .string fb, .int .i64 nn, .int .i64 st, .string mt, .slice pa pn pc, .int .i64 mq, .bool r] 32) := (hkl.block bx (Array.getElem?_eq_some_iff.1 X5.out).1 (.inr (fun ⟨c, t', z, q1, q2⟩ => by rw [X5.out] at q1; simp only [Option.some.injEq, Obj.cells.injEq] at q1; rw [← q1.2.1] at q2; simp at q2))).trans X5.out
                clear e2 e3 e4
                have e2 := box_cells x6 2 _ rfl
                have e3 := box_cells x6 3 _ rfl
                have e4 := box_cells x6 4 _ rfl
                have H7 := hidi hls
                clear hls hkl x6 PT
                rcases hold with rfl | ⟨rfl, rfl⟩
                · have hrr : (rr != rr) = false := by simp
                  simp only [Option.getD_some, Option.isSome_some] at hlook
                  go_wp2_with (go_at_call 9; refine (NU.out _ _).mono ?_; rintro e w' ⟨rfl, he⟩; obtain rfl := he.symm; clear he)
                  go_roundg (n - (i + 1))
                  case measure => omega
                  case rel => exact ⟨i + 1, by omega, by first | rfl | simp, H7.out⟩
                · simp only [Option.getD_none, Option.isSome_none] at hlook
                  go_wp2_with (go_at_call 9; refine (NU.out _ _).mono ?_; rintro e w' ⟨rfl, he⟩; obtain rfl := he.symm; clear he)
                  go_roundg (n - (i + 1))
                  case measure => omega
                  case rel => exact ⟨i + 1, by omega, by first | rfl | simp, H7.out⟩
              · have PT := hidi (put_71 (w := w5) fa fb nn (.pointer (some ⟨B, 0, none⟩)) hf0 hq)
                clear hf0 hq
                go_wp2_with (first | (go_at_call 8; refine PT.out.mono ?_; rintro e w6 ⟨rfl, hb⟩; have H6 := hidi (L5.out.below hb); clear hb) | (go_at_call 9; refine (NU.out _ _).mono ?_; rintro e w' ⟨rfl, he⟩; obtain rfl := he.symm; clear he))
                go_roundg (n - (i + 1))
                case measure => omega
                case rel => exact ⟨i + 1, by omega, by first | rfl | simp, H6.out.next⟩
            · have PT := hidi (put_70 (w := w5) fa fb nn (.pointer (some ⟨B, 0, none⟩)) hf0)
              clear hf0
              go_wp2_with (first | (go_at_call 8; refine PT.out.mono ?_; rintro e w6 ⟨rfl, hb⟩; have H6 := hidi (L5.out.below hb); clear hb) | (go_at_call 9; refine (NU.out _ _).mono ?_; rintro e w' ⟨rfl, he⟩; obtain rfl := he.symm; clear he))
              go_roundg (n - (i + 1))
              case measure => omega
              case rel => exact ⟨i + 1, by omega, by first | rfl | simp, H6.out.next⟩
          · have hkd' : (kd != 1) = true := by simpa using hkd
            go_wp2_with fail
            go_roundg (n - (i + 1))
            case measure => omega
            case rel => exact ⟨i + 1, by omega, by first | rfl | simp, (HI.out.below ((Below.refl _ _).alloc (Nat.le_refl _) _)).next⟩
        · have hlt : ¬ (i : Int) < (n : Int) := by omega
          obtain rfl : i = n := by omega
          have hn2 : i ≤ 200 := by have := HF.out.1; rw [H.out.len] at this; exact this
          obtain ⟨v, L, lk, n2, h1, h2, h3, h4, h5, h6, h7, h8⟩ := HI.out.ex
          have hbelA : Below wr.heap.size wr (wr.alloc (.map #[] 0)) := (Below.refl _ _).alloc (Nat.le_refl _) _
          have m5 := h5.keep (w' := wr.alloc (.map #[] 0)) (fun b e => hbelA.block b (h5.lt e))
          have mg0 : MG (wr.alloc (.map #[] 0)) (.map (some wr.heap.size)) 0 (fun _ => none) := MG.made wr
          have hmbl : mb < wr.heap.size := h5.lt rfl
          rcases m5 with ⟨z, _⟩ | ⟨mb', D, z, hown, hsz, hD⟩
          · cases z
          cases z
          obtain ⟨wA, hwA⟩ : ∃ wA, wA = wr.alloc (.map #[] 0) := ⟨_, rfl⟩
          obtain ⟨wb, hwb⟩ : ∃ wb, wb = wr.heap.size := ⟨_, rfl⟩
          have hsA : wA.heap.size = wb + 1 := by rw [hwA, hwb]; exact size_alloc _ _
          rw [← hwA] at hown hbelA mg0
          rw [← hwb] at mg0 hmbl
          have HSA := hidi hsA
          have HWb := hidi (show W.heap.size ≤ wb from by rw [hwb]; exact HI.out.bel.size)
          clear hsA
          have HQ := hidi (And.intro (h1.below hbelA) (And.intro h2 (And.intro h3 (And.intro h4 (And.intro h6 (And.intro h7 h8))))))
          have HBA := hidi (And.intro (HI.out.bel.trans (hbelA.mono HI.out.bel.size)) (And.intro HI.out.base HI.out.mbg))
          have HD := hidi (And.intro hsz (And.intro hD mg0))
          have HOK := hidi (show ∀ k q, lk k = some q → okP k from fun k q hk => by
            obtain ⟨f, j⟩ := k
            have := h8 f j q ((h7 f j q).1 hk)
            exact ⟨Nat.le_trans this.1 (by unfold maxLen; omega), Nat.le_trans this.2 (by unfold maxLen; omega)⟩)
          have mk39 : ∀ W, (Instr.makeMap 39 none).run Tryz.prog W = .ok (.map (some W.heap.size)) (W.alloc (.map #[] 0)) := fun W => by simp [Instr.makeMap, run_underlying Tryz.underlying39]; try rfl
          have HN2 := hidi hn2
          clear h1 h2 h3 h4 h5 h6 h7 h8 hsz hD mg0 HI hbelA hn2
          go_upto_region 21 with fail
          clear mk39
          rw [← hwA, ← hwb]
          clear hwA hwb
          go_wp2_with (at_range; refine wpList_range_own _ rfl _ 27 rfl 38 3 law38 Tryz.underlying27 hv mb n2 D rfl hown ?_; intro w0 hrg0 hg0 hs0)
          obtain ⟨it, hit⟩ : ∃ it, it = wA.heap.size := ⟨_, rfl⟩
          rw [← hit] at hrg0
          rw [← hit]
          have B0 : Below wA.heap.size wA w0 := ⟨hg0.os, hg0.tape, hg0.output, hg0.size, fun j hj => hg0.block j hj (by simp)⟩
          have R0 := hidi (show LR W B v L lk mb it wb n2 D t (Maps.has D) (Maps.size D) (fun _ => none) [] w0 from ⟨hrg0, HQ.out.1.below B0, (HD.out.2.2.keep (fun b e => B0.block b (by cases e; have := HSA.out; omega))).congr (fun _ _ => rfl), WS.start (fun k q hk => by rw [(HD.out.2.1 k (HOK.out k q hk)).1, hk]; rfl), HBA.out.1.trans (B0.mono HBA.out.1.size), by rw [HD.out.1]; simp⟩)
          have HIT := hidi (And.intro hit (And.intro HSA.out hmbl))
          clear hrg0 hg0 hs0 B0 hit hown hmbl
          go_loopw [14, 15, 16, 17] (fun s14 s15 s16 s17 wx => ∃ (left : Lit → Bool) (cnt : Nat) (wt : ByteArray → Option Int) (K : List ByteArray), Hid (LR W B v L lk mb it wb n2 D t left cnt wt K wx))
            (fun _ _ _ _ wx => wx.rangeLeft mb it)
          case atStart => exact ⟨_, _, _, _, R0.out⟩
          case round =>
            clear R0
            obtain ⟨left, cnt, wt, K, HR⟩ := hrel
            have hrg := HR.out.rg
            go_wp2_with (at_next; refine wpList_next_ranges _ rfl _ rfl 38 law38 hv kc2 (fun v : Value => v) (fun key kl hk => by obtain ⟨k, hk1, _⟩ := kp_of hk; exact ⟨k, hk1⟩) (fun v y _ => ⟨v, rfl⟩) mb _ n2 D _ _ rfl hrg ?_ ?_)
            · intro hc0 hl0
              clear hrg
              have FD := hidi (sfind_any HR.out.sl t (by have := HQ.out.2.2.1; have := HN2.out; omega) (fun x hx => by have := HQ.out.2.2.2.1 x hx; have := HN2.out; omega) (fun x hx => (HQ.out.2.1.es x.p (List.mem_map.2 ⟨x, hx, rfl⟩)).2))
              go_wp2_with fail
              go_must (go_at_call 11)
              refine FD.out.mono ?_
              rintro e w7 ⟨v', ys, rfl, hp, hby, hro, hb7⟩
              obtain ⟨hfw, hfl⟩ := HR.out.ws.found hl0 HQ.out.2.2.2.2.2.1 hp hby
              have hst := (cmpct_spec ys hby).1
              obtain ⟨R, hR⟩ : ∃ R, R = cmpct ys := ⟨_, rfl⟩
              rw [← hR] at hro hfw hfl hst
              have H7 := hidi (And.intro hro (And.intro hfw (And.intro hfl (And.intro hst (And.intro (HR.out.mg.keep (fun b e => hb7.block b (HR.out.mg.lt e))) (HR.out.bel.trans (hb7.mono HR.out.bel.size)))))))
              clear hp hby hro hfw hfl hst hR hb7 FD
              obtain ⟨la, lc, rfl⟩ := own_sl H7.out.1
              obtain ⟨m, hm⟩ : ∃ m, m = R.length := ⟨_, rfl⟩
              have HM7 := hidi hm
              rw [← hm]
              clear hm
              have hlen := fun (w8 : World) (hb : Below w7.heap.size w7 w8) (ty : TypeId) => (H7.out.2.2.2.2.1.keep (fun b e => hb.block b (H7.out.2.2.2.2.1.lt e))).len (t := 39) Tryz.underlying39 ty
              have HLN := hidi hlen
              clear hlen
              go_wp2_with fail
              go_loopg [19, 20, 21] m (fun gk s19 s20 s21 wx => ∃ i : Nat, i + gk = m ∧ s19 = .int .i64 i ∧ Hid (Below w7.heap.size w7 wx))
              case atStart => exact ⟨0, by omega, rfl, Below.refl _ _⟩
              case round =>
                obtain ⟨i, hi, rfl, HI⟩ := hrel
                by_cases him : i < m
                · have hlt : (i : Int) < (m : Int) := by omega
                  have hge : (0 : Int) ≤ (i : Int) := by omega
                  have hiR : i < R.length := by rw [← HM7.out]; exact him
                  obtain ⟨kq, hkq⟩ : ∃ kq, R[i]? = some kq := ⟨_, List.getElem?_eq_getElem hiR⟩
                  obtain ⟨g, c', hv', -, hc⟩ := ecell (own_below H7.out.1 HI.out) hiR
                  rw [← HM7.out] at hv'
                  simp only [Value.slice.injEq, true_and] at hv'
                  obtain ⟨rfl, rfl⟩ := hv'
                  obtain ⟨k, q⟩ := kq
                  have hwk : wt k = some q := (H7.out.2.1 k q).1 (List.mem_of_getElem? hkq)
                  have hokk : okT k := by
                    obtain ⟨f, f1, _⟩ := HR.out.ws.s1 k q hwk
                    exact (HOK.out _ _ f1).2
                  have hlook := (H7.out.2.2.2.2.1.keep (fun b e => HI.out.block b (H7.out.2.2.2.2.1.lt e))).look2 (t := 39) Tryz.underlying39 zero3r (k := k) hokk
                  rw [hwk] at hlook
                  simp only [Option.map_some, Option.getD_some, Option.isSome_some] at hlook
                  have c0 := (hc i (k, q) hkq).1
                  have c1 := (hc i (k, q) hkq).2
                  simp only at c0 c1
                  have hqq : (q != q) = false := by simp
                  have hw1 : IntKind.i64.wrap ((i : Int) + 1) = (i : Int) + 1 := by
                    have h1 := H7.out.2.2.1
                    have h2 := HR.out.kb
                    have h3 := HQ.out.2.2.2.2.1
                    have h4 := HN2.out
                    rw [IntKind.wrap_i64]
                    omega
                  have HC := hidi hc
                  have HKQ := hidi hkq
                  clear hc hkq hwk hokk
                  cases i with
                  | zero =>
                    have hz : decide ((0 : Int) < 0) = false := by decide
                    go_wp2_with fail
                    go_quiet (fail)
                    have HB1 := hidi (below_drewN HI.out (m := nq))
                    go_wp2_with fail
                    go_roundg (m - 1)
                    case measure => omega
                    case rel => exact ⟨1, by omega, by first | rfl | simp, HB1.out⟩
                  | succ p =>
                    obtain ⟨pq, hpq⟩ : ∃ pq, R[p]? = some pq := ⟨_, List.getElem?_eq_getElem (by omega)⟩
                    obtain ⟨k', q'⟩ := pq
                    have d0 := (HC.out p (k', q') hpq).1
                    simp only at d0
                    have hst : kl1 k' k < 0 := by
                      have h1 := List.pairwise_iff_getElem.1 H7.out.2.2.2.1 p (p + 1) (by omega) hiR (by omega)
                      have e1 : R[p]'(by omega) = (k', q') := by rw [List.getElem?_eq_getElem (by omega)] at hpq; simpa using hpq
                      have e2 : R[p + 1] = (k, q) := by have := HKQ.out; rw [List.getElem?_eq_getElem hiR] at this; simpa using this
                      rw [e1, e2] at h1
                      exact h1
                    have hgt : (0 : Int) < ((p + 1 : Nat) : Int) := by omega
                    have hsub : IntKind.i64.wrap (((p + 1 : Nat) : Int) - 1) = (p : Int) := by rw [IntKind.wrap_i64]; have h1 := H7.out.2.2.1; have h2 := HR.out.kb; have h3 := HQ.out.2.2.2.2.1; have h4 := HN2.out; have h5 := HM7.out; omega
                    have hp0 : (0 : Int) ≤ (p : Int) := by omega
                    have hpm : (p : Int) < (m : Int) := by omega
                    have hlt' : (p : Int) + 1 < (m : Int) := by omega
                    have hge' : (0 : Int) ≤ (p : Int) + 1 := by omega
                    have hgt' : (0 : Int) < (p : Int) + 1 := by omega
                    have hsb : (p : Int) + 1 - 1 = (p : Int) := by omega
                    have hw2 : IntKind.i64.wrap ((p : Int) + 1 + 1) = (p : Int) + 1 + 1 := by have := hw1; simpa using this
                    have hwp : IntKind.i64.wrap (p : Int) = (p : Int) := by rw [IntKind.wrap_i64]; have h1 := H7.out.2.2.1; have h2 := HR.out.kb; have h3 := HQ.out.2.2.2.2.1; have h4 := HN2.out; have h5 := HM7.out; omega
                    have htn : ((p : Int) + 1).toNat = p + 1 := by omega
                    have hls := bl_lt hst
                    clear hpq hst
                    go_wp2_with fail
                    go_quiet (fail)
                    have HB1 := hidi (below_drewN HI.out (m := nq))
                    go_wp2_with fail
                    go_roundg (m - (p + 1 + 1))
                    case measure => omega
                    case rel => exact ⟨p + 1 + 1, by omega, by first | rfl | simp, HB1.out⟩
                · have hlt : ¬ (i : Int) < (m : Int) := by omega
                  have hl9 := HLN.out wr HI.out
                  have hK : K.length = m := by rw [HM7.out]; exact H7.out.2.2.1.symm
                  rw [hK] at hl9
                  have hmm : ((m : Int) == (m : Int)) = true := by simp
                  go_wp2_with fail
                  go_ret
                  exact ⟨rfl, H7.out.2.2.2.2.2.trans (HI.out.mono H7.out.2.2.2.2.2.size)⟩
            · intro f j c1 kl yd ypl w6 cnt2 hkey hlk hvv hat hrg2 hlt2 hg2 hs2 hen
              obtain ⟨x', ex, hokx, rfl⟩ := kp_of hkey
              have exx : x' = (f, j) := by
                obtain ⟨y1, y2⟩ := x'
                simp [kc2] at ex
                rw [ex.1, ex.2]
              subst exx
              have hyd : yd = .held c1 := by simp [hv] at hvv; exact hvv.1.symm
              have hhas : Maps.has D (kp (f, j)) = true := has_true_of_atKey hat
              obtain ⟨q, hq⟩ : ∃ q, lk (f, j) = some q := by
                have := (HD.out.2.1 (f, j) hokx).1
                rw [hhas] at this
                have h2 : (lk (f, j)).isSome := by simpa using this.symm
                exact Option.isSome_iff_exists.1 h2
              have hcv : c1 = .int .i64 q := by
                have h1 := hat (.held c1)
                have h2 := (HD.out.2.1 (f, j) hokx).2 (.int .i64 q) (by rw [hq]; rfl) (.held c1)
                rw [hyd] at h1
                rw [h1] at h2
                injection h2
              subst hcv
              have TK := hidi (And.intro hrg2 (HR.out.took hrg2 hg2 (by rw [HIT.out.1]; exact HBA.out.1.size)))
              have HLT := hidi (show w6.rangeLeft mb it < wr.rangeLeft mb it from by rw [hrg2.left_eq, hrg.left_eq]; exact hlt2)
              have HXQ := hidi (And.intro hq (And.intro hokx hlt2))
              have MT := hidi (fun w => tmatch_any f t w)
              clear hrg hkey hlk hvv hat hg2 hs2 hyd hhas hq hokx hlt2 hrg2
              unfold kc2 at hen
              unfold kc2
              simp only at hen
              go_wp2_with fail
              go_must (go_at_call 10)
              refine (MT.out _).mono ?_
              rintro e w7 ⟨rfl, hb⟩
              have b67 : Below w6.heap.size w6 w7 := ((Below.refl w6.heap.size w6).alloc (Nat.le_refl _) _).trans (hb.mono (by rw [size_alloc]; omega))
              have x7 : w7.heap[w6.heap.size]? = some (.cells #[.string f, .string j] 38) := later_at (heap_alloc_new _ _) hb
              have e1 := box_cells x7 1 _ rfl
              obtain ⟨⟨_, _, m1⟩, _, _, _, _, i1⟩ := ranges_it TK.out.1
              have T7 := hidi (And.intro (ranges_keep TK.out.1 (b67.block _ (Array.getElem?_eq_some_iff.1 m1).1) (b67.block _ (Array.getElem?_eq_some_iff.1 i1).1)) (And.intro (TK.out.2.1.below b67) (And.intro (TK.out.2.2.1.keep (fun b e => b67.block b (TK.out.2.2.1.lt e))) (TK.out.2.2.2.trans (b67.mono TK.out.2.2.2.size)))))
              have HL7 := hidi (show w7.rangeLeft mb it < wr.rangeLeft mb it from by rw [T7.out.1.left_eq, ← TK.out.1.left_eq]; exact HLT.out)
              obtain ⟨bx, hbx⟩ : ∃ bx, bx = w6.heap.size := ⟨_, rfl⟩
              rw [← hbx] at x7 e1
              rw [← hbx]
              have hokj : okT j := HXQ.out.2.1.2
              have hlook := T7.out.2.2.1.look2 (t := 39) Tryz.underlying39 zero3r (k := j) hokj
              have X7 := hidi x7
              have HOJ := hidi hokj
              clear hb b67 m1 i1 hbx x7 hokj hen
              cases hm : mch f t with
              | false =>
                have HM := hidi hm
                clear hm hlook
                go_wp2_with fail
                go_roundw
                case rel => exact ⟨_, cnt2, wt, K, T7.out.1, T7.out.2.1, T7.out.2.2.1, HR.out.ws.skip HOK.out HXQ.out.1 HM.out, T7.out.2.2.2, by have := HR.out.kb; have := HXQ.out.2.2; omega⟩
                case measure => exact HL7.out
              | true =>
                have HM := hidi hm
                clear hm
                have UP := hidi (show (∀ o, wt j = some o → o < q) → ∃ w8, (Instr.mapUpdate 39 (.map (some wb)) (.string j) (.int .i64 q)).run Tryz.prog w7 = .ok () w8 ∧ LR W B v L lk mb it wb n2 D t (fun z => left z && !z.sameKey (kp (f, j))) cnt2 (fun i => if i = j then some q else wt i) (if (wt j).isSome = true then K else K ++ [j]) w8 ∧ w8.rangeLeft mb it < wr.rangeLeft mb it from fun ho => by
                  have hkb := HR.out.kb
                  have hc2 := HXQ.out.2.2
                  obtain ⟨w8, k1, k2, k3⟩ := T7.out.2.2.1.put (t := 39) Tryz.underlying39 (k := j) HOJ.out (.int .i64 q) (by have := HN2.out; have := HQ.out.2.2.2.2.1; unfold maxLen; omega)
                  obtain ⟨⟨_, _, m1⟩, _, _, _, _, i1⟩ := ranges_it T7.out.1
                  obtain ⟨_, _, b1⟩ := T7.out.2.2.1.block rfl
                  have hne1 : mb ≠ wb := fun e => by have := HIT.out.2.2; omega
                  have hne2 : it ≠ wb := fun e => by rw [e, b1] at i1; cases i1
                  have hrg8 := ranges_keep T7.out.1 (k3.block _ (Array.getElem?_eq_some_iff.1 m1).1 hne1) (k3.block _ (Array.getElem?_eq_some_iff.1 i1).1 hne2)
                  have hlen : szG (fun k => (wt k).map (Value.int .i64)) j K.length = (if (wt j).isSome = true then K else K ++ [j]).length := by
                    unfold szG
                    simp only [Option.isSome_map]
                    split <;> simp
                  refine ⟨w8, k1, ⟨hrg8, T7.out.2.1.keep (fun i hi => k3.block i ?_ (fun e => ?_)), ?_, HR.out.ws.set HOK.out HXQ.out.1 HM.out ho, T7.out.2.2.2.trans ⟨k3.os, k3.tape, k3.output, k3.size, fun i hi => k3.block i (Nat.lt_of_lt_of_le hi T7.out.2.2.2.size) (fun e => ?_)⟩, ?_⟩, ?_⟩
                  · obtain ⟨c, t', z, q1, q2⟩ := hi
                    exact (Array.getElem?_eq_some_iff.1 q1).1
                  · subst e
                    exact not_isL_map b1 hi
                  · rw [← hlen]
                    refine k2.congr (fun k hk => ?_)
                    simp only [setG]
                    split
                    · rename_i z; simp [z]
                    · rename_i z; simp [z]
                  · have := HWb.out
                    omega
                  · rw [← hlen]
                    unfold szG
                    split <;> omega
                  · rw [hrg8.left_eq, ← T7.out.1.left_eq]
                    exact HL7.out)
                cases ho : wt j with
                | none =>
                  rw [ho] at hlook
                  simp only [Option.map_none, Option.getD_none, Option.isSome_none] at hlook
                  obtain ⟨w8, hup, hlr, hl8⟩ := UP.out (fun o z => by rw [ho] at z; cases z)
                  have H8 := hidi (And.intro hlr hl8)
                  clear hlr hl8 ho UP
                  go_wp2_with fail
                  go_roundw
                  case rel => exact ⟨_, cnt2, _, _, H8.out.1⟩
                  case measure => exact H8.out.2
                | some o =>
                  rw [ho] at hlook
                  simp only [Option.map_some, Option.getD_some, Option.isSome_some] at hlook
                  by_cases hqo : o < q
                  · obtain ⟨w8, hup, hlr, hl8⟩ := UP.out (fun o' z => by rw [ho] at z; cases z; exact hqo)
                    have H8 := hidi (And.intro hlr hl8)
                    clear hlr hl8 ho UP
                    go_wp2_with fail
                    go_roundw
                    case rel => exact ⟨_, cnt2, _, _, H8.out.1⟩
                    case measure => exact H8.out.2
                  · have HS := hidi (And.intro ho (show q ≤ o from by omega))
                    clear ho UP
                    go_wp2_with fail
                    go_roundw
                    case rel => exact ⟨_, cnt2, wt, K, T7.out.1, T7.out.2.1, T7.out.2.2.1, HR.out.ws.stay HOK.out HXQ.out.1 HS.out.1 HS.out.2, T7.out.2.2.2, by have := HR.out.kb; have := HXQ.out.2.2; omega⟩
                    case measure => exact HL7.out
end Go.Proofs.YtenaliaefbkbcaaGreat.Li
