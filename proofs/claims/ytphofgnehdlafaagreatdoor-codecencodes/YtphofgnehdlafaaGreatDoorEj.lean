import Derived.Test.YtphofgnehdlafaaGreatDoorEc
import Derived.Deep.LoopGhost
import Derived.Test.YtphofgnehdlafaaGreatDoorEd
import Derived.Test.YtphofgnehdlafaaGreatDoorPUi
import Derived.Test.YtphofgnehdlafaaGreatDoorFdz
import Derived.Test.YtphofgnehdlafaaGreatDoorEa
namespace Go.Proofs.YtphofgnehdlafaaGreatDoor
open Go Go.RowKit
open Pkt (Pk Cn Sl In By Is Ss As pkCells Gd box_below Right TT sumN)
set_option linter.unusedSimpArgs false
set_option linter.unusedVariables false
set_option maxRecDepth 100000
set_option maxHeartbeats 4000000
theorem fields_more (kind level : Int) (clean : Bool) (keep : Int) (client : ByteArray) (hasWill : Bool) (wT : ByteArray) (wa : Option Addr) (wn wc : Nat) (wQ : Int) (wR hasUser : Bool) (user : ByteArray) (hasPass : Bool) (pa : Option Addr) (pn pc : Nat) (present : Bool) (code : Int) (dup : Bool) (mT : ByteArray) (ma : Option Addr) (mn mc : Nat) (mQ : Int) (mR : Bool) (id : Int) (aa : Option Addr) (an ac : Nat) (ca : Option Addr) (cn cc : Nat) (fa : Option Addr) (fn fc : Nat) (c : Cn) (w : World) (hin : In w (⟨kind, level, clean, keep, client, hasWill, wT, ⟨wa, wn, wc⟩, wQ, wR, hasUser, user, hasPass, ⟨pa, pn, pc⟩, present, code, dup, mT, ⟨ma, mn, mc⟩, mQ, mR, id, ⟨aa, an, ac⟩, ⟨ca, cn, cc⟩, ⟨fa, fn, fc⟩⟩ : Pk) c) (hk : 4 ≤ kind ∧ kind ≤ 11) (hA : ∀ i, i < an → (c.af i).size ≤ 65535 ∧ (chk (c.af i)).2 = 0) (hF : ∀ i, i < fn → (c.fs i).size ≤ 65535 ∧ (chk (c.fs i)).2 = 0) (hZ : 2 + sumN (fun i => 3 + (c.af i).size) an + cn + sumN (fun i => 2 + (c.fs i).size) fn ≤ 1299990) :
    Calls Tryz.prog 99 #[.agg #[.int .i64 kind, .int .i64 level, .bool clean, .int .i64 keep, .string client, .bool hasWill, .string wT, .slice wa wn wc, .int .i64 wQ, .bool wR, .bool hasUser, .string user, .bool hasPass, .slice pa pn pc, .bool present, .int .i64 code, .bool dup, .string mT, .slice ma mn mc, .int .i64 mQ, .bool mR, .int .i64 id, .slice aa an ac, .slice ca cn cc, .slice fa fn fc]] w fun e w' => Fd3 w w' e (cellsOf (numZ id) 2 ++ (asksL c.af c.aq an ++ codesL c.cs cn ++ filtL c.fs fn)) := by
  obtain ⟨W, hW⟩ : ∃ W, W = w.alloc (.cells #[.int .i64 kind, .int .i64 level, .bool clean, .int .i64 keep, .string client, .bool hasWill, .string wT, .slice wa wn wc, .int .i64 wQ, .bool wR, .bool hasUser, .string user, .bool hasPass, .slice pa pn pc, .bool present, .int .i64 code, .bool dup, .string mT, .slice ma mn mc, .int .i64 mQ, .bool mR, .int .i64 id, .slice aa an ac, .slice ca cn cc, .slice fa fn fc] 29) := ⟨_, rfl⟩
  have b0 : Hid (Below w.heap.size w W) := box_below hW
  have g0 : Hid (W.heap[w.heap.size]? = some (.cells #[.int .i64 kind, .int .i64 level, .bool clean, .int .i64 keep, .string client, .bool hasWill, .string wT, .slice wa wn wc, .int .i64 wQ, .bool wR, .bool hasUser, .string user, .bool hasPass, .slice pa pn pc, .bool present, .int .i64 code, .bool dup, .string mT, .slice ma mn mc, .int .i64 mQ, .bool mR, .int .i64 id, .slice aa an ac, .slice ca cn cc, .slice fa fn fc] 29)) := by show _ = _; rw [hW]; exact heap_alloc_new w _
  have KC := hidx (show ∀ w', Below W.heap.size W w' → w'.cell? ⟨w.heap.size, 0, none⟩ = some (.int .i64 kind) ∧ w'.cell? ⟨w.heap.size, 21, none⟩ = some (.int .i64 id) ∧ w'.cell? ⟨w.heap.size, 22, none⟩ = some (.slice aa an ac) ∧ w'.cell? ⟨w.heap.size, 23, none⟩ = some (.slice ca cn cc) ∧ w'.cell? ⟨w.heap.size, 24, none⟩ = some (.slice fa fn fc) from fun w' hb => by have y := later_e g0.out hb; exact ⟨box_cells y 0 _ rfl, box_cells y 21 _ rfl, box_cells y 22 _ rfl, box_cells y 23 _ rfl, box_cells y 24 _ rfl⟩)
  have IN := hidx (fun (w' : World) (hb : Below W.heap.size W w') => hin.below (b0.out.trans (hb.mono b0.out.size)))
  have BE := hidx (Below.refl W.heap.size W)
  obtain ⟨n0, x0, hn0, hx0⟩ : ∃ (n0 : Nat) (x0 : List Value), n0 = 0 ∧ x0 = [] := ⟨_, _, rfl, rfl⟩
  have OW := hidx (show W.ownsRow W.heap.size 5 1 (.slice none 0 0) n0 x0 from by rw [hn0, hx0]; exact ⟨rfl, .inl ⟨rfl, rfl⟩⟩)
  have NE := hidx hn0
  have EQ := hidx hx0
  clear hn0 hx0
  obtain ⟨k0, k21, k22, k23, k24⟩ := KC.out _ BE.out
  have VN := hidx True.intro
  have SZ := hidx hZ
  have HA := hidx hA
  have HF := hidx hF
  have z1 : ¬ kind = 1 := by omega
  have y1 : (kind == 1) = false := by simp; omega
  have z2 : ¬ kind = 2 := by omega
  have y2 : (kind == 2) = false := by simp; omega
  have z3 : ¬ kind = 3 := by omega
  have y3 : (kind == 3) = false := by simp; omega
  have z12 : ¬ kind = 12 := by omega
  have y12 : (kind == 12) = false := by simp; omega
  have z13 : ¬ kind = 13 := by omega
  have y13 : (kind == 13) = false := by simp; omega
  have z14 : ¬ kind = 14 := by omega
  have y14 : (kind == 14) = false := by simp; omega
  clear hin hZ hA hF hk
  go_enter Tryz.func99, Tryz.ntmps99
  go_upto_region 1 with fail
  rw [← hW]
  clear hW
  go_wp2_with (first | (go_at_call 163; refine (number3_any _ _).mono ?_; rintro e wq ⟨gq, cq, rfl, hyq, hbq⟩; replace OW := hidx (own_below OW.out hbq); replace BE := hidx (BE.out.trans (hbq.mono BE.out.size)); have YY := hidx hyq; clear hyq hbq k0 k21 k22 k23 k24; obtain ⟨k0, k21, k22, k23, k24⟩ := KC.out _ BE.out) | (at_builtin; refine wpList_otE rfl _ _ rfl _ _ _ _ rfl OW.out _ _ (.inr (by simp only; omega)) rfl YY.out (by have := SZ.out; have := NE.out; omega) (by have := SZ.out; simp only; omega) BE.out.size ?_; intro vq wq mq_ yq hm hy ho hv hb; replace NE := hidx (hm.trans (congrArg (· + _) NE.out)); replace EQ := hidx (hy.trans (congrArg (· ++ _) EQ.out)); (try dsimp only at NE EQ); replace OW := hidx ho; replace VN := hidx hv; replace BE := hidx (BE.out.trans hb); clear hm hy ho hv hb YY k0 k21 k22 k23 k24; obtain ⟨k0, k21, k22, k23, k24⟩ := KC.out _ BE.out))
  clear k0 k21 k22 k23 k24 z1 y1 z2 y2 z3 y3 z12 y12 z13 y13 z14 y14
  go_loopg [3, 4] an (fun gg s3 s4 wx => ∃ (i n : Nat) (xs : List Value), i + gg = an ∧ s4 = .int .i64 (i : Int) ∧ Hid (wx.ownsRow W.heap.size 5 1 s3 n xs ∧ s3 ≠ .slice none 0 0 ∧ Below W.heap.size W wx ∧ n = 2 + sumN (fun i => 3 + (c.af i).size) i ∧ xs = [] ++ cellsOf (numZ id) 2 ++ asksL c.af c.aq i))
  case atStart => exact ⟨0, _, _, by omega, rfl, OW.out, VN.out, BE.out, by rw [NE.out]; simp [sumN], by rw [EQ.out]; simp [asksL]⟩
  case round =>
    clear OW VN BE NE EQ
    obtain ⟨i, n, xs, hgi, rfl, HI⟩ := hrel
    have OW := hidx HI.out.1
    have VN := hidx HI.out.2.1
    have BE := hidx HI.out.2.2.1
    have NE := hidx HI.out.2.2.2.1
    have EQ := hidx HI.out.2.2.2.2
    clear HI
    obtain ⟨k0, k21, k22, k23, k24⟩ := KC.out _ BE.out
    by_cases hin : i < an
    · have hlt : (i : Int) < (an : Int) := by omega
      have hge : (0 : Int) ≤ (i : Int) := by omega
      have hw1 : IntKind.i64.wrap ((i : Int) + 1) = (i : Int) + 1 := by have := SZ.out; have := sumN_ge (fun i => 3 + (c.af i).size) (fun i => by omega) an; rw [IntKind.wrap_i64]; omega
      have HAI := hidx (HA.out i hin)
      have SL := hidx (show 2 + sumN (fun i => 3 + (c.af i).size) i ≤ 1299990 ∧ (c.af i).size ≤ 65535 from by have := SZ.out; have := Pkt.sumN_le (fun i => 3 + (c.af i).size) i an (by omega); have := (HA.out i hin).1; omega)
      have hcp := (IN.out _ BE.out).asks.1
      simp only at hcp
      obtain ⟨bA, oA, rfl, hcA⟩ := (IN.out _ BE.out).asks.2.resolve_left (by simp only; omega)
      have KD := hidx (fun (w' : World) (hb : Below W.heap.size W w') => (show w'.cell? ⟨bA, oA + i * 2, none⟩ = some (.string (c.af i)) ∧ w'.cell? ⟨bA, oA + i * 2 + 1, none⟩ = some (.int .i64 (c.aq i)) from by obtain ⟨b2, o2, e2, h2⟩ := (IN.out _ hb).asks.2.resolve_left (by simp only; omega); simp only [Option.some.injEq, Addr.mk.injEq, and_true] at e2; obtain ⟨rfl, rfl⟩ := e2; exact h2 i (by simp only; exact hin)))
      clear hcA
      obtain ⟨d0, d1⟩ := KD.out _ BE.out
      go_wp2_with (first | (go_at_call 161; with_reducible refine (words3_any (c.af i) _ HAI.out.1 HAI.out.2).mono ?_; rintro e wq ⟨gq, cq, rfl, hyq, hbq⟩; replace OW := hidx (own_below OW.out hbq); replace BE := hidx (BE.out.trans (hbq.mono BE.out.size)); have YY := hidx hyq; clear hyq hbq k0 k21 k22 k23 k24 d0 d1; obtain ⟨k0, k21, k22, k23, k24⟩ := KC.out _ BE.out; obtain ⟨d0, d1⟩ := KD.out _ BE.out) | (at_builtin; refine wpList_otE rfl _ _ rfl _ _ _ _ rfl OW.out _ _ (.inr (by simp only; omega)) rfl YY.out (by have := SL.out; have := NE.out; omega) (by have := SL.out; simp only; omega) BE.out.size ?_; intro vq wq mq_ yq hm hy ho hv hb; replace NE := hidx (hm.trans (congrArg (· + _) NE.out)); replace EQ := hidx (hy.trans (congrArg (· ++ _) EQ.out)); (try dsimp only at NE EQ); replace OW := hidx ho; replace VN := hidx hv; replace BE := hidx (BE.out.trans hb); clear hm hy ho hv hb YY k0 k21 k22 k23 k24 d0 d1; obtain ⟨k0, k21, k22, k23, k24⟩ := KC.out _ BE.out; obtain ⟨d0, d1⟩ := KD.out _ BE.out) | (at_builtin; refine wpList_ot1E OW.out VN.out rfl _ _ rfl (c.aq i % 256) rfl rfl (by omega) (by have := SL.out; have := NE.out; omega) BE.out.size ?_; intro vq wq mq_ yq hm hy ho hv hb; replace NE := hidx (hm.trans (congrArg (· + _) NE.out)); replace EQ := hidx (hy.trans (congrArg (· ++ _) EQ.out)); (try dsimp only at NE EQ); replace OW := hidx ho; replace VN := hidx hv; replace BE := hidx (BE.out.trans hb); clear hm hy ho hv hb k0 k21 k22 k23 k24 d0 d1; obtain ⟨k0, k21, k22, k23, k24⟩ := KC.out _ BE.out))
      go_roundg (an - (i + 1))
      case measure => omega
      case rel => exact ⟨i + 1, _, _, by omega, by first | rfl | simp, OW.out, VN.out, BE.out, by rw [NE.out, sumN_succ]; omega, by rw [EQ.out]; simp [asksL, tx_cells, List.append_assoc]⟩
    · have hlt : ¬ (i : Int) < (an : Int) := by omega
      have hia : i = an := by omega
      subst hia
      go_wp2_with fail
      clear k0 k21 k22 k23 k24
      go_loopg [3, 5] cn (fun gg s3 s5 wx => ∃ (j n : Nat) (xs : List Value), j + gg = cn ∧ s5 = .int .i64 (j : Int) ∧ Hid (wx.ownsRow W.heap.size 5 1 s3 n xs ∧ s3 ≠ .slice none 0 0 ∧ Below W.heap.size W wx ∧ n = 2 + sumN (fun i => 3 + (c.af i).size) i + j ∧ xs = [] ++ cellsOf (numZ id) 2 ++ asksL c.af c.aq i ++ codesL c.cs j))
      case atStart => exact ⟨0, _, _, by omega, rfl, OW.out, VN.out, BE.out, by rw [NE.out]; omega, by rw [EQ.out]; simp [codesL]⟩
      case round =>
        clear OW VN BE NE EQ
        obtain ⟨j, n, xs, hgj, rfl, HI⟩ := hrel
        have OW := hidx HI.out.1
        have VN := hidx HI.out.2.1
        have BE := hidx HI.out.2.2.1
        have NE := hidx HI.out.2.2.2.1
        have EQ := hidx HI.out.2.2.2.2
        clear HI
        obtain ⟨k0, k21, k22, k23, k24⟩ := KC.out _ BE.out
        by_cases hjn : j < cn
        · have hlt : (j : Int) < (cn : Int) := by omega
          have hge : (0 : Int) ≤ (j : Int) := by omega
          have hw1 : IntKind.i64.wrap ((j : Int) + 1) = (j : Int) + 1 := by have := SZ.out; rw [IntKind.wrap_i64]; omega
          have SL := hidx (show 2 + sumN (fun i => 3 + (c.af i).size) i + j ≤ 1299990 from by have := SZ.out; omega)
          have hcp := (IN.out _ BE.out).codes.1
          simp only at hcp
          obtain ⟨bA, oA, rfl, hcA⟩ := (IN.out _ BE.out).codes.2.resolve_left (by simp only; omega)
          have d0 := hcA j hjn
          clear hcA
          go_wp2_with ((at_builtin; refine wpList_ot1E OW.out VN.out rfl _ _ rfl (c.cs j % 256) rfl rfl (by omega) (by have := SL.out; have := NE.out; omega) BE.out.size ?_; intro vq wq mq_ yq hm hy ho hv hb; replace NE := hidx (hm.trans (congrArg (· + _) NE.out)); replace EQ := hidx (hy.trans (congrArg (· ++ _) EQ.out)); (try dsimp only at NE EQ); replace OW := hidx ho; replace VN := hidx hv; replace BE := hidx (BE.out.trans hb); clear hm hy ho hv hb k0 k21 k22 k23 k24 d0; obtain ⟨k0, k21, k22, k23, k24⟩ := KC.out _ BE.out))
          go_roundg (cn - (j + 1))
          case measure => omega
          case rel => exact ⟨j + 1, _, _, by omega, by first | rfl | simp, OW.out, VN.out, BE.out, by rw [NE.out]; omega, by rw [EQ.out]; simp [codesL, List.append_assoc]⟩
        · have hlt : ¬ (j : Int) < (cn : Int) := by omega
          have hjc : j = cn := by omega
          subst hjc
          go_wp2_with fail
          clear k0 k21 k22 k23 k24
          go_loopg [3, 6] fn (fun gg s3 s6 wx => ∃ (k n : Nat) (xs : List Value), k + gg = fn ∧ s6 = .int .i64 (k : Int) ∧ Hid (wx.ownsRow W.heap.size 5 1 s3 n xs ∧ s3 ≠ .slice none 0 0 ∧ Below W.heap.size W wx ∧ n = 2 + sumN (fun i => 3 + (c.af i).size) i + j + sumN (fun i => 2 + (c.fs i).size) k ∧ xs = [] ++ cellsOf (numZ id) 2 ++ asksL c.af c.aq i ++ codesL c.cs j ++ filtL c.fs k))
          case atStart => exact ⟨0, _, _, by omega, rfl, OW.out, VN.out, BE.out, by rw [NE.out]; simp [sumN], by rw [EQ.out]; simp [filtL]⟩
          case round =>
            clear OW VN BE NE EQ
            obtain ⟨k, n, xs, hgk, rfl, HI⟩ := hrel
            have OW := hidx HI.out.1
            have VN := hidx HI.out.2.1
            have BE := hidx HI.out.2.2.1
            have NE := hidx HI.out.2.2.2.1
            have EQ := hidx HI.out.2.2.2.2
            clear HI
            obtain ⟨k0, k21, k22, k23, k24⟩ := KC.out _ BE.out
            by_cases hkn : k < fn
            · have hlt : (k : Int) < (fn : Int) := by omega
              have hge : (0 : Int) ≤ (k : Int) := by omega
              have HFI := hidx (HF.out k hkn)
              have hw1 : IntKind.i64.wrap ((k : Int) + 1) = (k : Int) + 1 := by have := SZ.out; have := sumN_ge (fun i => 2 + (c.fs i).size) (fun i => by omega) fn; rw [IntKind.wrap_i64]; omega
              have SL := hidx (show 2 + sumN (fun i => 3 + (c.af i).size) i + j + sumN (fun i => 2 + (c.fs i).size) k ≤ 1299990 ∧ (c.fs k).size ≤ 65535 from by have := SZ.out; have := Pkt.sumN_le (fun i => 2 + (c.fs i).size) k fn (by omega); have := HFI.out.1; omega)
              have hcp := (IN.out _ BE.out).filters.1
              simp only at hcp
              obtain ⟨bA, oA, rfl, hcA⟩ := (IN.out _ BE.out).filters.2.resolve_left (by simp only; omega)
              have d0 := hcA k hkn
              clear hcA
              go_wp2_with (first | (go_at_call 161; with_reducible refine (words3_any (c.fs k) _ HFI.out.1 HFI.out.2).mono ?_; rintro e wq ⟨gq, cq, rfl, hyq, hbq⟩; replace OW := hidx (own_below OW.out hbq); replace BE := hidx (BE.out.trans (hbq.mono BE.out.size)); have YY := hidx hyq; clear hyq hbq k0 k21 k22 k23 k24 d0; obtain ⟨k0, k21, k22, k23, k24⟩ := KC.out _ BE.out) | (at_builtin; refine wpList_otE rfl _ _ rfl _ _ _ _ rfl OW.out _ _ (.inr (by simp only; omega)) rfl YY.out (by have := SL.out; have := NE.out; omega) (by have := SL.out; simp only; omega) BE.out.size ?_; intro vq wq mq_ yq hm hy ho hv hb; replace NE := hidx (hm.trans (congrArg (· + _) NE.out)); replace EQ := hidx (hy.trans (congrArg (· ++ _) EQ.out)); (try dsimp only at NE EQ); replace OW := hidx ho; replace VN := hidx hv; replace BE := hidx (BE.out.trans hb); clear hm hy ho hv hb YY k0 k21 k22 k23 k24; obtain ⟨k0, k21, k22, k23, k24⟩ := KC.out _ BE.out))
              go_roundg (fn - (k + 1))
              case measure => omega
              case rel => exact ⟨k + 1, _, _, by omega, by first | rfl | simp, OW.out, VN.out, BE.out, by rw [NE.out, sumN_succ]; omega, by rw [EQ.out]; simp [filtL, tx_cells, List.append_assoc]⟩
            · have hlt : ¬ (k : Int) < (fn : Int) := by omega
              have hkf : k = fn := by omega
              subst hkf
              obtain ⟨a9, n9, c9, rfl, h9⟩ := fd_end b0.out BE.out OW.out VN.out EQ.out
              have H9 := hidx h9
              clear h9
              go_wp2_with fail
              go_ret
              refine ⟨a9, n9, c9, rfl, ?_, H9.out.2⟩
              have t9 := H9.out.1
              simpa [List.append_assoc] using t9
open Pkt (Pk Cn Sl In By Is Ss As pkCells Gd box_below Right TT sumN sz fg Small ck wpList_load_wanted mkI)
set_option maxHeartbeats 1000000
theorem fields3_any (p : Pk) (c : Cn) (w : World) (hin : In w p c) (hn : Pkt.Nils p) (r : Right TT p c) (hsz : sz p c ≤ 1299990) : Calls Tryz.prog 99 #[.agg (pkCells p)] w fun e w' => Fd3 w w' e (fieldsL p c) := by
 have hQ := r.ql
 simp only [Pkt.qls, Bool.and_eq_true, Pkt.isQ, decide_eq_true_eq] at hQ
 by_cases k1 : p.kind = 1
 ·
  have e2 : fieldsL p c = connL p c.wz c.pz := by unfold fieldsL; rw [if_pos k1]
  rw [e2]
  have hC := txt_ok r.t1
  have hU := txt_ok r.t2
  have hT : p.hasWill = true → p.wT.size ≤ 65535 ∧ (chk p.wT).2 = 0 := fun hw => by
   have := r.tp
   simp [Pkt.tps, hw, k1] at this
   exact top_ok this
  have hZ : p.client.size ≤ 65535 ∧ p.wT.size ≤ 65535 ∧ p.user.size ≤ 65535 ∧ p.wP.n ≤ 65535 ∧ p.pass.n ≤ 65535 := by
   refine ⟨hC.1, ?_, hU.1, r.s1, r.s2⟩
   by_cases hw : p.hasWill = true
   ·
    exact (hT hw).1
   ·
    have := (r.own.will (fun q => hw q.2)).1
    omega
  have hq : p.wQ = 0 ∨ p.wQ = 1 ∨ p.wQ = 2 := by omega
  have nW := hn.wp
  have nP := hn.ps
  clear r hQ hsz e2 hn
  obtain ⟨kind, level, clean, keep, client, hasWill, wT, ⟨wa, wn, wc⟩, wQ, wR, hasUser, user, hasPass, ⟨pa, pn, pc⟩, present, code, dup, mT, ⟨ma, mn, mc⟩, mQ, mR, id, ⟨aa, an, ac⟩, ⟨ca, cn, cc⟩, ⟨fa, fn, fc⟩⟩ := p
  simp only at k1 hC hU hT hZ hq nW nP
  subst k1
  exact fields_1 hasWill hasUser hasPass level clean keep client wT wa wn wc wQ wR user pa pn pc present code dup mT ma mn mc mQ mR id aa an ac ca cn cc fa fn fc c w hin hC hZ hq hT nW hU nP
 by_cases k2 : p.kind = 2
 ·
  have e2 : fieldsL p c = [.int .u8 (mkU p.present 1), .int .u8 (p.code % 256)] := by unfold fieldsL; rw [if_neg k1, if_pos k2]
  rw [e2]
  clear r hQ hsz e2 hn k1
  obtain ⟨kind, level, clean, keep, client, hasWill, wT, ⟨wa, wn, wc⟩, wQ, wR, hasUser, user, hasPass, ⟨pa, pn, pc⟩, present, code, dup, mT, ⟨ma, mn, mc⟩, mQ, mR, id, ⟨aa, an, ac⟩, ⟨ca, cn, cc⟩, ⟨fa, fn, fc⟩⟩ := p
  simp only at k2
  subst k2
  exact fields_2 level clean keep client hasWill wT wa wn wc wQ wR hasUser user hasPass pa pn pc present code dup mT ma mn mc mQ mR id aa an ac ca cn cc fa fn fc c w hin
 by_cases k3 : p.kind = 3
 ·
  have e2 : fieldsL p c = pubL p c.mz := by unfold fieldsL; rw [if_neg k1, if_neg k2, if_pos k3]
  have ht : Pkt.topb p.mT = true := by have := r.tp; simp [Pkt.tps, k3] at this; exact this.2
  have hT := top_ok ht
  have e1 : sz p c = pubN p := by
   unfold Pkt.sz pubN Pkt.nid Pkt.hasID
   rw [if_neg k1, if_neg k2, if_pos k3]
   by_cases hq : p.mQ = 0
   ·
    simp [k3, hq]
   ·
    have : 0 < p.mQ := by omega
    simp [k3, hq, this]; omega
  have hZ : p.mT.size ≤ 65535 ∧ p.mP.n ≤ 1299990 := ⟨hT.1, by rw [e1] at hsz; unfold pubN at hsz; omega⟩
  rw [e2]
  clear r hQ hsz e1 e2 hn k1 k2 ht
  obtain ⟨kind, level, clean, keep, client, hasWill, wT, ⟨wa, wn, wc⟩, wQ, wR, hasUser, user, hasPass, ⟨pa, pn, pc⟩, present, code, dup, mT, ⟨ma, mn, mc⟩, mQ, mR, id, ⟨aa, an, ac⟩, ⟨ca, cn, cc⟩, ⟨fa, fn, fc⟩⟩ := p
  simp only at k3 hT hZ
  subst k3
  by_cases hq : mQ > 0
  ·
   have e3 : pubL (⟨3, level, clean, keep, client, hasWill, wT, ⟨wa, wn, wc⟩, wQ, wR, hasUser, user, hasPass, ⟨pa, pn, pc⟩, present, code, dup, mT, ⟨ma, mn, mc⟩, mQ, mR, id, ⟨aa, an, ac⟩, ⟨ca, cn, cc⟩, ⟨fa, fn, fc⟩⟩ : Pk) c.mz = tx mT ++ cellsOf (numZ id) 2 ++ cellsOf c.mz mn := by unfold pubL; simp only; rw [if_pos hq]
   rw [e3]
   exact fields_3a level clean keep client hasWill wT wa wn wc wQ wR hasUser user hasPass pa pn pc present code dup mT ma mn mc mQ mR id aa an ac ca cn cc fa fn fc c w hin hT hZ hq
  ·
   have e3 : pubL (⟨3, level, clean, keep, client, hasWill, wT, ⟨wa, wn, wc⟩, wQ, wR, hasUser, user, hasPass, ⟨pa, pn, pc⟩, present, code, dup, mT, ⟨ma, mn, mc⟩, mQ, mR, id, ⟨aa, an, ac⟩, ⟨ca, cn, cc⟩, ⟨fa, fn, fc⟩⟩ : Pk) c.mz = tx mT ++ cellsOf c.mz mn := by unfold pubL; simp only; rw [if_neg hq, List.append_nil]
   rw [e3]
   exact fields_3b level clean keep client hasWill wT wa wn wc wQ wR hasUser user hasPass pa pn pc present code dup mT ma mn mc mQ mR id aa an ac ca cn cc fa fn fc c w hin hT hZ hq
 by_cases k12 : 12 ≤ p.kind
 ·
  have e2 : fieldsL p c = [] := by unfold fieldsL; rw [if_neg k1, if_neg k2, if_neg k3, if_pos k12]
  rw [e2]
  have hk : p.kind = 12 ∨ p.kind = 13 ∨ p.kind = 14 := by have := r.k2; omega
  clear r hQ hsz e2 hn k1 k2 k3 k12
  obtain ⟨kind, level, clean, keep, client, hasWill, wT, ⟨wa, wn, wc⟩, wQ, wR, hasUser, user, hasPass, ⟨pa, pn, pc⟩, present, code, dup, mT, ⟨ma, mn, mc⟩, mQ, mR, id, ⟨aa, an, ac⟩, ⟨ca, cn, cc⟩, ⟨fa, fn, fc⟩⟩ := p
  simp only at hk
  rcases hk with rfl | rfl | rfl
  ·
   exact fields_12 level clean keep client hasWill wT wa wn wc wQ wR hasUser user hasPass pa pn pc present code dup mT ma mn mc mQ mR id aa an ac ca cn cc fa fn fc c w hin
  ·
   exact fields_13 level clean keep client hasWill wT wa wn wc wQ wR hasUser user hasPass pa pn pc present code dup mT ma mn mc mQ mR id aa an ac ca cn cc fa fn fc c w hin
  ·
   exact fields_14 level clean keep client hasWill wT wa wn wc wQ wR hasUser user hasPass pa pn pc present code dup mT ma mn mc mQ mR id aa an ac ca cn cc fa fn fc c w hin
 ·
  have hk4 : 4 ≤ p.kind := by have := r.k1; omega
  have e1 : sz p c = 2 + sumN (fun i => 3 + (c.af i).size) p.asks.n + p.codes.n + sumN (fun i => 2 + (c.fs i).size) p.filters.n := by
   unfold Pkt.sz Pkt.nid Pkt.hasID
   rw [if_neg k1, if_neg k2, if_neg k3]
   have : p.kind ≤ 11 := by omega
   simp [k3, this, hk4]; omega
  have e2 : fieldsL p c = cellsOf (numZ p.id) 2 ++ (asksL c.af c.aq p.asks.n ++ codesL c.cs p.codes.n ++ filtL c.fs p.filters.n) := by unfold fieldsL; rw [if_neg k1, if_neg k2, if_neg k3, if_neg k12]
  have hft := r.ft
  simp only [Pkt.flts, Bool.and_eq_true, Pkt.allN_iff] at hft
  have hA : ∀ i, i < p.asks.n → (c.af i).size ≤ 65535 ∧ (chk (c.af i)).2 = 0 := fun i hi => flt_ok (hft.1 i hi)
  have hF : ∀ i, i < p.filters.n → (c.fs i).size ≤ 65535 ∧ (chk (c.fs i)).2 = 0 := fun i hi => flt_ok (hft.2 i hi)
  rw [e1] at hsz
  rw [e2]
  have hk : 4 ≤ p.kind ∧ p.kind ≤ 11 := by omega
  clear r hQ e1 e2 hn k1 k2 k3 k12 hft hk4
  obtain ⟨kind, level, clean, keep, client, hasWill, wT, ⟨wa, wn, wc⟩, wQ, wR, hasUser, user, hasPass, ⟨pa, pn, pc⟩, present, code, dup, mT, ⟨ma, mn, mc⟩, mQ, mR, id, ⟨aa, an, ac⟩, ⟨ca, cn, cc⟩, ⟨fa, fn, fc⟩⟩ := p
  exact fields_more kind level clean keep client hasWill wT wa wn wc wQ wR hasUser user hasPass pa pn pc present code dup mT ma mn mc mQ mR id aa an ac ca cn cc fa fn fc c w hin hk hA hF hsz
theorem flags3_pub (level : Int) (clean : Bool) (keep : Int) (client : ByteArray) (hasWill : Bool) (wT : ByteArray) (wa : Option Addr) (wn wc : Nat) (wQ : Int) (wR hasUser : Bool) (user : ByteArray) (hasPass : Bool) (pa : Option Addr) (pn pc : Nat) (present : Bool) (code : Int) (dup : Bool) (mT : ByteArray) (ma : Option Addr) (mn mc : Nat) (mQ : Int) (mR : Bool) (id : Int) (aa : Option Addr) (an ac : Nat) (ca : Option Addr) (cn cc : Nat) (fa : Option Addr) (fn fc : Nat) (w : World) (hq : mQ = 0 ∨ mQ = 1 ∨ mQ = 2) : Calls Tryz.prog 100 #[.agg #[.int .i64 3, .int .i64 level, .bool clean, .int .i64 keep, .string client, .bool hasWill, .string wT, .slice wa wn wc, .int .i64 wQ, .bool wR, .bool hasUser, .string user, .bool hasPass, .slice pa pn pc, .bool present, .int .i64 code, .bool dup, .string mT, .slice ma mn mc, .int .i64 mQ, .bool mR, .int .i64 id, .slice aa an ac, .slice ca cn cc, .slice fa fn fc]] w fun e w' => e = .returned (.int .i64 (mkU dup 8 + 2 * mQ + mkU mR 1)) ∧ Below w.heap.size w w' := by
 obtain ⟨W, hW⟩ : ∃ W, W = w.alloc (.cells #[.int .i64 3, .int .i64 level, .bool clean, .int .i64 keep, .string client, .bool hasWill, .string wT, .slice wa wn wc, .int .i64 wQ, .bool wR, .bool hasUser, .string user, .bool hasPass, .slice pa pn pc, .bool present, .int .i64 code, .bool dup, .string mT, .slice ma mn mc, .int .i64 mQ, .bool mR, .int .i64 id, .slice aa an ac, .slice ca cn cc, .slice fa fn fc] 29) := ⟨_, rfl⟩
 have b0 : Hid (Below w.heap.size w W) := box_below hW
 have g0 : W.heap[w.heap.size]? = some (.cells #[.int .i64 3, .int .i64 level, .bool clean, .int .i64 keep, .string client, .bool hasWill, .string wT, .slice wa wn wc, .int .i64 wQ, .bool wR, .bool hasUser, .string user, .bool hasPass, .slice pa pn pc, .bool present, .int .i64 code, .bool dup, .string mT, .slice ma mn mc, .int .i64 mQ, .bool mR, .int .i64 id, .slice aa an ac, .slice ca cn cc, .slice fa fn fc] 29) := by rw [hW]; exact heap_alloc_new w _
 have k0 : W.cell? ⟨w.heap.size, 0, none⟩ = some (.int .i64 3) := box_cells g0 0 _ rfl
 have k16 : W.cell? ⟨w.heap.size, 16, none⟩ = some (.bool dup) := box_cells g0 16 _ rfl
 have k19 : W.cell? ⟨w.heap.size, 19, none⟩ = some (.int .i64 mQ) := box_cells g0 19 _ rfl
 have k20 : W.cell? ⟨w.heap.size, 20, none⟩ = some (.bool mR) := box_cells g0 20 _ rfl
 clear g0
 have hb8 := mkU_bd dup 8 (by decide)
 have hb1 := mkU_bd mR 1 (by decide)
 obtain ⟨m8, hm8⟩ : ∃ x : Int, x = mkU dup 8 := ⟨_, rfl⟩
 obtain ⟨m1, hm1⟩ : ∃ x : Int, x = mkU mR 1 := ⟨_, rfl⟩
 rw [← hm8] at hb8 ⊢
 rw [← hm1] at hb1 ⊢
 have C8 := hidx (fun w' => (show Calls Tryz.prog 162 #[.bool dup, .int .i64 8] w' fun e w'' => e = .returned (.int .i64 m8) ∧ w'' = w' from by rw [hm8]; exact bit_any dup 8 w'))
 have C1 := hidx (fun w' => (show Calls Tryz.prog 162 #[.bool mR, .int .i64 1] w' fun e w'' => e = .returned (.int .i64 m1) ∧ w'' = w' from by rw [hm1]; exact bit_any mR 1 w'))
 have hw1 : IntKind.i64.wrap (2 * mQ) = 2 * mQ := by rw [IntKind.wrap_i64]; omega
 have hw2 : IntKind.i64.wrap (m8 + 2 * mQ) = m8 + 2 * mQ := by rw [IntKind.wrap_i64]; omega
 have hw3 : IntKind.i64.wrap (m8 + 2 * mQ + m1) = m8 + 2 * mQ + m1 := by rw [IntKind.wrap_i64]; omega
 clear hm8 hm1 hb8 hb1 hq
 go_enter Tryz.func100, Tryz.ntmps100
 go_upto_region 1 with fail
 rw [← hW]
 clear hW
 go_wp2_with fail
 go_quiet (first | (go_at_call 162; with_reducible exact Calls.quiet_of_same (C8.out _)) | (go_at_call 162; with_reducible exact Calls.quiet_of_same (C1.out _)))
 go_wp2
 go_ret
 exact ⟨rfl, below_drewN b0.out _⟩
theorem flags3_6 (level : Int) (clean : Bool) (keep : Int) (client : ByteArray) (hasWill : Bool) (wT : ByteArray) (wa : Option Addr) (wn wc : Nat) (wQ : Int) (wR hasUser : Bool) (user : ByteArray) (hasPass : Bool) (pa : Option Addr) (pn pc : Nat) (present : Bool) (code : Int) (dup : Bool) (mT : ByteArray) (ma : Option Addr) (mn mc : Nat) (mQ : Int) (mR : Bool) (id : Int) (aa : Option Addr) (an ac : Nat) (ca : Option Addr) (cn cc : Nat) (fa : Option Addr) (fn fc : Nat) (w : World)  : Calls Tryz.prog 100 #[.agg #[.int .i64 6, .int .i64 level, .bool clean, .int .i64 keep, .string client, .bool hasWill, .string wT, .slice wa wn wc, .int .i64 wQ, .bool wR, .bool hasUser, .string user, .bool hasPass, .slice pa pn pc, .bool present, .int .i64 code, .bool dup, .string mT, .slice ma mn mc, .int .i64 mQ, .bool mR, .int .i64 id, .slice aa an ac, .slice ca cn cc, .slice fa fn fc]] w fun e w' => e = .returned (.int .i64 (2)) ∧ Below w.heap.size w w' := by
 obtain ⟨W, hW⟩ : ∃ W, W = w.alloc (.cells #[.int .i64 6, .int .i64 level, .bool clean, .int .i64 keep, .string client, .bool hasWill, .string wT, .slice wa wn wc, .int .i64 wQ, .bool wR, .bool hasUser, .string user, .bool hasPass, .slice pa pn pc, .bool present, .int .i64 code, .bool dup, .string mT, .slice ma mn mc, .int .i64 mQ, .bool mR, .int .i64 id, .slice aa an ac, .slice ca cn cc, .slice fa fn fc] 29) := ⟨_, rfl⟩
 have b0 : Hid (Below w.heap.size w W) := box_below hW
 have g0 : W.heap[w.heap.size]? = some (.cells #[.int .i64 6, .int .i64 level, .bool clean, .int .i64 keep, .string client, .bool hasWill, .string wT, .slice wa wn wc, .int .i64 wQ, .bool wR, .bool hasUser, .string user, .bool hasPass, .slice pa pn pc, .bool present, .int .i64 code, .bool dup, .string mT, .slice ma mn mc, .int .i64 mQ, .bool mR, .int .i64 id, .slice aa an ac, .slice ca cn cc, .slice fa fn fc] 29) := by rw [hW]; exact heap_alloc_new w _
 have k0 : W.cell? ⟨w.heap.size, 0, none⟩ = some (.int .i64 6) := box_cells g0 0 _ rfl
 have k16 : W.cell? ⟨w.heap.size, 16, none⟩ = some (.bool dup) := box_cells g0 16 _ rfl
 have k19 : W.cell? ⟨w.heap.size, 19, none⟩ = some (.int .i64 mQ) := box_cells g0 19 _ rfl
 have k20 : W.cell? ⟨w.heap.size, 20, none⟩ = some (.bool mR) := box_cells g0 20 _ rfl
 clear g0
 go_enter Tryz.func100, Tryz.ntmps100
 go_upto_region 1 with fail
 rw [← hW]
 clear hW
 go_wp2
 go_ret
 exact ⟨rfl, b0.out⟩
theorem flags3_8 (level : Int) (clean : Bool) (keep : Int) (client : ByteArray) (hasWill : Bool) (wT : ByteArray) (wa : Option Addr) (wn wc : Nat) (wQ : Int) (wR hasUser : Bool) (user : ByteArray) (hasPass : Bool) (pa : Option Addr) (pn pc : Nat) (present : Bool) (code : Int) (dup : Bool) (mT : ByteArray) (ma : Option Addr) (mn mc : Nat) (mQ : Int) (mR : Bool) (id : Int) (aa : Option Addr) (an ac : Nat) (ca : Option Addr) (cn cc : Nat) (fa : Option Addr) (fn fc : Nat) (w : World)  : Calls Tryz.prog 100 #[.agg #[.int .i64 8, .int .i64 level, .bool clean, .int .i64 keep, .string client, .bool hasWill, .string wT, .slice wa wn wc, .int .i64 wQ, .bool wR, .bool hasUser, .string user, .bool hasPass, .slice pa pn pc, .bool present, .int .i64 code, .bool dup, .string mT, .slice ma mn mc, .int .i64 mQ, .bool mR, .int .i64 id, .slice aa an ac, .slice ca cn cc, .slice fa fn fc]] w fun e w' => e = .returned (.int .i64 (2)) ∧ Below w.heap.size w w' := by
 obtain ⟨W, hW⟩ : ∃ W, W = w.alloc (.cells #[.int .i64 8, .int .i64 level, .bool clean, .int .i64 keep, .string client, .bool hasWill, .string wT, .slice wa wn wc, .int .i64 wQ, .bool wR, .bool hasUser, .string user, .bool hasPass, .slice pa pn pc, .bool present, .int .i64 code, .bool dup, .string mT, .slice ma mn mc, .int .i64 mQ, .bool mR, .int .i64 id, .slice aa an ac, .slice ca cn cc, .slice fa fn fc] 29) := ⟨_, rfl⟩
 have b0 : Hid (Below w.heap.size w W) := box_below hW
 have g0 : W.heap[w.heap.size]? = some (.cells #[.int .i64 8, .int .i64 level, .bool clean, .int .i64 keep, .string client, .bool hasWill, .string wT, .slice wa wn wc, .int .i64 wQ, .bool wR, .bool hasUser, .string user, .bool hasPass, .slice pa pn pc, .bool present, .int .i64 code, .bool dup, .string mT, .slice ma mn mc, .int .i64 mQ, .bool mR, .int .i64 id, .slice aa an ac, .slice ca cn cc, .slice fa fn fc] 29) := by rw [hW]; exact heap_alloc_new w _
 have k0 : W.cell? ⟨w.heap.size, 0, none⟩ = some (.int .i64 8) := box_cells g0 0 _ rfl
 have k16 : W.cell? ⟨w.heap.size, 16, none⟩ = some (.bool dup) := box_cells g0 16 _ rfl
 have k19 : W.cell? ⟨w.heap.size, 19, none⟩ = some (.int .i64 mQ) := box_cells g0 19 _ rfl
 have k20 : W.cell? ⟨w.heap.size, 20, none⟩ = some (.bool mR) := box_cells g0 20 _ rfl
 clear g0
 go_enter Tryz.func100, Tryz.ntmps100
 go_upto_region 1 with fail
 rw [← hW]
 clear hW
 go_wp2
 go_ret
 exact ⟨rfl, b0.out⟩
theorem flags3_10 (level : Int) (clean : Bool) (keep : Int) (client : ByteArray) (hasWill : Bool) (wT : ByteArray) (wa : Option Addr) (wn wc : Nat) (wQ : Int) (wR hasUser : Bool) (user : ByteArray) (hasPass : Bool) (pa : Option Addr) (pn pc : Nat) (present : Bool) (code : Int) (dup : Bool) (mT : ByteArray) (ma : Option Addr) (mn mc : Nat) (mQ : Int) (mR : Bool) (id : Int) (aa : Option Addr) (an ac : Nat) (ca : Option Addr) (cn cc : Nat) (fa : Option Addr) (fn fc : Nat) (w : World)  : Calls Tryz.prog 100 #[.agg #[.int .i64 10, .int .i64 level, .bool clean, .int .i64 keep, .string client, .bool hasWill, .string wT, .slice wa wn wc, .int .i64 wQ, .bool wR, .bool hasUser, .string user, .bool hasPass, .slice pa pn pc, .bool present, .int .i64 code, .bool dup, .string mT, .slice ma mn mc, .int .i64 mQ, .bool mR, .int .i64 id, .slice aa an ac, .slice ca cn cc, .slice fa fn fc]] w fun e w' => e = .returned (.int .i64 (2)) ∧ Below w.heap.size w w' := by
 obtain ⟨W, hW⟩ : ∃ W, W = w.alloc (.cells #[.int .i64 10, .int .i64 level, .bool clean, .int .i64 keep, .string client, .bool hasWill, .string wT, .slice wa wn wc, .int .i64 wQ, .bool wR, .bool hasUser, .string user, .bool hasPass, .slice pa pn pc, .bool present, .int .i64 code, .bool dup, .string mT, .slice ma mn mc, .int .i64 mQ, .bool mR, .int .i64 id, .slice aa an ac, .slice ca cn cc, .slice fa fn fc] 29) := ⟨_, rfl⟩
 have b0 : Hid (Below w.heap.size w W) := box_below hW
 have g0 : W.heap[w.heap.size]? = some (.cells #[.int .i64 10, .int .i64 level, .bool clean, .int .i64 keep, .string client, .bool hasWill, .string wT, .slice wa wn wc, .int .i64 wQ, .bool wR, .bool hasUser, .string user, .bool hasPass, .slice pa pn pc, .bool present, .int .i64 code, .bool dup, .string mT, .slice ma mn mc, .int .i64 mQ, .bool mR, .int .i64 id, .slice aa an ac, .slice ca cn cc, .slice fa fn fc] 29) := by rw [hW]; exact heap_alloc_new w _
 have k0 : W.cell? ⟨w.heap.size, 0, none⟩ = some (.int .i64 10) := box_cells g0 0 _ rfl
 have k16 : W.cell? ⟨w.heap.size, 16, none⟩ = some (.bool dup) := box_cells g0 16 _ rfl
 have k19 : W.cell? ⟨w.heap.size, 19, none⟩ = some (.int .i64 mQ) := box_cells g0 19 _ rfl
 have k20 : W.cell? ⟨w.heap.size, 20, none⟩ = some (.bool mR) := box_cells g0 20 _ rfl
 clear g0
 go_enter Tryz.func100, Tryz.ntmps100
 go_upto_region 1 with fail
 rw [← hW]
 clear hW
 go_wp2
 go_ret
 exact ⟨rfl, b0.out⟩
theorem flags3_no (kind level : Int) (clean : Bool) (keep : Int) (client : ByteArray) (hasWill : Bool) (wT : ByteArray) (wa : Option Addr) (wn wc : Nat) (wQ : Int) (wR hasUser : Bool) (user : ByteArray) (hasPass : Bool) (pa : Option Addr) (pn pc : Nat) (present : Bool) (code : Int) (dup : Bool) (mT : ByteArray) (ma : Option Addr) (mn mc : Nat) (mQ : Int) (mR : Bool) (id : Int) (aa : Option Addr) (an ac : Nat) (ca : Option Addr) (cn cc : Nat) (fa : Option Addr) (fn fc : Nat) (w : World) (h3 : ¬ kind = 3) (h6 : ¬ kind = 6) (h8 : ¬ kind = 8) (h10 : ¬ kind = 10) : Calls Tryz.prog 100 #[.agg #[.int .i64 kind, .int .i64 level, .bool clean, .int .i64 keep, .string client, .bool hasWill, .string wT, .slice wa wn wc, .int .i64 wQ, .bool wR, .bool hasUser, .string user, .bool hasPass, .slice pa pn pc, .bool present, .int .i64 code, .bool dup, .string mT, .slice ma mn mc, .int .i64 mQ, .bool mR, .int .i64 id, .slice aa an ac, .slice ca cn cc, .slice fa fn fc]] w fun e w' => e = .returned (.int .i64 (0)) ∧ Below w.heap.size w w' := by
 obtain ⟨W, hW⟩ : ∃ W, W = w.alloc (.cells #[.int .i64 kind, .int .i64 level, .bool clean, .int .i64 keep, .string client, .bool hasWill, .string wT, .slice wa wn wc, .int .i64 wQ, .bool wR, .bool hasUser, .string user, .bool hasPass, .slice pa pn pc, .bool present, .int .i64 code, .bool dup, .string mT, .slice ma mn mc, .int .i64 mQ, .bool mR, .int .i64 id, .slice aa an ac, .slice ca cn cc, .slice fa fn fc] 29) := ⟨_, rfl⟩
 have b0 : Hid (Below w.heap.size w W) := box_below hW
 have g0 : W.heap[w.heap.size]? = some (.cells #[.int .i64 kind, .int .i64 level, .bool clean, .int .i64 keep, .string client, .bool hasWill, .string wT, .slice wa wn wc, .int .i64 wQ, .bool wR, .bool hasUser, .string user, .bool hasPass, .slice pa pn pc, .bool present, .int .i64 code, .bool dup, .string mT, .slice ma mn mc, .int .i64 mQ, .bool mR, .int .i64 id, .slice aa an ac, .slice ca cn cc, .slice fa fn fc] 29) := by rw [hW]; exact heap_alloc_new w _
 have k0 : W.cell? ⟨w.heap.size, 0, none⟩ = some (.int .i64 kind) := box_cells g0 0 _ rfl
 have k16 : W.cell? ⟨w.heap.size, 16, none⟩ = some (.bool dup) := box_cells g0 16 _ rfl
 have k19 : W.cell? ⟨w.heap.size, 19, none⟩ = some (.int .i64 mQ) := box_cells g0 19 _ rfl
 have k20 : W.cell? ⟨w.heap.size, 20, none⟩ = some (.bool mR) := box_cells g0 20 _ rfl
 clear g0
 have y3 : (kind == 3) = false := by simpa using h3
 have y6 : (kind == 6) = false := by simpa using h6
 have y8 : (kind == 8) = false := by simpa using h8
 have y10 : (kind == 10) = false := by simpa using h10
 go_enter Tryz.func100, Tryz.ntmps100
 go_upto_region 1 with fail
 rw [← hW]
 clear hW
 go_wp2
 go_ret
 exact ⟨rfl, b0.out⟩
end Go.Proofs.YtphofgnehdlafaaGreatDoor
