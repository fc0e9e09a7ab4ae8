import Derived.Test.YtphofgnehdlafaaGreatDoorEa
import Derived.Deep.LoopGhost
namespace Go.Proofs.YtphofgnehdlafaaGreatDoor
open Go Go.RowKit
open Pkt (Pk Cn Sl In By Is Ss As pkCells Gd box_below Right TT sumN)
set_option linter.unusedSimpArgs false
set_option linter.unusedVariables false
set_option maxRecDepth 100000
set_option maxHeartbeats 4000000
def Fd3 (w w' : World) (e : Ending) (xs : List Value) : Prop := ∃ a n cp, e = .returned (.slice a n cp) ∧ w'.ownsRow w.heap.size 5 1 (.slice a n cp) n xs ∧ Below w.heap.size w w'
theorem own_less {w : World} {B B' n : Nat} {v : Value} {xs : List Value} (h : w.ownsRow B 5 1 v n xs) (hb : B' ≤ B) : w.ownsRow B' 5 1 v n xs := by
 refine ⟨h.1, ?_⟩
 rcases h.2 with q | ⟨g, cap, cur, e1, e2, e3⟩
 ·
  exact .inl q
 ·
  exact .inr ⟨g, cap, cur, e1, Nat.le_trans hb e2, e3⟩
theorem mkU_bd (b : Bool) (n : Int) (hn : 0 ≤ n) : 0 ≤ mkU b n ∧ mkU b n ≤ n := by cases b <;> simp [mkU] <;> omega
theorem later_e {w w' : World} {g t : Nat} {cs : Array Value} (h : w.heap[g]? = some (.cells cs t (0, 0))) (hb : Below w.heap.size w w') : w'.heap[g]? = some (.cells cs t (0, 0)) := (hb.block g (Array.getElem?_eq_some_iff.1 h).1).trans h
theorem fd_end {w W w' : World} {v : Value} {n : Nat} {xs ys : List Value} (b0 : Below w.heap.size w W) (bE : Below W.heap.size W w') (ho : w'.ownsRow W.heap.size 5 1 v n xs) (hv : v ≠ .slice none 0 0) (hx : xs = ys) : ∃ a k cp, v = .slice a k cp ∧ w'.ownsRow w.heap.size 5 1 (.slice a k cp) k ys ∧ Below w.heap.size w w' := by
 obtain ⟨g, cap, cur, rfl, _⟩ := own_somb ho hv
 exact ⟨_, _, _, rfl, hx ▸ own_less ho b0.size, b0.trans (bE.mono b0.size)⟩
theorem fields_12 (level : Int) (clean : Bool) (keep : Int) (client : ByteArray) (hasWill : Bool) (wT : ByteArray) (wa : Option Addr) (wn wc : Nat) (wQ : Int) (wR hasUser : Bool) (user : ByteArray) (hasPass : Bool) (pa : Option Addr) (pn pc : Nat) (present : Bool) (code : Int) (dup : Bool) (mT : ByteArray) (ma : Option Addr) (mn mc : Nat) (mQ : Int) (mR : Bool) (id : Int) (aa : Option Addr) (an ac : Nat) (ca : Option Addr) (cn cc : Nat) (fa : Option Addr) (fn fc : Nat) (c : Cn) (w : World) (hin : In w (⟨12, level, clean, keep, client, hasWill, wT, ⟨wa, wn, wc⟩, wQ, wR, hasUser, user, hasPass, ⟨pa, pn, pc⟩, present, code, dup, mT, ⟨ma, mn, mc⟩, mQ, mR, id, ⟨aa, an, ac⟩, ⟨ca, cn, cc⟩, ⟨fa, fn, fc⟩⟩ : Pk) c)  :
    Calls Tryz.prog 99 #[.agg #[.int .i64 12, .int .i64 level, .bool clean, .int .i64 keep, .string client, .bool hasWill, .string wT, .slice wa wn wc, .int .i64 wQ, .bool wR, .bool hasUser, .string user, .bool hasPass, .slice pa pn pc, .bool present, .int .i64 code, .bool dup, .string mT, .slice ma mn mc, .int .i64 mQ, .bool mR, .int .i64 id, .slice aa an ac, .slice ca cn cc, .slice fa fn fc]] w fun e w' => Fd3 w w' e [] := by
  obtain ⟨W, hW⟩ : ∃ W, W = w.alloc (.cells #[.int .i64 12, .int .i64 level, .bool clean, .int .i64 keep, .string client, .bool hasWill, .string wT, .slice wa wn wc, .int .i64 wQ, .bool wR, .bool hasUser, .string user, .bool hasPass, .slice pa pn pc, .bool present, .int .i64 code, .bool dup, .string mT, .slice ma mn mc, .int .i64 mQ, .bool mR, .int .i64 id, .slice aa an ac, .slice ca cn cc, .slice fa fn fc] 29) := ⟨_, rfl⟩
  have b0 : Hid (Below w.heap.size w W) := box_below hW
  have g0 : Hid (W.heap[w.heap.size]? = some (.cells #[.int .i64 12, .int .i64 level, .bool clean, .int .i64 keep, .string client, .bool hasWill, .string wT, .slice wa wn wc, .int .i64 wQ, .bool wR, .bool hasUser, .string user, .bool hasPass, .slice pa pn pc, .bool present, .int .i64 code, .bool dup, .string mT, .slice ma mn mc, .int .i64 mQ, .bool mR, .int .i64 id, .slice aa an ac, .slice ca cn cc, .slice fa fn fc] 29)) := by show _ = _; rw [hW]; exact heap_alloc_new w _
  have KC := hidx (show ∀ w', Below W.heap.size W w' → w'.cell? ⟨w.heap.size, 0, none⟩ = some (.int .i64 12) ∧ w'.cell? ⟨w.heap.size, 1, none⟩ = some (.int .i64 level) from fun w' hb => by have y := later_e g0.out hb; exact ⟨box_cells y 0 _ rfl, box_cells y 1 _ rfl⟩)
  have IN := hidx (fun (w' : World) (hb : Below W.heap.size W w') => hin.below (b0.out.trans (hb.mono b0.out.size)))
  have BE := hidx (Below.refl W.heap.size W)
  obtain ⟨n0, x0, hn0, hx0⟩ : ∃ (n0 : Nat) (x0 : List Value), n0 = 0 ∧ x0 = [] := ⟨_, _, rfl, rfl⟩
  have OW := hidx (show W.ownsRow W.heap.size 5 1 (.slice none 0 0) n0 x0 from by rw [hn0, hx0]; exact ⟨rfl, .inl ⟨rfl, rfl⟩⟩)
  have NE := hidx hn0
  have EQ := hidx hx0
  clear hn0 hx0
  obtain ⟨k0, k1⟩ := KC.out _ BE.out
  clear IN
  go_enter Tryz.func99, Tryz.ntmps99
  go_upto_region 1 with fail
  rw [← hW]
  clear hW
  go_wp2
  go_ret
  exact ⟨none, 0, 0, rfl, ⟨rfl, .inl ⟨rfl, rfl⟩⟩, b0.out.trans (BE.out.mono b0.out.size)⟩
theorem fields_13 (level : Int) (clean : Bool) (keep : Int) (client : ByteArray) (hasWill : Bool) (wT : ByteArray) (wa : Option Addr) (wn wc : Nat) (wQ : Int) (wR hasUser : Bool) (user : ByteArray) (hasPass : Bool) (pa : Option Addr) (pn pc : Nat) (present : Bool) (code : Int) (dup : Bool) (mT : ByteArray) (ma : Option Addr) (mn mc : Nat) (mQ : Int) (mR : Bool) (id : Int) (aa : Option Addr) (an ac : Nat) (ca : Option Addr) (cn cc : Nat) (fa : Option Addr) (fn fc : Nat) (c : Cn) (w : World) (hin : In w (⟨13, level, clean, keep, client, hasWill, wT, ⟨wa, wn, wc⟩, wQ, wR, hasUser, user, hasPass, ⟨pa, pn, pc⟩, present, code, dup, mT, ⟨ma, mn, mc⟩, mQ, mR, id, ⟨aa, an, ac⟩, ⟨ca, cn, cc⟩, ⟨fa, fn, fc⟩⟩ : Pk) c)  :
    Calls Tryz.prog 99 #[.agg #[.int .i64 13, .int .i64 level, .bool clean, .int .i64 keep, .string client, .bool hasWill, .string wT, .slice wa wn wc, .int .i64 wQ, .bool wR, .bool hasUser, .string user, .bool hasPass, .slice pa pn pc, .bool present, .int .i64 code, .bool dup, .string mT, .slice ma mn mc, .int .i64 mQ, .bool mR, .int .i64 id, .slice aa an ac, .slice ca cn cc, .slice fa fn fc]] w fun e w' => Fd3 w w' e [] := by
  obtain ⟨W, hW⟩ : ∃ W, W = w.alloc (.cells #[.int .i64 13, .int .i64 level, .bool clean, .int .i64 keep, .string client, .bool hasWill, .string wT, .slice wa wn wc, .int .i64 wQ, .bool wR, .bool hasUser, .string user, .bool hasPass, .slice pa pn pc, .bool present, .int .i64 code, .bool dup, .string mT, .slice ma mn mc, .int .i64 mQ, .bool mR, .int .i64 id, .slice aa an ac, .slice ca cn cc, .slice fa fn fc] 29) := ⟨_, rfl⟩
  have b0 : Hid (Below w.heap.size w W) := box_below hW
  have g0 : Hid (W.heap[w.heap.size]? = some (.cells #[.int .i64 13, .int .i64 level, .bool clean, .int .i64 keep, .string client, .bool hasWill, .string wT, .slice wa wn wc, .int .i64 wQ, .bool wR, .bool hasUser, .string user, .bool hasPass, .slice pa pn pc, .bool present, .int .i64 code, .bool dup, .string mT, .slice ma mn mc, .int .i64 mQ, .bool mR, .int .i64 id, .slice aa an ac, .slice ca cn cc, .slice fa fn fc] 29)) := by show _ = _; rw [hW]; exact heap_alloc_new w _
  have KC := hidx (show ∀ w', Below W.heap.size W w' → w'.cell? ⟨w.heap.size, 0, none⟩ = some (.int .i64 13) ∧ w'.cell? ⟨w.heap.size, 1, none⟩ = some (.int .i64 level) from fun w' hb => by have y := later_e g0.out hb; exact ⟨box_cells y 0 _ rfl, box_cells y 1 _ rfl⟩)
  have IN := hidx (fun (w' : World) (hb : Below W.heap.size W w') => hin.below (b0.out.trans (hb.mono b0.out.size)))
  have BE := hidx (Below.refl W.heap.size W)
  obtain ⟨n0, x0, hn0, hx0⟩ : ∃ (n0 : Nat) (x0 : List Value), n0 = 0 ∧ x0 = [] := ⟨_, _, rfl, rfl⟩
  have OW := hidx (show W.ownsRow W.heap.size 5 1 (.slice none 0 0) n0 x0 from by rw [hn0, hx0]; exact ⟨rfl, .inl ⟨rfl, rfl⟩⟩)
  have NE := hidx hn0
  have EQ := hidx hx0
  clear hn0 hx0
  obtain ⟨k0, k1⟩ := KC.out _ BE.out
  clear IN
  go_enter Tryz.func99, Tryz.ntmps99
  go_upto_region 1 with fail
  rw [← hW]
  clear hW
  go_wp2
  go_ret
  exact ⟨none, 0, 0, rfl, ⟨rfl, .inl ⟨rfl, rfl⟩⟩, b0.out.trans (BE.out.mono b0.out.size)⟩
theorem fields_14 (level : Int) (clean : Bool) (keep : Int) (client : ByteArray) (hasWill : Bool) (wT : ByteArray) (wa : Option Addr) (wn wc : Nat) (wQ : Int) (wR hasUser : Bool) (user : ByteArray) (hasPass : Bool) (pa : Option Addr) (pn pc : Nat) (present : Bool) (code : Int) (dup : Bool) (mT : ByteArray) (ma : Option Addr) (mn mc : Nat) (mQ : Int) (mR : Bool) (id : Int) (aa : Option Addr) (an ac : Nat) (ca : Option Addr) (cn cc : Nat) (fa : Option Addr) (fn fc : Nat) (c : Cn) (w : World) (hin : In w (⟨14, level, clean, keep, client, hasWill, wT, ⟨wa, wn, wc⟩, wQ, wR, hasUser, user, hasPass, ⟨pa, pn, pc⟩, present, code, dup, mT, ⟨ma, mn, mc⟩, mQ, mR, id, ⟨aa, an, ac⟩, ⟨ca, cn, cc⟩, ⟨fa, fn, fc⟩⟩ : Pk) c)  :
    Calls Tryz.prog 99 #[.agg #[.int .i64 14, .int .i64 level, .bool clean, .int .i64 keep, .string client, .bool hasWill, .string wT, .slice wa wn wc, .int .i64 wQ, .bool wR, .bool hasUser, .string user, .bool hasPass, .slice pa pn pc, .bool present, .int .i64 code, .bool dup, .string mT, .slice ma mn mc, .int .i64 mQ, .bool mR, .int .i64 id, .slice aa an ac, .slice ca cn cc, .slice fa fn fc]] w fun e w' => Fd3 w w' e [] := by
  obtain ⟨W, hW⟩ : ∃ W, W = w.alloc (.cells #[.int .i64 14, .int .i64 level, .bool clean, .int .i64 keep, .string client, .bool hasWill, .string wT, .slice wa wn wc, .int .i64 wQ, .bool wR, .bool hasUser, .string user, .bool hasPass, .slice pa pn pc, .bool present, .int .i64 code, .bool dup, .string mT, .slice ma mn mc, .int .i64 mQ, .bool mR, .int .i64 id, .slice aa an ac, .slice ca cn cc, .slice fa fn fc] 29) := ⟨_, rfl⟩
  have b0 : Hid (Below w.heap.size w W) := box_below hW
  have g0 : Hid (W.heap[w.heap.size]? = some (.cells #[.int .i64 14, .int .i64 level, .bool clean, .int .i64 keep, .string client, .bool hasWill, .string wT, .slice wa wn wc, .int .i64 wQ, .bool wR, .bool hasUser, .string user, .bool hasPass, .slice pa pn pc, .bool present, .int .i64 code, .bool dup, .string mT, .slice ma mn mc, .int .i64 mQ, .bool mR, .int .i64 id, .slice aa an ac, .slice ca cn cc, .slice fa fn fc] 29)) := by show _ = _; rw [hW]; exact heap_alloc_new w _
  have KC := hidx (show ∀ w', Below W.heap.size W w' → w'.cell? ⟨w.heap.size, 0, none⟩ = some (.int .i64 14) ∧ w'.cell? ⟨w.heap.size, 1, none⟩ = some (.int .i64 level) from fun w' hb => by have y := later_e g0.out hb; exact ⟨box_cells y 0 _ rfl, box_cells y 1 _ rfl⟩)
  have IN := hidx (fun (w' : World) (hb : Below W.heap.size W w') => hin.below (b0.out.trans (hb.mono b0.out.size)))
  have BE := hidx (Below.refl W.heap.size W)
  obtain ⟨n0, x0, hn0, hx0⟩ : ∃ (n0 : Nat) (x0 : List Value), n0 = 0 ∧ x0 = [] := ⟨_, _, rfl, rfl⟩
  have OW := hidx (show W.ownsRow W.heap.size 5 1 (.slice none 0 0) n0 x0 from by rw [hn0, hx0]; exact ⟨rfl, .inl ⟨rfl, rfl⟩⟩)
  have NE := hidx hn0
  have EQ := hidx hx0
  clear hn0 hx0
  obtain ⟨k0, k1⟩ := KC.out _ BE.out
  clear IN
  go_enter Tryz.func99, Tryz.ntmps99
  go_upto_region 1 with fail
  rw [← hW]
  clear hW
  go_wp2
  go_ret
  exact ⟨none, 0, 0, rfl, ⟨rfl, .inl ⟨rfl, rfl⟩⟩, b0.out.trans (BE.out.mono b0.out.size)⟩
theorem fields_3a (level : Int) (clean : Bool) (keep : Int) (client : ByteArray) (hasWill : Bool) (wT : ByteArray) (wa : Option Addr) (wn wc : Nat) (wQ : Int) (wR hasUser : Bool) (user : ByteArray) (hasPass : Bool) (pa : Option Addr) (pn pc : Nat) (present : Bool) (code : Int) (dup : Bool) (mT : ByteArray) (ma : Option Addr) (mn mc : Nat) (mQ : Int) (mR : Bool) (id : Int) (aa : Option Addr) (an ac : Nat) (ca : Option Addr) (cn cc : Nat) (fa : Option Addr) (fn fc : Nat) (c : Cn) (w : World) (hin : In w (⟨3, level, clean, keep, client, hasWill, wT, ⟨wa, wn, wc⟩, wQ, wR, hasUser, user, hasPass, ⟨pa, pn, pc⟩, present, code, dup, mT, ⟨ma, mn, mc⟩, mQ, mR, id, ⟨aa, an, ac⟩, ⟨ca, cn, cc⟩, ⟨fa, fn, fc⟩⟩ : Pk) c) (hT : mT.size ≤ 65535 ∧ (chk mT).2 = 0) (hZ : mT.size ≤ 65535 ∧ mn ≤ 1299990) (hq : mQ > 0) :
    Calls Tryz.prog 99 #[.agg #[.int .i64 3, .int .i64 level, .bool clean, .int .i64 keep, .string client, .bool hasWill, .string wT, .slice wa wn wc, .int .i64 wQ, .bool wR, .bool hasUser, .string user, .bool hasPass, .slice pa pn pc, .bool present, .int .i64 code, .bool dup, .string mT, .slice ma mn mc, .int .i64 mQ, .bool mR, .int .i64 id, .slice aa an ac, .slice ca cn cc, .slice fa fn fc]] w fun e w' => Fd3 w w' e (tx mT ++ cellsOf (numZ id) 2 ++ cellsOf c.mz mn) := by
  obtain ⟨W, hW⟩ : ∃ W, W = w.alloc (.cells #[.int .i64 3, .int .i64 level, .bool clean, .int .i64 keep, .string client, .bool hasWill, .string wT, .slice wa wn wc, .int .i64 wQ, .bool wR, .bool hasUser, .string user, .bool hasPass, .slice pa pn pc, .bool present, .int .i64 code, .bool dup, .string mT, .slice ma mn mc, .int .i64 mQ, .bool mR, .int .i64 id, .slice aa an ac, .slice ca cn cc, .slice fa fn fc] 29) := ⟨_, rfl⟩
  have b0 : Hid (Below w.heap.size w W) := box_below hW
  have g0 : Hid (W.heap[w.heap.size]? = some (.cells #[.int .i64 3, .int .i64 level, .bool clean, .int .i64 keep, .string client, .bool hasWill, .string wT, .slice wa wn wc, .int .i64 wQ, .bool wR, .bool hasUser, .string user, .bool hasPass, .slice pa pn pc, .bool present, .int .i64 code, .bool dup, .string mT, .slice ma mn mc, .int .i64 mQ, .bool mR, .int .i64 id, .slice aa an ac, .slice ca cn cc, .slice fa fn fc] 29)) := by show _ = _; rw [hW]; exact heap_alloc_new w _
  have KC := hidx (show ∀ w', Below W.heap.size W w' → w'.cell? ⟨w.heap.size, 0, none⟩ = some (.int .i64 3) ∧ w'.cell? ⟨w.heap.size, 17, none⟩ = some (.string mT) ∧ w'.cell? ⟨w.heap.size, 18, none⟩ = some (.slice ma mn mc) ∧ w'.cell? ⟨w.heap.size, 19, none⟩ = some (.int .i64 mQ) ∧ w'.cell? ⟨w.heap.size, 21, none⟩ = some (.int .i64 id) from fun w' hb => by have y := later_e g0.out hb; exact ⟨box_cells y 0 _ rfl, box_cells y 17 _ rfl, box_cells y 18 _ rfl, box_cells y 19 _ rfl, box_cells y 21 _ rfl⟩)
  have IN := hidx (fun (w' : World) (hb : Below W.heap.size W w') => hin.below (b0.out.trans (hb.mono b0.out.size)))
  have BE := hidx (Below.refl W.heap.size W)
  obtain ⟨n0, x0, hn0, hx0⟩ : ∃ (n0 : Nat) (x0 : List Value), n0 = 0 ∧ x0 = [] := ⟨_, _, rfl, rfl⟩
  have OW := hidx (show W.ownsRow W.heap.size 5 1 (.slice none 0 0) n0 x0 from by rw [hn0, hx0]; exact ⟨rfl, .inl ⟨rfl, rfl⟩⟩)
  have NE := hidx hn0
  have EQ := hidx hx0
  clear hn0 hx0
  obtain ⟨k0, k17, k18, k19, k21⟩ := KC.out _ BE.out
  have VN := hidx True.intro
  have HT := hidx hT
  have SZ := hidx hZ
  clear hin hT hZ
  go_enter Tryz.func99, Tryz.ntmps99
  go_upto_region 1 with fail
  rw [← hW]
  clear hW
  go_wp2_with (first | (go_at_call 161; with_reducible refine (words3_any mT _ HT.out.1 HT.out.2).mono ?_; rintro e wq ⟨gq, cq, rfl, hyq, hbq⟩; replace OW := hidx (own_below OW.out hbq); replace BE := hidx (BE.out.trans (hbq.mono BE.out.size)); have YY := hidx hyq; clear hyq hbq k0 k17 k18 k19 k21; obtain ⟨k0, k17, k18, k19, k21⟩ := KC.out _ BE.out) | (go_at_call 163; refine (number3_any _ _).mono ?_; rintro e wq ⟨gq, cq, rfl, hyq, hbq⟩; replace OW := hidx (own_below OW.out hbq); replace BE := hidx (BE.out.trans (hbq.mono BE.out.size)); have YY := hidx hyq; clear hyq hbq k0 k17 k18 k19 k21; obtain ⟨k0, k17, k18, k19, k21⟩ := KC.out _ BE.out) | (at_builtin; refine wpList_otE rfl _ _ rfl _ _ _ _ rfl OW.out _ _ (.inr (by simp only; omega)) rfl YY.out (by have := SZ.out; have := NE.out; omega) (by have := SZ.out; simp only; omega) BE.out.size ?_; intro vq wq mq_ yq hm hy ho hv hb; replace NE := hidx (hm.trans (congrArg (· + _) NE.out)); replace EQ := hidx (hy.trans (congrArg (· ++ _) EQ.out)); (try dsimp only at NE EQ); replace OW := hidx ho; replace VN := hidx hv; replace BE := hidx (BE.out.trans hb); clear hm hy ho hv hb YY k0 k17 k18 k19 k21; obtain ⟨k0, k17, k18, k19, k21⟩ := KC.out _ BE.out) | (at_builtin; refine wpList_otE rfl _ _ rfl _ _ _ _ rfl OW.out ⟨ma, mn, mc⟩ _ (.inl VN.out) rfl (IN.out _ BE.out).mP (by have := SZ.out; have := NE.out; omega) (by have := SZ.out; simp only; omega) BE.out.size ?_; intro vq wq mq_ yq hm hy ho hv hb; replace NE := hidx (hm.trans (congrArg (· + _) NE.out)); replace EQ := hidx (hy.trans (congrArg (· ++ _) EQ.out)); (try dsimp only at NE EQ); replace OW := hidx ho; replace VN := hidx hv; replace BE := hidx (BE.out.trans hb); clear hm hy ho hv hb k0 k17 k18 k19 k21; obtain ⟨k0, k17, k18, k19, k21⟩ := KC.out _ BE.out))
  obtain ⟨a9, n9, c9, rfl, h9⟩ := fd_end b0.out BE.out OW.out VN.out EQ.out
  have H9 := hidx h9
  clear h9 k0 k17 k18 k19 k21
  go_wp2_with fail
  go_ret
  refine ⟨a9, n9, c9, rfl, ?_, H9.out.2⟩
  have := H9.out.1
  simpa [pubL, tx_cells, List.append_assoc] using this
theorem fields_3b (level : Int) (clean : Bool) (keep : Int) (client : ByteArray) (hasWill : Bool) (wT : ByteArray) (wa : Option Addr) (wn wc : Nat) (wQ : Int) (wR hasUser : Bool) (user : ByteArray) (hasPass : Bool) (pa : Option Addr) (pn pc : Nat) (present : Bool) (code : Int) (dup : Bool) (mT : ByteArray) (ma : Option Addr) (mn mc : Nat) (mQ : Int) (mR : Bool) (id : Int) (aa : Option Addr) (an ac : Nat) (ca : Option Addr) (cn cc : Nat) (fa : Option Addr) (fn fc : Nat) (c : Cn) (w : World) (hin : In w (⟨3, level, clean, keep, client, hasWill, wT, ⟨wa, wn, wc⟩, wQ, wR, hasUser, user, hasPass, ⟨pa, pn, pc⟩, present, code, dup, mT, ⟨ma, mn, mc⟩, mQ, mR, id, ⟨aa, an, ac⟩, ⟨ca, cn, cc⟩, ⟨fa, fn, fc⟩⟩ : Pk) c) (hT : mT.size ≤ 65535 ∧ (chk mT).2 = 0) (hZ : mT.size ≤ 65535 ∧ mn ≤ 1299990) (hq : ¬ mQ > 0) :
    Calls Tryz.prog 99 #[.agg #[.int .i64 3, .int .i64 level, .bool clean, .int .i64 keep, .string client, .bool hasWill, .string wT, .slice wa wn wc, .int .i64 wQ, .bool wR, .bool hasUser, .string user, .bool hasPass, .slice pa pn pc, .bool present, .int .i64 code, .bool dup, .string mT, .slice ma mn mc, .int .i64 mQ, .bool mR, .int .i64 id, .slice aa an ac, .slice ca cn cc, .slice fa fn fc]] w fun e w' => Fd3 w w' e (tx mT ++ cellsOf c.mz mn) := by
  obtain ⟨W, hW⟩ : ∃ W, W = w.alloc (.cells #[.int .i64 3, .int .i64 level, .bool clean, .int .i64 keep, .string client, .bool hasWill, .string wT, .slice wa wn wc, .int .i64 wQ, .bool wR, .bool hasUser, .string user, .bool hasPass, .slice pa pn pc, .bool present, .int .i64 code, .bool dup, .string mT, .slice ma mn mc, .int .i64 mQ, .bool mR, .int .i64 id, .slice aa an ac, .slice ca cn cc, .slice fa fn fc] 29) := ⟨_, rfl⟩
  have b0 : Hid (Below w.heap.size w W) := box_below hW
  have g0 : Hid (W.heap[w.heap.size]? = some (.cells #[.int .i64 3, .int .i64 level, .bool clean, .int .i64 keep, .string client, .bool hasWill, .string wT, .slice wa wn wc, .int .i64 wQ, .bool wR, .bool hasUser, .string user, .bool hasPass, .slice pa pn pc, .bool present, .int .i64 code, .bool dup, .string mT, .slice ma mn mc, .int .i64 mQ, .bool mR, .int .i64 id, .slice aa an ac, .slice ca cn cc, .slice fa fn fc] 29)) := by show _ = _; rw [hW]; exact heap_alloc_new w _
  have KC := hidx (show ∀ w', Below W.heap.size W w' → w'.cell? ⟨w.heap.size, 0, none⟩ = some (.int .i64 3) ∧ w'.cell? ⟨w.heap.size, 17, none⟩ = some (.string mT) ∧ w'.cell? ⟨w.heap.size, 18, none⟩ = some (.slice ma mn mc) ∧ w'.cell? ⟨w.heap.size, 19, none⟩ = some (.int .i64 mQ) ∧ w'.cell? ⟨w.heap.size, 21, none⟩ = some (.int .i64 id) from fun w' hb => by have y := later_e g0.out hb; exact ⟨box_cells y 0 _ rfl, box_cells y 17 _ rfl, box_cells y 18 _ rfl, box_cells y 19 _ rfl, box_cells y 21 _ rfl⟩)
  have IN := hidx (fun (w' : World) (hb : Below W.heap.size W w') => hin.below (b0.out.trans (hb.mono b0.out.size)))
  have BE := hidx (Below.refl W.heap.size W)
  obtain ⟨n0, x0, hn0, hx0⟩ : ∃ (n0 : Nat) (x0 : List Value), n0 = 0 ∧ x0 = [] := ⟨_, _, rfl, rfl⟩
  have OW := hidx (show W.ownsRow W.heap.size 5 1 (.slice none 0 0) n0 x0 from by rw [hn0, hx0]; exact ⟨rfl, .inl ⟨rfl, rfl⟩⟩)
  have NE := hidx hn0
  have EQ := hidx hx0
  clear hn0 hx0
  obtain ⟨k0, k17, k18, k19, k21⟩ := KC.out _ BE.out
  have VN := hidx True.intro
  have HT := hidx hT
  have SZ := hidx hZ
  clear hin hT hZ
  go_enter Tryz.func99, Tryz.ntmps99
  go_upto_region 1 with fail
  rw [← hW]
  clear hW
  go_wp2_with (first | (go_at_call 161; with_reducible refine (words3_any mT _ HT.out.1 HT.out.2).mono ?_; rintro e wq ⟨gq, cq, rfl, hyq, hbq⟩; replace OW := hidx (own_below OW.out hbq); replace BE := hidx (BE.out.trans (hbq.mono BE.out.size)); have YY := hidx hyq; clear hyq hbq k0 k17 k18 k19 k21; obtain ⟨k0, k17, k18, k19, k21⟩ := KC.out _ BE.out) | (go_at_call 163; refine (number3_any _ _).mono ?_; rintro e wq ⟨gq, cq, rfl, hyq, hbq⟩; replace OW := hidx (own_below OW.out hbq); replace BE := hidx (BE.out.trans (hbq.mono BE.out.size)); have YY := hidx hyq; clear hyq hbq k0 k17 k18 k19 k21; obtain ⟨k0, k17, k18, k19, k21⟩ := KC.out _ BE.out) | (at_builtin; refine wpList_otE rfl _ _ rfl _ _ _ _ rfl OW.out _ _ (.inr (by simp only; omega)) rfl YY.out (by have := SZ.out; have := NE.out; omega) (by have := SZ.out; simp only; omega) BE.out.size ?_; intro vq wq mq_ yq hm hy ho hv hb; replace NE := hidx (hm.trans (congrArg (· + _) NE.out)); replace EQ := hidx (hy.trans (congrArg (· ++ _) EQ.out)); (try dsimp only at NE EQ); replace OW := hidx ho; replace VN := hidx hv; replace BE := hidx (BE.out.trans hb); clear hm hy ho hv hb YY k0 k17 k18 k19 k21; obtain ⟨k0, k17, k18, k19, k21⟩ := KC.out _ BE.out) | (at_builtin; refine wpList_otE rfl _ _ rfl _ _ _ _ rfl OW.out ⟨ma, mn, mc⟩ _ (.inl VN.out) rfl (IN.out _ BE.out).mP (by have := SZ.out; have := NE.out; omega) (by have := SZ.out; simp only; omega) BE.out.size ?_; intro vq wq mq_ yq hm hy ho hv hb; replace NE := hidx (hm.trans (congrArg (· + _) NE.out)); replace EQ := hidx (hy.trans (congrArg (· ++ _) EQ.out)); (try dsimp only at NE EQ); replace OW := hidx ho; replace VN := hidx hv; replace BE := hidx (BE.out.trans hb); clear hm hy ho hv hb k0 k17 k18 k19 k21; obtain ⟨k0, k17, k18, k19, k21⟩ := KC.out _ BE.out))
  obtain ⟨a9, n9, c9, rfl, h9⟩ := fd_end b0.out BE.out OW.out VN.out EQ.out
  have H9 := hidx h9
  clear h9 k0 k17 k18 k19 k21
  go_wp2_with fail
  go_ret
  refine ⟨a9, n9, c9, rfl, ?_, H9.out.2⟩
  have := H9.out.1
  simpa [pubL, tx_cells, List.append_assoc] using this
theorem fields_2 (level : Int) (clean : Bool) (keep : Int) (client : ByteArray) (hasWill : Bool) (wT : ByteArray) (wa : Option Addr) (wn wc : Nat) (wQ : Int) (wR hasUser : Bool) (user : ByteArray) (hasPass : Bool) (pa : Option Addr) (pn pc : Nat) (present : Bool) (code : Int) (dup : Bool) (mT : ByteArray) (ma : Option Addr) (mn mc : Nat) (mQ : Int) (mR : Bool) (id : Int) (aa : Option Addr) (an ac : Nat) (ca : Option Addr) (cn cc : Nat) (fa : Option Addr) (fn fc : Nat) (c : Cn) (w : World) (hin : In w (⟨2, level, clean, keep, client, hasWill, wT, ⟨wa, wn, wc⟩, wQ, wR, hasUser, user, hasPass, ⟨pa, pn, pc⟩, present, code, dup, mT, ⟨ma, mn, mc⟩, mQ, mR, id, ⟨aa, an, ac⟩, ⟨ca, cn, cc⟩, ⟨fa, fn, fc⟩⟩ : Pk) c)  :
    Calls Tryz.prog 99 #[.agg #[.int .i64 2, .int .i64 level, .bool clean, .int .i64 keep, .string client, .bool hasWill, .string wT, .slice wa wn wc, .int .i64 wQ, .bool wR, .bool hasUser, .string user, .bool hasPass, .slice pa pn pc, .bool present, .int .i64 code, .bool dup, .string mT, .slice ma mn mc, .int .i64 mQ, .bool mR, .int .i64 id, .slice aa an ac, .slice ca cn cc, .slice fa fn fc]] w fun e w' => Fd3 w w' e [.int .u8 (mkU present 1), .int .u8 (code % 256)] := by
  obtain ⟨W, hW⟩ : ∃ W, W = w.alloc (.cells #[.int .i64 2, .int .i64 level, .bool clean, .int .i64 keep, .string client, .bool hasWill, .string wT, .slice wa wn wc, .int .i64 wQ, .bool wR, .bool hasUser, .string user, .bool hasPass, .slice pa pn pc, .bool present, .int .i64 code, .bool dup, .string mT, .slice ma mn mc, .int .i64 mQ, .bool mR, .int .i64 id, .slice aa an ac, .slice ca cn cc, .slice fa fn fc] 29) := ⟨_, rfl⟩
  have b0 : Hid (Below w.heap.size w W) := box_below hW
  have g0 : Hid (W.heap[w.heap.size]? = some (.cells #[.int .i64 2, .int .i64 level, .bool clean, .int .i64 keep, .string client, .bool hasWill, .string wT, .slice wa wn wc, .int .i64 wQ, .bool wR, .bool hasUser, .string user, .bool hasPass, .slice pa pn pc, .bool present, .int .i64 code, .bool dup, .string mT, .slice ma mn mc, .int .i64 mQ, .bool mR, .int .i64 id, .slice aa an ac, .slice ca cn cc, .slice fa fn fc] 29)) := by show _ = _; rw [hW]; exact heap_alloc_new w _
  have KC := hidx (show ∀ w', Below W.heap.size W w' → w'.cell? ⟨w.heap.size, 0, none⟩ = some (.int .i64 2) ∧ w'.cell? ⟨w.heap.size, 14, none⟩ = some (.bool present) ∧ w'.cell? ⟨w.heap.size, 15, none⟩ = some (.int .i64 code) from fun w' hb => by have y := later_e g0.out hb; exact ⟨box_cells y 0 _ rfl, box_cells y 14 _ rfl, box_cells y 15 _ rfl⟩)
  have IN := hidx (fun (w' : World) (hb : Below W.heap.size W w') => hin.below (b0.out.trans (hb.mono b0.out.size)))
  have BE := hidx (Below.refl W.heap.size W)
  obtain ⟨n0, x0, hn0, hx0⟩ : ∃ (n0 : Nat) (x0 : List Value), n0 = 0 ∧ x0 = [] := ⟨_, _, rfl, rfl⟩
  have OW := hidx (show W.ownsRow W.heap.size 5 1 (.slice none 0 0) n0 x0 from by rw [hn0, hx0]; exact ⟨rfl, .inl ⟨rfl, rfl⟩⟩)
  have NE := hidx hn0
  have EQ := hidx hx0
  clear hn0 hx0
  obtain ⟨k0, k14, k15⟩ := KC.out _ BE.out
  clear hin IN
  obtain ⟨m1, hm1⟩ : ∃ m1, m1 = mkU present 1 := ⟨_, rfl⟩
  have hb1 := mkU_bd present 1 (by decide)
  rw [← hm1] at hb1 ⊢
  have hw1 : IntKind.u8.wrap m1 = m1 := by rw [IntKind.wrap_u8]; omega
  have HM := hidx hm1
  clear hm1 hb1
  go_enter Tryz.func99, Tryz.ntmps99
  go_upto_region 1 with fail
  rw [← hW]
  clear hW
  go_wp2_with fail
  refine wp_region_held_drew (S := fun w' => w'.cell? ⟨w.heap.size, 14, none⟩ = some (.bool present) ∧ w'.cell? ⟨w.heap.size, 15, none⟩ = some (.int .i64 code)) (by kernel_rfl) ⟨k14, k15⟩ (fun hHeld => ?_)
  change wpAnyH _ _ _ _ _ 11 #[false, false, false, false, false, false, false, false, false, false, false] _ (World.drew _)
  refine wpAnyH_take (i := 0) (oi := { dst := Option.some 148, op := Go.Op.move (Go.Operand.tmp 3), type := 22, pos := "crierref3.go:73", after := #[], guard := Option.none }) (v := .slice none 0 0) rfl (by kernel_rfl) (by kernel_rfl) (by kernel_rfl) (fun _ _ _ h => h) (Or.inl ⟨by kernel_rfl, by intro wq hSw; clear hSw hHeld; go_simp⟩) hHeld ?_
  simp only [Act.put, List.setIfInBounds_toArray, List.set_cons_zero, List.set_cons_succ]
  refine wpAnyH_take (i := 1) (oi := { dst := Option.some 149, op := Go.Op.fieldAddr 29 (Go.Operand.tmp 1) 11, type := 0, pos := "crierref3.go:73", after := #[], guard := Option.none }) (v := .pointer (some ⟨w.heap.size, 14, none⟩)) rfl (by kernel_rfl) (by kernel_rfl) (by kernel_rfl) (fun _ _ _ h => h) (Or.inl ⟨by kernel_rfl, by intro wq hSw; clear hSw hHeld; go_simp⟩) hHeld ?_
  simp only [Act.put, List.setIfInBounds_toArray, List.set_cons_zero, List.set_cons_succ]
  refine wpAnyH_take (i := 2) (oi := { dst := Option.some 150, op := Go.Op.load 4 (Go.Operand.tmp 149), type := 4, pos := "crierref3.go:73", after := #[{ on := 1, ground := Go.Ground.data }], guard := Option.none }) (v := .bool present) rfl (by kernel_rfl) (by kernel_rfl) (by kernel_rfl) (fun _ _ _ h => h) (Or.inl ⟨by kernel_rfl, by intro wq hSw; have hq := hSw.1; clear hSw hHeld; go_simp⟩) hHeld ?_
  simp only [Act.put, List.setIfInBounds_toArray, List.set_cons_zero, List.set_cons_succ]
  refine wpAnyH_take (i := 5) (oi := { dst := Option.some 153, op := Go.Op.fieldAddr 29 (Go.Operand.tmp 1) 12, type := 0, pos := "crierref3.go:73", after := #[], guard := Option.none }) (v := .pointer (some ⟨w.heap.size, 15, none⟩)) rfl (by kernel_rfl) (by kernel_rfl) (by kernel_rfl) (fun _ _ _ h => h) (Or.inl ⟨by kernel_rfl, by intro wq hSw; clear hSw hHeld; go_simp⟩) hHeld ?_
  simp only [Act.put, List.setIfInBounds_toArray, List.set_cons_zero, List.set_cons_succ]
  refine wpAnyH_take (i := 6) (oi := { dst := Option.some 154, op := Go.Op.load 3 (Go.Operand.tmp 153), type := 3, pos := "crierref3.go:73", after := #[{ on := 5, ground := Go.Ground.data }], guard := Option.none }) (v := .int .i64 code) rfl (by kernel_rfl) (by kernel_rfl) (by kernel_rfl) (fun _ _ _ h => h) (Or.inl ⟨by kernel_rfl, by intro wq hSw; have hq := hSw.2; clear hSw hHeld; go_simp⟩) hHeld ?_
  simp only [Act.put, List.setIfInBounds_toArray, List.set_cons_zero, List.set_cons_succ]
  refine wpAnyH_take (i := 7) (oi := { dst := Option.some 155, op := Go.Op.convert 3 5 (Go.Operand.tmp 154), type := 5, pos := "crierref3.go:73", after := #[{ on := 6, ground := Go.Ground.data }], guard := Option.none }) (v := .int .u8 (IntKind.u8.wrap code)) rfl (by kernel_rfl) (by kernel_rfl) (by kernel_rfl) (fun _ _ _ h => h) (Or.inl ⟨by kernel_rfl, by intro wq hSw; clear hSw hHeld; go_simp⟩) hHeld ?_
  simp only [Act.put, List.setIfInBounds_toArray, List.set_cons_zero, List.set_cons_succ]
  refine wpAnyH_ready (rs := [3]) (by kernel_rfl) (by simp) ?_
  refine AllReadyH.cons (o := { dst := Option.some 151, op := Go.Op.call { callee := Go.Callee.value (Go.Operand.func 162), args := #[Go.Operand.tmp 150, Go.Operand.const (Go.Value.int Go.IntKind.i64 1)], argTypes := #[4, 3] }, type := 3, pos := "crierref3.go:73", after := #[{ on := 2, ground := Go.Ground.data }], guard := Option.none }) (by rfl) (fun K hK => ?_) AllReadyH.nil
  go_simp
  go_wp2_with (go_at_call 162; refine (show Calls Tryz.prog 162 #[.bool present, .int .i64 1] _ fun e w' => e = .returned (.int .i64 m1) ∧ w' = _ from by rw [HM.out]; exact bit_any present 1 _).mono ?_; rintro e wq ⟨rfl, hq⟩; subst hq)
  refine hK.out _ _ ⟨k14, k15⟩ (fun hHeld => ?_)
  clear hK K
  (try simp only [Act.put, List.setIfInBounds_toArray, List.set_cons_zero, List.set_cons_succ])
  refine wpAnyH_take (i := 4) (oi := { dst := Option.some 152, op := Go.Op.convert 3 5 (Go.Operand.tmp 151), type := 5, pos := "crierref3.go:73", after := #[{ on := 3, ground := Go.Ground.data }], guard := Option.none }) (v := .int .u8 m1) rfl (by kernel_rfl) (by kernel_rfl) (by kernel_rfl) (fun _ _ _ h => h) (Or.inl ⟨by kernel_rfl, by intro wq hSw; clear hSw hHeld; go_simp⟩) hHeld ?_
  simp only [Act.put, List.setIfInBounds_toArray, List.set_cons_zero, List.set_cons_succ]
  refine wpAnyH_ready (rs := [8]) (by kernel_rfl) (by simp) ?_
  refine AllReadyH.cons (o := { dst := Option.some 156, op := Go.Op.buildSlice 22 2 #[(0, Go.Operand.tmp 152), (1, Go.Operand.tmp 155)], type := 22, pos := "crierref3.go:73", after := #[{ on := 4, ground := Go.Ground.data }, { on := 7, ground := Go.Ground.data }], guard := Option.none }) (by rfl) (fun K hK => ?_) AllReadyH.nil
  go_simp
  have KN := hidx (KC.out (W.alloc (.cells #[.int .u8 m1, .int .u8 (code % 256)] 5)).drew (BE.out.trans (((Below.refl _ _).alloc (Nat.le_refl _) _).drew.mono BE.out.size))).2
  refine hK.out _ _ KN.out (fun hHeld => ?_)
  clear hK K
  (try simp only [Act.put, List.setIfInBounds_toArray, List.set_cons_zero, List.set_cons_succ])
  refine wpAnyH_ready (rs := [9]) (by kernel_rfl) (by simp) ?_
  refine AllReadyH.cons (o := { dst := Option.some 157, op := Go.Op.call { callee := Go.Callee.builtin Go.Builtin.append, args := #[Go.Operand.tmp 148, Go.Operand.tmp 156], argTypes := #[22, 22] }, type := 22, pos := "crierref3.go:73", after := #[{ on := 0, ground := Go.Ground.data }, { on := 8, ground := Go.Ground.data }, { on := 3, ground := Go.Ground.chain }], guard := Option.none }) (by rfl) (fun K hK => ?_) AllReadyH.nil
  refine step_ot2 rfl (.tmp 148) (.tmp 156) rfl W.heap.size n0 (.slice none 0 0) x0 m1 (code % 256) rfl OW.out rfl (by have := NE.out; omega) (Nat.le_refl _) ?_
  intro v2 w2 ho hv hb
  have O2 := hidx ho
  have V2 := hidx hv
  have B2 := hidx hb
  refine hK.out _ _ (KC.out _ hb).2 (fun hHeld => ?_)
  clear hK K ho hv hb
  (try simp only [Act.put, List.setIfInBounds_toArray, List.set_cons_zero, List.set_cons_succ])
  refine wpAnyH_take (i := 10) (oi := { dst := Option.some 3, op := Go.Op.assign (Go.Operand.tmp 157), type := 22, pos := "crierref3.go:73", after := #[{ on := 9, ground := Go.Ground.data }, { on := 9, ground := Go.Ground.chain }, { on := 0, ground := Go.Ground.phase }, { on := 1, ground := Go.Ground.phase }, { on := 2, ground := Go.Ground.phase }, { on := 3, ground := Go.Ground.phase }, { on := 4, ground := Go.Ground.phase }, { on := 5, ground := Go.Ground.phase }, { on := 6, ground := Go.Ground.phase }, { on := 7, ground := Go.Ground.phase }, { on := 8, ground := Go.Ground.phase }, { on := 9, ground := Go.Ground.phase }], guard := Option.none }) (v := v2) rfl (by kernel_rfl) (by kernel_rfl) (by kernel_rfl) (fun _ _ _ h => h) (Or.inl ⟨by kernel_rfl, by intro wq hSw; clear hSw hHeld; go_simp⟩) hHeld ?_
  simp only [Act.put, List.setIfInBounds_toArray, List.set_cons_zero, List.set_cons_succ]
  refine wpAnyH_done (by kernel_rfl) ?_ _
  clear hHeld
  obtain ⟨a9, n9, c9, rfl, h9⟩ := fd_end b0.out B2.out O2.out V2.out (congrArg (· ++ _) EQ.out)
  have H9 := hidx h9
  clear h9 k0 k14 k15 KN
  go_wp2_with fail
  go_ret
  refine ⟨a9, n9, c9, rfl, ?_, H9.out.2⟩
  have := H9.out.1
  simpa using this
end Go.Proofs.YtphofgnehdlafaaGreatDoor
