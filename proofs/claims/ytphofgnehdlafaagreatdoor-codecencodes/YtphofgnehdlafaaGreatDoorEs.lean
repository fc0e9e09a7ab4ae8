import Derived.Test.YtphofgnehdlafaaGreatDoorEo
import Derived.Test.YtphofgnehdlafaaGreatDoorFdz
import Derived.Test.YtphofgnehdlafaaGreatDoorEa
import Derived.Test.YtphofgnehdlafaaGreatDoorPRt
import Derived.Test.YtphofgnehdlafaaGreatDoorGj
import Derived.Test.YtphofgnehdlafaaGreatDoorBye0
namespace Go.Proofs.YtphofgnehdlafaaGreatDoor
open Go Go.RowKit
open Pkt (Pk Cn Sl In By Is Ss As pkCells Gd box_below Right TT sumN sz fg Small ck wpList_load_wanted mkI heap_set)
set_option linter.unusedSimpArgs false
set_option linter.unusedVariables false
set_option maxRecDepth 100000
set_option maxHeartbeats 4000000
structure Cb (w w' : World) (p : Pk) : Prop where
 bx : w'.heap[w.heap.size]? = some (.cells (pkCells p) 29 (0, 0))
 rs : w'.heap[w.heap.size + 1]? = some (.cells (pkCells (blank 0)) 29 (0, 0))
 bel : Below w.heap.size w w'
theorem Cb.below {w w' w'' : World} {p : Pk} (h : Cb w w' p) (hb : Below w'.heap.size w' w'') : Cb w w'' p := ⟨later_e h.bx hb, later_e h.rs hb, h.bel.trans (hb.mono h.bel.size)⟩
theorem Cb.set {w w' : World} {p q : Pk} (h : Cb w w' p) (i : Nat) (v : Value) (e : (pkCells p).setIfInBounds i v = pkCells q) : Cb w (w'.setCell ⟨w.heap.size, i, none⟩ v) q := by
 refine ⟨e ▸ heap_set h.bx v, (Below.heap_setCell _ _ _ _ (show w.heap.size + 1 ≠ w.heap.size from by omega)).trans h.rs, h.bel.setCell (p := ⟨w.heap.size, i, none⟩) (Nat.le_refl _) _⟩
theorem Cb.fz {w w' : World} {p : Pk} (h : Cb w w' p) (i : Nat) : w'.frozen? ⟨w.heap.size, i, none⟩ = false := by
 have := h.bx
 simp [World.frozen?, this]
theorem Cb.cell {w w' : World} {p : Pk} (h : Cb w w' p) (i : Nat) (v : Value) (e : (pkCells p)[i]? = some v) : w'.cell? ⟨w.heap.size, i, none⟩ = some v := box_cells h.bx i v e
structure Lx (B : Nat) (w : World) (q : Pk) (c : Cn) (k : Nat) : Prop where
 wP : 1 ≤ k → w.ownsRow B 5 1 (.slice q.wP.a q.wP.n q.wP.c) q.wP.n (Pkt.cB c.wz q.wP.n) ∧ Pkt.Nil q.wP
 mP : 2 ≤ k → w.ownsRow B 5 1 (.slice q.mP.a q.mP.n q.mP.c) q.mP.n (Pkt.cB c.mz q.mP.n) ∧ Pkt.Nil q.mP
 pass : 3 ≤ k → w.ownsRow B 5 1 (.slice q.pass.a q.pass.n q.pass.c) q.pass.n (Pkt.cB c.pz q.pass.n) ∧ Pkt.Nil q.pass
 asks : 4 ≤ k → w.ownsRow B 98 2 (.slice q.asks.a q.asks.n q.asks.c) q.asks.n (Pkt.cA c.af c.aq q.asks.n) ∧ Pkt.Nil q.asks
 codes : 5 ≤ k → w.ownsRow B 3 1 (.slice q.codes.a q.codes.n q.codes.c) q.codes.n (Pkt.cI c.cs q.codes.n) ∧ Pkt.Nil q.codes
 filters : 6 ≤ k → w.ownsRow B 9 1 (.slice q.filters.a q.filters.n q.filters.c) q.filters.n (Pkt.cS c.fs q.filters.n) ∧ Pkt.Nil q.filters
theorem Lx.keep {B : Nat} {w w' : World} {q : Pk} {c : Cn} {k : Nat} (h : Lx B w q c k) (hk : ∀ j, B ≤ j → j < w.heap.size → w'.heap[j]? = w.heap[j]?) : Lx B w' q c k :=
 ⟨fun e => ⟨own_keep3 (h.wP e).1 (fun j q => hk j ((h.wP e).1.lt j q).1 ((h.wP e).1.lt j q).2), (h.wP e).2⟩, fun e => ⟨own_keep3 (h.mP e).1 (fun j q => hk j ((h.mP e).1.lt j q).1 ((h.mP e).1.lt j q).2), (h.mP e).2⟩, fun e => ⟨own_keep3 (h.pass e).1 (fun j q => hk j ((h.pass e).1.lt j q).1 ((h.pass e).1.lt j q).2), (h.pass e).2⟩, fun e => ⟨own_keep3 (h.asks e).1 (fun j q => hk j ((h.asks e).1.lt j q).1 ((h.asks e).1.lt j q).2), (h.asks e).2⟩, fun e => ⟨own_keep3 (h.codes e).1 (fun j q => hk j ((h.codes e).1.lt j q).1 ((h.codes e).1.lt j q).2), (h.codes e).2⟩, fun e => ⟨own_keep3 (h.filters e).1 (fun j q => hk j ((h.filters e).1.lt j q).1 ((h.filters e).1.lt j q).2), (h.filters e).2⟩⟩
theorem Lx.below {B : Nat} {w w' : World} {q : Pk} {c : Cn} {k : Nat} (h : Lx B w q c k) (hb : Below w.heap.size w w') : Lx B w' q c k := h.keep (fun j _ hj => hb.block j hj)
theorem Lx.set {B b i : Nat} {w : World} {q : Pk} {c : Cn} {k : Nat} {v : Value} (h : Lx B w q c k) (hb : b < B) : Lx B (w.setCell ⟨b, i, none⟩ v) q c k := h.keep (fun j hj _ => Below.heap_setCell _ _ _ _ (show j ≠ b from by omega))
theorem Lx.start (B : Nat) (w : World) (q : Pk) (c : Cn) : Lx B w q c 0 := ⟨fun e => absurd e (by omega), fun e => absurd e (by omega), fun e => absurd e (by omega), fun e => absurd e (by omega), fun e => absurd e (by omega), fun e => absurd e (by omega)⟩
theorem Lx.n1 {B : Nat} {w : World} {q : Pk} {c : Cn} (h : Lx B w q c 0) (l : Sl) (ho : w.ownsRow B 5 1 (.slice l.a l.n l.c) l.n (Pkt.cB c.wz l.n)) (hn : Pkt.Nil l) : Lx B w { q with wP := l } c 1 := ⟨fun _ => ⟨ho, hn⟩, fun e => absurd e (by omega), fun e => absurd e (by omega), fun e => absurd e (by omega), fun e => absurd e (by omega), fun e => absurd e (by omega)⟩
theorem Lx.n2 {B : Nat} {w : World} {q : Pk} {c : Cn} (h : Lx B w q c 1) (l : Sl) (ho : w.ownsRow B 5 1 (.slice l.a l.n l.c) l.n (Pkt.cB c.mz l.n)) (hn : Pkt.Nil l) : Lx B w { q with mP := l } c 2 := ⟨fun _ => h.wP (by omega), fun _ => ⟨ho, hn⟩, fun e => absurd e (by omega), fun e => absurd e (by omega), fun e => absurd e (by omega), fun e => absurd e (by omega)⟩
theorem Lx.n3 {B : Nat} {w : World} {q : Pk} {c : Cn} (h : Lx B w q c 2) (l : Sl) (ho : w.ownsRow B 5 1 (.slice l.a l.n l.c) l.n (Pkt.cB c.pz l.n)) (hn : Pkt.Nil l) : Lx B w { q with pass := l } c 3 := ⟨fun _ => h.wP (by omega), fun _ => h.mP (by omega), fun _ => ⟨ho, hn⟩, fun e => absurd e (by omega), fun e => absurd e (by omega), fun e => absurd e (by omega)⟩
theorem Lx.n4 {B : Nat} {w : World} {q : Pk} {c : Cn} (h : Lx B w q c 3) (l : Sl) (ho : w.ownsRow B 98 2 (.slice l.a l.n l.c) l.n (Pkt.cA c.af c.aq l.n)) (hn : Pkt.Nil l) : Lx B w { q with asks := l } c 4 := ⟨fun _ => h.wP (by omega), fun _ => h.mP (by omega), fun _ => h.pass (by omega), fun _ => ⟨ho, hn⟩, fun e => absurd e (by omega), fun e => absurd e (by omega)⟩
theorem Lx.n5 {B : Nat} {w : World} {q : Pk} {c : Cn} (h : Lx B w q c 4) (l : Sl) (ho : w.ownsRow B 3 1 (.slice l.a l.n l.c) l.n (Pkt.cI c.cs l.n)) (hn : Pkt.Nil l) : Lx B w { q with codes := l } c 5 := ⟨fun _ => h.wP (by omega), fun _ => h.mP (by omega), fun _ => h.pass (by omega), fun _ => h.asks (by omega), fun _ => ⟨ho, hn⟩, fun e => absurd e (by omega)⟩
theorem Lx.n6 {B : Nat} {w : World} {q : Pk} {c : Cn} (h : Lx B w q c 5) (l : Sl) (ho : w.ownsRow B 9 1 (.slice l.a l.n l.c) l.n (Pkt.cS c.fs l.n)) (hn : Pkt.Nil l) : Lx B w { q with filters := l } c 6 := ⟨fun _ => h.wP (by omega), fun _ => h.mP (by omega), fun _ => h.pass (by omega), fun _ => h.asks (by omega), fun _ => h.codes (by omega), fun _ => ⟨ho, hn⟩⟩
theorem own_lift {w : World} {B B' e s n : Nat} {v : Value} {xs : List Value} (h : w.ownsRow B e s v n xs) (hb : B' ≤ B) : w.ownsRow B' e s v n xs := by
 refine ⟨h.1, ?_⟩
 rcases h.2 with q | ⟨g, cap, cur, e1, e2, e3⟩
 ·
  exact .inl q
 ·
  exact .inr ⟨g, cap, cur, e1, Nat.le_trans hb e2, e3⟩
theorem setRow_self3 {w : World} {g t : Nat} {cs : Array Value} (h : w.heap[g]? = some (.cells cs t (0, 0))) (ds : Array Value) : (w.setRow g ds).heap[g]? = some (.cells ds t (0, 0)) := by
 unfold World.setRow
 simp [Array.getElem?_modify, h]
theorem setRow_other3 (w : World) (g k : Nat) (cs : Array Value) (h : k ≠ g) : (w.setRow g cs).heap[k]? = w.heap[k]? := by
 unfold World.setRow
 simp [Array.getElem?_modify, Ne.symm h]
theorem copy3_any (p : Pk) (c : Cn) (w : World) (hin : In w p c) (hs : Small p c) :
    Calls Tryz.prog 14 #[.agg (pkCells p)] w fun e w' => ∃ s1 s2 s3 s4 s5 s6 : Sl, e = .returned (.agg (pkCells (p.re s1 s2 s3 s4 s5 s6))) ∧ In w' (p.re s1 s2 s3 s4 s5 s6) c ∧ (s1.n = p.wP.n ∧ s2.n = p.pass.n ∧ s3.n = p.mP.n ∧ s4.n = p.asks.n ∧ s5.n = p.codes.n ∧ s6.n = p.filters.n) ∧ Pkt.Nils (p.re s1 s2 s3 s4 s5 s6) ∧ Below w.heap.size w w' := by
  obtain ⟨W, hW⟩ : ∃ W, W = (w.alloc (.cells (pkCells p) 29)).alloc (.cells #[.int .i64 0, .int .i64 0, .bool false, .int .i64 0, .string ⟨#[]⟩, .bool false, .string ⟨#[]⟩, .slice none 0 0, .int .i64 0, .bool false, .bool false, .string ⟨#[]⟩, .bool false, .slice none 0 0, .bool false, .int .i64 0, .bool false, .string ⟨#[]⟩, .slice none 0 0, .int .i64 0, .bool false, .int .i64 0, .slice none 0 0, .slice none 0 0, .slice none 0 0] 29) := ⟨_, rfl⟩
  obtain ⟨q1, q2, q3⟩ := two_boxes w (pkCells p) #[.int .i64 0, .int .i64 0, .bool false, .int .i64 0, .string ⟨#[]⟩, .bool false, .string ⟨#[]⟩, .slice none 0 0, .int .i64 0, .bool false, .bool false, .string ⟨#[]⟩, .bool false, .slice none 0 0, .bool false, .int .i64 0, .bool false, .string ⟨#[]⟩, .slice none 0 0, .int .i64 0, .bool false, .int .i64 0, .slice none 0 0, .slice none 0 0, .slice none 0 0]
  rw [← hW] at q1 q2 q3
  have CB := hidx (show Cb w W p from ⟨q1, q2, q3⟩)
  have LX := hidx (Lx.start (w.heap.size + 2) W p c)
  have SZ := hidx (show w.heap.size + 2 ≤ W.heap.size from (Array.getElem?_eq_some_iff.1 q2).1)
  have IN := hidx hin
  have HS := hidx hs
  clear q1 q2 q3 hin hs
  obtain ⟨kind, level, clean, keep, client, hasWill, wT, ⟨wa, wn, wc⟩, wQ, wR, hasUser, user, hasPass, ⟨pa, pn, pc⟩, present, code, dup, mT, ⟨ma, mn, mc⟩, mQ, mR, id, ⟨aa, an, ac⟩, ⟨ca, cn, cc⟩, ⟨fa, fn, fc⟩⟩ := p
  have c6 := CB.out.cell 6 _ rfl
  have c7 := CB.out.cell 7 _ rfl
  have c8 := CB.out.cell 8 _ rfl
  have c9 := CB.out.cell 9 _ rfl
  go_enter Tryz.func14, Tryz.ntmps14
  go_upto_region 1 with fail
  rw [← hW]
  clear hW
  have SB := hidx (Nat.le_refl W.heap.size)
  have CM := hidx (cmsg_any wT ⟨wa, wn, wc⟩ wQ wR c.wz _ (IN.out.below CB.out.bel).wP HS.out.wp)
  go_wp2_with fail
  go_must (go_at_call 48)
  refine CM.out.mono ?_
  clear CM c6 c7 c8 c9
  rintro e V1 ⟨l1, rfl, ho, hn, hnil, hb⟩
  have O := hidx (own_lift ho (Nat.le_trans SZ.out (show _ ≤ _ from SB.out)))
  have N1 := hidx (And.intro hn hnil)
  replace SB := hidx (Nat.le_trans SB.out hb.size)
  replace CB := hidx (CB.out.below hb)
  replace LX := hidx (LX.out.below hb)
  clear ho hn hnil hb
  have f6 := CB.out.fz 6
  have f7 := CB.out.fz 7
  have f8 := CB.out.fz 8
  have f9 := CB.out.fz 9
  have c6 := CB.out.cell 6 _ rfl
  have c7 := CB.out.cell 7 _ rfl
  have c8 := CB.out.cell 8 _ rfl
  have c9 := CB.out.cell 9 _ rfl
  go_upto_region 2 with fail
  obtain ⟨U1, hU⟩ : ∃ U, U = (((V1.setCell ⟨w.heap.size, 6, none⟩ (.string wT)).setCell ⟨w.heap.size, 7, none⟩ (.slice l1.a l1.n l1.c)).setCell ⟨w.heap.size, 8, none⟩ (.int .i64 wQ)).setCell ⟨w.heap.size, 9, none⟩ (.bool wR) := ⟨_, rfl⟩
  rw [← hU]
  replace LX := hidx (show Lx (w.heap.size + 2) U1 _ c 1 from by rw [hU]; exact (((((LX.out.n1 l1 O.out N1.out.2).set (b := w.heap.size) (i := 6) (v := .string wT) (by omega)).set (b := w.heap.size) (i := 7) (v := .slice l1.a l1.n l1.c) (by omega)).set (b := w.heap.size) (i := 8) (v := .int .i64 wQ) (by omega)).set (b := w.heap.size) (i := 9) (v := .bool wR) (by omega)))
  replace CB := hidx (show Cb w U1 (⟨kind, level, clean, keep, client, hasWill, wT, l1, wQ, wR, hasUser, user, hasPass, ⟨pa, pn, pc⟩, present, code, dup, mT, ⟨ma, mn, mc⟩, mQ, mR, id, ⟨aa, an, ac⟩, ⟨ca, cn, cc⟩, ⟨fa, fn, fc⟩⟩ : Pk) from by rw [hU]; exact (((CB.out.set 6 (.string wT) (q := _) rfl).set 7 (.slice l1.a l1.n l1.c) (q := (⟨kind, level, clean, keep, client, hasWill, wT, l1, wQ, wR, hasUser, user, hasPass, ⟨pa, pn, pc⟩, present, code, dup, mT, ⟨ma, mn, mc⟩, mQ, mR, id, ⟨aa, an, ac⟩, ⟨ca, cn, cc⟩, ⟨fa, fn, fc⟩⟩ : Pk)) rfl).set 8 (.int .i64 wQ) (q := (⟨kind, level, clean, keep, client, hasWill, wT, l1, wQ, wR, hasUser, user, hasPass, ⟨pa, pn, pc⟩, present, code, dup, mT, ⟨ma, mn, mc⟩, mQ, mR, id, ⟨aa, an, ac⟩, ⟨ca, cn, cc⟩, ⟨fa, fn, fc⟩⟩ : Pk)) rfl).set 9 (.bool wR) (q := (⟨kind, level, clean, keep, client, hasWill, wT, l1, wQ, wR, hasUser, user, hasPass, ⟨pa, pn, pc⟩, present, code, dup, mT, ⟨ma, mn, mc⟩, mQ, mR, id, ⟨aa, an, ac⟩, ⟨ca, cn, cc⟩, ⟨fa, fn, fc⟩⟩ : Pk)) rfl)
  replace SB := hidx (show W.heap.size ≤ U1.heap.size from by rw [hU]; simpa [World.setCell] using SB.out)
  clear hU O f6 f7 f8 f9 c6 c7 c8 c9
  have c17 := CB.out.cell 17 _ rfl
  have c18 := CB.out.cell 18 _ rfl
  have c19 := CB.out.cell 19 _ rfl
  have c20 := CB.out.cell 20 _ rfl
  have CM := hidx (cmsg_any mT ⟨ma, mn, mc⟩ mQ mR c.mz _ (IN.out.below CB.out.bel).mP HS.out.mp)
  go_wp2_with fail
  go_must (go_at_call 48)
  refine CM.out.mono ?_
  clear CM c17 c18 c19 c20
  rintro e V2 ⟨l2, rfl, ho, hn, hnil, hb⟩
  have O := hidx (own_lift ho (Nat.le_trans SZ.out (show _ ≤ _ from SB.out)))
  have N2 := hidx (And.intro hn hnil)
  replace SB := hidx (Nat.le_trans SB.out hb.size)
  replace CB := hidx (CB.out.below hb)
  replace LX := hidx (LX.out.below hb)
  clear ho hn hnil hb
  have f17 := CB.out.fz 17
  have f18 := CB.out.fz 18
  have f19 := CB.out.fz 19
  have f20 := CB.out.fz 20
  have c17 := CB.out.cell 17 _ rfl
  have c18 := CB.out.cell 18 _ rfl
  have c19 := CB.out.cell 19 _ rfl
  have c20 := CB.out.cell 20 _ rfl
  go_upto_region 3 with fail
  obtain ⟨U2, hU⟩ : ∃ U, U = (((V2.setCell ⟨w.heap.size, 17, none⟩ (.string mT)).setCell ⟨w.heap.size, 18, none⟩ (.slice l2.a l2.n l2.c)).setCell ⟨w.heap.size, 19, none⟩ (.int .i64 mQ)).setCell ⟨w.heap.size, 20, none⟩ (.bool mR) := ⟨_, rfl⟩
  rw [← hU]
  replace LX := hidx (show Lx (w.heap.size + 2) U2 _ c 2 from by rw [hU]; exact (((((LX.out.n2 l2 O.out N2.out.2).set (b := w.heap.size) (i := 17) (v := .string mT) (by omega)).set (b := w.heap.size) (i := 18) (v := .slice l2.a l2.n l2.c) (by omega)).set (b := w.heap.size) (i := 19) (v := .int .i64 mQ) (by omega)).set (b := w.heap.size) (i := 20) (v := .bool mR) (by omega)))
  replace CB := hidx (show Cb w U2 (⟨kind, level, clean, keep, client, hasWill, wT, l1, wQ, wR, hasUser, user, hasPass, ⟨pa, pn, pc⟩, present, code, dup, mT, l2, mQ, mR, id, ⟨aa, an, ac⟩, ⟨ca, cn, cc⟩, ⟨fa, fn, fc⟩⟩ : Pk) from by rw [hU]; exact (((CB.out.set 17 (.string mT) (q := _) rfl).set 18 (.slice l2.a l2.n l2.c) (q := (⟨kind, level, clean, keep, client, hasWill, wT, l1, wQ, wR, hasUser, user, hasPass, ⟨pa, pn, pc⟩, present, code, dup, mT, l2, mQ, mR, id, ⟨aa, an, ac⟩, ⟨ca, cn, cc⟩, ⟨fa, fn, fc⟩⟩ : Pk)) rfl).set 19 (.int .i64 mQ) (q := (⟨kind, level, clean, keep, client, hasWill, wT, l1, wQ, wR, hasUser, user, hasPass, ⟨pa, pn, pc⟩, present, code, dup, mT, l2, mQ, mR, id, ⟨aa, an, ac⟩, ⟨ca, cn, cc⟩, ⟨fa, fn, fc⟩⟩ : Pk)) rfl).set 20 (.bool mR) (q := (⟨kind, level, clean, keep, client, hasWill, wT, l1, wQ, wR, hasUser, user, hasPass, ⟨pa, pn, pc⟩, present, code, dup, mT, l2, mQ, mR, id, ⟨aa, an, ac⟩, ⟨ca, cn, cc⟩, ⟨fa, fn, fc⟩⟩ : Pk)) rfl)
  replace SB := hidx (show W.heap.size ≤ U2.heap.size from by rw [hU]; simpa [World.setCell] using SB.out)
  clear hU O f17 f18 f19 f20 c17 c18 c19 c20
  have c13 := CB.out.cell 13 _ rfl
  have CLL := hidx (by_cl (IN.out.below CB.out.bel).pass)
  have HM := hidx HS.out.ps
  go_upto_region 8 with (at_builtin; refine wpList_cpy rfl _ _ 22 5 rfl (.int .u8 0) 1 1 Tryz.underlying22 Tryz.info5 rfl (by decide) (by decide) rfl ⟨pa, pn, pc⟩ (Pkt.cB c.pz pn) rfl (Pkt.cB_len c.pz pn) CLL.out (Pkt.cB_one c.pz pn) HM.out ?_; intro l3 V3 ho hn hnil hb; have O := hidx (own_lift (show V3.ownsRow _ 5 1 (.slice l3.a l3.n l3.c) l3.n (Pkt.cB c.pz l3.n) from by rw [hn] at ho ⊢; exact ho) (Nat.le_trans SZ.out SB.out)); have N3 := hidx (And.intro hn hnil); replace SB := hidx (Nat.le_trans SB.out hb.size); replace CB := hidx (CB.out.below hb); replace LX := hidx (LX.out.below hb); clear ho hn hnil hb c13 CLL; have c13 := CB.out.cell 13 _ rfl; have f13 := CB.out.fz 13)
  obtain ⟨U3, hU⟩ : ∃ U, U = V3.setCell ⟨w.heap.size, 13, none⟩ (.slice l3.a l3.n l3.c) := ⟨_, rfl⟩
  rw [← hU]
  replace LX := hidx (show Lx (w.heap.size + 2) U3 _ c 3 from by rw [hU]; exact (LX.out.n3 l3 O.out N3.out.2).set (b := w.heap.size) (i := 13) (v := .slice l3.a l3.n l3.c) (by omega))
  replace CB := hidx (show Cb w U3 (⟨kind, level, clean, keep, client, hasWill, wT, l1, wQ, wR, hasUser, user, hasPass, l3, present, code, dup, mT, l2, mQ, mR, id, ⟨aa, an, ac⟩, ⟨ca, cn, cc⟩, ⟨fa, fn, fc⟩⟩ : Pk) from by rw [hU]; exact CB.out.set 13 (.slice l3.a l3.n l3.c) (q := (⟨kind, level, clean, keep, client, hasWill, wT, l1, wQ, wR, hasUser, user, hasPass, l3, present, code, dup, mT, l2, mQ, mR, id, ⟨aa, an, ac⟩, ⟨ca, cn, cc⟩, ⟨fa, fn, fc⟩⟩ : Pk)) rfl)
  replace SB := hidx (show W.heap.size ≤ U3.heap.size from by rw [hU]; simpa [World.setCell] using SB.out)
  clear hU O f13 c13 HM
  have c22 := CB.out.cell 22 _ rfl
  have CLL := hidx (as_cl (IN.out.below CB.out.bel).asks)
  have HM := hidx HS.out.an
  go_upto_region 9 with (at_builtin; refine wpList_cpy rfl _ _ 25 98 rfl (.agg #[.string ⟨#[]⟩, .int .i64 0]) 2 24 Tryz.underlying25 Pkt.Tryz.infoAe rfl (by decide) (by decide) rfl ⟨aa, an, ac⟩ (Pkt.cA c.af c.aq an) rfl (Pkt.cA_len c.af c.aq an) CLL.out (Pkt.cA_one c.af c.aq an) HM.out ?_; intro l4 V4 ho hn hnil hb; have O := hidx (own_lift (show V4.ownsRow _ 98 2 (.slice l4.a l4.n l4.c) l4.n (Pkt.cA c.af c.aq l4.n) from by rw [hn] at ho ⊢; exact ho) (Nat.le_trans SZ.out SB.out)); have N4 := hidx (And.intro hn hnil); replace SB := hidx (Nat.le_trans SB.out hb.size); replace CB := hidx (CB.out.below hb); replace LX := hidx (LX.out.below hb); clear ho hn hnil hb c22 CLL; have c22 := CB.out.cell 22 _ rfl; have f22 := CB.out.fz 22)
  obtain ⟨U4, hU⟩ : ∃ U, U = V4.setCell ⟨w.heap.size, 22, none⟩ (.slice l4.a l4.n l4.c) := ⟨_, rfl⟩
  rw [← hU]
  replace LX := hidx (show Lx (w.heap.size + 2) U4 _ c 4 from by rw [hU]; exact (LX.out.n4 l4 O.out N4.out.2).set (b := w.heap.size) (i := 22) (v := .slice l4.a l4.n l4.c) (by omega))
  replace CB := hidx (show Cb w U4 (⟨kind, level, clean, keep, client, hasWill, wT, l1, wQ, wR, hasUser, user, hasPass, l3, present, code, dup, mT, l2, mQ, mR, id, l4, ⟨ca, cn, cc⟩, ⟨fa, fn, fc⟩⟩ : Pk) from by rw [hU]; exact CB.out.set 22 (.slice l4.a l4.n l4.c) (q := (⟨kind, level, clean, keep, client, hasWill, wT, l1, wQ, wR, hasUser, user, hasPass, l3, present, code, dup, mT, l2, mQ, mR, id, l4, ⟨ca, cn, cc⟩, ⟨fa, fn, fc⟩⟩ : Pk)) rfl)
  replace SB := hidx (show W.heap.size ≤ U4.heap.size from by rw [hU]; simpa [World.setCell] using SB.out)
  clear hU O f22 c22 HM
  have c23 := CB.out.cell 23 _ rfl
  have CLL := hidx (is_cl (IN.out.below CB.out.bel).codes)
  have HM := hidx HS.out.cn
  go_upto_region 10 with (at_builtin; refine wpList_cpy rfl _ _ 26 3 rfl (.int .i64 0) 1 8 Tryz.underlying26 Pkt.Tryz.infoIe rfl (by decide) (by decide) rfl ⟨ca, cn, cc⟩ (Pkt.cI c.cs cn) rfl (Pkt.cI_len c.cs cn) CLL.out (Pkt.cI_one c.cs cn) HM.out ?_; intro l5 V5 ho hn hnil hb; have O := hidx (own_lift (show V5.ownsRow _ 3 1 (.slice l5.a l5.n l5.c) l5.n (Pkt.cI c.cs l5.n) from by rw [hn] at ho ⊢; exact ho) (Nat.le_trans SZ.out SB.out)); have N5 := hidx (And.intro hn hnil); replace SB := hidx (Nat.le_trans SB.out hb.size); replace CB := hidx (CB.out.below hb); replace LX := hidx (LX.out.below hb); clear ho hn hnil hb c23 CLL; have c23 := CB.out.cell 23 _ rfl; have f23 := CB.out.fz 23)
  obtain ⟨U5, hU⟩ : ∃ U, U = V5.setCell ⟨w.heap.size, 23, none⟩ (.slice l5.a l5.n l5.c) := ⟨_, rfl⟩
  rw [← hU]
  replace LX := hidx (show Lx (w.heap.size + 2) U5 _ c 5 from by rw [hU]; exact (LX.out.n5 l5 O.out N5.out.2).set (b := w.heap.size) (i := 23) (v := .slice l5.a l5.n l5.c) (by omega))
  replace CB := hidx (show Cb w U5 (⟨kind, level, clean, keep, client, hasWill, wT, l1, wQ, wR, hasUser, user, hasPass, l3, present, code, dup, mT, l2, mQ, mR, id, l4, l5, ⟨fa, fn, fc⟩⟩ : Pk) from by rw [hU]; exact CB.out.set 23 (.slice l5.a l5.n l5.c) (q := (⟨kind, level, clean, keep, client, hasWill, wT, l1, wQ, wR, hasUser, user, hasPass, l3, present, code, dup, mT, l2, mQ, mR, id, l4, l5, ⟨fa, fn, fc⟩⟩ : Pk)) rfl)
  replace SB := hidx (show W.heap.size ≤ U5.heap.size from by rw [hU]; simpa [World.setCell] using SB.out)
  clear hU O f23 c23 HM
  have c24 := CB.out.cell 24 _ rfl
  have CLL := hidx (ss_cl (IN.out.below CB.out.bel).filters)
  have HM := hidx HS.out.fn
  go_upto_region 11 with (at_builtin; refine wpList_cpy rfl _ _ 27 9 rfl (.string ⟨#[]⟩) 1 16 Tryz.underlying27 Pkt.Tryz.infoSe rfl (by decide) (by decide) rfl ⟨fa, fn, fc⟩ (Pkt.cS c.fs fn) rfl (Pkt.cS_len c.fs fn) CLL.out (Pkt.cS_one c.fs fn) HM.out ?_; intro l6 V6 ho hn hnil hb; have O := hidx (own_lift (show V6.ownsRow _ 9 1 (.slice l6.a l6.n l6.c) l6.n (Pkt.cS c.fs l6.n) from by rw [hn] at ho ⊢; exact ho) (Nat.le_trans SZ.out SB.out)); have N6 := hidx (And.intro hn hnil); replace SB := hidx (Nat.le_trans SB.out hb.size); replace CB := hidx (CB.out.below hb); replace LX := hidx (LX.out.below hb); clear ho hn hnil hb c24 CLL; have c24 := CB.out.cell 24 _ rfl; have f24 := CB.out.fz 24)
  obtain ⟨U6, hU⟩ : ∃ U, U = V6.setCell ⟨w.heap.size, 24, none⟩ (.slice l6.a l6.n l6.c) := ⟨_, rfl⟩
  rw [← hU]
  replace LX := hidx (show Lx (w.heap.size + 2) U6 _ c 6 from by rw [hU]; exact (LX.out.n6 l6 O.out N6.out.2).set (b := w.heap.size) (i := 24) (v := .slice l6.a l6.n l6.c) (by omega))
  replace CB := hidx (show Cb w U6 (⟨kind, level, clean, keep, client, hasWill, wT, l1, wQ, wR, hasUser, user, hasPass, l3, present, code, dup, mT, l2, mQ, mR, id, l4, l5, l6⟩ : Pk) from by rw [hU]; exact CB.out.set 24 (.slice l6.a l6.n l6.c) (q := (⟨kind, level, clean, keep, client, hasWill, wT, l1, wQ, wR, hasUser, user, hasPass, l3, present, code, dup, mT, l2, mQ, mR, id, l4, l5, l6⟩ : Pk)) rfl)
  replace SB := hidx (show W.heap.size ≤ U6.heap.size from by rw [hU]; simpa [World.setCell] using SB.out)
  clear hU O f24 c24 HM
  go_wp2_with (first | (refine wpList_load_wanted rfl _ rfl w.heap.size rfl _ (0, 0) CB.out.bx (pk_size _) ?_) | (refine wpList_store_row rfl 29 _ _ rfl (w.heap.size + 1) (pkCells (⟨kind, level, clean, keep, client, hasWill, wT, l1, wQ, wR, hasUser, user, hasPass, l3, present, code, dup, mT, l2, mQ, mR, id, l4, l5, l6⟩ : Pk)) rfl rfl 29 (pkCells (blank 0)) CB.out.rs pk_info rfl (pk_one _) ?_))
  have RS := hidx (setRow_self3 CB.out.rs (pkCells (⟨kind, level, clean, keep, client, hasWill, wT, l1, wQ, wR, hasUser, user, hasPass, l3, present, code, dup, mT, l2, mQ, mR, id, l4, l5, l6⟩ : Pk)))
  refine bodyPost_ret (results_cell_row rfl _ _ _ _ _ _ _ rfl RS.out Tryz.underlying29 rfl (by kernel_rfl)) rfl ⟨l1, l3, l2, l4, l5, l6, rfl, ?_, ⟨N1.out.1, N3.out.1, N2.out.1, N4.out.1, N5.out.1, N6.out.1⟩, ⟨N1.out.2, N3.out.2, N2.out.2, N4.out.2, N5.out.2, N6.out.2⟩, ?_⟩
  · have hx := LX.out.keep (w' := U6.setRow (w.heap.size + 1) (pkCells (⟨kind, level, clean, keep, client, hasWill, wT, l1, wQ, wR, hasUser, user, hasPass, l3, present, code, dup, mT, l2, mQ, mR, id, l4, l5, l6⟩ : Pk))) (fun j hj _ => setRow_other3 _ _ _ _ (by omega))
    exact ⟨own_by3 (hx.wP (by omega)).1 IN.out.wP.2.1, own_by3 (hx.pass (by omega)).1 IN.out.pass.2.1, own_by3 (hx.mP (by omega)).1 IN.out.mP.2.1, own_as3 (hx.asks (by omega)).1, own_is3 (hx.codes (by omega)).1, own_ss3 (hx.filters (by omega)).1⟩
  · exact Pkt.row_below CB.out.bel _ _ (by omega)
open Pkt (Pk Cn Sl In By Is Ss As pkCells Gd box_below Right TT sumN sz fg Small ck wpList_load_wanted mkI parts sumN_scale sumN_many Rx Mks Spo RoomOk cell_of by_at is_at ss_at as_at ne_ty nil28 spW)
def nilAt : Option Value → Bool
 | some (.slice none 0 0) => true
 | _ => false
theorem nilAt_eq {v : Option Value} (h : nilAt v = true) : v = some (.slice none 0 0) := by
 unfold nilAt at h
 split at h
 ·
  rfl
 ·
  cases h
theorem bk0_hd : Bk.Hd Bk.bk0 0 0 0 := by
 have hr : ((List.range 16).all fun k => (List.range 8).all fun i => nilAt (((Tryz.prog.built 55 []).getD #[])[4 + 9 * (k + 1) + i]?)) = true := by kernel_rfl
 refine ⟨by unfold Bk.bk0; kernel_rfl, by unfold Bk.bk0; kernel_rfl, by unfold Bk.bk0; kernel_rfl, by unfold Bk.bk0; kernel_rfl, by unfold Bk.bk0; kernel_rfl, fun k hk hk' i hi => ?_⟩
 have h1 := List.all_eq_true.1 hr (k - 1) (List.mem_range.2 (by omega))
 have h2 := List.all_eq_true.1 h1 i (List.mem_range.2 (by omega))
 have h3 := nilAt_eq h2
 rw [show k - 1 + 1 = k by omega] at h3
 exact h3
theorem bk0_rows : ∀ i, i < 8 → Bk.bk0[4 + i]? = some (.slice none 0 0) := by
 have hr : ((List.range 8).all fun i => nilAt (((Tryz.prog.built 55 []).getD #[])[4 + i]?)) = true := by kernel_rfl
 intro i hi
 exact nilAt_eq (List.all_eq_true.1 hr i (List.mem_range.2 hi))
theorem sz_all {p : Pk} {c : Cn} (h : parts p c ≤ 150000) : sz p c ≤ 1299990 := by
 have h1 := sumN_scale (fun i => 3 + (c.af i).size) (fun i => 1 + (c.af i).size) 3 p.asks.n (fun i hi => by omega)
 have h2 := sumN_scale (fun i => 2 + (c.fs i).size) (fun i => 1 + (c.fs i).size) 2 p.filters.n (fun i hi => by omega)
 unfold parts at h
 unfold sz Pkt.nid Pkt.szc
 split
 ·
  split <;> split <;> split <;> omega
 split
 ·
  omega
 split
 ·
  split <;> omega
 ·
  split <;> omega
theorem spo_fs (p : Pk) (c : Cn) (k : Nat) : sumN (fun i => k + (c.spoilt.fs i).size) p.filters.n ≤ (k + 6) * sumN (fun i => 1 + (c.fs i).size) p.filters.n :=
 sumN_scale _ _ (k + 6) p.filters.n (fun i hi => by
  show k + spW.size ≤ (k + 6) * (1 + (c.fs i).size)
  have h6 : spW.size = 6 := rfl
  rw [h6, Nat.mul_add]
  exact Nat.le_trans (by omega : k + 6 ≤ (k + 6) * 1) (Nat.le_add_right _ _))
theorem sz_spo {p : Pk} {c : Cn} (h : parts p c ≤ 150000) : sz p c.spoilt ≤ 1299990 := by
 have h1 := sumN_scale (fun i => 3 + (c.af i).size) (fun i => 1 + (c.af i).size) 3 p.asks.n (fun i hi => by omega)
 have h2 := spo_fs p c 2
 have e1 : (fun i => 3 + (c.spoilt.af i).size) = fun i => 3 + (c.af i).size := rfl
 unfold parts at h
 unfold sz Pkt.nid Pkt.szc
 rw [e1]
 split
 ·
  split <;> split <;> split <;> omega
 split
 ·
  omega
 split
 ·
  split <;> omega
 ·
  split <;> omega
theorem small_few {p : Pk} {c : Cn} (h : parts p c ≤ 150000) : Small p c := Pkt.small_of (by omega)
theorem small_spo {p : Pk} {c : Cn} (h : parts p c ≤ 150000) : Small p c.spoilt := by
 have q := small_few h
 have h2 := spo_fs p c 2
 unfold parts at h
 exact ⟨q.cl, q.us, q.wt, q.mt, q.wp, q.ps, q.mp, q.an, q.cn, q.fn, q.sa, by omega⟩
theorem laid_keep {w w' : World} {p : Pk} {c : Cn} {g1 g2 g3 g4 g5 g6 : Nat} (h : In w (Pkt.Pk.laid p g1 g2 g3 g4 g5 g6) c) (h1 : w'.heap[g1]? = w.heap[g1]?) (h2 : w'.heap[g2]? = w.heap[g2]?) (h3 : w'.heap[g3]? = w.heap[g3]?) (h4 : w'.heap[g4]? = w.heap[g4]?) (h5 : w'.heap[g5]? = w.heap[g5]?) (h6 : w'.heap[g6]? = w.heap[g6]?) : In w' (Pkt.Pk.laid p g1 g2 g3 g4 g5 g6) c := by
 refine ⟨⟨h.wP.1, h.wP.2.1, .inr ⟨g1, 0, rfl, fun i hi => ?_⟩⟩, ⟨h.pass.1, h.pass.2.1, .inr ⟨g3, 0, rfl, fun i hi => ?_⟩⟩, ⟨h.mP.1, h.mP.2.1, .inr ⟨g2, 0, rfl, fun i hi => ?_⟩⟩, ⟨h.asks.1, .inr ⟨g4, 0, rfl, fun i hi => ?_⟩⟩, ⟨h.codes.1, .inr ⟨g5, 0, rfl, fun i hi => ?_⟩⟩, ⟨h.filters.1, .inr ⟨g6, 0, rfl, fun i hi => ?_⟩⟩⟩
 ·
  rw [Nat.zero_add, cell_of h1]; exact by_at h.wP i hi
 ·
  rw [Nat.zero_add, cell_of h3]; exact by_at h.pass i hi
 ·
  rw [Nat.zero_add, cell_of h2]; exact by_at h.mP i hi
 ·
  rw [Nat.zero_add, cell_of h4, cell_of h4]; exact as_at h.asks i hi
 ·
  rw [Nat.zero_add, cell_of h5]; exact is_at h.codes i hi
 ·
  rw [Nat.zero_add, cell_of h6]; exact ss_at h.filters i hi
theorem mks_keep {w w' : World} {p : Pk} {g1 g2 g3 g4 g5 g6 : Nat} (h : Mks w p g1 g2 g3 g4 g5 g6) (h1 : w'.heap[g1]? = w.heap[g1]?) (h2 : w'.heap[g2]? = w.heap[g2]?) (h3 : w'.heap[g3]? = w.heap[g3]?) (h4 : w'.heap[g4]? = w.heap[g4]?) (h5 : w'.heap[g5]? = w.heap[g5]?) (h6 : w'.heap[g6]? = w.heap[g6]?) : Mks w' p g1 g2 g3 g4 g5 g6 :=
 ⟨fun k hk => (cell_of h1 _).trans (h.m1 k hk), fun k hk => (cell_of h2 _).trans (h.m2 k hk), fun k hk => (cell_of h3 _).trans (h.m3 k hk), fun k hk => ⟨(cell_of h4 _).trans (h.m4 k hk).1, (cell_of h4 _).trans (h.m4 k hk).2⟩, fun k hk => (cell_of h5 _).trans (h.m5 k hk), fun k hk => (cell_of h6 _).trans (h.m6 k hk)⟩
def Six (g1 g2 g3 g4 g5 g6 k : Nat) : Prop := k = g1 ∨ k = g2 ∨ k = g3 ∨ k = g4 ∨ k = g5 ∨ k = g6
theorem not_six {g1 g2 g3 g4 g5 g6 k : Nat} (h : ¬ Six g1 g2 g3 g4 g5 g6 k) : k ≠ g1 ∧ k ≠ g2 ∧ k ≠ g3 ∧ k ≠ g4 ∧ k ≠ g5 ∧ k ≠ g6 := by unfold Six at h; omega
structure Vx (w V : World) (p : Pk) (R K g1 g2 g3 g4 g5 g6 : Nat) : Prop where
 rx : Rx V R K p g1 g2 g3 g4 g5 g6
 kb : ∃ cs, V.heap[K]? = some (.cells cs 55 (0, 0))
 lK : w.heap.size ≤ K
 lo : ∀ k, Six g1 g2 g3 g4 g5 g6 k → w.heap.size ≤ k
theorem Vx.six {w V : World} {p : Pk} {R K g1 g2 g3 g4 g5 g6 : Nat} (h : Vx w V p R K g1 g2 g3 g4 g5 g6) : ∀ k, Six g1 g2 g3 g4 g5 g6 k → k < V.heap.size ∧ k ≠ K := by
 obtain ⟨cs, hk⟩ := h.kb
 rintro k (rfl | rfl | rfl | rfl | rfl | rfl)
 ·
  obtain ⟨ds, q⟩ := h.rx.t1; exact ⟨Pkt.block_lt q, ne_ty q hk (by decide)⟩
 ·
  obtain ⟨ds, q⟩ := h.rx.t2; exact ⟨Pkt.block_lt q, ne_ty q hk (by decide)⟩
 ·
  obtain ⟨ds, q⟩ := h.rx.t3; exact ⟨Pkt.block_lt q, ne_ty q hk (by decide)⟩
 ·
  obtain ⟨ds, q⟩ := h.rx.t4; exact ⟨Pkt.block_lt q, ne_ty q hk (by decide)⟩
 ·
  obtain ⟨ds, q⟩ := h.rx.t5; exact ⟨Pkt.block_lt q, ne_ty q hk (by decide)⟩
 ·
  obtain ⟨ds, q⟩ := h.rx.t6; exact ⟨Pkt.block_lt q, ne_ty q hk (by decide)⟩
structure Sx (w V x : World) (p : Pk) (c : Cn) (K g1 g2 g3 g4 g5 g6 N : Nat) : Prop where
 bel : Below w.heap.size w x
 size : V.heap.size ≤ x.heap.size
 old : ∀ k, k < V.heap.size → k ≠ K → ¬ Six g1 g2 g3 g4 g5 g6 k → x.heap[k]? = V.heap[k]?
 inn : In x (Pkt.Pk.laid p g1 g2 g3 g4 g5 g6) c
 mx : Mks x p g1 g2 g3 g4 g5 g6
 bk : ∃ U, Bk.Bk x K N U ∧ ∀ k, U k → k = K ∨ V.heap.size ≤ k
section
variable {w V x y : World} {p : Pk} {c : Cn} {R K g1 g2 g3 g4 g5 g6 N : Nat}
theorem Sx.room (h : Sx w V x p c K g1 g2 g3 g4 g5 g6 N) (v : Vx w V p R K g1 g2 g3 g4 g5 g6) : RoomOk x R 3 1 1 1 :=
 v.rx.re x (fun k h0 hK q1 q2 q3 q4 q5 q6 => h.old k h0 hK (by unfold Six; omega)) h.mx
theorem Sx.below (h : Sx w V x p c K g1 g2 g3 g4 g5 g6 N) (v : Vx w V p R K g1 g2 g3 g4 g5 g6) (hb : Below x.heap.size x y) : Sx w V y p c K g1 g2 g3 g4 g5 g6 N := by
 have s : ∀ k, Six g1 g2 g3 g4 g5 g6 k → y.heap[k]? = x.heap[k]? := fun k q => hb.block k (Nat.lt_of_lt_of_le (v.six k q).1 h.size)
 obtain ⟨U, b, hu⟩ := h.bk
 refine ⟨h.bel.trans (hb.mono h.bel.size), Nat.le_trans h.size hb.size, fun k h0 h1 h2 => (hb.block k (Nat.lt_of_lt_of_le h0 h.size)).trans (h.old k h0 h1 h2), ?_, ?_, U, b.keep (fun k q => hb.block k (b.lt q)), hu⟩
 ·
  exact laid_keep h.inn (s _ (by unfold Six; omega)) (s _ (by unfold Six; omega)) (s _ (by unfold Six; omega)) (s _ (by unfold Six; omega)) (s _ (by unfold Six; omega)) (s _ (by unfold Six; omega))
 ·
  exact mks_keep h.mx (s _ (by unfold Six; omega)) (s _ (by unfold Six; omega)) (s _ (by unfold Six; omega)) (s _ (by unfold Six; omega)) (s _ (by unfold Six; omega)) (s _ (by unfold Six; omega))
theorem Sx.step (h : Sx w V x p c K g1 g2 g3 g4 g5 g6 N) (v : Vx w V p R K g1 g2 g3 g4 g5 g6) {U U' : Nat → Prop} {M : Nat} (hu : ∀ k, U k → k = K ∨ V.heap.size ≤ k) (hb : Bk.Bk y K M U') (hc : Bk.Ch U x y) (hn : ∀ k, U' k → U k ∨ x.heap.size ≤ k) : Sx w V y p c K g1 g2 g3 g4 g5 g6 M := by
 have nu : ∀ k, k < V.heap.size → k ≠ K → ¬ U k := fun k h0 h1 q => by rcases hu k q with r | r <;> omega
 have s : ∀ k, Six g1 g2 g3 g4 g5 g6 k → y.heap[k]? = x.heap[k]? := fun k q => hc.block k (Nat.lt_of_lt_of_le (v.six k q).1 h.size) (nu k (v.six k q).1 (v.six k q).2)
 refine ⟨⟨hc.os.trans h.bel.os, hc.tape.trans h.bel.tape, hc.output.trans h.bel.output, Nat.le_trans h.bel.size hc.size, fun k hk => ?_⟩, Nat.le_trans h.size hc.size, fun k h0 h1 h2 => (hc.block k (Nat.lt_of_lt_of_le h0 h.size) (nu k h0 h1)).trans (h.old k h0 h1 h2), ?_, ?_, U', hb, fun k q => ?_⟩
 ·
  refine (hc.block k (Nat.lt_of_lt_of_le hk h.bel.size) (fun q => ?_)).trans (h.bel.block k hk)
  have l := v.lK
  obtain ⟨cs, hk'⟩ := v.kb
  have := Pkt.block_lt hk'
  rcases hu k q with r | r <;> omega
 ·
  exact laid_keep h.inn (s _ (by unfold Six; omega)) (s _ (by unfold Six; omega)) (s _ (by unfold Six; omega)) (s _ (by unfold Six; omega)) (s _ (by unfold Six; omega)) (s _ (by unfold Six; omega))
 ·
  exact mks_keep h.mx (s _ (by unfold Six; omega)) (s _ (by unfold Six; omega)) (s _ (by unfold Six; omega)) (s _ (by unfold Six; omega)) (s _ (by unfold Six; omega)) (s _ (by unfold Six; omega))
 ·
  rcases hn k q with r | r
  ·
   exact hu k r
  ·
   exact .inr (Nat.le_trans h.size r)
theorem Sx.below_six (h : Sx w V x p c K g1 g2 g3 g4 g5 g6 N) (v : Vx w V p R K g1 g2 g3 g4 g5 g6) (hb : Below x.heap.size x y) (q : ∀ k, Six g1 g2 g3 g4 g5 g6 k → x.heap[k]? = V.heap[k]?) : ∀ k, Six g1 g2 g3 g4 g5 g6 k → y.heap[k]? = V.heap[k]? :=
 fun k r => (hb.block k (Nat.lt_of_lt_of_le (v.six k r).1 h.size)).trans (q k r)
theorem Sx.step_six (h : Sx w V x p c K g1 g2 g3 g4 g5 g6 N) (v : Vx w V p R K g1 g2 g3 g4 g5 g6) {U : Nat → Prop} (hu : ∀ k, U k → k = K ∨ V.heap.size ≤ k) (hc : Bk.Ch U x y) (q : ∀ k, Six g1 g2 g3 g4 g5 g6 k → x.heap[k]? = V.heap[k]?) : ∀ k, Six g1 g2 g3 g4 g5 g6 k → y.heap[k]? = V.heap[k]? :=
 fun k r => (hc.block k (Nat.lt_of_lt_of_le (v.six k r).1 h.size) (fun e => by have := v.six k r; rcases hu k e with f | f <;> omega)).trans (q k r)
theorem Sx.spoil (h : Sx w V x p c K g1 g2 g3 g4 g5 g6 N) (v : Vx w V p R K g1 g2 g3 g4 g5 g6) (s : Spo p c g1 g2 g3 g4 g5 g6 x y) : Sx w V y p c.spoilt K g1 g2 g3 g4 g5 g6 N := by
 obtain ⟨U, b, hu⟩ := h.bk
 have o : ∀ k, k < x.heap.size → ¬ Six g1 g2 g3 g4 g5 g6 k → y.heap[k]? = x.heap[k]? := fun k h0 h1 => by
  obtain ⟨a1, a2, a3, a4, a5, a6⟩ := not_six h1
  exact s.other k h0 a1 a2 a3 a4 a5 a6
 refine ⟨⟨s.os.trans h.bel.os, s.tape.trans h.bel.tape, s.output.trans h.bel.output, Nat.le_trans h.bel.size s.size, fun k hk => ?_⟩, Nat.le_trans h.size s.size, fun k h0 h1 h2 => (o k (Nat.lt_of_lt_of_le h0 h.size) h2).trans (h.old k h0 h1 h2), s.inn, s.marks h.mx, U, b.keep (fun k q => o k (b.lt q) (fun r => ?_)), hu⟩
 ·
  refine (o k (Nat.lt_of_lt_of_le hk h.bel.size) (fun r => ?_)).trans (h.bel.block k hk)
  have := v.lo k r
  omega
 ·
  have := v.six k r
  rcases hu k q with e | e <;> omega
end
open Go Go.RowKit Go.Sort
open Pkt (Pk Cn Sl In By Is Ss As pkCells Gd box_below Right TT sumN sz fg Small ck wpList_load_wanted mkI parts Rx Mks Spo RoomOk cell_of ne_ty nil28 zeroPk)
theorem Rx_below {w w' : World} {R K : Nat} {p : Pk} {g1 g2 g3 g4 g5 g6 : Nat} (h : Rx w R K p g1 g2 g3 g4 g5 g6) (hb : Below w.heap.size w w') : Rx w' R K p g1 g2 g3 g4 g5 g6 := by
 obtain ⟨⟨c1, t1⟩, ⟨c2, t2⟩, ⟨c3, t3⟩, ⟨c4, t4⟩, ⟨c5, t5⟩, ⟨c6, t6⟩, d12, d13, d23, ms, re⟩ := h
 have s : ∀ {k : Nat} {o : Obj}, w.heap[k]? = some o → w'.heap[k]? = w.heap[k]? := fun q => hb.block _ (Array.getElem?_eq_some_iff.1 q).1
 refine ⟨⟨c1, (s t1).trans t1⟩, ⟨c2, (s t2).trans t2⟩, ⟨c3, (s t3).trans t3⟩, ⟨c4, (s t4).trans t4⟩, ⟨c5, (s t5).trans t5⟩, ⟨c6, (s t6).trans t6⟩, d12, d13, d23, mks_keep ms (s t1) (s t2) (s t3) (s t4) (s t5) (s t6), fun w'' hk m => re w'' (fun k hk0 a0 a1 a2 a3 a4 a5 a6 => (hk k (Nat.lt_of_lt_of_le hk0 hb.size) a0 a1 a2 a3 a4 a5 a6).trans (hb.block k hk0)) m⟩
theorem store_below (w : World) (cs : Array Value) : Below w.heap.size w ((w.alloc (.cells zeroPk 29)).setRow w.heap.size cs) ∧ ((w.alloc (.cells zeroPk 29)).setRow w.heap.size cs).heap[w.heap.size]? = some (.cells cs 29 (0, 0)) := by
 have b : Below w.heap.size w (w.alloc (.cells zeroPk 29)) := Pkt.below1 _ _
 refine ⟨⟨b.os, b.tape, b.output, ?_, fun k hk => (setRow_other _ _ k cs (by omega)).trans (b.block k hk)⟩, setRow_heap _ _ zeroPk cs 29 (0, 0) (heap_alloc_new w _)⟩
 show w.heap.size ≤ ((w.alloc (.cells zeroPk 29)).heap.modify _ _).size
 simp
section
variable {w V x y : World} {p : Pk} {c : Cn} {R K g1 g2 g3 g4 g5 g6 N : Nat}
theorem Sx.box (h : Sx w V x p c K g1 g2 g3 g4 g5 g6 N) (v : Vx w V p R K g1 g2 g3 g4 g5 g6) {b : Nat} {cl : Array Value} (hb : V.heap[b]? = some (.cells cl 29 (0, 0))) : x.heap[b]? = some (.cells cl 29 (0, 0)) := by
 obtain ⟨cs, hk⟩ := v.kb
 obtain ⟨c1, t1⟩ := v.rx.t1
 obtain ⟨c2, t2⟩ := v.rx.t2
 obtain ⟨c3, t3⟩ := v.rx.t3
 obtain ⟨c4, t4⟩ := v.rx.t4
 obtain ⟨c5, t5⟩ := v.rx.t5
 obtain ⟨c6, t6⟩ := v.rx.t6
 refine (h.old b (Pkt.block_lt hb) (ne_ty hb hk (by decide)) ?_).trans hb
 rintro (e | e | e | e | e | e)
 ·
  exact ne_ty hb t1 (by decide) e
 ·
  exact ne_ty hb t2 (by decide) e
 ·
  exact ne_ty hb t3 (by decide) e
 ·
  exact ne_ty hb t4 (by decide) e
 ·
  exact ne_ty hb t5 (by decide) e
 ·
  exact ne_ty hb t6 (by decide) e
theorem Sx.start (v : Vx w V p R K g1 g2 g3 g4 g5 g6) (hb : Below w.heap.size w V) (hi : In V (Pkt.Pk.laid p g1 g2 g3 g4 g5 g6) c) (hk : V.heap[K]? = some (.cells Bk.bk0 55 (0, 0))) : Sx w V V p c K g1 g2 g3 g4 g5 g6 0 :=
 ⟨hb, Nat.le_refl _, fun _ _ _ _ => rfl, hi, v.rx.ms, _, Bk.bk_start hk bk0_hd bk0_rows, fun k e => .inl e⟩
theorem enc_step (h : Sx w V x p c K g1 g2 g3 g4 g5 g6 N) (v : Vx w V p R K g1 g2 g3 g4 g5 g6) (hN : N ≤ 1000) (hg : Gd w) (hin : In w p c) (hn : Pkt.Nils p) (hs : Small p c) (hz : sz p c ≤ 1299990) (mark : Int) :
    Calls Tryz.prog 21 #[.pointer (some ⟨K, 0, none⟩), .agg (pkCells (Pkt.Pk.laid p g1 g2 g3 g4 g5 g6)), .agg (pkCells p), .int .i64 mark] x fun e y => e = .returned (.bool true) ∧ Sx w V y p c K g1 g2 g3 g4 g5 g6 (N + 1) ∧ ((∀ k, Six g1 g2 g3 g4 g5 g6 k → x.heap[k]? = V.heap[k]?) → ∀ k, Six g1 g2 g3 g4 g5 g6 k → y.heap[k]? = V.heap[k]?) := by
  obtain ⟨U, b, hu⟩ := h.bk
  refine (encodes_any b hN p c _ _ _ _ _ _ (hin.below h.bel) h.inn rfl rfl rfl rfl rfl rfl hn hs (hg.below h.bel) hz mark).mono ?_
  rintro e y ⟨rfl, U', b', hc, hu'⟩
  exact ⟨rfl, h.step v hu b' hc hu', h.step_six v hu hc⟩
theorem hold_step (h : Sx w V x p c K g1 g2 g3 g4 g5 g6 N) (v : Vx w V p R K g1 g2 g3 g4 g5 g6) :
    Calls Tryz.prog 19 #[.pointer (some ⟨R, 0, none⟩)] x fun e y => e = .returned (.bool true) ∧ Sx w V y p c K g1 g2 g3 g4 g5 g6 N ∧ ((∀ k, Six g1 g2 g3 g4 g5 g6 k → x.heap[k]? = V.heap[k]?) → ∀ k, Six g1 g2 g3 g4 g5 g6 k → y.heap[k]? = V.heap[k]?) := by
  refine (Pkt.hold_any R 3 1 1 1 x (h.room v)).mono ?_
  rintro e y ⟨rfl, hb⟩
  exact ⟨rfl, h.below v hb, h.below_six v hb⟩
theorem book_hold (h : Sx w V x p c K g1 g2 g3 g4 g5 g6 N) (v : Vx w V p R K g1 g2 g3 g4 g5 g6) (hN : N ≤ 1000) :
    Calls Tryz.prog 17 #[.pointer (some ⟨K, 0, none⟩)] x fun e y => e = .returned (.bool true) ∧ Sx w V y p c K g1 g2 g3 g4 g5 g6 N := by
  obtain ⟨U, b, hu⟩ := h.bk
  refine (Bk.bk_hold b (by omega)).mono ?_
  rintro e y ⟨rfl, hb⟩
  exact ⟨rfl, h.below v hb⟩
theorem spoil_step (h : Sx w V x p c K g1 g2 g3 g4 g5 g6 N) (v : Vx w V p R K g1 g2 g3 g4 g5 g6) (hs : Small p c) (six : ∀ k, Six g1 g2 g3 g4 g5 g6 k → x.heap[k]? = V.heap[k]?) :
    Calls Tryz.prog 22 #[.agg (pkCells (Pkt.Pk.laid p g1 g2 g3 g4 g5 g6))] x fun e y => e = .returned (.tuple #[]) ∧ Sx w V y p c.spoilt K g1 g2 g3 g4 g5 g6 N := by
  have q := v.rx
  refine (Pkt.spoils_any p c x g1 g2 g3 g4 g5 g6 h.inn hs ?_ ?_ ?_ ?_ ?_ ?_ q.d12 q.d13 q.d23).mono ?_
  · rw [six g1 (by unfold Six; omega)]; exact q.t1
  · rw [six g2 (by unfold Six; omega)]; exact q.t2
  · rw [six g3 (by unfold Six; omega)]; exact q.t3
  · rw [six g4 (by unfold Six; omega)]; exact q.t4
  · rw [six g5 (by unfold Six; omega)]; exact q.t5
  · rw [six g6 (by unfold Six; omega)]; exact q.t6
  · rintro e y ⟨rfl, s⟩
    exact ⟨rfl, h.spoil v s⟩
structure Cq (y : World) (p q : Pk) (c : Cn) (g1 g2 g3 g4 g5 g6 : Nat) : Prop where
 inn : In y q c
 nl : Pkt.Nils q
 form : ∃ s1 s2 s3 s4 s5 s6 : Sl, q = (Pkt.Pk.laid p g1 g2 g3 g4 g5 g6).re s1 s2 s3 s4 s5 s6 ∧ s1.n = p.wP.n ∧ s2.n = p.pass.n ∧ s3.n = p.mP.n ∧ s4.n = p.asks.n ∧ s5.n = p.codes.n ∧ s6.n = p.filters.n
theorem copy_step (h : Sx w V x p c K g1 g2 g3 g4 g5 g6 N) (v : Vx w V p R K g1 g2 g3 g4 g5 g6) (hs : Small p c) :
    Calls Tryz.prog 14 #[.agg (pkCells (Pkt.Pk.laid p g1 g2 g3 g4 g5 g6))] x fun e y => ∃ q, e = .returned (.agg (pkCells q)) ∧ Sx w V y p c K g1 g2 g3 g4 g5 g6 N ∧ Cq y p q c g1 g2 g3 g4 g5 g6 := by
  refine (copy3_any (Pkt.Pk.laid p g1 g2 g3 g4 g5 g6) c x h.inn (Pkt.small_re rfl rfl rfl rfl rfl rfl hs)).mono ?_
  rintro e y ⟨s1, s2, s3, s4, s5, s6, rfl, hi, hn, hnl, hb⟩
  exact ⟨_, rfl, h.below v hb, hi, hnl, s1, s2, s3, s4, s5, s6, rfl, hn⟩
theorem enc_last {q : Pk} (h : Sx w V x p c K g1 g2 g3 g4 g5 g6 N) (v : Vx w V p R K g1 g2 g3 g4 g5 g6) (hN : N ≤ 1000) (hg : Gd w) (hq : Cq x p q c g1 g2 g3 g4 g5 g6) (hs : Small p c) (hz : sz p c ≤ 1299990) (mark : Int) :
    Calls Tryz.prog 21 #[.pointer (some ⟨K, 0, none⟩), .agg (pkCells (Pkt.Pk.laid p g1 g2 g3 g4 g5 g6)), .agg (pkCells q), .int .i64 mark] x fun e y => e = .returned (.bool true) ∧ Sx w V y p c K g1 g2 g3 g4 g5 g6 (N + 1) := by
  obtain ⟨U, b, hu⟩ := h.bk
  obtain ⟨hi, hnl, s1, s2, s3, s4, s5, s6, rfl, n1, n2, n3, n4, n5, n6⟩ := hq
  have e1 : (Pkt.Pk.laid p g1 g2 g3 g4 g5 g6).re s1 s2 s3 s4 s5 s6 = p.re s1 s2 s3 s4 s5 s6 := rfl
  rw [e1] at hi hnl ⊢
  refine (encodes_any b hN (p.re s1 s2 s3 s4 s5 s6) c ⟨some ⟨g1, 0, none⟩, p.wP.n, p.wP.n + 600⟩ ⟨some ⟨g3, 0, none⟩, p.pass.n, p.pass.n + 600⟩ ⟨some ⟨g2, 0, none⟩, p.mP.n, p.mP.n + 600⟩ ⟨some ⟨g4, 0, none⟩, p.asks.n, p.asks.n + 40⟩ ⟨some ⟨g5, 0, none⟩, p.codes.n, p.codes.n + 40⟩ ⟨some ⟨g6, 0, none⟩, p.filters.n, p.filters.n + 40⟩ hi h.inn n1.symm n2.symm n3.symm n4.symm n5.symm n6.symm hnl (Pkt.small_re n1 n2 n3 n4 n5 n6 hs) (hg.below h.bel) (by rw [Pkt.sz_re n1 n2 n3 n4 n5 n6]; exact hz) mark).mono ?_
  rintro e y ⟨rfl, U', b', hc, hu'⟩
  exact ⟨rfl, h.step v hu b' hc hu'⟩
end
end Go.Proofs.YtphofgnehdlafaaGreatDoor
