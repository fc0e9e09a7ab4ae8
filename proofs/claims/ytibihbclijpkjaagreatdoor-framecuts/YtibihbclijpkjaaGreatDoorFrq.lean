import Derived.Test.YtibihbclijpkjaaGreatDoorFrm
import Derived.Test.YtibihbclijpkjaaGreatDoorFdz
namespace Go.Proofs.YtibihbclijpkjaaGreatDoor
open Go Go.RowKit
open Pkt (Pk Cn Sl In By Is Ss As pkCells Gd KindsAt Small)
set_option linter.unusedSimpArgs false
set_option linter.unusedVariables false

set_option maxRecDepth 100000 in
set_option maxHeartbeats 4000000 in
/-- A dead frame tells why it is dead. -/
theorem hears_dead {w : World} {X : Nat → Prop} {fb hb : Nat} {most : Int} {B : Nat} {rh' : Option Nat} {L1 : List (Pk × Cn)} {la' le' a e' : Int} (m : Int) (hm : m ≠ 0) (hF : FD w fb most a e') (he : e' ≠ 0) (hH : HS w hb B rh' (No X fb hb none rh') L1 la' le') (hL : L1.length ≤ 100000) :
    Calls Tryz.prog 23 #[.pointer (some ⟨hb, 0, none⟩), .pointer (some ⟨fb, 0, none⟩), .int .i64 m] w fun e w' => e = .returned (.tuple #[]) ∧ FD w' fb most a e' ∧ HS w' hb B rh' (No X fb hb none rh') L1 a e' ∧ Ch (fun k => k = hb) w w' := by
  have F1 : Hid (FD w fb most a e') := hF
  have H1 : Hid (HS w hb B rh' (No X fb hb none rh') L1 la' le') := hH
  have HL : Hid (L1.length ≤ 100000) := hL
  have HE : Hid (e' ≠ 0) := he
  have q0 : (m == 0) = false := by simpa using hm
  have q1 : (m != 0) = true := by simpa using hm
  clear hF hH hL he hm
  go_enter Tryz.func23, Tryz.ntmps23
  go_wp2_with fail
  go_loopg [2] 1 (fun gg s2 wx => s2 = .int .i64 m ∧ Hid (wx = w))
  case atStart => exact ⟨rfl, rfl⟩
  case round =>
      obtain ⟨hs2, hw⟩ := hrel
      have hw' := Hid.out hw
      clear hw
      subst hs2
      subst hw'
      go_wp2_with fail
      go_must (go_at_call 48)
      refine (next_dead F1.out HE.out).mono ?_
      rintro e w1 ⟨gg, rfl, hgg, hbl⟩
      have T1 : Hid (∀ w'', Below w1.heap.size w1 w'' → Calls Tryz.prog 49 #[.iface 78 (.pointer (some ⟨gg, 0, none⟩))] w'' fun e w3 => e = .returned (.tuple #[.agg #[.int .i64 a, .int .i64 e'], .bool true]) ∧ Below w''.heap.size w'' w3) := fun w'' hb => ftold_fault gg _ _ w'' ((hb.block _ (lt_of_block hgg)).trans hgg) HE.out
      have K1 : Hid (Kq fb none wr w1) := ⟨hbl.os, hbl.tape, hbl.output, hbl.size, fun k hk _ _ => hbl.block k hk⟩
      have BW : Hid (Below wr.heap.size wr w1) := hbl
      clear hgg hbl
      obtain ⟨v, qs, ha, ho, hrr, hp⟩ := H1.out
      have LQ : Hid (qs.length = L1.length) := hp.len
      have NE : Hid (hb ≠ fb) := by
        obtain ⟨_, hf⟩ := F1.out
        exact ha.ne_fr hf
      have A1 : Hid (HdAt w1 hb v la' le') := ha.keep (K1.out.block hb ha.lt NE.out (fun e => by cases e))
      have O1 : Hid (w1.ownsRow B 29 25 v qs.length (pkRow qs)) := own_keep ho (fun j e => K1.out.block j (ho.lt j e).2 (fun q => by
        obtain ⟨_, hf⟩ := F1.out
        have h1 := hf
        unfold FrAt at h1
        rcases ho.2 with ⟨r, _⟩ | ⟨g, cap, cur, r, _, hg, _⟩
        · rw [r] at e; cases e
        · rw [r] at e
          have e' : g = fb := by rw [← q]; simpa [Value.ownBlock] using e
          rw [e', h1] at hg
          simp at hg) (fun e => by cases e))
      have PS1 : Hid (Ps wr (No X fb hb none rh') qs L1) := hp
      have VB : Hid (v.ownBlock = rh') := hrr
      obtain ⟨va, vn, vc, hv⟩ : ∃ a n c, v = .slice a n c := by
        rcases ho.2 with ⟨h1, _⟩ | ⟨g, cp, _, h1, _⟩
        · exact ⟨_, _, _, h1⟩
        · exact ⟨_, _, _, h1⟩
      have hvn : vn = qs.length := by
        rcases ho.2 with ⟨h1, h0⟩ | ⟨g, cp, _, h1, _⟩
        · rw [hv] at h1; injection h1 with _ h2 _; omega
        · rw [hv] at h1; injection h1
      subst hv
      subst hvn
      have LL : Hid (qs.length ≤ 100000) := by have h1 := LQ.out; have h3 := HL.out; show qs.length ≤ 100000; omega
      clear ha ho hrr hp
      obtain ⟨W2, hW2⟩ : ∃ W, W = (w1.alloc (.cells (pkCells (blank 0)) 29)).setRow w1.heap.size (pkCells (blank 0)) := ⟨_, rfl⟩
      have B2 : Hid (Below w1.heap.size w1 W2) := by show Below _ _ _; rw [hW2]; exact (below_setRow ((Below.refl _ _).alloc (Nat.le_refl _) _) (Nat.le_refl _)).out
      have Z2 : Hid (W2.heap[w1.heap.size]? = some (.cells (pkCells (blank 0)) 29 (0, 0))) := by show _ = _; rw [hW2]; exact setRow_at (heap_alloc_new w1 _)
      go_upto_region 3 with (first | (refine wpList_store_row rfl 29 _ _ rfl w1.heap.size (pkCells (blank 0)) rfl rfl 29 _ (heap_alloc_new w1 _) pk_info rfl (pk_one _) ?_) | fail)
      have eW : (w1.alloc (.cells #[.int .i64 0, .int .i64 0, .bool false, .int .i64 0, .string ⟨#[]⟩, .bool false, .string ⟨#[]⟩, .slice none 0 0, .int .i64 0, .bool false, .bool false, .string ⟨#[]⟩, .bool false, .slice none 0 0, .bool false, .int .i64 0, .bool false, .string ⟨#[]⟩, .slice none 0 0, .int .i64 0, .bool false, .int .i64 0, .slice none 0 0, .slice none 0 0, .slice none 0 0] 29)).setRow w1.heap.size (pkCells (blank 0)) = W2 := hW2.symm
      rw [eW]
      clear eW hW2
      go_wp2_with fail
      go_must (go_at_call 49)
      refine (T1.out W2 B2.out).mono ?_
      rintro e w3 ⟨rfl, hb3⟩
      obtain ⟨W4, hW4⟩ : ∃ W, W = w3.alloc (.cells #[.int .i64 a, .int .i64 e'] 45) := ⟨_, rfl⟩
      have B4 : Hid (Below w1.heap.size w1 W4) := by show Below _ _ _; rw [hW4]; exact below_on (below_on B2.out hb3) ((Below.refl _ _).alloc (Nat.le_refl _) _)
      have Z4 : Hid (W4.heap[w1.heap.size]? = some (.cells (pkCells (blank 0)) 29 (0, 0))) := by
        show _ = _
        rw [hW4]
        exact ((((Below.refl w3.heap.size w3).alloc (Nat.le_refl _) _).block _ (by have := hb3.size; have := lt_of_block Z2.out; omega)).trans (hb3.block _ (lt_of_block Z2.out))).trans Z2.out
      have T4 : Hid (W4.heap[w3.heap.size]? = some (.cells #[.int .i64 a, .int .i64 e'] 45 (0, 0))) := by show _ = _; rw [hW4]; exact heap_alloc_new w3 _
      have S4 : Hid (w1.heap.size ≤ w3.heap.size) := Nat.le_trans B2.out.size hb3.size
      clear hb3
      go_upto_region 4 with (first | (refine wpList_store_row rfl 45 _ _ rfl w3.heap.size #[.int .i64 a, .int .i64 e'] rfl rfl 45 _ (heap_alloc_new w3 _) f45_info rfl rfl ?_) | fail)
      rw [← hW4]
      clear hW4
      have A4 : Hid (HdAt W4 hb (.slice va qs.length vc) la' le') := A1.out.keep (B4.out.block _ A1.out.lt)
      have c0 : W4.cell? ⟨hb, 0, none⟩ = some (.slice va qs.length vc) := A4.out.cell 0 _ rfl
      have c3 : W4.cell? ⟨hb, 3, none⟩ = some (.bool false) := A4.out.cell 3 _ rfl
      have f3 : W4.frozen? ⟨hb, 3, none⟩ = false := A4.out.frozen 3
      have t0 : W4.cell? ⟨w3.heap.size, 0, none⟩ = some (.int .i64 a) := box_cells T4.out 0 _ rfl
      have t1 : W4.cell? ⟨w3.heap.size, 1, none⟩ = some (.int .i64 e') := box_cells T4.out 1 _ rfl
      have l0 : ¬ (100000 : Int) < (qs.length : Int) := by have := LL.out; omega
      go_upto_region 5 with fail
      obtain ⟨W5, hW5⟩ : ∃ W, W = W4.setCell ⟨hb, 3, none⟩ (.bool false) := ⟨_, rfl⟩
      rw [← hW5]
      have A5 : Hid (HdAt W5 hb (.slice va qs.length vc) la' le') := by show HdAt _ _ _ _ _; rw [hW5]; exact A4.out.set3
      have C5 : Hid (Ch (fun k => k = hb) W4 W5) := by show Ch _ _ _; rw [hW5]; exact ch_set hb 3 _
      clear hW5 c0 c3 f3 t0 t1
      have NT : Hid (w3.heap.size ≠ hb) := by have := A1.out.lt; have := S4.out; show w3.heap.size ≠ hb; omega
      have T5 : Hid (W5.heap[w3.heap.size]? = some (.cells #[.int .i64 a, .int .i64 e'] 45 (0, 0))) := (C5.out.block _ (lt_of_block T4.out) NT.out).trans T4.out
      have t0 : W5.cell? ⟨w3.heap.size, 0, none⟩ = some (.int .i64 a) := box_cells T5.out 0 _ rfl
      have t1 : W5.cell? ⟨w3.heap.size, 1, none⟩ = some (.int .i64 e') := box_cells T5.out 1 _ rfl
      have c1 : W5.cell? ⟨hb, 1, none⟩ = some (.int .i64 la') := A5.out.cell 1 _ rfl
      have c2 : W5.cell? ⟨hb, 2, none⟩ = some (.int .i64 le') := A5.out.cell 2 _ rfl
      have c3 : W5.cell? ⟨hb, 3, none⟩ = some (.bool false) := A5.out.cell 3 _ rfl
      have f1 : W5.frozen? ⟨hb, 1, none⟩ = false := A5.out.frozen 1
      have f2 : W5.frozen? ⟨hb, 2, none⟩ = false := A5.out.frozen 2
      go_upto_region 7 with fail
      obtain ⟨W6, hW6⟩ : ∃ W, W = (W5.setCell ⟨hb, 1, none⟩ (.int .i64 a)).setCell ⟨hb, 2, none⟩ (.int .i64 e') := ⟨_, rfl⟩
      rw [← hW6]
      have A6 : Hid (HdAt W6 hb (.slice va qs.length vc) a e') := by show HdAt _ _ _ _ _; rw [hW6]; exact (A5.out.set1 _).set2 _
      have C6 : Hid (Ch (fun k => k = hb) W5 W6) := by show Ch _ _ _; rw [hW6]; exact (ch_set hb 1 _).trans (ch_set hb 2 _) (fun j _ h => h)
      clear hW6 t0 t1 c1 c2 c3 f1 f2
      have C7 : Hid (Ch (fun k => k = fb ∨ k = hb) wr W6) := by
        refine Ch.trans (S' := fun k => k = hb) (Ch.trans (S' := fun k => k = hb) (Ch.trans (S' := fun _ => False) ((Kq.ch K1.out).mono (fun j _ h => h.elim .inl (fun e => by cases e))) (Below.ch B4.out) (fun _ _ h => h.elim)) C5.out (fun _ _ h => .inr h)) C6.out (fun _ _ h => .inr h)
      have O6 : Hid (W6.ownsRow B 29 25 (.slice va qs.length vc) qs.length (pkRow qs)) := own_keep O1.out (fun j e => by
        have h1 := (O1.out.lt j e).2
        have h2 := B4.out.size
        have hne : j ≠ hb := fun q => A1.out.own_ne O1.out (by decide) (q ▸ e)
        rw [C6.out.block j (by have := C5.out.size; omega) hne, C5.out.block j (by omega) hne, B4.out.block j h1])
      have C16 : Hid (Ch (fun k => k = hb) w1 W6) := Ch.trans (S' := fun k => k = hb) (Ch.trans (S' := fun k => k = hb) (Below.ch B4.out) C5.out (fun _ _ h => h)) C6.out (fun _ _ h => h)
      have CW : Hid (Ch (fun k => k = hb) wr W6) := Ch.trans (S' := fun k => k = hb) (Below.ch BW.out) C16.out (fun _ _ h => h)
      go_wp2_with fail
      (try simp only [Exit.inBlock, Exit.then])
      refine bodyPost_ret (results_none rfl _ _ _) rfl ?_
      refine ⟨rfl, ?_, ?_, CW.out⟩
      · have q := F1.out
        obtain ⟨_, hf⟩ := q
        exact F1.out.keep (CW.out.block _ (FrAt.lt hf) (fun q => NE.out q.symm))
      · exact ⟨_, qs, A6.out, O6.out, VB.out, Ps.mono (fun b hb hnb => CW.out.block b hb (fun q => hnb (.inr (.inr (.inl q))))) (fun b hb h => h) PS1.out⟩
end Go.Proofs.YtibihbclijpkjaaGreatDoor
namespace Go.Proofs.YtibihbclijpkjaaGreatDoor
open Go Go.RowKit
open Pkt (Pk Cn Sl In By Is Ss As pkCells Gd KindsAt Small)
set_option linter.unusedSimpArgs false
set_option linter.unusedVariables false

theorem pkRow_at : ∀ (qs : List Pk) (j i : Nat) (q : Pk), qs[j]? = some q → i < 25 → (pkRow qs)[j * 25 + i]? = (pkCells q).toList[i]?
  | [], j, i, q, h, _ => by simp at h
  | q' :: qs, 0, i, q, h, hi => by
    simp at h; subst h
    show ((pkCells q').toList ++ pkRow qs)[0 * 25 + i]? = _
    rw [Nat.zero_mul, Nat.zero_add]
    exact List.getElem?_append_left (by have := pk_size q'; simp; omega)
  | q' :: qs, j + 1, i, q, h, hi => by
    show ((pkCells q').toList ++ pkRow qs)[(j + 1) * 25 + i]? = _
    have hs : (pkCells q').toList.length = 25 := by have := pk_size q'; simpa using this
    rw [List.getElem?_append_right (by rw [hs]; omega), hs, show (j + 1) * 25 + i - 25 = j * 25 + i by omega]
    exact pkRow_at qs j i q (by simpa using h) hi
theorem yields_mid29 {o : Oper} {a : Act} {x : Operand} {g off : Nat} {cs : Array Value} {w : World} (ho : o.op = .load 29 x) (hx : a.eval x = .pointer (some ⟨g, off, none⟩)) (hg : w.rangeAt g off cs.toList ∧ cs.size = 25) :
    (execOp a.eval o).run Tryz.prog w = .ok (.value (.agg cs)) w := by
  have hl : (loadVar 29 ⟨g, off, none⟩).run Tryz.prog w = .ok (.agg cs.toList.toArray) w := run_loadVar_mid w g off 29 cs.toList _ hg.1 Tryz.underlying29 rfl (by rw [Array.length_toList, hg.2]; kernel_rfl)
  rw [Array.toArray_toList] at hl
  unfold execOp
  simp only [ho, hx, Instr.loadAt, Instr.sureAddr, Sem.run_bind, Sem.run_pure, Result.andThen_ok, hl]
theorem neq45 (a b : Int) (w : World) : (binOp .neq 45 (.agg #[.int .i64 a, .int .i64 b]) (.agg #[.int .i64 a, .int .i64 b])).run Tryz.prog w = .ok (.bool false) w := by
  have hu : Tryz.prog.underlying 45 = some (.struct (Tryz.prog.fieldsOf 45)) := by kernel_rfl
  have hp : Tryz.prog.stoodInHeld 45 = false := by kernel_rfl
  rw [run_neq_struct, run_equalIn_agg w 9999 45 _ _ hu hp]
  clear hu hp
  simp only [Program.fieldsOf, Tryz.underlying45]
  go_simp
/-- A row of packets, one of them. -/
theorem row_at {w : World} {B : Nat} {v : Value} {qs : List Pk} {j : Nat} {q : Pk} (h : w.ownsRow B 29 25 v qs.length (pkRow qs)) (hj : qs[j]? = some q) : ∃ g cap, v = .slice (some ⟨g, 0, none⟩) qs.length cap ∧ w.rangeAt g (j * 25) (pkCells q).toList := by
  have hjl : j < qs.length := (List.getElem?_eq_some_iff.1 hj).1
  rcases h.2 with ⟨_, h0⟩ | ⟨g, cap, cur, rfl, _, hg, hnc, _, hcs, ht⟩
  · omega
  · refine ⟨g, cap, rfl, fun i u hu => ?_⟩
    have hi : i < 25 := by have := (List.getElem?_eq_some_iff.1 hu).1; have := pk_size q; simp at *; omega
    have h1 := pkRow_at qs j i q hj hi
    rw [hu, ← ht, List.getElem?_take_of_lt (by have : j * 25 + 25 ≤ qs.length * 25 := by omega
                                               omega)] at h1
    rw [cell_of_row w g (j * 25 + i) cur 29 (0, 0) hg]
    simpa using h1
set_option maxRecDepth 100000 in
set_option maxHeartbeats 4000000 in
theorem same_any {w : World} {xb yb B1 B2 : Nat} {rx ry : Option Nat} {nx ny : Nat → Prop} {L : List (Pk × Cn)} {la le : Int} (hx : HS w xb B1 rx nx L la le) (hy : HS w yb B2 ry ny L la le) (hs : ∀ x ∈ L, Small x.1 x.2) (hL : L.length ≤ 100000) :
    Calls Tryz.prog 25 #[.pointer (some ⟨xb, 0, none⟩), .pointer (some ⟨yb, 0, none⟩)] w fun e w' => e = .returned (.bool true) ∧ Below w.heap.size w w' := by
  obtain ⟨vx, qsx, hax, hox, _, hpx⟩ := hx
  obtain ⟨vy, qsy, hay, hoy, _, hpy⟩ := hy
  have lx := hpx.len
  have ly := hpy.len
  obtain ⟨ax, cx, hvx⟩ : ∃ a c, vx = .slice a L.length c := by
    rcases hox.2 with ⟨h1, h0⟩ | ⟨g, cp, _, h1, _⟩
    · exact ⟨none, 0, by rw [h1, ← lx, h0]⟩
    · exact ⟨_, _, by rw [← lx]; exact h1⟩
  obtain ⟨ay, cy, hvy⟩ : ∃ a c, vy = .slice a L.length c := by
    rcases hoy.2 with ⟨h1, h0⟩ | ⟨g, cp, _, h1, _⟩
    · exact ⟨none, 0, by rw [h1, ← ly, h0]⟩
    · exact ⟨_, _, by rw [← ly]; exact h1⟩
  have AX : Hid (∀ wq, Below w.heap.size w wq → HdAt wq xb vx la le) := fun wq hb => hax.keep (hb.block _ hax.lt)
  have AY : Hid (∀ wq, Below w.heap.size w wq → HdAt wq yb vy la le) := fun wq hb => hay.keep (hb.block _ hay.lt)
  have EL : Hid (∀ j, j < L.length → ∃ (gx gy : Nat) (qx qy : Pk), vx = .slice (some ⟨gx, 0, none⟩) L.length cx ∧ vy = .slice (some ⟨gy, 0, none⟩) L.length cy ∧ (∀ wq, Below w.heap.size w wq → wq.rangeAt gx (j * 25) (pkCells qx).toList ∧ (pkCells qx).size = 25) ∧ (∀ wq, Below w.heap.size w wq → wq.rangeAt gy (j * 25) (pkCells qy).toList ∧ (pkCells qy).size = 25) ∧ ∀ wq, Below w.heap.size w wq → Calls Tryz.prog 19 #[.agg (pkCells qx), .agg (pkCells qy)] wq fun e w' => e = .returned (.bool true) ∧ Hid (Below w.heap.size w w')) := by
    intro j hj
    obtain ⟨qx, hqx⟩ : ∃ q, qsx[j]? = some q := ⟨_, List.getElem?_eq_getElem (by omega)⟩
    obtain ⟨qy, hqy⟩ : ∃ q, qsy[j]? = some q := ⟨_, List.getElem?_eq_getElem (by omega)⟩
    have hl : L[j]? = some L[j] := List.getElem?_eq_getElem hj
    obtain ⟨gx, kx, e1, _⟩ := row_at hox hqx
    obtain ⟨gy, ky, e2, _⟩ := row_at hoy hqy
    have a1 := hpx.at j _ _ hqx hl
    have a2 := hpy.at j _ _ hqy hl
    have bk : ∀ wq, Below w.heap.size w wq → wq.ownsRow B1 29 25 vx qsx.length (pkRow qsx) := fun wq hb => own_keep hox (fun k e => hb.block k (hox.lt k e).2)
    have bk2 : ∀ wq, Below w.heap.size w wq → wq.ownsRow B2 29 25 vy qsy.length (pkRow qsy) := fun wq hb => own_keep hoy (fun k e => hb.block k (hoy.lt k e).2)
    refine ⟨gx, gy, qx, qy, ?_, ?_, fun wq hb => ⟨?_, pk_size _⟩, fun wq hb => ⟨?_, pk_size _⟩, fun wq hb => ?_⟩
    · rw [hvx] at e1 ⊢; injection e1 with q1 q2 q3; rw [q1]
    · rw [hvy] at e2 ⊢; injection e2 with q1 q2 q3; rw [q1]
    · obtain ⟨g, _, e3, hr⟩ := row_at (bk wq hb) hqx
      rw [e3] at e1; injection e1 with q1 q2 q3; injection q1 with q1; injection q1 with q1; subst q1; exact hr
    · obtain ⟨g, _, e3, hr⟩ := row_at (bk2 wq hb) hqy
      rw [e3] at e2; injection e2 with q1 q2 q3; injection q1 with q1; injection q1 with q1; subst q1; exact hr
    · refine (same_alike L[j].1 _ _ L[j].2 wq a1.1 a2.1 (a1.2.below hb) (a2.2.below hb) (hs _ (List.getElem_mem hj))).mono fun e w' ⟨h1, h2⟩ => ⟨h1, below_on hb h2⟩
  have HL : Hid (L.length ≤ 100000) := hL
  subst hvx hvy
  clear hax hay hox hoy hpx hpy lx ly hs hL
  have x0 : w.cell? ⟨xb, 0, none⟩ = some (.slice ax L.length cx) := (AX.out w (Below.refl _ _)).cell 0 _ rfl
  have x1 : w.cell? ⟨xb, 1, none⟩ = some (.int .i64 la) := (AX.out w (Below.refl _ _)).cell 1 _ rfl
  have x2 : w.cell? ⟨xb, 2, none⟩ = some (.int .i64 le) := (AX.out w (Below.refl _ _)).cell 2 _ rfl
  have x3 : w.cell? ⟨xb, 3, none⟩ = some (.bool false) := (AX.out w (Below.refl _ _)).cell 3 _ rfl
  have y0 : w.cell? ⟨yb, 0, none⟩ = some (.slice ay L.length cy) := (AY.out w (Below.refl _ _)).cell 0 _ rfl
  have y1 : w.cell? ⟨yb, 1, none⟩ = some (.int .i64 la) := (AY.out w (Below.refl _ _)).cell 1 _ rfl
  have y2 : w.cell? ⟨yb, 2, none⟩ = some (.int .i64 le) := (AY.out w (Below.refl _ _)).cell 2 _ rfl
  have y3 : w.cell? ⟨yb, 3, none⟩ = some (.bool false) := (AY.out w (Below.refl _ _)).cell 3 _ rfl
  have n45 := neq45 la le
  go_enter Tryz.func25, Tryz.ntmps25
  go_wp2_with fail
  go_quiet (fail)
  have B0 : Hid (Below w.heap.size w (w.drewN nq)) := below_drewN (Below.refl _ _) nq
  clear x0 x1 x2 x3 y0 y1 y2 y3 n45
  go_wp2_with fail
  go_loopg [5] L.length (fun gg s5 wx => ∃ j : Nat, s5 = .int .i64 j ∧ j + gg = L.length ∧ Hid (Below w.heap.size w wx))
  case atStart => exact ⟨0, rfl, by omega, B0⟩
  case round =>
    obtain ⟨j, hs5, hj, BW⟩ := hrel
    subst hs5
    have x0 : wr.cell? ⟨xb, 0, none⟩ = some (.slice ax L.length cx) := (AX.out wr BW.out).cell 0 _ rfl
    by_cases hlt : j < L.length
    · have p0 : (j : Int) < (L.length : Int) := by omega
      go_wp2_with fail
      clear x0
      obtain ⟨gx, gy, qx, qy, ex, ey, hrx, hry, hsm⟩ := EL.out j hlt
      injection ex with ex1 _ _
      injection ey with ey1 _ _
      subst ex1 ey1
      have RX : Hid (∀ wq, Below w.heap.size w wq → wq.rangeAt gx (j * 25) (pkCells qx).toList ∧ (pkCells qx).size = 25) := hrx
      have RY : Hid (∀ wq, Below w.heap.size w wq → wq.rangeAt gy (j * 25) (pkCells qy).toList ∧ (pkCells qy).size = 25) := hry
      have SAME : Hid (∀ wq, Below w.heap.size w wq → Calls Tryz.prog 19 #[.agg (pkCells qx), .agg (pkCells qy)] wq fun e w' => e = .returned (.bool true) ∧ Hid (Below w.heap.size w w')) := hsm
      have CX : Hid (∀ wq, Below w.heap.size w wq → wq.cell? ⟨xb, 0, none⟩ = some (.slice (some ⟨gx, 0, none⟩) L.length cx)) := fun wq hb => (AX.out wq hb).cell 0 _ rfl
      have CY : Hid (∀ wq, Below w.heap.size w wq → wq.cell? ⟨yb, 0, none⟩ = some (.slice (some ⟨gy, 0, none⟩) L.length cy)) := fun wq hb => (AY.out wq hb).cell 0 _ rfl
      clear hrx hry hsm
      have hwj : IntKind.i64.wrap ((j : Int) + 1) = ((j + 1 : Nat) : Int) := by rw [IntKind.wrap_i64]; have := HL.out; omega
      refine wp_region_held_drew (S := fun w' => Hid (Below w.heap.size w w')) (by kernel_rfl) (show Hid _ from BW.out.drew) (fun hHeld => ?_)
      refine wpAnyH_take (i := 0) (oi := { dst := Option.some 49, op := Go.Op.move (Go.Operand.tmp 0), type := 54, pos := "whatfor.go:64", after := #[], guard := Option.none }) (v := .pointer (some ⟨xb, 0, none⟩)) rfl (by kernel_rfl) (by kernel_rfl) (by kernel_rfl) (fun _ _ _ h => h) (Or.inl ⟨by kernel_rfl, fun wq _ => pureVal_run (by kernel_rfl) wq⟩) hHeld ?_
      simp only [Act.put, List.setIfInBounds_toArray, List.set_cons_zero, List.set_cons_succ]
      refine wpAnyH_take (i := 1) (oi := { dst := Option.some 50, op := Go.Op.nilCheck (Go.Operand.tmp 49), type := 0, pos := "whatfor.go:64", after := #[{ on := 0, ground := Go.Ground.data }], guard := Option.none }) (v := .pointer (some ⟨xb, 0, none⟩)) rfl (by kernel_rfl) (by kernel_rfl) (by kernel_rfl) (fun _ _ _ h => h) (Or.inl ⟨by kernel_rfl, by intro wq hSw; clear hSw hHeld; go_simp⟩) hHeld ?_
      simp only [Act.put, List.setIfInBounds_toArray, List.set_cons_zero, List.set_cons_succ]
      refine wpAnyH_take (i := 2) (oi := { dst := Option.some 51, op := Go.Op.fieldAddr 57 (Go.Operand.tmp 50) 0, type := 0, pos := "whatfor.go:64", after := #[{ on := 1, ground := Go.Ground.data }], guard := Option.none }) (v := .pointer (some ⟨xb, 0, none⟩)) rfl (by kernel_rfl) (by kernel_rfl) (by kernel_rfl) (fun _ _ _ h => h) (Or.inl ⟨by kernel_rfl, by intro wq hSw; clear hSw hHeld; go_simp⟩) hHeld ?_
      simp only [Act.put, List.setIfInBounds_toArray, List.set_cons_zero, List.set_cons_succ]
      refine wpAnyH_take (i := 3) (oi := { dst := Option.some 52, op := Go.Op.load 55 (Go.Operand.tmp 51), type := 55, pos := "whatfor.go:64", after := #[{ on := 2, ground := Go.Ground.data }], guard := Option.none }) (v := .slice (some ⟨gx, 0, none⟩) L.length cx) rfl (by kernel_rfl) (by kernel_rfl) (by kernel_rfl) (fun _ _ _ h => h) (Or.inl ⟨by kernel_rfl, by intro wq hSw; have hk := CX.out wq (Hid.out hSw); clear hSw hHeld; go_simp⟩) hHeld ?_
      simp only [Act.put, List.setIfInBounds_toArray, List.set_cons_zero, List.set_cons_succ]
      refine wpAnyH_take (i := 4) (oi := { dst := Option.some 53, op := Go.Op.move (Go.Operand.tmp 5), type := 3, pos := "whatfor.go:64", after := #[], guard := Option.none }) (v := .int .i64 (j : Int)) rfl (by kernel_rfl) (by kernel_rfl) (by kernel_rfl) (fun _ _ _ h => h) (Or.inl ⟨by kernel_rfl, fun wq _ => pureVal_run (by kernel_rfl) wq⟩) hHeld ?_
      simp only [Act.put, List.setIfInBounds_toArray, List.set_cons_zero, List.set_cons_succ]
      refine wpAnyH_take (i := 5) (oi := { dst := Option.some 54, op := Go.Op.indexAddr 55 (Go.Operand.tmp 52) (Go.Operand.tmp 53), type := 0, pos := "whatfor.go:64", after := #[{ on := 3, ground := Go.Ground.data }, { on := 4, ground := Go.Ground.data }], guard := Option.none }) (v := .pointer (some ⟨gx, j * 25, none⟩)) rfl (by kernel_rfl) (by kernel_rfl) (by kernel_rfl) (fun _ _ _ h => h) (Or.inl ⟨by kernel_rfl, by intro wq hSw; clear hSw hHeld; go_simp⟩) hHeld ?_
      simp only [Act.put, List.setIfInBounds_toArray, List.set_cons_zero, List.set_cons_succ]
      refine wpAnyH_take (i := 6) (oi := { dst := Option.some 55, op := Go.Op.load 29 (Go.Operand.tmp 54), type := 29, pos := "whatfor.go:64", after := #[{ on := 5, ground := Go.Ground.data }], guard := Option.none }) (v := .agg (pkCells qx)) rfl (by kernel_rfl) (by kernel_rfl) (by kernel_rfl) (fun _ _ _ h => h) (Or.inl ⟨by kernel_rfl, fun wq hSw => yields_mid29 rfl (by rfl) (RX.out wq (Hid.out hSw))⟩) hHeld ?_
      simp only [Act.put, List.setIfInBounds_toArray, List.set_cons_zero, List.set_cons_succ]
      refine wpAnyH_take (i := 7) (oi := { dst := Option.some 56, op := Go.Op.move (Go.Operand.tmp 1), type := 54, pos := "whatfor.go:64", after := #[], guard := Option.none }) (v := .pointer (some ⟨yb, 0, none⟩)) rfl (by kernel_rfl) (by kernel_rfl) (by kernel_rfl) (fun _ _ _ h => h) (Or.inl ⟨by kernel_rfl, fun wq _ => pureVal_run (by kernel_rfl) wq⟩) hHeld ?_
      simp only [Act.put, List.setIfInBounds_toArray, List.set_cons_zero, List.set_cons_succ]
      refine wpAnyH_take (i := 8) (oi := { dst := Option.some 57, op := Go.Op.nilCheck (Go.Operand.tmp 56), type := 0, pos := "whatfor.go:64", after := #[{ on := 7, ground := Go.Ground.data }], guard := Option.none }) (v := .pointer (some ⟨yb, 0, none⟩)) rfl (by kernel_rfl) (by kernel_rfl) (by kernel_rfl) (fun _ _ _ h => h) (Or.inl ⟨by kernel_rfl, by intro wq hSw; clear hSw hHeld; go_simp⟩) hHeld ?_
      simp only [Act.put, List.setIfInBounds_toArray, List.set_cons_zero, List.set_cons_succ]
      refine wpAnyH_take (i := 9) (oi := { dst := Option.some 58, op := Go.Op.fieldAddr 57 (Go.Operand.tmp 57) 0, type := 0, pos := "whatfor.go:64", after := #[{ on := 8, ground := Go.Ground.data }], guard := Option.none }) (v := .pointer (some ⟨yb, 0, none⟩)) rfl (by kernel_rfl) (by kernel_rfl) (by kernel_rfl) (fun _ _ _ h => h) (Or.inl ⟨by kernel_rfl, by intro wq hSw; clear hSw hHeld; go_simp⟩) hHeld ?_
      simp only [Act.put, List.setIfInBounds_toArray, List.set_cons_zero, List.set_cons_succ]
      refine wpAnyH_take (i := 10) (oi := { dst := Option.some 59, op := Go.Op.load 55 (Go.Operand.tmp 58), type := 55, pos := "whatfor.go:64", after := #[{ on := 9, ground := Go.Ground.data }], guard := Option.none }) (v := .slice (some ⟨gy, 0, none⟩) L.length cy) rfl (by kernel_rfl) (by kernel_rfl) (by kernel_rfl) (fun _ _ _ h => h) (Or.inl ⟨by kernel_rfl, by intro wq hSw; have hk := CY.out wq (Hid.out hSw); clear hSw hHeld; go_simp⟩) hHeld ?_
      simp only [Act.put, List.setIfInBounds_toArray, List.set_cons_zero, List.set_cons_succ]
      refine wpAnyH_take (i := 11) (oi := { dst := Option.some 60, op := Go.Op.move (Go.Operand.tmp 5), type := 3, pos := "whatfor.go:64", after := #[], guard := Option.none }) (v := .int .i64 (j : Int)) rfl (by kernel_rfl) (by kernel_rfl) (by kernel_rfl) (fun _ _ _ h => h) (Or.inl ⟨by kernel_rfl, fun wq _ => pureVal_run (by kernel_rfl) wq⟩) hHeld ?_
      simp only [Act.put, List.setIfInBounds_toArray, List.set_cons_zero, List.set_cons_succ]
      refine wpAnyH_take (i := 12) (oi := { dst := Option.some 61, op := Go.Op.indexAddr 55 (Go.Operand.tmp 59) (Go.Operand.tmp 60), type := 0, pos := "whatfor.go:64", after := #[{ on := 10, ground := Go.Ground.data }, { on := 11, ground := Go.Ground.data }], guard := Option.none }) (v := .pointer (some ⟨gy, j * 25, none⟩)) rfl (by kernel_rfl) (by kernel_rfl) (by kernel_rfl) (fun _ _ _ h => h) (Or.inl ⟨by kernel_rfl, by intro wq hSw; clear hSw hHeld; go_simp⟩) hHeld ?_
      simp only [Act.put, List.setIfInBounds_toArray, List.set_cons_zero, List.set_cons_succ]
      refine wpAnyH_take (i := 13) (oi := { dst := Option.some 62, op := Go.Op.load 29 (Go.Operand.tmp 61), type := 29, pos := "whatfor.go:64", after := #[{ on := 12, ground := Go.Ground.data }], guard := Option.none }) (v := .agg (pkCells qy)) rfl (by kernel_rfl) (by kernel_rfl) (by kernel_rfl) (fun _ _ _ h => h) (Or.inl ⟨by kernel_rfl, fun wq hSw => yields_mid29 rfl (by rfl) (RY.out wq (Hid.out hSw))⟩) hHeld ?_
      simp only [Act.put, List.setIfInBounds_toArray, List.set_cons_zero, List.set_cons_succ]
      refine wpAnyH_ready (rs := [14]) (by kernel_rfl) (by simp) ?_
      refine AllReadyH.cons (o := { dst := Option.some 63, op := Go.Op.call { callee := Go.Callee.value (Go.Operand.func 19), args := #[Go.Operand.tmp 55, Go.Operand.tmp 62], argTypes := #[29, 29] }, type := 4, pos := "whatfor.go:64", after := #[{ on := 6, ground := Go.Ground.data }, { on := 13, ground := Go.Ground.data }], guard := Option.none }) (by rfl) (fun K hK => ?_) AllReadyH.nil
      refine held_call (by kernel_rfl) 19 #[.agg (pkCells qx), .agg (pkCells qy)] (by clear hHeld hK; go_simp) (R := fun x w' => x = .bool true ∧ Hid (Below w.heap.size w w')) ((SAME.out _ hHeld.out).mono fun e w' ⟨h1, h2⟩ => ⟨_, h1, rfl, h2⟩) ?_
      rintro _ w2 ⟨rfl, hb2⟩
      refine hK.out _ _ hb2 (fun hHeld => ?_)
      clear hK K
      simp only [Act.put, List.setIfInBounds_toArray, List.set_cons_zero, List.set_cons_succ]
      refine wpAnyH_take (i := 15) (oi := { dst := Option.some 64, op := Go.Op.unOp Go.UnOp.not 4 (Go.Operand.tmp 63), type := 4, pos := "whatfor.go:64", after := #[{ on := 14, ground := Go.Ground.data }], guard := Option.none }) (v := .bool false) rfl (by kernel_rfl) (by kernel_rfl) (by kernel_rfl) (fun _ _ _ h => h) (Or.inl ⟨by kernel_rfl, by intro wq hSw; clear hSw hHeld; go_simp⟩) hHeld ?_
      simp only [Act.put, List.setIfInBounds_toArray, List.set_cons_zero, List.set_cons_succ]
      refine wpAnyH_done (by kernel_rfl) ?_ _
      clear hHeld
      go_wp2_with fail
      go_roundg (gk - 1)
      all_goals first | omega | exact ⟨j + 1, rfl, by omega, hb2⟩ | exact ⟨j + 1, by simp, by omega, hb2⟩
    · have p0 : ¬ (j : Int) < (L.length : Int) := by omega
      go_wp2_with fail
      go_ret
      exact ⟨rfl, BW.out⟩
end Go.Proofs.YtibihbclijpkjaaGreatDoor
namespace Go.Proofs.YtibihbclijpkjaaGreatDoor
open Go Go.RowKit
open Pkt (Pk Cn Sl In By Is Ss As pkCells Gd KindsAt Small ck TT)
set_option linter.unusedSimpArgs false
set_option linter.unusedVariables false

theorem fs_new (w : World) (most : Int) (B : Nat) (z : Nat → Int) : FS (w.alloc (.cells (frCells most (.slice none 0 0) 0 0 0 0) 88)) w.heap.size most B none 0 z 0 :=
  ⟨.slice none 0 0, 0, fun _ => 0, 0, 0, 0, ⟨heap_alloc_new w _, World.ownsRow_nil _ _ _ _, Nat.le_refl _⟩, rfl, rfl, rfl, fun i hi => by omega, fun i => by simp, Int.le_refl _⟩
theorem fs_put {w : World} {fb : Nat} {most : Int} {B : Nat} {rf : Option Nat} {P : Nat} {z : Nat → Int} {H : Nat} (h : FS w fb most B rf P z H) (l : Sl) (zb z' : Nat → Int) (hl : By w l zb) (hn : P + H ≤ 400000) (hln : l.n ≤ 400000) (hB : B ≤ w.heap.size) (h1 : ∀ i, i < H → z' i = z i) (h2 : ∀ i, i < l.n → z' (H + i) = zb i) :
    Calls Tryz.prog 22 #[.pointer (some ⟨fb, 0, none⟩), .slice l.a l.n l.c] w fun e w' => e = .returned (.tuple #[]) ∧ ∃ rf', Hid (FS w' fb most B rf' P z' (H + l.n)) ∧ Hid (Ch (fun k => k = fb ∨ rf = some k) w w') ∧ Hid (Nw w.heap.size rf rf') := by
  obtain ⟨v, n, z0, d, gone, fa, hf, hr, hP, hH, hzz, hz0, hgo⟩ := h
  have hd := hf.dn
  refine (put_any hf l zb hl (by omega) hln hB).mono ?_
  rintro e w' ⟨rfl, v', hf', hk, hv⟩
  refine ⟨rfl, v'.ownBlock, ⟨v', _, _, d, gone, fa, hf', rfl, hP, by omega, fun i hi => ?_, cat_bd hz0 hl.2.1, hgo⟩, ?_, ?_⟩
  · unfold cat
    by_cases q : i < H
    · rw [if_pos (by omega), hzz i q, h1 i q]
    · rw [if_neg (by omega), show d + i - n = i - H by omega]
      have := h2 (i - H) (by omega)
      rw [show H + (i - H) = i by omega] at this
      exact this.symm
  · rw [← hr]; exact Kq.ch hk
  · rcases hv with q | q
    · exact .inl (q.trans hr)
    · exact .inr (.inr ⟨_, q, Nat.le_refl _⟩)
theorem fs_held {w : World} {fb : Nat} {most : Int} {B : Nat} {rf : Option Nat} {P : Nat} {z : Nat → Int} {H : Nat} (h : FS w fb most B rf P z H) : Calls Tryz.prog 24 #[.pointer (some ⟨fb, 0, none⟩)] w fun e w' => e = .returned (.int .i64 (H : Int)) ∧ Below w.heap.size w w' := by
  obtain ⟨v, n, z0, d, gone, fa, hf, hr, hP, hH, hzz, hz0, hgo⟩ := h
  refine (heldNq_any hf).mono ?_
  rintro e w' ⟨⟨q, rfl⟩, rfl⟩
  rw [hH]
  exact ⟨rfl, below_drewN (Below.refl _ _) q⟩
theorem fd_held {w : World} {fb : Nat} {most a e' : Int} (h : FD w fb most a e') : Calls Tryz.prog 24 #[.pointer (some ⟨fb, 0, none⟩)] w fun e w' => e = .returned (.int .i64 0) ∧ Below w.heap.size w w' := by
  obtain ⟨gone, hf⟩ := h
  refine (heldNq_any (n := 0) (d := 0) (z := fun _ => 0) (B := 0) ⟨hf, World.ownsRow_nil _ _ _ _, Nat.le_refl _⟩).mono ?_
  rintro e w' ⟨⟨q, rfl⟩, rfl⟩
  exact ⟨rfl, below_drewN (Below.refl _ _) q⟩
theorem fd_put {w : World} {fb : Nat} {most a e' : Int} (h : FD w fb most a e') (he : e' ≠ 0) (b : Value) : Calls Tryz.prog 22 #[.pointer (some ⟨fb, 0, none⟩), b] w fun e w' => e = .returned (.tuple #[]) ∧ w' = w := by
  obtain ⟨gone, hf⟩ := h
  exact put_dead hf he b
/-! ### The example's bytes -/
def exZ : Nat → Int := listZ [192, 0, 192, 0, 224, 1, 7]
theorem exZ_bd : ∀ i, 0 ≤ exZ i ∧ exZ i ≤ 255 := listZ_bd _ (by decide)
theorem ex_one : decP exZ 1 100 = .more := by rw [decP, show headP exZ 1 (clampM 100) = (0, 0, none) by kernel_rfl]; rfl
theorem ex_two : decP exZ 5 100 = .ok (blank 12) noCn 2 := by
  rw [decP, show headP exZ 5 (clampM 100) = (2, 0, none) by kernel_rfl]
  show (match packP exZ 2 2 with | .error x => DecR.fault x | .ok y => DecR.ok y.1 y.2 2) = _
  have e : packP exZ 2 2 = .ok (blank 12, noCn) := by
    unfold packP
    rw [show intoP exZ 2 ⟨2, 0, 0⟩ (exZ 0 / 16) noCn (exZ 0 % 16) = .ok (⟨2, 0, 0⟩, blank 12, noCn) by kernel_rfl]
    simp only [ck_ping, if_true]
  rw [e]
theorem ex_three : decP (sh exZ 2) 3 100 = .ok (blank 12) noCn 2 := by
  rw [decP, show headP (sh exZ 2) 3 (clampM 100) = (2, 0, none) by kernel_rfl]
  show (match packP (sh exZ 2) 2 2 with | .error x => DecR.fault x | .ok y => DecR.ok y.1 y.2 2) = _
  have e : packP (sh exZ 2) 2 2 = .ok (blank 12, noCn) := by
    unfold packP
    rw [show intoP (sh exZ 2) 2 ⟨2, 0, 0⟩ (sh exZ 2 0 / 16) noCn (sh exZ 2 0 % 16) = .ok (⟨2, 0, 0⟩, blank 12, noCn) by kernel_rfl]
    simp only [ck_ping, if_true]
  rw [e]
theorem ex_four : decP (sh exZ 4) 3 100 = .fault (2, 15) := by
  rw [decP, show headP (sh exZ 4) 3 (clampM 100) = (2, 1, none) by kernel_rfl]
  show (match packP (sh exZ 4) 3 2 with | .error x => DecR.fault x | .ok y => DecR.ok y.1 y.2 3) = _
  have e : packP (sh exZ 4) 3 2 = .error (2, 15) := by
    unfold packP
    rw [show intoP (sh exZ 4) 3 ⟨2, 0, 0⟩ (sh exZ 4 0 / 16) noCn (sh exZ 4 0 % 16) = .error (2, 15) by kernel_rfl]
  rw [e]
theorem by_new {w : World} (L : List Int) (cs : Array Value) (hcs : ∀ i, i < L.length → cs[i]? = some (.int .u8 (listZ L i))) (hb : ∀ i, 0 ≤ listZ L i ∧ listZ L i ≤ 255) : By (w.alloc (.cells cs 5)) ⟨some ⟨w.heap.size, 0, none⟩, L.length, L.length⟩ (listZ L) := by
  refine ⟨Nat.le_refl _, hb, .inr ⟨_, _, rfl, fun i hi => ?_⟩⟩
  rw [Nat.zero_add]
  exact box_cells (heap_alloc_new w _) i _ (hcs i hi)
theorem below_ch {w W W' : World} {S : Nat → Prop} (hb : Below w.heap.size w W) (hc : Ch S W W') (hs : ∀ k, S k → w.heap.size ≤ k) : Below w.heap.size w W' :=
  ⟨hc.os.trans hb.os, hc.tape.trans hb.tape, hc.output.trans hb.output, Nat.le_trans hb.size hc.size, fun k hk => (hc.block k (by have := hb.size; omega) (fun q => by have := hs k q; omega)).trans (hb.block k hk)⟩
theorem kput {w W : World} {rf : Option Nat} {P : Nat} {z : Nat → Int} {H : Nat} (h : FS W w.heap.size 100 w.heap.size rf P z H) (hb : Below w.heap.size w W) (l : Sl) (zb z' : Nat → Int) (hl : By W l zb) (hn : P + H ≤ 400000) (hln : l.n ≤ 400000) (h1 : ∀ i, i < H → z' i = z i) (h2 : ∀ i, i < l.n → z' (H + i) = zb i) :
    Calls Tryz.prog 22 #[.pointer (some ⟨w.heap.size, 0, none⟩), .slice l.a l.n l.c] W fun e w' => e = .returned (.tuple #[]) ∧ ∃ rf', Hid (FS w' w.heap.size 100 w.heap.size rf' P z' (H + l.n)) ∧ Hid (Below w.heap.size w w') ∧ Hid (∀ (k : Nat) (c : Array Value), W.heap[k]? = some (.cells c 29 (0, 0)) → w'.heap[k]? = some (.cells c 29 (0, 0))) := by
  have hk := h.blk
  refine (fs_put h l zb z' hl hn hln hb.size h1 h2).mono ?_
  rintro e w' ⟨rfl, rf', hf, hc, hw⟩
  refine ⟨rfl, rf', hf, below_ch hb hc.out (fun k q => q.elim (fun q => by omega) (fun q => (hk.2 k q).1)), fun k c hkc => ?_⟩
  refine (hc.out.block k (lt_of_block hkc) (fun q => ?_)).trans hkc
  rcases q with q | q
  · obtain ⟨c', hc'⟩ := hk.1; exact blk_ne hkc hc' (by decide) q
  · obtain ⟨c', hc'⟩ := (hk.2 k q).2; exact blk_ne hkc hc' (by decide) rfl
theorem knext {w W : World} {rf : Option Nat} {P : Nat} {z : Nat → Int} {H : Nat} (h : FS W w.heap.size 100 w.heap.size rf P z H) (hb : Below w.heap.size w W) (hg : Gw w) (hz : ∀ i, 0 ≤ z i ∧ z i ≤ 255) (hn : P + H ≤ 400000) (R : DecR) (hR : decP z H 100 = R) :
    Calls Tryz.prog 48 #[.pointer (some ⟨w.heap.size, 0, none⟩)] W fun e w' => NextIs W w' e w.heap.size 100 w.heap.size rf P z H R ∧ Hid (Below w.heap.size w w') ∧ Hid (∀ (k : Nat) (c : Array Value), W.heap[k]? = some (.cells c 29 (0, 0)) → w'.heap[k]? = some (.cells c 29 (0, 0))) := by
  have hk := h.blk
  have hg' : Gw W := hg.below hb
  refine (next_any h hz hg' hn hb.size).mono fun e w' ⟨h1, h2⟩ => ?_
  rw [hR] at h1
  refine ⟨h1, below_ch hb (Kq.ch h2) (fun k q => q.elim (fun q => by omega) (fun q => by cases q)), fun k c hkc => ?_⟩
  refine (h2.block k (lt_of_block hkc) (fun q => ?_) (fun q => by cases q)).trans hkc
  obtain ⟨c', hc'⟩ := hk.1; exact blk_ne hkc hc' (by decide) q
set_option maxRecDepth 100000 in
set_option maxHeartbeats 4000000 in
theorem fknown_any (w : World) (hg : Gw w) : Calls Tryz.prog 20 #[] w fun e w' => e = .returned (.bool true) ∧ Below w.heap.size w w' := by
  have HG : Hid (Gw w) := hg
  clear hg
  go_enter Tryz.func20, Tryz.ntmps20
  go_wp2_with fail
  go_must (go_at_call 21)
  refine (new_any 100 w).mono ?_
  rintro e w1 ⟨rfl, hw1⟩
  have F1 : Hid (FS w1 w.heap.size 100 w.heap.size none 0 exZ 0) := by show FS _ _ _ _ _ _ _ _; rw [hw1]; exact fs_new w 100 _ _
  have B1 : Hid (Below w.heap.size w w1) := by show Below _ _ _; rw [hw1]; exact (Below.refl _ _).alloc (Nat.le_refl _) _
  clear hw1
  go_wp2_with fail
  go_must (go_at_call 22)
  refine (kput (F1.out.below ((Below.refl _ _).alloc (Nat.le_refl _) (.cells #[.int .u8 192] 5))) (below_on B1.out ((Below.refl _ _).alloc (Nat.le_refl _) _)) ⟨some ⟨w1.heap.size, 0, none⟩, 1, 1⟩ (listZ [192]) (exZ) (by_new [192] #[.int .u8 192] (fun i hi => by have hi2 : i < 1 := hi; have h3 : i = 0 := (by omega); subst h3; rfl) (listZ_bd _ (by decide))) (by decide) (show 1 ≤ 400000 by decide) (fun i hi => rfl) (fun i hi => by have hi2 : i < 1 := hi; have h3 : i = 0 := (by omega); subst h3; rfl)).mono ?_
  rintro e w2 ⟨rfl, rw2, F2, B2, Kw2⟩
  go_wp2_with fail
  go_must (go_at_call 48)
  refine (knext F2.out B2.out HG.out exZ_bd (by decide) _ ex_one).mono ?_
  rintro e w3 ⟨⟨r3, rfl, f3, _⟩, BNw3, Kw3⟩
  obtain ⟨W4, hW4⟩ : ∃ W, W = (w3.alloc (.cells (pkCells (blank 0)) 29)).setRow w3.heap.size (pkCells (blank 0)) := ⟨_, rfl⟩
  have BBW4 : Hid (Below w3.heap.size w3 W4) := by show Below _ _ _; rw [hW4]; exact (below_setRow ((Below.refl _ _).alloc (Nat.le_refl _) _) (Nat.le_refl _)).out
  have ZW4 : Hid (W4.heap[w3.heap.size]? = some (.cells (pkCells (blank 0)) 29 (0, 0))) := by show _ = _; rw [hW4]; exact setRow_at (heap_alloc_new w3 _)
  have BW4 : Hid (Below w.heap.size w W4) := below_on BNw3.out BBW4.out
  go_upto_region 6 with (first | (refine wpList_store_row rfl 29 _ _ rfl w3.heap.size (pkCells (blank 0)) rfl rfl 29 _ (heap_alloc_new w3 _) pk_info rfl (pk_one _) ?_) | fail)
  have eW : (w3.alloc (.cells #[.int .i64 0, .int .i64 0, .bool false, .int .i64 0, .string ⟨#[]⟩, .bool false, .string ⟨#[]⟩, .slice none 0 0, .int .i64 0, .bool false, .bool false, .string ⟨#[]⟩, .bool false, .slice none 0 0, .bool false, .int .i64 0, .bool false, .string ⟨#[]⟩, .slice none 0 0, .int .i64 0, .bool false, .int .i64 0, .slice none 0 0, .slice none 0 0, .slice none 0 0] 29)).setRow w3.heap.size (pkCells (blank 0)) = W4 := hW4.symm
  rw [eW]
  clear eW hW4
  have F4 : Hid (FS W4 w.heap.size 100 w.heap.size r3 0 exZ 1) := FS.below f3 BBW4.out
  clear f3
  go_wp2_with fail
  go_must (go_at_call 22)
  refine (kput (F4.out.below ((Below.refl _ _).alloc (Nat.le_refl _) (.cells #[.int .u8 0, .int .u8 192, .int .u8 0, .int .u8 224] 5))) (below_on BW4.out ((Below.refl _ _).alloc (Nat.le_refl _) _)) ⟨some ⟨W4.heap.size, 0, none⟩, 4, 4⟩ (listZ [0, 192, 0, 224]) (exZ) (by_new [0, 192, 0, 224] #[.int .u8 0, .int .u8 192, .int .u8 0, .int .u8 224] (fun i hi => by have hi2 : i < 4 := hi; have h3 : i = 0 ∨ i = 1 ∨ i = 2 ∨ i = 3 := (by omega); rcases h3 with rfl | rfl | rfl | rfl <;> rfl) (listZ_bd _ (by decide))) (by decide) (show 4 ≤ 400000 by decide) (fun i hi => rfl) (fun i hi => by have hi2 : i < 4 := hi; have h3 : i = 0 ∨ i = 1 ∨ i = 2 ∨ i = 3 := (by omega); rcases h3 with rfl | rfl | rfl | rfl <;> rfl)).mono ?_
  rintro e w5 ⟨rfl, rw5, F5, B5, Kw5⟩
  go_wp2_with fail
  go_must (go_at_call 48)
  refine (knext F5.out B5.out HG.out exZ_bd (by decide) _ ex_two).mono ?_
  rintro e w6 ⟨⟨q7, r6, rfl, f6, i6, a6, _⟩, BNw6, Kw6⟩
  obtain ⟨W7, hW7⟩ : ∃ W, W = (w6.alloc (.cells (pkCells (blank 0)) 29)).setRow w6.heap.size (pkCells q7) := ⟨_, rfl⟩
  have BBW7 : Hid (Below w6.heap.size w6 W7) := by show Below _ _ _; rw [hW7]; exact (below_setRow ((Below.refl _ _).alloc (Nat.le_refl _) _) (Nat.le_refl _)).out
  have ZW7 : Hid (W7.heap[w6.heap.size]? = some (.cells (pkCells q7) 29 (0, 0))) := by show _ = _; rw [hW7]; exact setRow_at (heap_alloc_new w6 _)
  have BW7 : Hid (Below w.heap.size w W7) := below_on BNw6.out BBW7.out
  go_upto_region 8 with (first | (refine wpList_store_row rfl 29 _ _ rfl w6.heap.size (pkCells q7) rfl rfl 29 _ (heap_alloc_new w6 _) pk_info rfl (pk_one _) ?_) | fail)
  have eW : (w6.alloc (.cells #[.int .i64 0, .int .i64 0, .bool false, .int .i64 0, .string ⟨#[]⟩, .bool false, .string ⟨#[]⟩, .slice none 0 0, .int .i64 0, .bool false, .bool false, .string ⟨#[]⟩, .bool false, .slice none 0 0, .bool false, .int .i64 0, .bool false, .string ⟨#[]⟩, .slice none 0 0, .int .i64 0, .bool false, .int .i64 0, .slice none 0 0, .slice none 0 0, .slice none 0 0] 29)).setRow w6.heap.size (pkCells q7) = W7 := hW7.symm
  rw [eW]
  clear eW hW7
  have F7 : Hid (FS W7 w.heap.size 100 w.heap.size r6 2 (sh exZ 2) 3) := FS.below f6 BBW7.out
  have K7 : Hid (q7.kind = 12) := by obtain ⟨_, _, _, _, _, _, rfl, _⟩ := a6; rfl
  clear f6 i6 a6
  go_wp2_with fail
  go_must (go_at_call 48)
  refine (knext F7.out BW7.out HG.out (sh_bd exZ_bd 2) (by decide) _ ex_three).mono ?_
  rintro e w8 ⟨⟨q9, r8, rfl, f8, i8, a8, _⟩, BNw8, Kw8⟩
  obtain ⟨W9, hW9⟩ : ∃ W, W = (w8.alloc (.cells (pkCells (blank 0)) 29)).setRow w8.heap.size (pkCells q9) := ⟨_, rfl⟩
  have BBW9 : Hid (Below w8.heap.size w8 W9) := by show Below _ _ _; rw [hW9]; exact (below_setRow ((Below.refl _ _).alloc (Nat.le_refl _) _) (Nat.le_refl _)).out
  have ZW9 : Hid (W9.heap[w8.heap.size]? = some (.cells (pkCells q9) 29 (0, 0))) := by show _ = _; rw [hW9]; exact setRow_at (heap_alloc_new w8 _)
  have BW9 : Hid (Below w.heap.size w W9) := below_on BNw8.out BBW9.out
  go_upto_region 9 with (first | (refine wpList_store_row rfl 29 _ _ rfl w8.heap.size (pkCells q9) rfl rfl 29 _ (heap_alloc_new w8 _) pk_info rfl (pk_one _) ?_) | fail)
  have eW : (w8.alloc (.cells #[.int .i64 0, .int .i64 0, .bool false, .int .i64 0, .string ⟨#[]⟩, .bool false, .string ⟨#[]⟩, .slice none 0 0, .int .i64 0, .bool false, .bool false, .string ⟨#[]⟩, .bool false, .slice none 0 0, .bool false, .int .i64 0, .bool false, .string ⟨#[]⟩, .slice none 0 0, .int .i64 0, .bool false, .int .i64 0, .slice none 0 0, .slice none 0 0, .slice none 0 0] 29)).setRow w8.heap.size (pkCells q9) = W9 := hW9.symm
  rw [eW]
  clear eW hW9
  have F9 : Hid (FS W9 w.heap.size 100 w.heap.size r8 4 (sh exZ 4) 1) := by have := FS.below f8 BBW9.out; rw [sh_sh] at this; exact this
  have P9 : Hid (W9.heap[w6.heap.size]? = some (.cells (pkCells q7) 29 (0, 0))) := (BBW9.out.block _ (lt_of_block (Kw8.out _ _ ZW7.out))).trans (Kw8.out _ _ ZW7.out)
  clear f8 i8 a8
  have c9 : W9.cell? ⟨w6.heap.size, 0, none⟩ = some (.int .i64 12) := by have := box_cells P9.out 0 (.int .i64 q7.kind) rfl; rw [K7.out] at this; exact this
  go_wp2_with fail
  go_must (go_at_call 24)
  refine (fs_held F9.out).mono ?_
  rintro e w10 ⟨rfl, hb10⟩
  have B10 : Hid (Below w.heap.size w w10) := below_on BW9.out hb10
  have F10 : Hid (FS w10 w.heap.size 100 w.heap.size r8 4 (sh exZ 4) 1) := F9.out.below hb10
  clear hb10 c9
  go_wp2_with fail
  go_must (go_at_call 22)
  refine (kput (F10.out.below ((Below.refl _ _).alloc (Nat.le_refl _) (.cells #[.int .u8 1, .int .u8 7] 5))) (below_on B10.out ((Below.refl _ _).alloc (Nat.le_refl _) _)) ⟨some ⟨w10.heap.size, 0, none⟩, 2, 2⟩ (listZ [1, 7]) (sh exZ 4) (by_new [1, 7] #[.int .u8 1, .int .u8 7] (fun i hi => by have hi2 : i < 2 := hi; have h3 : i = 0 ∨ i = 1 := (by omega); rcases h3 with rfl | rfl <;> rfl) (listZ_bd _ (by decide))) (by decide) (show 2 ≤ 400000 by decide) (fun i hi => rfl) (fun i hi => by have hi2 : i < 2 := hi; have h3 : i = 0 ∨ i = 1 := (by omega); rcases h3 with rfl | rfl <;> rfl)).mono ?_
  rintro e w11 ⟨rfl, rw11, F11, B11, Kw11⟩
  go_wp2_with fail
  go_must (go_at_call 48)
  refine (knext F11.out B11.out HG.out (sh_bd exZ_bd 4) (by decide) _ ex_four).mono ?_
  rintro e w12 ⟨⟨gg, rfl, hgg, f12⟩, BNw12, Kw12⟩
  obtain ⟨W13, hW13⟩ : ∃ W, W = (w12.alloc (.cells (pkCells (blank 0)) 29)).setRow w12.heap.size (pkCells (blank 0)) := ⟨_, rfl⟩
  have BBW13 : Hid (Below w12.heap.size w12 W13) := by show Below _ _ _; rw [hW13]; exact (below_setRow ((Below.refl _ _).alloc (Nat.le_refl _) _) (Nat.le_refl _)).out
  have ZW13 : Hid (W13.heap[w12.heap.size]? = some (.cells (pkCells (blank 0)) 29 (0, 0))) := by show _ = _; rw [hW13]; exact setRow_at (heap_alloc_new w12 _)
  have BW13 : Hid (Below w.heap.size w W13) := below_on BNw12.out BBW13.out
  go_upto_region 13 with (first | (refine wpList_store_row rfl 29 _ _ rfl w12.heap.size (pkCells (blank 0)) rfl rfl 29 _ (heap_alloc_new w12 _) pk_info rfl (pk_one _) ?_) | fail)
  have eW : (w12.alloc (.cells #[.int .i64 0, .int .i64 0, .bool false, .int .i64 0, .string ⟨#[]⟩, .bool false, .string ⟨#[]⟩, .slice none 0 0, .int .i64 0, .bool false, .bool false, .string ⟨#[]⟩, .bool false, .slice none 0 0, .bool false, .int .i64 0, .bool false, .string ⟨#[]⟩, .slice none 0 0, .int .i64 0, .bool false, .int .i64 0, .slice none 0 0, .slice none 0 0, .slice none 0 0] 29)).setRow w12.heap.size (pkCells (blank 0)) = W13 := hW13.symm
  rw [eW]
  clear eW hW13
  have w6e : wrap64 (((4 : Nat) : Int) + 2) = 6 := by unfold wrap64; decide
  rw [w6e] at f12 hgg
  have F13 : Hid (FD W13 w.heap.size 100 6 15) := by
    have h1 : FD w12 w.heap.size 100 6 15 := f12
    obtain ⟨g, hf⟩ := h1
    exact ⟨g, hf.keep (BBW13.out.block _ (FrAt.lt hf))⟩
  have G13 : Hid (W13.heap[gg]? = some (.cells #[.int .i64 6, .int .i64 15] 81 (0, 0))) := (BBW13.out.block _ (lt_of_block hgg)).trans hgg
  clear hgg f12
  go_wp2_with fail
  go_must (go_at_call 49)
  refine (ftold_fault gg 6 15 W13 G13.out (by decide)).mono ?_
  rintro e w14 ⟨rfl, hb14⟩
  obtain ⟨W15, hW15⟩ : ∃ W, W = w14.alloc (.cells #[.int .i64 6, .int .i64 15] 45) := ⟨_, rfl⟩
  have BB15 : Hid (Below W13.heap.size W13 W15) := by show Below _ _ _; rw [hW15]; exact below_on hb14 ((Below.refl _ _).alloc (Nat.le_refl _) _)
  have Z15 : Hid (W15.heap[w14.heap.size]? = some (.cells #[.int .i64 6, .int .i64 15] 45 (0, 0))) := by show _ = _; rw [hW15]; exact heap_alloc_new w14 _
  have B15 : Hid (Below w.heap.size w W15) := below_on BW13.out BB15.out
  have F15 : Hid (FD W15 w.heap.size 100 6 15) := by have q := F13.out; obtain ⟨g, hf⟩ := q; exact ⟨g, hf.keep (BB15.out.block _ (FrAt.lt hf))⟩
  clear hb14
  go_upto_region 14 with (first | (refine wpList_store_row rfl 45 _ _ rfl w14.heap.size #[.int .i64 6, .int .i64 15] rfl rfl 45 _ (heap_alloc_new w14 _) f45_info rfl rfl ?_) | fail)
  rw [← hW15]
  clear hW15
  go_wp2_with fail
  go_must (go_at_call 22)
  obtain ⟨W16, hW16⟩ : ∃ W, W = W15.alloc (.cells #[.int .u8 192, .int .u8 0] 5) := ⟨_, rfl⟩
  have BB16 : Hid (Below W15.heap.size W15 W16) := by show Below _ _ _; rw [hW16]; exact (Below.refl _ _).alloc (Nat.le_refl _) _
  have F16 : Hid (FD W16 w.heap.size 100 6 15) := by have q := F15.out; obtain ⟨g, hf⟩ := q; exact ⟨g, hf.keep (BB16.out.block _ (FrAt.lt hf))⟩
  rw [← hW16]
  clear hW16
  refine (fd_put F16.out (by decide) _).mono ?_
  rintro e w17 ⟨rfl, hw17⟩
  have hw18 := hw17.symm
  clear hw17
  subst hw18
  have Z16 : Hid (W16.heap[w14.heap.size]? = some (.cells #[.int .i64 6, .int .i64 15] 45 (0, 0))) := (BB16.out.block _ (lt_of_block Z15.out)).trans Z15.out
  have d0 : W16.cell? ⟨w14.heap.size, 0, none⟩ = some (.int .i64 6) := box_cells Z16.out 0 _ rfl
  have d1 : W16.cell? ⟨w14.heap.size, 1, none⟩ = some (.int .i64 15) := box_cells Z16.out 1 _ rfl
  go_wp2_with fail
  go_must (go_at_call 24)
  refine (fd_held F16.out).mono ?_
  rintro e w19 ⟨rfl, hb19⟩
  have B19 : Hid (Below w.heap.size w w19) := below_on (below_on B15.out BB16.out) hb19
  clear hb19
  go_wp2_with fail
  go_ret
  exact ⟨rfl, B19.out⟩
end Go.Proofs.YtibihbclijpkjaaGreatDoor
namespace Go.Proofs.YtibihbclijpkjaaGreatDoor
open Go Go.RowKit
open Pkt (Pk Cn Sl In By Is Ss As pkCells Gd KindsAt Small)
set_option linter.unusedSimpArgs false
set_option linter.unusedVariables false

theorem rn_len {Z : Nat → Int} {T : Nat} {top : Int} (hZ : ∀ i, 0 ≤ Z i ∧ Z i ≤ 255) (hT : T ≤ 700000) {P : Nat} {L : List (Pk × Cn)} (h : Rn (dAt Z T top) P L) : L.length ≤ P ∧ ∀ x ∈ L, Small x.1 x.2 := by
  obtain ⟨j, hj⟩ := h
  suffices g : ∀ j, (itr (dAt Z T top) j).2.length ≤ (itr (dAt Z T top) j).1 ∧ ∀ x ∈ (itr (dAt Z T top) j).2, Small x.1 x.2 by
    have := g j; rw [hj] at this; exact this
  intro j
  induction j with
  | zero => exact ⟨Nat.le_refl _, fun x hx => by cases hx⟩
  | succ j ih =>
    unfold itr
    cases e : dAt Z T top (itr (dAt Z T top) j).1 with
    | more => exact ih
    | fault x => exact ih
    | ok p c k =>
      obtain ⟨h1, h2, h3⟩ := dec_ok top (sh_bd hZ _) (by omega) e
      refine ⟨by simp; omega, fun x hx => ?_⟩
      rcases List.mem_append.1 hx with hx | hx
      · exact ih.2 x hx
      · simp at hx; subst hx; exact h3
/-- A frame and what was heard of it: of all bytes so many are put, so many are gone. -/
structure YC (w : World) (gb yb B : Nat) (top : Int) (Z : Nat → Int) (T N : Nat) (fin : Bool) (P : Nat) (L : List (Pk × Cn)) (la le : Int) : Prop where
  pn : P ≤ N
  run : Rn (dAt Z T top) P L
  ex : ∃ rg ry, HS w yb B ry (No (fun b => b < B) gb yb rg ry) L la le ∧ ((FS w gb top B rg P (sh Z P) (N - P) ∧ (fin = true → decP (sh Z P) (N - P) top = .more ∧ la = 0 ∧ le = 0)) ∨ (rg = none ∧ ∃ x, dAt Z T top P = .fault x ∧ x.2 ≠ 0 ∧ FD w gb top (wrap64 (P + x.1)) x.2 ∧ (fin = true → la = wrap64 (P + x.1) ∧ le = x.2)))
theorem HS.blk {w : World} {hb B : Nat} {rh : Option Nat} {no : Nat → Prop} {L : List (Pk × Cn)} {la le : Int} (h : HS w hb B rh no L la le) : (∃ c, w.heap[hb]? = some (.cells c 57 (0, 0))) ∧ ∀ k, rh = some k → B ≤ k ∧ ∃ c, w.heap[k]? = some (.cells c 29 (0, 0)) := by
  obtain ⟨v, qs, ha, ho, hr, hp⟩ := h
  exact ⟨⟨_, ha⟩, fun k e => ⟨(ho.lt k (hr.trans e)).1, own_blk ho (hr.trans e)⟩⟩
theorem FD.blk {w : World} {fb : Nat} {most a e : Int} (h : FD w fb most a e) : ∃ c, w.heap[fb]? = some (.cells c 88 (0, 0)) := by
  obtain ⟨g, hg⟩ := h; exact ⟨_, hg⟩
section
variable {w w' : World} {gb yb B : Nat} {top : Int} {Z : Nat → Int} {T N : Nat} {fin : Bool} {P : Nat} {L : List (Pk × Cn)} {la le : Int}
theorem YC.keep (h : YC w gb yb B top Z T N fin P L la le) {S : Nat → Prop} (hc : Ch S w w') (hs : ∀ k, S k → k < B ∧ k ≠ gb ∧ k ≠ yb) : YC w' gb yb B top Z T N fin P L la le := by
  obtain ⟨rg, ry, hH, hst⟩ := h.ex
  refine ⟨h.pn, h.run, rg, ry, ?_, ?_⟩
  · exact hH.below S hc (fun q => (hs _ q).2.2 rfl) (fun k e q => by have := (hs _ q).1; have := (hH.blk.2 k e).1; omega) (fun b _ q => .inl (hs b q).1) (fun b _ q => q)
  · rcases hst with ⟨hF, hx⟩ | ⟨h0, x, hd, hx0, hF, hx⟩
    · refine .inl ⟨hF.keep (hc.block _ hF.lt.1 (fun q => (hs _ q).2.1 rfl)) (fun k e => hc.block _ (hF.lt.2 k e) (fun q => ?_)), hx⟩
      have := (hs _ q).1
      have := (hF.blk.2 k e).1
      omega
    · obtain ⟨c, hcc⟩ := hF.blk
      exact .inr ⟨h0, x, hd, hx0, hF.keep (hc.block _ (lt_of_block hcc) (fun q => (hs _ q).2.1 rfl)), hx⟩
theorem YC.below (h : YC w gb yb B top Z T N fin P L la le) (hb : Below w.heap.size w w') : YC w' gb yb B top Z T N fin P L la le := h.keep (S := fun _ => False) (Below.ch hb) (fun _ q => q.elim)
theorem YC.ne (h : YC w gb yb B top Z T N fin P L la le) : yb ≠ gb := by
  obtain ⟨rg, ry, hH, hst⟩ := h.ex
  obtain ⟨c, hc⟩ := hH.blk.1
  rcases hst with ⟨hF, _⟩ | ⟨_, _, _, _, hF, _⟩
  · obtain ⟨c', hc'⟩ := hF.blk.1; exact blk_ne hc hc' (by decide)
  · obtain ⟨c', hc'⟩ := hF.blk; exact blk_ne hc hc' (by decide)
theorem yc_put (h : YC w gb yb B top Z T N fin P L la le) (hZ : ∀ i, 0 ≤ Z i ∧ Z i ≤ 255) (l : Sl) (hl : By w l (sh Z N)) (hT : T ≤ 20000) (hN : N + l.n ≤ T) (hB : B ≤ w.heap.size) :
    Calls Tryz.prog 22 #[.pointer (some ⟨gb, 0, none⟩), .slice l.a l.n l.c] w fun e w' => e = .returned (.tuple #[]) ∧ Hid (YC w' gb yb B top Z T (N + l.n) false P L la le) ∧ Hid (Ch (fun k => k = gb ∨ k = yb ∨ B ≤ k) w w') := by
  obtain ⟨rg, ry, hH, hst⟩ := h.ex
  have hpn := h.pn
  rcases hst with ⟨hF, hx⟩ | ⟨h0, x, hd, hx0, hF, hx⟩
  · have hb := hF.blk
    have hhb := hH.blk
    refine (fs_put hF l (sh Z N) (sh Z P) hl (by omega) (by omega) hB (fun i hi => rfl) (fun i hi => ?_)).mono ?_
    · show Z (P + (N - P + i)) = Z (N + i)
      congr 1; omega
    · rintro e w' ⟨rfl, rg', hF', hc, hw⟩
      refine ⟨rfl, ⟨by omega, h.run, rg', ry, ?_, .inl ⟨?_, fun q => by cases q⟩⟩, hc.out.mono (fun j _ q => q.elim .inl (fun q => .inr (.inr (hb.2 j q).1)))⟩
      · refine hH.below _ hc.out (fun q => ?_) (fun k e q => ?_) (fun b _ q => .inr (q.elim .inl (fun q => .inr (.inr (.inl q))))) (fun b hb' q => no_old hw.out (.inl rfl) hb' q)
        · obtain ⟨c, hcc⟩ := hhb.1
          rcases q with q | q
          · exact h.ne q
          · obtain ⟨c', hc'⟩ := (hb.2 _ q).2; exact blk_ne hcc hc' (by decide) rfl
        · obtain ⟨c, hcc⟩ := (hhb.2 k e).2
          rcases q with q | q
          · obtain ⟨c', hc'⟩ := hb.1; exact blk_ne hcc hc' (by decide) q
          · obtain ⟨c', hc'⟩ := (hb.2 _ q).2; exact blk_ne hcc hc' (by decide) rfl
      · have q := hF'.out
        rw [show N - P + l.n = N + l.n - P by omega] at q
        exact q
  · refine (fd_put hF hx0 _).mono ?_
    rintro e w' ⟨rfl, rfl⟩
    exact ⟨rfl, ⟨by omega, h.run, rg, ry, hH, .inr ⟨h0, x, hd, hx0, hF, fun q => by cases q⟩⟩, Ch.refl _ _⟩
theorem yc_hears (h : YC w gb yb B top Z T N fin P L la le) (hZ : ∀ i, 0 ≤ Z i ∧ Z i ≤ 255) (m : Int) (hm : m ≠ 0) (hm1 : -1000 ≤ m ∧ m ≤ 1000) (hT : T ≤ 20000) (hN : N ≤ T) (hB : B ≤ w.heap.size) (hg : Gw w) (h3 : 3 ≤ gb ∧ 3 ≤ yb ∧ 3 ≤ B) :
    Calls Tryz.prog 23 #[.pointer (some ⟨yb, 0, none⟩), .pointer (some ⟨gb, 0, none⟩), .int .i64 m] w fun e w' => e = .returned (.tuple #[]) ∧ ∃ P' L' la' le', Hid (YC w' gb yb B top Z T N (decide (m < 0)) P' L' la' le') ∧ Hid (Ch (fun k => k = gb ∨ k = yb ∨ B ≤ k) w w') := by
  obtain ⟨rg, ry, hH, hst⟩ := h.ex
  have hpn := h.pn
  have hln := rn_len hZ (by omega) h.run
  have hhb := hH.blk
  rcases hst with ⟨hF, hx⟩ | ⟨h0, x, hd, hx0, hF, hx⟩
  · have hb := hF.blk
    have hex : ∃ L2 t R, Hr top m (sh Z P) (N - P) L2 t R := by
      by_cases hn : m < 0
      · obtain ⟨L2, t, R, hr⟩ := hr_neg top (N - P) (sh Z P) m hn (sh_bd hZ P) (by omega)
        exact ⟨L2, t, _, hr⟩
      · obtain ⟨L2, t, R, hr⟩ := hr_nat top m.toNat (sh Z P) (N - P)
        rw [show ((m.toNat : Nat) : Int) = m by omega] at hr
        exact ⟨L2, t, R, hr⟩
    obtain ⟨L2, t, R, hr⟩ := hex
    have hl2 := hr_len hr (sh_bd hZ P) (by omega)
    obtain ⟨r1, r2, r3, r4⟩ := hr_run hr Z N T hZ hN (by omega) P L rfl rfl hpn h.run
    refine (hears_any m L2 t R hr hF hH (sh_bd hZ P) hg (by omega) hB h3 hm1 (by omega) (fun b q => Nat.lt_of_lt_of_le q hB)).mono ?_
    rintro e w' ⟨rfl, rg', ry', la', le', hE, hH', hc, w1, w2⟩
    refine ⟨rfl, P + t, L ++ L2, la', le', ⟨r2, r1, rg', ry', hH', ?_⟩, hc.mono (fun j _ q => ?_)⟩
    · have hend := hr_end hr
      cases R with
      | none =>
        have hn : ¬ m < 0 := fun q => by obtain ⟨r, e⟩ := hr_stop hr q; cases e
        have q : FS w' gb top B rg' (P + t) (sh (sh Z P) t) (N - P - t) := hE
        rw [sh_sh, Nat.sub_sub] at q
        exact .inl ⟨q, fun q => by simp [hn] at q⟩
      | some D =>
        have he := hend D rfl
        rw [sh_sh, Nat.sub_sub] at he
        cases D with
        | ok p c k => cases he.2
        | more =>
          obtain ⟨q1, q2, q3⟩ := hE
          rw [sh_sh, Nat.sub_sub] at q1
          exact .inl ⟨q1, fun _ => ⟨he.1, q2, q3⟩⟩
        | fault x =>
          obtain ⟨q1, q2, q3, q4, q5⟩ := hE
          exact .inr ⟨q5, x, r3 x rfl, q4, q1, fun _ => ⟨q2, q3⟩⟩
    · rcases q with q | q | q | q
      · exact .inl q
      · exact .inr (.inl q)
      · exact .inr (.inr (hb.2 j q).1)
      · exact .inr (.inr (hhb.2 j q).1)
  · subst h0
    refine (hears_dead m hm hF hx0 hH (by omega)).mono ?_
    rintro e w' ⟨rfl, hF', hH', hc⟩
    exact ⟨rfl, P, L, _, _, ⟨hpn, h.run, none, ry, hH', .inr ⟨rfl, x, hd, hx0, hF', fun _ => ⟨rfl, rfl⟩⟩⟩, hc.mono (fun j _ q => .inr (.inl q))⟩
/-- How many bytes are held, when all was asked. -/
def hv (Z : Nat → Int) (T : Nat) (top : Int) (P : Nat) : Nat := match dAt Z T top P with
  | .fault _ => 0
  | _ => T - P
theorem yc_held (h : YC w gb yb B top Z T N true P L la le) (hZ : ∀ i, 0 ≤ Z i ∧ Z i ≤ 255) : Calls Tryz.prog 24 #[.pointer (some ⟨gb, 0, none⟩)] w fun e w' => ∃ k : Nat, e = .returned (.int .i64 (k : Int)) ∧ Hid (Below w.heap.size w w') ∧ ¬ (clampM top + 4 < (k : Int)) ∧ (N = T → k = hv Z T top P) := by
  obtain ⟨rg, ry, hH, hst⟩ := h.ex
  rcases hst with ⟨hF, hx⟩ | ⟨h0, x, hd, hx0, hF, hx⟩
  · refine (fs_held hF).mono ?_
    rintro e w' ⟨rfl, hb⟩
    have hm := (hx rfl).1
    refine ⟨N - P, rfl, hb, ?_, fun e => ?_⟩
    · have := decP_few _ _ _ (sh_bd hZ P) hm; omega
    · unfold hv
      subst e
      rw [show dAt Z N top P = .more from hm]
  · refine (fd_held hF).mono ?_
    rintro e w' ⟨rfl, hb⟩
    refine ⟨0, rfl, hb, ?_, fun e => ?_⟩
    · have := clampM_bd top; omega
    · unfold hv; rw [hd]
theorem yc_end (h : YC w gb yb B top Z T T true P L la le) : (dAt Z T top P).isOk = false ∧ ((dAt Z T top P = .more ∧ la = 0 ∧ le = 0) ∨ ∃ x, dAt Z T top P = .fault x ∧ la = wrap64 (P + x.1) ∧ le = x.2) := by
  obtain ⟨rg, ry, hH, hst⟩ := h.ex
  rcases hst with ⟨hF, hx⟩ | ⟨h0, x, hd, hx0, hF, hx⟩
  · have hm : dAt Z T top P = .more := (hx rfl).1
    exact ⟨by rw [hm]; rfl, .inl ⟨hm, (hx rfl).2⟩⟩
  · exact ⟨by rw [hd]; rfl, .inr ⟨x, hd, hx rfl⟩⟩
end
theorem yc_same {w w2 : World} {gb yb B gb2 yb2 B2 : Nat} {top : Int} {Z : Nat → Int} {T : Nat} {P P2 : Nat} {L L2 : List (Pk × Cn)} {la le la2 le2 : Int} (h : YC w gb yb B top Z T T true P L la le) (h2 : YC w2 gb2 yb2 B2 top Z T T true P2 L2 la2 le2) : P = P2 ∧ L = L2 ∧ la = la2 ∧ le = le2 := by
  obtain ⟨e1, s1⟩ := yc_end h
  obtain ⟨e2, s2⟩ := yc_end h2
  obtain ⟨rfl, rfl⟩ := h.run.uniq h2.run e1 e2
  refine ⟨rfl, rfl, ?_⟩
  rcases s1 with ⟨a1, a2, a3⟩ | ⟨x, a1, a2, a3⟩ <;> rcases s2 with ⟨b1, b2, b3⟩ | ⟨y, b1, b2, b3⟩
  · exact ⟨by rw [a2, b2], by rw [a3, b3]⟩
  · rw [a1] at b1; cases b1
  · rw [a1] at b1; cases b1
  · rw [a1] at b1; cases b1; exact ⟨by rw [a2, b2], by rw [a3, b3]⟩
end Go.Proofs.YtibihbclijpkjaaGreatDoor
