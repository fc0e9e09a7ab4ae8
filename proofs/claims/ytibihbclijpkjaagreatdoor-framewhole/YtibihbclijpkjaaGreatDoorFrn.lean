import Derived.Test.YtibihbclijpkjaaGreatDoorFrl
import Derived.Great.BuildSlice
namespace Go.Proofs.YtibihbclijpkjaaGreatDoor
open Go Go.RowKit
open Pkt (Pk Cn Sl In By Is Ss As pkCells Gd KindsAt Small)
set_option linter.unusedSimpArgs false
set_option linter.unusedVariables false

theorem f29_bytes : ∃ i, Tryz.prog.info? 29 = some i ∧ i.size = 25 ∧ i.bytes ≤ 100000 ∧ ∃ z, i.zero = some z ∧ z.cells.size = 25 := by
  obtain ⟨i0, hi, hz0, hz1, hz2⟩ := info_parts (P := Tryz.prog) (e := 29) (z := .agg (pkCells (blank 0))) (size := 25) (bytes := 328) (by kernel_rfl)
  exact ⟨i0, hi, hz1, by rw [hz2]; decide, _, hz0, rfl⟩
theorem held_load29 {ops : Array Oper} {Q : Exit → Act → World → Prop} {o : Oper} {a : Act} {w : World} {K : Act → World → Prop} {E : Prop} (hw : Region.wanted o (yielded ops a.tmps) = true) (x : Operand) (ho : o.op = .load 29 x) (g : Nat) (hx : a.eval x = .pointer (some ⟨g, 0, none⟩)) (cs : Array Value) (hg : w.heap[g]? = some (.cells cs 29 (0, 0))) (hs : cs.size = 25) (h : K (a.put o.dst (.agg cs)) w) :
    if Region.wanted o (yielded ops a.tmps) = true then Oper.wp Tryz.prog o a w K Q else E := by
  rw [if_pos hw]
  exact wp_load_row 29 x ho g hx 29 cs (0, 0) _ hg Tryz.underlying29 rfl (by rw [hs]; kernel_rfl) h
theorem held_build29 {ops : Array Oper} {Q : Exit → Act → World → Prop} {o : Oper} {a : Act} {w : World} {K : Act → World → Prop} {E : Prop} (hw : Region.wanted o (yielded ops a.tmps) = true) (x : Operand) (ho : o.op = .buildSlice 55 1 #[(0, x)]) (q : Pk) (hx : a.eval x = .agg (pkCells q)) (h : K (a.put o.dst (.slice (some ⟨w.heap.size, 0, none⟩) 1 1)) (w.alloc (.cells (pkCells q) 29))) :
    if Region.wanted o (yielded ops a.tmps) = true then Oper.wp Tryz.prog o a w K Q else E := by
  rw [if_pos hw]
  obtain ⟨i0, hi, hz0, hz1, hz2⟩ := info_parts (P := Tryz.prog) (e := 29) (z := .agg (pkCells (blank 0))) (size := 25) (bytes := 328) (by kernel_rfl)
  refine wp_buildSlice 55 29 1 #[(0, x)] ho (pkCells q) i0 (.agg (pkCells (blank 0))) Tryz.underlying55 hi hz0 (by rw [hz1]; decide) (by rw [hz1]; decide) ?_ h
  rw [hz1]
  simp only [List.map_toArray, List.map_cons, List.map_nil, hx]
  kernel_rfl
theorem pk_ones (q : Pk) : ∀ u ∈ (pkCells q).toList, u.oneCell' = true := by
  have := pk_one q
  intro u hu
  exact (Array.all_eq_true_iff_forall_mem.1 this) u (by simpa using hu)
set_option maxRecDepth 100000 in
set_option maxHeartbeats 4000000 in
theorem hears_any {w : World} {X : Nat → Prop} {fb hb : Nat} {most : Int} {B : Nat} {rf rh : Option Nat} {P : Nat} {z : Nat → Int} {H : Nat} {L0 : List (Pk × Cn)} {la le : Int} (m : Int) (L : List (Pk × Cn)) (t : Nat) (R : Option DecR) (hr : Hr most m z H L t R)
    (hF : FS w fb most B rf P z H) (hH : HS w hb B rh (No X fb hb rf rh) L0 la le) (hz : ∀ i, 0 ≤ z i ∧ z i ≤ 255) (hg : Gw w) (hn : P + H ≤ 400000) (hB : B ≤ w.heap.size) (h3 : 3 ≤ fb ∧ 3 ≤ hb ∧ 3 ≤ B) (hm : -1000 ≤ m ∧ m ≤ 1000) (hL : L0.length + L.length ≤ 100000) (hX : ∀ b, X b → b < w.heap.size) :
    Calls Tryz.prog 23 #[.pointer (some ⟨hb, 0, none⟩), .pointer (some ⟨fb, 0, none⟩), .int .i64 m] w fun e w' => e = .returned (.tuple #[]) ∧ ∃ rf' rh' la' le', FE w' fb most B rf' (P + t) (sh z t) (H - t) la' le' R ∧ HS w' hb B rh' (No X fb hb rf' rh') (L0 ++ L) la' le' ∧ Ch (Mt fb hb rf rh) w w' ∧ Nw w.heap.size rf rf' ∧ Nw w.heap.size rh rh' := by
  have hlen := hr_len hr hz (by omega)
  have HR : Hid (Hr most m z H L t R) := hr
  have HFS : Hid (FS w fb most B rf P z H) := hF
  have HHS : Hid (HS w hb B rh (No X fb hb rf rh) L0 la le) := hH
  have HZ : Hid (∀ i, 0 ≤ z i ∧ z i ≤ 255) := hz
  have HG : Hid (Gw w) := hg
  have HX : Hid (∀ b, X b → b < w.heap.size) := hX
  have HN : Hid (P + H ≤ 400000 ∧ B ≤ w.heap.size ∧ (3 ≤ fb ∧ 3 ≤ hb ∧ 3 ≤ B) ∧ (-1000 ≤ m ∧ m ≤ 1000) ∧ L0.length + L.length ≤ 100000 ∧ L.length ≤ t ∧ t ≤ H) := ⟨hn, hB, h3, hm, hL, hlen.1, hlen.2.1⟩
  clear hr hF hH hz hg hn hB h3 hm hL hlen hX
  obtain ⟨ii, hi29, hi25, hibt, z29, hiz, hizs⟩ := f29_bytes
  go_enter Tryz.func23, Tryz.ntmps23
  go_wp2_with fail
  go_loopg [2] L.length (fun gg s2 wx => ∃ (m' : Int) (tt t' : Nat) (L1 L2 : List (Pk × Cn)) (rf' rh' : Option Nat) (la' le' : Int), s2 = .int .i64 m' ∧ Hid (Hr most m' (sh z tt) (H - tt) L2 t' R) ∧ Hid (FS wx fb most B rf' (P + tt) (sh z tt) (H - tt)) ∧ Hid (HS wx hb B rh' (No X fb hb rf' rh') L1 la' le') ∧ Hid (Ch (Mt fb hb rf rh) w wx ∧ Nw w.heap.size rf rf' ∧ Nw w.heap.size rh rh' ∧ Gw wx) ∧ Hid (tt + t' = t ∧ L1 ++ L2 = L0 ++ L ∧ L2.length = gg ∧ m' + (L.length - gg : Nat) = m ∧ gg ≤ L.length))
  case atStart =>
    refine ⟨m, 0, t, L0, L, rf, rh, la, le, rfl, ?_, ?_, HHS, ⟨Ch.refl _ _, .inl rfl, .inl rfl, HG.out⟩, ⟨by omega, rfl, rfl, by simp, Nat.le_refl _⟩⟩
    · rw [sh_zero, Nat.sub_zero]; exact HR
    · rw [sh_zero, Nat.sub_zero, Nat.add_zero]; exact HFS
  case round =>
    obtain ⟨m', tt, t', L1, L2, rf', rh', la', le', hs2, R1, F1, H1, C1, N1⟩ := hrel
    subst hs2
    have G1 : Hid (Gw wr) := C1.out.2.2.2
    have hcase := R1.out
    have HZ1 : Hid (∀ i, 0 ≤ sh z tt i ∧ sh z tt i ≤ 255) := sh_bd HZ.out tt
    have hlt1 := hr_len hcase HZ1.out (by have := HN.out; omega)
    have X1 : Hid ((P + tt) + (H - tt) ≤ 400000 ∧ B ≤ wr.heap.size) := ⟨by have := HN.out; have := N1.out; omega, Nat.le_trans HN.out.2.1 C1.out.1.size⟩
    clear hlt1
    cases hcase with
    | zero z n =>
      go_wp2_with fail
      go_end0
      refine ⟨rfl, rf', rh', la', le', ?_, ?_, C1.out.1, C1.out.2.1, C1.out.2.2.1⟩
      · have e := N1.out.1
        rw [Nat.add_zero] at e
        subst e
        exact F1.out
      · have e := N1.out.2.1
        rw [List.append_nil] at e
        subst e
        exact H1.out
    | stop m z n D hm0 hD hok =>
      have q0 : (m' == 0) = false := by simpa using hm0
      have q1 : (m' != 0) = true := by simpa using hm0
      go_wp2_with fail
      go_must (go_at_call 48)
      refine (next_few F1.out HZ1.out G1.out X1.out.1 X1.out.2 D hD hok).mono ?_
      rintro e w1 ⟨ev, a, e', rf1, rfl, T1, E1, K1, W1⟩
      obtain ⟨v, qs, ha, ho, hrr, hp⟩ := H1.out
      have LQ : Hid (qs.length = L1.length) := hp.len
      have NE : Hid (hb ≠ fb) := by
        obtain ⟨_, _, _, _, _, _, hf, _⟩ := F1.out
        exact ha.ne_fr hf.at_
      have A1 : Hid (HdAt w1 hb v la' le') := ha.keep (K1.out.block hb ha.lt NE.out (fun e => by cases e))
      have O1 : Hid (w1.ownsRow B 29 25 v qs.length (pkRow qs)) := own_keep ho (fun j e => K1.out.block j (ho.lt j e).2 (fun q => by
        obtain ⟨_, _, _, _, _, _, hf, _⟩ := F1.out
        have h1 := hf.at_
        unfold FrAt at h1
        rcases ho.2 with ⟨r, _⟩ | ⟨g, cap, cur, r, _, hg, _⟩
        · rw [r] at e; cases e
        · rw [r] at e
          have e' : g = fb := by rw [← q]; simpa [Value.ownBlock] using e
          rw [e', h1] at hg
          simp at hg) (fun e => by cases e))
      have PS1 : Hid (Ps wr (No X fb hb rf' rh') qs L1) := hp
      have VB : Hid (v.ownBlock = rh') := hrr
      obtain ⟨va, vn, vc, hv⟩ : ∃ a n c, v = .slice a n c := by
        rcases ho.2 with ⟨h1, _⟩ | ⟨g, cp, _, h1, _⟩
        · exact ⟨_, _, _, h1⟩
        · exact ⟨_, _, _, h1⟩
      have hvn : vn = qs.length := by
        rcases ho.2 with ⟨h1, h0⟩ | ⟨g, cp, _, h1, _⟩
        · rw [hv] at h1; injection h1 with _ h2 _; omega
        · rw [hv] at h1; injection h1
      subst hv
      subst hvn
      have LL : Hid (qs.length ≤ 100000) := by
        have h1 := LQ.out; have h2 := congrArg List.length N1.out.2.1; have h3 := HN.out
        simp only [List.length_append] at h2
        show qs.length ≤ 100000
        omega
      clear ha ho hrr hp
      obtain ⟨W2, hW2⟩ : ∃ W, W = (w1.alloc (.cells (pkCells (blank 0)) 29)).setRow w1.heap.size (pkCells (blank 0)) := ⟨_, rfl⟩
      have B2 : Hid (Below w1.heap.size w1 W2) := by show Below _ _ _; rw [hW2]; exact (below_setRow ((Below.refl _ _).alloc (Nat.le_refl _) _) (Nat.le_refl _)).out
      have Z2 : Hid (W2.heap[w1.heap.size]? = some (.cells (pkCells (blank 0)) 29 (0, 0))) := by show _ = _; rw [hW2]; exact setRow_at (heap_alloc_new w1 _)
      go_upto_region 3 with (first | (refine wpList_store_row rfl 29 _ _ rfl w1.heap.size (pkCells (blank 0)) rfl rfl 29 _ (heap_alloc_new w1 _) pk_info rfl (pk_one _) ?_) | fail)
      have eW : (w1.alloc (.cells #[.int .i64 0, .int .i64 0, .bool false, .int .i64 0, .string ⟨#[]⟩, .bool false, .string ⟨#[]⟩, .slice none 0 0, .int .i64 0, .bool false, .bool false, .string ⟨#[]⟩, .bool false, .slice none 0 0, .bool false, .int .i64 0, .bool false, .string ⟨#[]⟩, .slice none 0 0, .int .i64 0, .bool false, .int .i64 0, .slice none 0 0, .slice none 0 0, .slice none 0 0] 29)).setRow w1.heap.size (pkCells (blank 0)) = W2 := hW2.symm
      rw [eW]
      clear eW hW2
      go_wp2_with fail
      go_must (go_at_call 49)
      refine (T1.out W2 B2.out).mono ?_
      rintro e w3 ⟨rfl, hb3⟩
      obtain ⟨W4, hW4⟩ : ∃ W, W = w3.alloc (.cells #[.int .i64 a, .int .i64 e'] 45) := ⟨_, rfl⟩
      have B4 : Hid (Below w1.heap.size w1 W4) := by show Below _ _ _; rw [hW4]; exact below_on (below_on B2.out hb3) ((Below.refl _ _).alloc (Nat.le_refl _) _)
      have Z4 : Hid (W4.heap[w1.heap.size]? = some (.cells (pkCells (blank 0)) 29 (0, 0))) := by
        show _ = _
        rw [hW4]
        exact ((((Below.refl w3.heap.size w3).alloc (Nat.le_refl _) _).block _ (by have := hb3.size; have := lt_of_block Z2.out; omega)).trans (hb3.block _ (lt_of_block Z2.out))).trans Z2.out
      have T4 : Hid (W4.heap[w3.heap.size]? = some (.cells #[.int .i64 a, .int .i64 e'] 45 (0, 0))) := by show _ = _; rw [hW4]; exact heap_alloc_new w3 _
      have S4 : Hid (w1.heap.size ≤ w3.heap.size) := Nat.le_trans B2.out.size hb3.size
      clear hb3
      go_upto_region 4 with (first | (refine wpList_store_row rfl 45 _ _ rfl w3.heap.size #[.int .i64 a, .int .i64 e'] rfl rfl 45 _ (heap_alloc_new w3 _) f45_info rfl rfl ?_) | fail)
      rw [← hW4]
      clear hW4
      have A4 : Hid (HdAt W4 hb (.slice va qs.length vc) la' le') := A1.out.keep (B4.out.block _ A1.out.lt)
      have c0 : W4.cell? ⟨hb, 0, none⟩ = some (.slice va qs.length vc) := A4.out.cell 0 _ rfl
      have c3 : W4.cell? ⟨hb, 3, none⟩ = some (.bool false) := A4.out.cell 3 _ rfl
      have f3 : W4.frozen? ⟨hb, 3, none⟩ = false := A4.out.frozen 3
      have t0 : W4.cell? ⟨w3.heap.size, 0, none⟩ = some (.int .i64 a) := box_cells T4.out 0 _ rfl
      have t1 : W4.cell? ⟨w3.heap.size, 1, none⟩ = some (.int .i64 e') := box_cells T4.out 1 _ rfl
      have l0 : ¬ (100000 : Int) < (qs.length : Int) := by have := LL.out; omega
      go_upto_region 5 with fail
      obtain ⟨W5, hW5⟩ : ∃ W, W = W4.setCell ⟨hb, 3, none⟩ (.bool false) := ⟨_, rfl⟩
      rw [← hW5]
      have A5 : Hid (HdAt W5 hb (.slice va qs.length vc) la' le') := by show HdAt _ _ _ _ _; rw [hW5]; exact A4.out.set3
      have C5 : Hid (Ch (fun k => k = hb) W4 W5) := by show Ch _ _ _; rw [hW5]; exact ch_set hb 3 _
      clear hW5 c0 c3 f3 t0 t1
      have NT : Hid (w3.heap.size ≠ hb) := by have := A1.out.lt; have := S4.out; show w3.heap.size ≠ hb; omega
      have T5 : Hid (W5.heap[w3.heap.size]? = some (.cells #[.int .i64 a, .int .i64 e'] 45 (0, 0))) := (C5.out.block _ (lt_of_block T4.out) NT.out).trans T4.out
      have t0 : W5.cell? ⟨w3.heap.size, 0, none⟩ = some (.int .i64 a) := box_cells T5.out 0 _ rfl
      have t1 : W5.cell? ⟨w3.heap.size, 1, none⟩ = some (.int .i64 e') := box_cells T5.out 1 _ rfl
      have c1 : W5.cell? ⟨hb, 1, none⟩ = some (.int .i64 la') := A5.out.cell 1 _ rfl
      have c2 : W5.cell? ⟨hb, 2, none⟩ = some (.int .i64 le') := A5.out.cell 2 _ rfl
      have c3 : W5.cell? ⟨hb, 3, none⟩ = some (.bool false) := A5.out.cell 3 _ rfl
      have f1 : W5.frozen? ⟨hb, 1, none⟩ = false := A5.out.frozen 1
      have f2 : W5.frozen? ⟨hb, 2, none⟩ = false := A5.out.frozen 2
      go_upto_region 7 with fail
      obtain ⟨W6, hW6⟩ : ∃ W, W = (W5.setCell ⟨hb, 1, none⟩ (.int .i64 a)).setCell ⟨hb, 2, none⟩ (.int .i64 e') := ⟨_, rfl⟩
      rw [← hW6]
      have A6 : Hid (HdAt W6 hb (.slice va qs.length vc) a e') := by show HdAt _ _ _ _ _; rw [hW6]; exact (A5.out.set1 _).set2 _
      have C6 : Hid (Ch (fun k => k = hb) W5 W6) := by show Ch _ _ _; rw [hW6]; exact (ch_set hb 1 _).trans (ch_set hb 2 _) (fun j _ h => h)
      clear hW6 t0 t1 c1 c2 c3 f1 f2
      have C7 : Hid (Ch (fun k => k = fb ∨ k = hb) wr W6) := by
        refine Ch.trans (S' := fun k => k = hb) (Ch.trans (S' := fun k => k = hb) (Ch.trans (S' := fun _ => False) ((Kq.ch K1.out).mono (fun j _ h => h.elim .inl (fun e => by cases e))) (Below.ch B4.out) (fun _ _ h => h.elim)) C5.out (fun _ _ h => .inr h)) C6.out (fun _ _ h => .inr h)
      have O6 : Hid (W6.ownsRow B 29 25 (.slice va qs.length vc) qs.length (pkRow qs)) := own_keep O1.out (fun j e => by
        have h1 := (O1.out.lt j e).2
        have h2 := B4.out.size
        have hne : j ≠ hb := fun q => A1.out.own_ne O1.out (by decide) (q ▸ e)
        rw [C6.out.block j (by have := C5.out.size; omega) hne, C5.out.block j (by omega) hne, B4.out.block j h1])
      have C16 : Hid (Ch (fun k => k = hb) w1 W6) := Ch.trans (S' := fun k => k = hb) (Ch.trans (S' := fun k => k = hb) (Below.ch B4.out) C5.out (fun _ _ h => h)) C6.out (fun _ _ h => h)
      go_wp2_with fail
      (try simp only [Exit.inBlock, Exit.then])
      refine bodyPost_ret (results_none rfl _ _ _) rfl ?_
      have hbl := A1.out
      refine ⟨rfl, rf1, rh', a, e', ?_, ?_, ?_, ?_, C1.out.2.2.1⟩
      · have e0 := N1.out.1
        rw [Nat.add_zero] at e0
        subst e0
        refine FE.keep E1.out ?_ (fun k c _ hc => ?_)
        · obtain ⟨c, hc⟩ := FE.blk E1.out
          exact C16.out.block _ (lt_of_block hc) (fun q => NE.out q.symm)
        · exact C16.out.block _ (lt_of_block hc) (blk_ne hc hbl (by decide))
      · have e0 := N1.out.2.1
        rw [List.append_nil] at e0
        subst e0
        exact ⟨_, qs, A6.out, O6.out, VB.out, Ps.mono (fun b hb hnb => C7.out.block b hb (fun q => hnb (.inr (q.elim .inl (fun e => .inr (.inl e)))))) (fun b hb h => no_old W1.out (.inl rfl) hb h) PS1.out⟩
      · exact C1.out.1.trans (C7.out.mono (S' := Mt fb hb rf' rh') (fun j _ h => h.elim .inl (fun e => .inr (.inl e)))) (fun j hj h => mt_old C1.out.2.1 C1.out.2.2.1 hj h)
      · exact C1.out.2.1.trans W1.out C1.out.1.size
    | step m z n p c k L3 t3 R3 hm0 hD hr3 =>
      have q0 : (m' == 0) = false := by simpa using hm0
      have q1 : (m' != 0) = true := by simpa using hm0
      have HR3 : Hid (Hr most (m' - 1) (sh (sh z tt) k) (H - tt - k) L3 t3 R) := hr3
      have HD : Hid (decP (sh z tt) (H - tt) most = .ok p c k) := hD
      clear hr3
      go_wp2_with fail
      go_must (go_at_call 48)
      refine (next_pkt F1.out HZ1.out G1.out X1.out.1 X1.out.2 p c k hD).mono ?_
      rintro e w1 ⟨q, rf1, rfl, E1, I1, K1, W1⟩
      obtain ⟨v, qs, ha, ho, hrr, hp⟩ := H1.out
      have LQ : Hid (qs.length = L1.length) := hp.len
      have NE : Hid (hb ≠ fb) := by
        obtain ⟨_, _, _, _, _, _, hf, _⟩ := F1.out
        exact ha.ne_fr hf.at_
      have A1 : Hid (HdAt w1 hb v la' le') := ha.keep (K1.out.block hb ha.lt NE.out (fun e => by cases e))
      have O1 : Hid (w1.ownsRow B 29 25 v qs.length (pkRow qs)) := own_keep ho (fun j e => K1.out.block j (ho.lt j e).2 (fun q => by
        obtain ⟨_, _, _, _, _, _, hf, _⟩ := F1.out
        have h1 := hf.at_
        unfold FrAt at h1
        rcases ho.2 with ⟨r, _⟩ | ⟨g, cap, cur, r, _, hg, _⟩
        · rw [r] at e; cases e
        · rw [r] at e
          have e' : g = fb := by rw [← q]; simpa [Value.ownBlock] using e
          rw [e', h1] at hg
          simp at hg) (fun e => by cases e))
      have PS1 : Hid (Ps wr (No X fb hb rf' rh') qs L1) := hp
      have VB : Hid (v.ownBlock = rh') := hrr
      obtain ⟨va, vn, vc, hv⟩ : ∃ a n c, v = .slice a n c := by
        rcases ho.2 with ⟨h1, _⟩ | ⟨g, cp, _, h1, _⟩
        · exact ⟨_, _, _, h1⟩
        · exact ⟨_, _, _, h1⟩
      have hvn : vn = qs.length := by
        rcases ho.2 with ⟨h1, h0⟩ | ⟨g, cp, _, h1, _⟩
        · rw [hv] at h1; injection h1 with _ h2 _; omega
        · rw [hv] at h1; injection h1
      subst hv
      subst hvn
      have LL : Hid (qs.length ≤ 100000) := by
        have h1 := LQ.out; have h2 := congrArg List.length N1.out.2.1; have h3 := HN.out
        simp only [List.length_append] at h2
        show qs.length ≤ 100000
        omega
      clear ha ho hrr hp
      obtain ⟨W2, hW2⟩ : ∃ W, W = (w1.alloc (.cells (pkCells (blank 0)) 29)).setRow w1.heap.size (pkCells q) := ⟨_, rfl⟩
      have B2 : Hid (Below w1.heap.size w1 W2) := by show Below _ _ _; rw [hW2]; exact (below_setRow ((Below.refl _ _).alloc (Nat.le_refl _) _) (Nat.le_refl _)).out
      have Z2 : Hid (W2.heap[w1.heap.size]? = some (.cells (pkCells q) 29 (0, 0))) := by show _ = _; rw [hW2]; exact setRow_at (heap_alloc_new w1 _)
      go_upto_region 3 with (first | (refine wpList_store_row rfl 29 _ _ rfl w1.heap.size (pkCells q) rfl rfl 29 _ (heap_alloc_new w1 _) pk_info rfl (pk_one _) ?_) | fail)
      have eW : (w1.alloc (.cells #[.int .i64 0, .int .i64 0, .bool false, .int .i64 0, .string ⟨#[]⟩, .bool false, .string ⟨#[]⟩, .slice none 0 0, .int .i64 0, .bool false, .bool false, .string ⟨#[]⟩, .bool false, .slice none 0 0, .bool false, .int .i64 0, .bool false, .string ⟨#[]⟩, .slice none 0 0, .int .i64 0, .bool false, .int .i64 0, .slice none 0 0, .slice none 0 0, .slice none 0 0] 29)).setRow w1.heap.size (pkCells q) = W2 := hW2.symm
      rw [eW]
      clear eW hW2
      go_wp2_with fail
      go_must (go_at_call 49)
      refine (ftold_nil W2).mono ?_
      rintro e w3 ⟨rfl, hb3⟩
      obtain ⟨W4, hW4⟩ : ∃ W, W = w3.alloc (.cells #[.int .i64 0, .int .i64 0] 45) := ⟨_, rfl⟩
      have B4 : Hid (Below w1.heap.size w1 W4) := by show Below _ _ _; rw [hW4]; exact below_on (below_on B2.out hb3) ((Below.refl _ _).alloc (Nat.le_refl _) _)
      have Z4 : Hid (W4.heap[w1.heap.size]? = some (.cells (pkCells q) 29 (0, 0))) := by
        show _ = _
        rw [hW4]
        exact ((((Below.refl w3.heap.size w3).alloc (Nat.le_refl _) _).block _ (by have := hb3.size; have := lt_of_block Z2.out; omega)).trans (hb3.block _ (lt_of_block Z2.out))).trans Z2.out
      have T4 : Hid (W4.heap[w3.heap.size]? = some (.cells #[.int .i64 0, .int .i64 0] 45 (0, 0))) := by show _ = _; rw [hW4]; exact heap_alloc_new w3 _
      have S4 : Hid (w1.heap.size ≤ w3.heap.size) := Nat.le_trans B2.out.size hb3.size
      clear hb3
      go_upto_region 4 with (first | (refine wpList_store_row rfl 45 _ _ rfl w3.heap.size #[.int .i64 0, .int .i64 0] rfl rfl 45 _ (heap_alloc_new w3 _) f45_info rfl rfl ?_) | fail)
      rw [← hW4]
      clear hW4
      have A4 : Hid (HdAt W4 hb (.slice va qs.length vc) la' le') := A1.out.keep (B4.out.block _ A1.out.lt)
      have c0 : W4.cell? ⟨hb, 0, none⟩ = some (.slice va qs.length vc) := A4.out.cell 0 _ rfl
      have c3 : W4.cell? ⟨hb, 3, none⟩ = some (.bool false) := A4.out.cell 3 _ rfl
      have f3 : W4.frozen? ⟨hb, 3, none⟩ = false := A4.out.frozen 3
      have t0 : W4.cell? ⟨w3.heap.size, 0, none⟩ = some (.int .i64 0) := box_cells T4.out 0 _ rfl
      have t1 : W4.cell? ⟨w3.heap.size, 1, none⟩ = some (.int .i64 0) := box_cells T4.out 1 _ rfl
      have l0 : ¬ (100000 : Int) < (qs.length : Int) := by have := LL.out; omega
      go_upto_region 5 with fail
      obtain ⟨W5, hW5⟩ : ∃ W, W = W4.setCell ⟨hb, 3, none⟩ (.bool false) := ⟨_, rfl⟩
      rw [← hW5]
      have A5 : Hid (HdAt W5 hb (.slice va qs.length vc) la' le') := by show HdAt _ _ _ _ _; rw [hW5]; exact A4.out.set3
      have C5 : Hid (Ch (fun k => k = hb) W4 W5) := by show Ch _ _ _; rw [hW5]; exact ch_set hb 3 _
      clear hW5 c0 c3 f3 t0 t1
      have NT : Hid (w3.heap.size ≠ hb) := by have := A1.out.lt; have := S4.out; show w3.heap.size ≠ hb; omega
      have T5 : Hid (W5.heap[w3.heap.size]? = some (.cells #[.int .i64 0, .int .i64 0] 45 (0, 0))) := (C5.out.block _ (lt_of_block T4.out) NT.out).trans T4.out
      have t0 : W5.cell? ⟨w3.heap.size, 0, none⟩ = some (.int .i64 0) := box_cells T5.out 0 _ rfl
      have t1 : W5.cell? ⟨w3.heap.size, 1, none⟩ = some (.int .i64 0) := box_cells T5.out 1 _ rfl
      have c1 : W5.cell? ⟨hb, 1, none⟩ = some (.int .i64 la') := A5.out.cell 1 _ rfl
      have c2 : W5.cell? ⟨hb, 2, none⟩ = some (.int .i64 le') := A5.out.cell 2 _ rfl
      have c3 : W5.cell? ⟨hb, 3, none⟩ = some (.bool false) := A5.out.cell 3 _ rfl
      have f1 : W5.frozen? ⟨hb, 1, none⟩ = false := A5.out.frozen 1
      have f2 : W5.frozen? ⟨hb, 2, none⟩ = false := A5.out.frozen 2
      go_upto_region 7 with fail
      obtain ⟨W6, hW6⟩ : ∃ W, W = (W5.setCell ⟨hb, 1, none⟩ (.int .i64 0)).setCell ⟨hb, 2, none⟩ (.int .i64 0) := ⟨_, rfl⟩
      rw [← hW6]
      have A6 : Hid (HdAt W6 hb (.slice va qs.length vc) 0 0) := by show HdAt _ _ _ _ _; rw [hW6]; exact (A5.out.set1 _).set2 _
      have C6 : Hid (Ch (fun k => k = hb) W5 W6) := by show Ch _ _ _; rw [hW6]; exact (ch_set hb 1 _).trans (ch_set hb 2 _) (fun j _ h => h)
      clear hW6 t0 t1 c1 c2 c3 f1 f2
      have C7 : Hid (Ch (fun k => k = fb ∨ k = hb) wr W6) := by
        refine Ch.trans (S' := fun k => k = hb) (Ch.trans (S' := fun k => k = hb) (Ch.trans (S' := fun _ => False) ((Kq.ch K1.out).mono (fun j _ h => h.elim .inl (fun e => by cases e))) (Below.ch B4.out) (fun _ _ h => h.elim)) C5.out (fun _ _ h => .inr h)) C6.out (fun _ _ h => .inr h)
      have O6 : Hid (W6.ownsRow B 29 25 (.slice va qs.length vc) qs.length (pkRow qs)) := own_keep O1.out (fun j e => by
        have h1 := (O1.out.lt j e).2
        have h2 := B4.out.size
        have hne : j ≠ hb := fun q => A1.out.own_ne O1.out (by decide) (q ▸ e)
        rw [C6.out.block j (by have := C5.out.size; omega) hne, C5.out.block j (by omega) hne, B4.out.block j h1])
      have C16 : Hid (Ch (fun k => k = hb) w1 W6) := Ch.trans (S' := fun k => k = hb) (Ch.trans (S' := fun k => k = hb) (Below.ch B4.out) C5.out (fun _ _ h => h)) C6.out (fun _ _ h => h)
      have NP : Hid (w1.heap.size ≠ hb) := by have := A1.out.lt; show w1.heap.size ≠ hb; omega
      have Z6 : Hid (W6.heap[w1.heap.size]? = some (.cells (pkCells q) 29 (0, 0))) := (C6.out.block _ (lt_of_block ((C5.out.block _ (lt_of_block Z4.out) NP.out).trans Z4.out)) NP.out).trans ((C5.out.block _ (lt_of_block Z4.out) NP.out).trans Z4.out)
      obtain ⟨WA, hWA⟩ : ∃ W, W = W6.drew.alloc (.cells (pkCells q) 29) := ⟨_, rfl⟩
      have BA : Hid (Below W6.heap.size W6 WA) := by show Below _ _ _; rw [hWA]; exact ((Below.refl _ _).drew).alloc (Nat.le_refl _) _
      have SA : Hid (WA.heap.size = W6.heap.size + 1) := by show _ = _; rw [hWA]; exact World.size_alloc _ _
      have ZA : Hid (WA.heap[W6.heap.size]? = some (.cells (pkCells q) 29 (0, 0))) := by show _ = _; rw [hWA]; exact heap_alloc_new W6.drew _
      have OA : Hid (WA.ownsRow B 29 25 (.slice va qs.length vc) qs.length (pkRow qs)) := own_keep O6.out (fun j e => BA.out.block j (O6.out.lt j e).2)
      have AA : Hid (HdAt WA hb (.slice va qs.length vc) 0 0) := A6.out.keep (BA.out.block _ A6.out.lt)
      have FIN : Hid (∀ v3 w7, w7.ownsRow B 29 25 v3 (qs.length + 1) (pkRow qs ++ (pkCells q).toList) → WA.grownBy w7 (Value.slice va qs.length vc).ownBlock → (v3.ownBlock = (Value.slice va qs.length vc).ownBlock ∨ v3.ownBlock = some WA.heap.size) →
          Hid (HdAt w7 hb (.slice va qs.length vc) 0 0) ∧ Hid (FS (w7.setCell ⟨hb, 0, none⟩ v3) fb most B rf1 (P + (tt + k)) (sh z (tt + k)) (H - (tt + k))) ∧ Hid (HS (w7.setCell ⟨hb, 0, none⟩ v3) hb B v3.ownBlock (No X fb hb rf1 v3.ownBlock) (L1 ++ [(p, c)]) 0 0) ∧ Hid (Ch (Mt fb hb rf rh) w (w7.setCell ⟨hb, 0, none⟩ v3) ∧ Nw w.heap.size rf rf1 ∧ Nw w.heap.size rh v3.ownBlock ∧ Gw (w7.setCell ⟨hb, 0, none⟩ v3))) := by
        intro v3 w7 ho hg hw
        have hvb := VB.out
        rw [hvb] at hg hw
        have rlt : ∀ j, rh' = some j → B ≤ j ∧ j < wr.heap.size ∧ ∃ c, w1.heap[j]? = some (.cells c 29 (0, 0)) := by
          intro j e
          obtain ⟨cc, hcc⟩ := own_blk O1.out (hvb.trans e)
          have h1 := O1.out.lt j (hvb.trans e)
          refine ⟨h1.1, ?_, cc, hcc⟩
          have q := H1.out
          obtain ⟨v0, _, _, ho0, hr0, _⟩ := q
          exact (ho0.lt j (hr0.trans e)).2
        have hne : ∀ j, rh' = some j → j ≠ hb := fun j e => by obtain ⟨_, _, cc, hcc⟩ := rlt j e; exact blk_ne hcc A1.out (by decide)
        have A7 : HdAt w7 hb (.slice va qs.length vc) 0 0 := AA.out.keep (hg.block hb AA.out.lt (fun e => hne hb e.symm rfl))
        have C17 : Ch (fun k => k = hb ∨ rh' = some k) w1 w7 := Ch.trans (S' := fun k => rh' = some k) (Ch.trans (S' := fun _ => False) (C16.out.mono (fun _ _ h => .inl h)) (Below.ch BA.out) (fun _ _ h => h.elim)) (ch_grown hg) (fun _ _ h => .inr h)
        have C18 : Ch (fun k => k = hb ∨ rh' = some k) w1 (w7.setCell ⟨hb, 0, none⟩ v3) := Ch.trans (S' := fun k => k = hb) C17 (ch_set hb 0 v3) (fun _ _ h => .inl h)
        have Cr8 : Ch (Mt fb hb rf' rh') wr (w7.setCell ⟨hb, 0, none⟩ v3) := Ch.trans (S' := fun k => k = hb ∨ rh' = some k) ((Kq.ch K1.out).mono (S' := Mt fb hb rf' rh') (fun j _ h => h.elim .inl (fun e => by cases e))) C18 (fun j _ h => h.elim (fun e => .inr (.inl e)) (fun e => .inr (.inr (.inr e))))
        have hK1 := K1.out.size
        have N3 : Nw wr.heap.size rh' v3.ownBlock := by
          rcases hw with h | h
          · exact .inl h
          · exact .inr (.inr ⟨_, h, by have := SA.out; have := C16.out.size; omega⟩)
        have hE := E1.out
        have hhl : hb < wr.heap.size := by obtain ⟨v0, _, ha0, _⟩ := H1.out; exact ha0.lt
        have hfl : fb < wr.heap.size := F1.out.lt.1
        refine ⟨A7, ?_, ?_, Ch.trans C1.out.1 Cr8 (fun j hj h => mt_old C1.out.2.1 C1.out.2.2.1 hj h), C1.out.2.1.trans W1.out C1.out.1.size, C1.out.2.2.1.trans N3 C1.out.1.size, ?_⟩
        · rw [sh_sh, Nat.sub_sub, Nat.add_assoc] at hE
          refine hE.keep ?_ (fun j e => ?_)
          · obtain ⟨cc, hcc⟩ := hE.blk.1
            exact C18.block _ (lt_of_block hcc) (fun q => q.elim (fun q => NE.out q.symm) (fun q => by obtain ⟨_, _, c2, hc2⟩ := rlt fb q; exact blk_ne hcc hc2 (by decide) rfl))
          · obtain ⟨cc, hcc⟩ := (hE.blk.2 j e).2
            exact C18.block _ (lt_of_block hcc) (fun q => q.elim (fun q => blk_ne hcc A1.out (by decide) q) (fun q => by obtain ⟨_, _, c2, hc2⟩ := rlt j q; exact blk_ne hcc hc2 (by decide) rfl))
        · refine ⟨v3, qs ++ [q], A7.set0 v3, ?_, rfl, ?_⟩
          · rw [pkRow_snoc, List.length_append, List.length_singleton]
            exact ownsRow_setCell_other ho (A7.own_ne ho (by decide)) _
          · refine Ps.snoc ⟨I1.out.1, In.congr I1.out.2.1 (fun b hb' => ?_), fun b hb' q => ?_⟩ (Ps.mono (fun b hb' hnb => Cr8.block b hb' (fun q => hnb (.inr q))) (fun b hb' h => no_old W1.out N3 hb' h) PS1.out)
            · have b1 := (I1.out.2.2 b hb').1
              exact C18.block b (In.lt I1.out.2.1 hb') (fun q => q.elim (fun q => by omega) (fun q => by have := (rlt b q).2.1; omega))
            · have b1 := (I1.out.2.2 b hb').1
              have b2 := In.lt I1.out.2.1 hb'
              rcases q with q | q | q | q | q
              · have := HX.out b q; have := C1.out.1.size; omega
              · omega
              · omega
              · exact (I1.out.2.2 b hb').2 q
              · rcases hw with h | h
                · rw [h] at q; have := (rlt b q).2.1; omega
                · rw [h] at q; cases q; have := SA.out; have := C16.out.size; omega
        · refine gw_ch G1.out Cr8 (fun k hk h => ?_)
          have := HN.out
          rcases h with h | h | h | h
          · omega
          · omega
          · have := (F1.out.blk.2 k h).1; omega
          · have := (rlt k h).1; omega
      have NX : Hid (Hr most (m' - 1) (sh z (tt + k)) (H - (tt + k)) L3 t3 R ∧ (tt + k) + t3 = t ∧ (L1 ++ [(p, c)]) ++ L3 = L0 ++ L ∧ L3.length + 1 = gk ∧ gk ≤ L.length ∧ m' + (L.length - gk : Nat) = m) := by
        have h1 := HR3.out
        rw [sh_sh, Nat.sub_sub] at h1
        have h2 := N1.out
        refine ⟨h1, by omega, by rw [List.append_assoc]; exact h2.2.1, by simpa using h2.2.2.1, h2.2.2.2.2, h2.2.2.2.1⟩
      have c0 : W6.cell? ⟨hb, 0, none⟩ = some (.slice va qs.length vc) := A6.out.cell 0 _ rfl
      have hwm : IntKind.i64.wrap (m' - 1) = m' - 1 := by rw [IntKind.wrap_i64]; have := NX.out; have := HN.out; omega
      go_wp2_with fail
      refine wp_region_held_drew (S := fun _ => True) (by kernel_rfl) trivial (fun hHeld => ?_)
      refine wpAnyH_take (i := 0) (oi := { dst := Option.some 63, op := Go.Op.move (Go.Operand.tmp 0), type := 54, pos := "whatfor.go:55", after := #[], guard := Option.none }) (v := .pointer (some ⟨hb, 0, none⟩)) rfl (by kernel_rfl) (by kernel_rfl) (by kernel_rfl) (fun _ _ _ h => h) (Or.inl ⟨by kernel_rfl, fun wq _ => pureVal_run (by kernel_rfl) wq⟩) hHeld ?_
      simp only [Act.put, List.setIfInBounds_toArray, List.set_cons_zero, List.set_cons_succ]
      refine wpAnyH_take (i := 1) (oi := { dst := Option.some 64, op := Go.Op.move (Go.Operand.tmp 0), type := 54, pos := "whatfor.go:55", after := #[], guard := Option.none }) (v := .pointer (some ⟨hb, 0, none⟩)) rfl (by kernel_rfl) (by kernel_rfl) (by kernel_rfl) (fun _ _ _ h => h) (Or.inl ⟨by kernel_rfl, fun wq _ => pureVal_run (by kernel_rfl) wq⟩) hHeld ?_
      simp only [Act.put, List.setIfInBounds_toArray, List.set_cons_zero, List.set_cons_succ]
      refine wpAnyH_take (i := 2) (oi := { dst := Option.some 65, op := Go.Op.nilCheck (Go.Operand.tmp 64), type := 0, pos := "whatfor.go:55", after := #[{ on := 1, ground := Go.Ground.data }], guard := Option.none }) (v := .pointer (some ⟨hb, 0, none⟩)) rfl (by kernel_rfl) (by kernel_rfl) (by kernel_rfl) (fun _ _ _ h => h) (Or.inl ⟨by kernel_rfl, by intro wq hSw; clear hSw hHeld; go_simp⟩) hHeld ?_
      simp only [Act.put, List.setIfInBounds_toArray, List.set_cons_zero, List.set_cons_succ]
      refine wpAnyH_take (i := 3) (oi := { dst := Option.some 66, op := Go.Op.fieldAddr 57 (Go.Operand.tmp 65) 0, type := 0, pos := "whatfor.go:55", after := #[{ on := 2, ground := Go.Ground.data }], guard := Option.none }) (v := .pointer (some ⟨hb, 0, none⟩)) rfl (by kernel_rfl) (by kernel_rfl) (by kernel_rfl) (fun _ _ _ h => h) (Or.inl ⟨by kernel_rfl, by intro wq hSw; clear hSw hHeld; go_simp⟩) hHeld ?_
      simp only [Act.put, List.setIfInBounds_toArray, List.set_cons_zero, List.set_cons_succ]
      have ZL : Hid (W6.drew.heap[w1.heap.size]? = some (.cells (pkCells q) 29 (0, 0))) := Z6.out
      refine wpAnyH_ready (rs := [4, 5]) (by kernel_rfl) (by simp) ?_
      refine AllReadyH.cons (o := { dst := Option.some 67, op := Go.Op.load 55 (Go.Operand.tmp 66), type := 55, pos := "whatfor.go:55", after := #[{ on := 3, ground := Go.Ground.data }], guard := Option.none }) (by rfl) (fun K hK => ?_) (AllReadyH.cons (o := { dst := Option.some 68, op := Go.Op.load 29 (Go.Operand.tmp 6), type := 29, pos := "whatfor.go:55", after := #[], guard := Option.none }) (by rfl) (fun K hK => ?_) AllReadyH.nil)
      · go_simp
        refine hK.out _ _ trivial (fun hHeld => ?_)
        clear hK K
        try simp only [Act.put, List.setIfInBounds_toArray, List.set_cons_zero, List.set_cons_succ]
        refine wpAnyH_ready (rs := [5]) (by kernel_rfl) (by simp) ?_
        refine AllReadyH.cons (o := { dst := Option.some 68, op := Go.Op.load 29 (Go.Operand.tmp 6), type := 29, pos := "whatfor.go:55", after := #[], guard := Option.none }) (by rfl) (fun K hK => ?_) AllReadyH.nil
        refine held_load29 (by kernel_rfl) _ rfl w1.heap.size rfl _ ZL.out (pk_size _) ?_
        refine hK.out _ _ trivial (fun hHeld => ?_)
        clear hK K
        try simp only [Act.put, List.setIfInBounds_toArray, List.set_cons_zero, List.set_cons_succ]
        refine wpAnyH_ready (rs := [6]) (by kernel_rfl) (by simp) ?_
        refine AllReadyH.cons (o := { dst := Option.some 69, op := Go.Op.buildSlice 55 1 #[(0, Go.Operand.tmp 68)], type := 55, pos := "whatfor.go:55", after := #[{ on := 5, ground := Go.Ground.data }], guard := Option.none }) (by rfl) (fun K hK => ?_) AllReadyH.nil
        refine held_build29 (by kernel_rfl) _ rfl q rfl ?_
        refine hK.out _ _ trivial (fun hHeld => ?_)
        clear hK K
        try simp only [Act.put, List.setIfInBounds_toArray, List.set_cons_zero, List.set_cons_succ]
        rw [← hWA]
        clear hWA
        refine wpAnyH_ready (rs := [7]) (by kernel_rfl) (by simp) ?_
        refine AllReadyH.cons (o := { dst := Option.some 70, op := Go.Op.call { callee := Go.Callee.builtin Go.Builtin.append, args := #[Go.Operand.tmp 67, Go.Operand.tmp 69], argTypes := #[55, 55] }, type := 55, pos := "whatfor.go:55", after := #[{ on := 4, ground := Go.Ground.data }, { on := 6, ground := Go.Ground.data }], guard := Option.none }) (by rfl) (fun K hK => ?_) AllReadyH.nil
        refine step_push rfl (.tmp 67) (.tmp 69) 55 rfl B 29 ii z29 25 ii.bytes Tryz.underlying55 hi29 hiz hi25 rfl hizs (by decide) (.slice va qs.length vc) qs.length (pkRow qs) rfl OA.out ⟨W6.heap.size, 0, none⟩ 1 1 (pkCells q).toList rfl (by decide) rfl (fun j u hu => by rw [plain_add, Nat.zero_add]; exact box_cells ZA.out j u (by simpa using hu)) (pk_ones q) (by have := LL.out; unfold maxLen; omega) (by have := LL.out; have : (qs.length + 1) * ii.bytes ≤ 100001 * 100000 := Nat.mul_le_mul (by omega) hibt; omega) (by have := X1.out; have := C7.out.size; have := SA.out; omega) ?_
        intro v3 w7 ho hg hne hw
        obtain ⟨x7, y8, y9, y10⟩ := FIN.out v3 w7 ho hg hw
        obtain ⟨v3a, v3n, v3c, hv3⟩ : ∃ a n c, v3 = .slice a n c := by
          rcases ho.2 with ⟨h1, _⟩ | ⟨g, cp, _, h1, _⟩
          · exact ⟨_, _, _, h1⟩
          · exact ⟨_, _, _, h1⟩
        clear ho hg hne hw
        subst hv3
        refine hK.out _ _ trivial (fun hHeld => ?_)
        clear hK K
        try simp only [Act.put, List.setIfInBounds_toArray, List.set_cons_zero, List.set_cons_succ]
        have c7 : w7.cell? ⟨hb, 0, none⟩ = some (.slice va qs.length vc) := x7.out.cell 0 _ rfl
        have f7 : w7.frozen? ⟨hb, 0, none⟩ = false := x7.out.frozen 0
        refine wpAnyH_take (i := 8) (oi := { dst := Option.some 71, op := Go.Op.nilCheck (Go.Operand.tmp 63), type := 0, pos := "whatfor.go:55", after := #[{ on := 0, ground := Go.Ground.data }, { on := 0, ground := Go.Ground.phase }, { on := 1, ground := Go.Ground.phase }, { on := 2, ground := Go.Ground.phase }, { on := 3, ground := Go.Ground.phase }, { on := 4, ground := Go.Ground.phase }, { on := 5, ground := Go.Ground.phase }, { on := 6, ground := Go.Ground.phase }, { on := 7, ground := Go.Ground.phase }], guard := Option.none }) (v := .pointer (some ⟨hb, 0, none⟩)) rfl (by kernel_rfl) (by kernel_rfl) (by kernel_rfl) (fun _ _ _ h => h) (Or.inl ⟨by kernel_rfl, by intro wq hSw; clear hSw hHeld; go_simp⟩) hHeld ?_
        simp only [Act.put, List.setIfInBounds_toArray, List.set_cons_zero, List.set_cons_succ]
        refine wpAnyH_take (i := 9) (oi := { dst := Option.some 72, op := Go.Op.fieldAddr 57 (Go.Operand.tmp 71) 0, type := 0, pos := "whatfor.go:55", after := #[{ on := 8, ground := Go.Ground.data }, { on := 0, ground := Go.Ground.phase }, { on := 1, ground := Go.Ground.phase }, { on := 2, ground := Go.Ground.phase }, { on := 3, ground := Go.Ground.phase }, { on := 4, ground := Go.Ground.phase }, { on := 5, ground := Go.Ground.phase }, { on := 6, ground := Go.Ground.phase }, { on := 7, ground := Go.Ground.phase }], guard := Option.none }) (v := .pointer (some ⟨hb, 0, none⟩)) rfl (by kernel_rfl) (by kernel_rfl) (by kernel_rfl) (fun _ _ _ h => h) (Or.inl ⟨by kernel_rfl, by intro wq hSw; clear hSw hHeld; go_simp⟩) hHeld ?_
        simp only [Act.put, List.setIfInBounds_toArray, List.set_cons_zero, List.set_cons_succ]
        refine wpAnyH_ready (rs := [10]) (by kernel_rfl) (by simp) ?_
        refine AllReadyH.cons (o := { dst := Option.none, op := Go.Op.store 55 (Go.Operand.tmp 72) (Go.Operand.tmp 70), type := 0, pos := "whatfor.go:55", after := #[{ on := 9, ground := Go.Ground.data }, { on := 7, ground := Go.Ground.data }, { on := 7, ground := Go.Ground.chain }, { on := 0, ground := Go.Ground.phase }, { on := 1, ground := Go.Ground.phase }, { on := 2, ground := Go.Ground.phase }, { on := 3, ground := Go.Ground.phase }, { on := 4, ground := Go.Ground.phase }, { on := 5, ground := Go.Ground.phase }, { on := 6, ground := Go.Ground.phase }, { on := 7, ground := Go.Ground.phase }], guard := Option.none }) (by rfl) (fun K hK => ?_) AllReadyH.nil
        go_simp
        refine hK.out _ _ trivial (fun hHeld => ?_)
        clear hK K
        try simp only [Act.put, List.setIfInBounds_toArray, List.set_cons_zero, List.set_cons_succ]
        refine wpAnyH_done (by kernel_rfl) ?_ _
        clear c0 c7 f7
        go_wp2_with fail
        go_roundg (gk - 1)
        all_goals first | (have := NX.out; omega) | exact ⟨m' - 1, tt + k, t3, L1 ++ [(p, c)], L3, rf1, _, 0, 0, rfl, NX.out.1, y8, y9, y10, ⟨NX.out.2.1, NX.out.2.2.1, by have := NX.out; omega, by have := NX.out; omega, by have := NX.out; omega⟩⟩
      · refine held_load29 (by kernel_rfl) _ rfl w1.heap.size rfl _ ZL.out (pk_size _) ?_
        refine hK.out _ _ trivial (fun hHeld => ?_)
        clear hK K
        try simp only [Act.put, List.setIfInBounds_toArray, List.set_cons_zero, List.set_cons_succ]
        refine wpAnyH_ready (rs := [4, 6]) (by kernel_rfl) (by simp) ?_
        refine AllReadyH.cons (o := { dst := Option.some 67, op := Go.Op.load 55 (Go.Operand.tmp 66), type := 55, pos := "whatfor.go:55", after := #[{ on := 3, ground := Go.Ground.data }], guard := Option.none }) (by rfl) (fun K hK => ?_) (AllReadyH.cons (o := { dst := Option.some 69, op := Go.Op.buildSlice 55 1 #[(0, Go.Operand.tmp 68)], type := 55, pos := "whatfor.go:55", after := #[{ on := 5, ground := Go.Ground.data }], guard := Option.none }) (by rfl) (fun K hK => ?_) AllReadyH.nil)
        · go_simp
          refine hK.out _ _ trivial (fun hHeld => ?_)
          clear hK K
          try simp only [Act.put, List.setIfInBounds_toArray, List.set_cons_zero, List.set_cons_succ]
          refine wpAnyH_ready (rs := [6]) (by kernel_rfl) (by simp) ?_
          refine AllReadyH.cons (o := { dst := Option.some 69, op := Go.Op.buildSlice 55 1 #[(0, Go.Operand.tmp 68)], type := 55, pos := "whatfor.go:55", after := #[{ on := 5, ground := Go.Ground.data }], guard := Option.none }) (by rfl) (fun K hK => ?_) AllReadyH.nil
          refine held_build29 (by kernel_rfl) _ rfl q rfl ?_
          refine hK.out _ _ trivial (fun hHeld => ?_)
          clear hK K
          try simp only [Act.put, List.setIfInBounds_toArray, List.set_cons_zero, List.set_cons_succ]
          rw [← hWA]
          clear hWA
          refine wpAnyH_ready (rs := [7]) (by kernel_rfl) (by simp) ?_
          refine AllReadyH.cons (o := { dst := Option.some 70, op := Go.Op.call { callee := Go.Callee.builtin Go.Builtin.append, args := #[Go.Operand.tmp 67, Go.Operand.tmp 69], argTypes := #[55, 55] }, type := 55, pos := "whatfor.go:55", after := #[{ on := 4, ground := Go.Ground.data }, { on := 6, ground := Go.Ground.data }], guard := Option.none }) (by rfl) (fun K hK => ?_) AllReadyH.nil
          refine step_push rfl (.tmp 67) (.tmp 69) 55 rfl B 29 ii z29 25 ii.bytes Tryz.underlying55 hi29 hiz hi25 rfl hizs (by decide) (.slice va qs.length vc) qs.length (pkRow qs) rfl OA.out ⟨W6.heap.size, 0, none⟩ 1 1 (pkCells q).toList rfl (by decide) rfl (fun j u hu => by rw [plain_add, Nat.zero_add]; exact box_cells ZA.out j u (by simpa using hu)) (pk_ones q) (by have := LL.out; unfold maxLen; omega) (by have := LL.out; have : (qs.length + 1) * ii.bytes ≤ 100001 * 100000 := Nat.mul_le_mul (by omega) hibt; omega) (by have := X1.out; have := C7.out.size; have := SA.out; omega) ?_
          intro v3 w7 ho hg hne hw
          obtain ⟨x7, y8, y9, y10⟩ := FIN.out v3 w7 ho hg hw
          obtain ⟨v3a, v3n, v3c, hv3⟩ : ∃ a n c, v3 = .slice a n c := by
            rcases ho.2 with ⟨h1, _⟩ | ⟨g, cp, _, h1, _⟩
            · exact ⟨_, _, _, h1⟩
            · exact ⟨_, _, _, h1⟩
          clear ho hg hne hw
          subst hv3
          refine hK.out _ _ trivial (fun hHeld => ?_)
          clear hK K
          try simp only [Act.put, List.setIfInBounds_toArray, List.set_cons_zero, List.set_cons_succ]
          have c7 : w7.cell? ⟨hb, 0, none⟩ = some (.slice va qs.length vc) := x7.out.cell 0 _ rfl
          have f7 : w7.frozen? ⟨hb, 0, none⟩ = false := x7.out.frozen 0
          refine wpAnyH_take (i := 8) (oi := { dst := Option.some 71, op := Go.Op.nilCheck (Go.Operand.tmp 63), type := 0, pos := "whatfor.go:55", after := #[{ on := 0, ground := Go.Ground.data }, { on := 0, ground := Go.Ground.phase }, { on := 1, ground := Go.Ground.phase }, { on := 2, ground := Go.Ground.phase }, { on := 3, ground := Go.Ground.phase }, { on := 4, ground := Go.Ground.phase }, { on := 5, ground := Go.Ground.phase }, { on := 6, ground := Go.Ground.phase }, { on := 7, ground := Go.Ground.phase }], guard := Option.none }) (v := .pointer (some ⟨hb, 0, none⟩)) rfl (by kernel_rfl) (by kernel_rfl) (by kernel_rfl) (fun _ _ _ h => h) (Or.inl ⟨by kernel_rfl, by intro wq hSw; clear hSw hHeld; go_simp⟩) hHeld ?_
          simp only [Act.put, List.setIfInBounds_toArray, List.set_cons_zero, List.set_cons_succ]
          refine wpAnyH_take (i := 9) (oi := { dst := Option.some 72, op := Go.Op.fieldAddr 57 (Go.Operand.tmp 71) 0, type := 0, pos := "whatfor.go:55", after := #[{ on := 8, ground := Go.Ground.data }, { on := 0, ground := Go.Ground.phase }, { on := 1, ground := Go.Ground.phase }, { on := 2, ground := Go.Ground.phase }, { on := 3, ground := Go.Ground.phase }, { on := 4, ground := Go.Ground.phase }, { on := 5, ground := Go.Ground.phase }, { on := 6, ground := Go.Ground.phase }, { on := 7, ground := Go.Ground.phase }], guard := Option.none }) (v := .pointer (some ⟨hb, 0, none⟩)) rfl (by kernel_rfl) (by kernel_rfl) (by kernel_rfl) (fun _ _ _ h => h) (Or.inl ⟨by kernel_rfl, by intro wq hSw; clear hSw hHeld; go_simp⟩) hHeld ?_
          simp only [Act.put, List.setIfInBounds_toArray, List.set_cons_zero, List.set_cons_succ]
          refine wpAnyH_ready (rs := [10]) (by kernel_rfl) (by simp) ?_
          refine AllReadyH.cons (o := { dst := Option.none, op := Go.Op.store 55 (Go.Operand.tmp 72) (Go.Operand.tmp 70), type := 0, pos := "whatfor.go:55", after := #[{ on := 9, ground := Go.Ground.data }, { on := 7, ground := Go.Ground.data }, { on := 7, ground := Go.Ground.chain }, { on := 0, ground := Go.Ground.phase }, { on := 1, ground := Go.Ground.phase }, { on := 2, ground := Go.Ground.phase }, { on := 3, ground := Go.Ground.phase }, { on := 4, ground := Go.Ground.phase }, { on := 5, ground := Go.Ground.phase }, { on := 6, ground := Go.Ground.phase }, { on := 7, ground := Go.Ground.phase }], guard := Option.none }) (by rfl) (fun K hK => ?_) AllReadyH.nil
          go_simp
          refine hK.out _ _ trivial (fun hHeld => ?_)
          clear hK K
          try simp only [Act.put, List.setIfInBounds_toArray, List.set_cons_zero, List.set_cons_succ]
          refine wpAnyH_done (by kernel_rfl) ?_ _
          clear c0 c7 f7
          go_wp2_with fail
          go_roundg (gk - 1)
          all_goals first | (have := NX.out; omega) | exact ⟨m' - 1, tt + k, t3, L1 ++ [(p, c)], L3, rf1, _, 0, 0, rfl, NX.out.1, y8, y9, y10, ⟨NX.out.2.1, NX.out.2.2.1, by have := NX.out; omega, by have := NX.out; omega, by have := NX.out; omega⟩⟩
        · refine held_build29 (by kernel_rfl) _ rfl q rfl ?_
          refine hK.out _ _ trivial (fun hHeld => ?_)
          clear hK K
          try simp only [Act.put, List.setIfInBounds_toArray, List.set_cons_zero, List.set_cons_succ]
          rw [← hWA]
          clear hWA
          refine wpAnyH_ready (rs := [4]) (by kernel_rfl) (by simp) ?_
          refine AllReadyH.cons (o := { dst := Option.some 67, op := Go.Op.load 55 (Go.Operand.tmp 66), type := 55, pos := "whatfor.go:55", after := #[{ on := 3, ground := Go.Ground.data }], guard := Option.none }) (by rfl) (fun K hK => ?_) AllReadyH.nil
          have c0 : WA.cell? ⟨hb, 0, none⟩ = some (.slice va qs.length vc) := AA.out.cell 0 _ rfl
          go_simp
          refine hK.out _ _ trivial (fun hHeld => ?_)
          clear hK K
          try simp only [Act.put, List.setIfInBounds_toArray, List.set_cons_zero, List.set_cons_succ]
          refine wpAnyH_ready (rs := [7]) (by kernel_rfl) (by simp) ?_
          refine AllReadyH.cons (o := { dst := Option.some 70, op := Go.Op.call { callee := Go.Callee.builtin Go.Builtin.append, args := #[Go.Operand.tmp 67, Go.Operand.tmp 69], argTypes := #[55, 55] }, type := 55, pos := "whatfor.go:55", after := #[{ on := 4, ground := Go.Ground.data }, { on := 6, ground := Go.Ground.data }], guard := Option.none }) (by rfl) (fun K hK => ?_) AllReadyH.nil
          refine step_push rfl (.tmp 67) (.tmp 69) 55 rfl B 29 ii z29 25 ii.bytes Tryz.underlying55 hi29 hiz hi25 rfl hizs (by decide) (.slice va qs.length vc) qs.length (pkRow qs) rfl OA.out ⟨W6.heap.size, 0, none⟩ 1 1 (pkCells q).toList rfl (by decide) rfl (fun j u hu => by rw [plain_add, Nat.zero_add]; exact box_cells ZA.out j u (by simpa using hu)) (pk_ones q) (by have := LL.out; unfold maxLen; omega) (by have := LL.out; have : (qs.length + 1) * ii.bytes ≤ 100001 * 100000 := Nat.mul_le_mul (by omega) hibt; omega) (by have := X1.out; have := C7.out.size; have := SA.out; omega) ?_
          intro v3 w7 ho hg hne hw
          obtain ⟨x7, y8, y9, y10⟩ := FIN.out v3 w7 ho hg hw
          obtain ⟨v3a, v3n, v3c, hv3⟩ : ∃ a n c, v3 = .slice a n c := by
            rcases ho.2 with ⟨h1, _⟩ | ⟨g, cp, _, h1, _⟩
            · exact ⟨_, _, _, h1⟩
            · exact ⟨_, _, _, h1⟩
          clear ho hg hne hw
          subst hv3
          refine hK.out _ _ trivial (fun hHeld => ?_)
          clear hK K
          try simp only [Act.put, List.setIfInBounds_toArray, List.set_cons_zero, List.set_cons_succ]
          have c7 : w7.cell? ⟨hb, 0, none⟩ = some (.slice va qs.length vc) := x7.out.cell 0 _ rfl
          have f7 : w7.frozen? ⟨hb, 0, none⟩ = false := x7.out.frozen 0
          refine wpAnyH_take (i := 8) (oi := { dst := Option.some 71, op := Go.Op.nilCheck (Go.Operand.tmp 63), type := 0, pos := "whatfor.go:55", after := #[{ on := 0, ground := Go.Ground.data }, { on := 0, ground := Go.Ground.phase }, { on := 1, ground := Go.Ground.phase }, { on := 2, ground := Go.Ground.phase }, { on := 3, ground := Go.Ground.phase }, { on := 4, ground := Go.Ground.phase }, { on := 5, ground := Go.Ground.phase }, { on := 6, ground := Go.Ground.phase }, { on := 7, ground := Go.Ground.phase }], guard := Option.none }) (v := .pointer (some ⟨hb, 0, none⟩)) rfl (by kernel_rfl) (by kernel_rfl) (by kernel_rfl) (fun _ _ _ h => h) (Or.inl ⟨by kernel_rfl, by intro wq hSw; clear hSw hHeld; go_simp⟩) hHeld ?_
          simp only [Act.put, List.setIfInBounds_toArray, List.set_cons_zero, List.set_cons_succ]
          refine wpAnyH_take (i := 9) (oi := { dst := Option.some 72, op := Go.Op.fieldAddr 57 (Go.Operand.tmp 71) 0, type := 0, pos := "whatfor.go:55", after := #[{ on := 8, ground := Go.Ground.data }, { on := 0, ground := Go.Ground.phase }, { on := 1, ground := Go.Ground.phase }, { on := 2, ground := Go.Ground.phase }, { on := 3, ground := Go.Ground.phase }, { on := 4, ground := Go.Ground.phase }, { on := 5, ground := Go.Ground.phase }, { on := 6, ground := Go.Ground.phase }, { on := 7, ground := Go.Ground.phase }], guard := Option.none }) (v := .pointer (some ⟨hb, 0, none⟩)) rfl (by kernel_rfl) (by kernel_rfl) (by kernel_rfl) (fun _ _ _ h => h) (Or.inl ⟨by kernel_rfl, by intro wq hSw; clear hSw hHeld; go_simp⟩) hHeld ?_
          simp only [Act.put, List.setIfInBounds_toArray, List.set_cons_zero, List.set_cons_succ]
          refine wpAnyH_ready (rs := [10]) (by kernel_rfl) (by simp) ?_
          refine AllReadyH.cons (o := { dst := Option.none, op := Go.Op.store 55 (Go.Operand.tmp 72) (Go.Operand.tmp 70), type := 0, pos := "whatfor.go:55", after := #[{ on := 9, ground := Go.Ground.data }, { on := 7, ground := Go.Ground.data }, { on := 7, ground := Go.Ground.chain }, { on := 0, ground := Go.Ground.phase }, { on := 1, ground := Go.Ground.phase }, { on := 2, ground := Go.Ground.phase }, { on := 3, ground := Go.Ground.phase }, { on := 4, ground := Go.Ground.phase }, { on := 5, ground := Go.Ground.phase }, { on := 6, ground := Go.Ground.phase }, { on := 7, ground := Go.Ground.phase }], guard := Option.none }) (by rfl) (fun K hK => ?_) AllReadyH.nil
          go_simp
          refine hK.out _ _ trivial (fun hHeld => ?_)
          clear hK K
          try simp only [Act.put, List.setIfInBounds_toArray, List.set_cons_zero, List.set_cons_succ]
          refine wpAnyH_done (by kernel_rfl) ?_ _
          clear c0 c7 f7
          go_wp2_with fail
          go_roundg (gk - 1)
          all_goals first | (have := NX.out; omega) | exact ⟨m' - 1, tt + k, t3, L1 ++ [(p, c)], L3, rf1, _, 0, 0, rfl, NX.out.1, y8, y9, y10, ⟨NX.out.2.1, NX.out.2.2.1, by have := NX.out; omega, by have := NX.out; omega, by have := NX.out; omega⟩⟩
end Go.Proofs.YtibihbclijpkjaaGreatDoor
namespace Go.Proofs.YtibihbclijpkjaaGreatDoor
open Go Go.RowKit
open Pkt (Pk Cn Sl In By Is Ss As pkCells Gd KindsAt Small)
set_option linter.unusedSimpArgs false
set_option linter.unusedVariables false

end Go.Proofs.YtibihbclijpkjaaGreatDoor
