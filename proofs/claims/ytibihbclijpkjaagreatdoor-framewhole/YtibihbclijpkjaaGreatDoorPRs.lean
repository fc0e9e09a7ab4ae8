import Derived.Test.YtibihbclijpkjaaGreatDoorFdo
import Derived.Laws.Tables
import Derived.Laws.CopyRow
import Derived.Laws.CopyOwn
import Derived.Deep.WholeRow
import Derived.Test.YtibihbclijpkjaaGreatDoorPWm
import Derived.Deep.LoopGhost
namespace Go.Proofs.YtibihbclijpkjaaGreatDoor
open Go Go.RowKit
open Pkt (Pk Cn Sl In By Is Ss As pkCells Gd KindsAt form isK isKind_any Small ck TT sumN Tx wpList_load_wanted)
set_option linter.unusedSimpArgs false
set_option linter.unusedVariables false

theorem results_row_tmp {P : Program} {fn : Func} {p u : Tmp} {ty : TypeId} (h : fn.results = #[.cell p ty, .tmp u]) (tmps : Array Value) (w : World) (g : Nat) (t : TypeId) (cs : Array Value) (fr : Nat × Nat) (d : TypeDesc)
    (hp : tmps.getD p undef = .pointer (some ⟨g, 0, none⟩)) (hg : w.heap[g]? = some (.cells cs t fr))
    (hu : P.underlying ty = some d) (hd : (match d with | .struct _ | .array _ _ => true | _ => false) = true) (hi : (P.info? ty).map (·.size) = some cs.size) :
    (results fn tmps).run P w = .ok (.tuple #[.agg cs, tmps.getD u undef]) w := by
  have hp' : tmps[p]?.getD undef = .pointer (some ⟨g, 0, none⟩) := by simpa using hp
  simp [results, h, hp', asAddr, run_loadVar_row w g t ty cs fr d hg hu hd hi]
theorem wpList_build_to {ops : Array Oper} {rest : List Oper} {o : Oper} {a : Act} {w : World} {Q : Exit → Act → World → Prop} (hg : o.guard = none) (t : TypeId) (parts : Array (Nat × Operand)) (ho : o.op = .build t parts) (cells : Array Value)
    (hf : Tryz.prog.built t (parts.map fun (i, x) => (i, a.eval x)).toList = some cells) (h : wpList Tryz.prog ops Q rest (a.put o.dst (.agg cells)) w) : wpList Tryz.prog ops Q (o :: rest) a w :=
  wpList_build hg t parts ho (by rw [hf]; rfl) (by rw [hf]; exact h)
theorem built_blank (k : Int) : Tryz.prog.built 29 [(0, .int .i64 k)] = some (pkCells (blank k)) := by kernel_rfl
theorem built_zero : Tryz.prog.built 29 [] = some (pkCells (blank 0)) := by kernel_rfl
theorem pk_one (p : Pk) : (pkCells p).all (·.oneCell') = true := by simp [pkCells, Value.oneCell']
theorem pk_size (p : Pk) : (pkCells p).size = 25 := rfl
theorem pk_info : (Tryz.prog.info? 29).map (·.size) = some 25 := by kernel_rfl
/-- Nothing in any list. -/
def noCn : Cn := ⟨fun _ => 0, fun _ => 0, fun _ => 0, fun _ => ⟨#[]⟩, fun _ => 0, fun _ => 0, fun _ => ⟨#[]⟩⟩
theorem in_blank (w : World) (k : Int) : In w (blank k) noCn := ⟨⟨Nat.le_refl _, fun _ => by simp [noCn], .inl rfl⟩, ⟨Nat.le_refl _, fun _ => by simp [noCn], .inl rfl⟩, ⟨Nat.le_refl _, fun _ => by simp [noCn], .inl rfl⟩, ⟨Nat.le_refl _, .inl rfl⟩, ⟨Nat.le_refl _, .inl rfl⟩, ⟨Nat.le_refl _, .inl rfl⟩⟩
def packP (z : Nat → Int) (n h : Nat) : Except (Int × Int) (Pk × Cn) :=
  match intoP z n ⟨h, 0, 0⟩ (z 0 / 16) noCn (z 0 % 16) with
  | .error x => .error x
  | .ok y => if ck TT y.2.1 y.2.2 = 0 then .ok (y.2.1, y.2.2) else .error (0, (ck TT y.2.1 y.2.2 : Int))
def PackIs (w w' : World) (e : Ending) : Except (Int × Int) (Pk × Cn) → Prop
  | .error x => (∃ gg, e = .returned (.tuple #[.agg (pkCells (blank 0)), .iface 78 (.pointer (some ⟨gg, 0, none⟩))]) ∧ w'.heap[gg]? = some (.cells #[.int .i64 x.1, .int .i64 x.2] 81 (0, 0))) ∧ Below w.heap.size w w'
  | .ok y => (∃ q : Pk, e = .returned (.tuple #[.agg (pkCells q), .nilIface]) ∧ In w' q y.2 ∧ Alike q y.1 ∧ NxAll w.heap.size q) ∧ Below w.heap.size w w'
theorem rByte_first {z : Nat → Int} {n k : Nat} (h : k < n) : rByte z n ⟨k, 0, 0⟩ = (z k, ⟨k + 1, 0, 0⟩) := by
  unfold rByte
  rw [if_neg (by simp), if_neg (by show ¬ n < k + 1; omega)]
  rfl
/-- Behind the reading: old memory is as it was. -/
theorem fr2_below {w W4 w5 : World} {rb pb : Nat} (hb : Below w.heap.size w W4) (hf : Fr2 W4 w5 rb pb) (h1 : w.heap.size ≤ rb) (h2 : w.heap.size ≤ pb) : Below w.heap.size w w5 :=
  ⟨hf.os.trans hb.os, hf.tape.trans hb.tape, hf.output.trans hb.output, Nat.le_trans hb.size hf.size, fun k hk => (hf.block k (Nat.lt_of_lt_of_le hk hb.size) (by omega) (by omega)).trans (hb.block k hk)⟩
set_option maxRecDepth 100000 in
set_option maxHeartbeats 4000000 in
theorem packet_any (gb off n cpb h : Nat) (z : Nat → Int) (w : World) (hc : Came w (some ⟨gb, off, none⟩) n cpb z) (hn : n ≤ 700000) (h1 : 1 ≤ h) (hh : h ≤ n) (hk : 1 ≤ z 0 / 16 ∧ z 0 / 16 ≤ 14) (hg : Gd w) :
    Calls Tryz.prog 45 #[.slice (some ⟨gb, off, none⟩) n cpb, .int .i64 h] w fun e w' => PackIs w w' e (packP z n h) := by
  obtain ⟨R, hR⟩ : ∃ R, R = packP z n h := ⟨_, rfl⟩
  rw [← hR]
  have HR : Hid (R = packP z n h) := hR
  have HC : Hid (Came w (some ⟨gb, off, none⟩) n cpb z) := hc
  have HG : Hid (Gd w) := hg
  have HN : Hid (n ≤ 700000 ∧ 1 ≤ h ∧ h ≤ n) := ⟨hn, h1, hh⟩
  have HK : Hid (1 ≤ z 0 / 16 ∧ z 0 / 16 ≤ 14) := hk
  have c00 : Hid (w.cell? ⟨gb, off, none⟩ = some (.int .u8 (z 0))) := by
    rcases hc.2.2 with ⟨e, _⟩ | ⟨ad, e, q⟩
    · cases e
    · cases e; have q0 := q 0 (by omega); rw [plain_add, Nat.add_zero] at q0; exact q0
  have hz := hc.2.1 0
  have HZ : Hid (0 ≤ z 0 ∧ z 0 ≤ 255) := hz
  clear hc hg hk hR hz hn
  obtain ⟨W1, hW1⟩ : ∃ W, W = w.alloc (.cells (pkCells (blank 0)) 29) := ⟨_, rfl⟩
  have B1 : Hid (Below w.heap.size w W1) := by show Below _ _ _; rw [hW1]; exact (Below.refl _ _).alloc (Nat.le_refl _) _
  have RZ : Hid (W1.heap[w.heap.size]? = some (.cells (pkCells (blank 0)) 29 (0, 0))) := by show _ = _; rw [hW1]; exact heap_alloc_new w _
  have S1 : Hid (W1.heap.size = w.heap.size + 1) := by show _ = _; rw [hW1]; simp
  go_enter Tryz.func45, Tryz.ntmps45
  go_upto_region 1 with fail
  have eW : w.alloc (.cells #[.int .i64 0, .int .i64 0, .bool false, .int .i64 0, .string ⟨#[]⟩, .bool false, .string ⟨#[]⟩, .slice none 0 0, .int .i64 0, .bool false, .bool false, .string ⟨#[]⟩, .bool false, .slice none 0 0, .bool false, .int .i64 0, .bool false, .string ⟨#[]⟩, .slice none 0 0, .int .i64 0, .bool false, .int .i64 0, .slice none 0 0, .slice none 0 0, .slice none 0 0] 29) = W1 := hW1.symm
  rw [eW]
  clear eW hW1
  go_wp2_with fail
  go_must (go_at_call 73)
  refine (read_some ⟨gb, off, none⟩ n cpb z W1 (came_below (B := 0) HC.out B1.out) (by have := HN.out; omega)).mono ?_
  rintro e w2 ⟨rb, g, cp, rfl, hRd, hOwn, hgr, hcp, hg1, hrb1, hb2⟩
  have R2 : Hid (Rdr w2 rb g n cp z ⟨0, 0, 0⟩) := ⟨hRd, ⟨hOwn, hcp, HN.out.1, hgr⟩, Nat.zero_le _⟩
  have L2 : Hid (w.heap.size + 1 ≤ g ∧ w.heap.size + 1 ≤ rb) := by have := S1.out; exact ⟨by omega, by omega⟩
  have B2 : Hid (Below w.heap.size w w2) := B1.out.trans (hb2.mono (by have := S1.out; omega))
  have Z2 : Hid (w2.heap[w.heap.size]? = some (.cells (pkCells (blank 0)) 29 (0, 0))) := (hb2.block _ (lt_of_block RZ.out)).trans RZ.out
  clear hRd hOwn hgr hcp hg1 hrb1 hb2 RZ B1 S1
  obtain ⟨W3, hW3⟩ : ∃ W, W = w2.alloc (.cells #[.pointer (some ⟨rb, 0, none⟩), .int .i64 n] 110) := ⟨_, rfl⟩
  have bb3 : Below w2.heap.size w2 W3 := by rw [hW3]; exact (Below.refl _ _).alloc (Nat.le_refl _) _
  have R3 : Hid (Rdr W3 rb g n cp z ⟨0, 0, 0⟩) := R2.out.below bb3
  have B3 : Hid (Below w.heap.size w W3) := B2.out.trans (bb3.mono B2.out.size)
  have Z3 : Hid (W3.heap[w.heap.size]? = some (.cells (pkCells (blank 0)) 29 (0, 0))) := (bb3.block _ (lt_of_block Z2.out)).trans Z2.out
  have X3 : Hid (W3.heap[w2.heap.size]? = some (.cells #[.pointer (some ⟨rb, 0, none⟩), .int .i64 n] 110 (0, 0))) := by show _ = _; rw [hW3]; exact heap_alloc_new w2 _
  have L3 : Hid (rb < w2.heap.size ∧ w.heap.size < w2.heap.size ∧ W3.heap.size = w2.heap.size + 1) := ⟨lt_of_block R2.out.rd, lt_of_block Z2.out, by rw [hW3]; simp⟩
  clear bb3
  go_upto_region 2 with fail
  rw [← hW3]
  clear hW3 R2 B2 Z2
  go_wp2_with fail
  go_loopg [18] h (fun gg s18 wx => ∃ k : Nat, s18 = .int .i64 k ∧ k + gg = h ∧ Hid (Rdr wx rb g n cp z ⟨k, 0, 0⟩) ∧ Hid (W3.grownBy wx (some rb)))
  case atStart => exact ⟨0, rfl, by omega, R3.out, gb_refl _ _⟩
  case round =>
    obtain ⟨k, rfl, hkg, R4, G4⟩ := hrel
    have bx : wr.cell? ⟨w2.heap.size, 0, none⟩ = some (.pointer (some ⟨rb, 0, none⟩)) := G4.out.cell (by simp [World.cell?, X3.out]) (by have := L3.out; simp; omega)
    by_cases hkh : k < h
    · obtain ⟨gg, rfl⟩ : ∃ gg, gk = gg + 1 := ⟨gk - 1, by omega⟩
      go_wp2_with fail
      go_must (go_at_call 74)
      clear bx
      refine (byte_any R4.out).mono ?_
      rw [rByte_first (by have := HN.out; omega)]
      rintro e w4 ⟨rfl, hr, hg⟩
      have R5 : Hid (Rdr w4 rb g n cp z ⟨k + 1, 0, 0⟩) := hr
      have G5 : Hid (W3.grownBy w4 (some rb)) := gb_trans G4.out hg
      have HJ : Hid (k + 1 + gg = h) := by show _ = _; omega
      have kb : (k : Int) ≤ 700000 := by have := HN.out; omega
      clear hr hg
      go_wp2
      go_roundg gg
      case measure => omega
      case rel => exact ⟨k + 1, by simp, HJ.out, R5.out, G5.out⟩
    · have hk' : k = h := by omega
      subst hk'
      clear hkh bx R3
      have cb : wr.cell? ⟨gb, off, none⟩ = some (.int .u8 (z 0)) := G4.out.cell (cell_later B3.out c00.out) (by have := World.block_lt_of_cell? _ _ c00.out; have := L2.out; simp at *; omega)
      have n0 : (0 : Int) < n := by have := HN.out; omega
      go_wp2_with fail
      go_must (go_at_call 75)
      refine (split_any (z 0) HZ.out wr).mono ?_
      rintro e w' ⟨rfl, hee⟩
      obtain rfl := hee.symm
      clear hee cb n0
      obtain ⟨kd, hkd⟩ : ∃ x, x = z 0 / 16 := ⟨_, rfl⟩
      obtain ⟨fl, hfl⟩ : ∃ x, x = z 0 % 16 := ⟨_, rfl⟩
      rw [← hkd] at HK
      have HP : Hid (R = match intoP z n ⟨k, 0, 0⟩ kd noCn fl with | .error x => .error x | .ok y => if ck TT y.2.1 y.2.2 = 0 then .ok (y.2.1, y.2.2) else .error (0, (ck TT y.2.1 y.2.2 : Int))) := by show _ = _; rw [HR.out, packP, ← hkd, ← hfl]
      rw [← hkd, ← hfl]
      clear hkd hfl HR
      obtain ⟨W4, hW4⟩ : ∃ W, W = wr.alloc (.cells (pkCells (blank kd)) 29) := ⟨_, rfl⟩
      go_upto_region 8 with (first | (refine wpList_build_to rfl 29 _ rfl (pkCells (blank kd)) (built_blank kd) ?_) | (refine wpList_store_row rfl 29 _ _ rfl wr.heap.size (pkCells (blank kd)) rfl rfl 29 _ (heap_alloc_new wr _) pk_info rfl (pk_one _) ?_))
      rw [World.setRow_alloc_new, ← hW4]
      have bb4 : Below wr.heap.size wr W4 := by rw [hW4]; exact (Below.refl _ _).alloc (Nat.le_refl _) _
      have L4 : Hid (W3.heap.size ≤ wr.heap.size ∧ W4.heap.size = wr.heap.size + 1) := ⟨G4.out.size, by rw [hW4]; simp⟩
      have C4 : Hid (Cs W4 W4 rb g n cp wr.heap.size z ⟨k, 0, 0⟩ (blank kd) noCn) := by
        have a1 := L3.out
        have a2 := L4.out
        have a3 := World.block_lt_of_cell? _ _ (R4.out.rb.own.2 0 (by have := HN.out; omega))
        simp only at a3
        exact ⟨R4.out.below bb4, by rw [hW4]; exact heap_alloc_new wr _, lt_of_block (R4.out.below bb4).rd, by omega, by omega, by omega, in_blank _ _, nx_blank _ _, rfl, rfl, rfl, Nat.le_refl _, fun _ _ _ _ => rfl⟩
      have Z4 : Hid (W4.heap[w.heap.size]? = some (.cells (pkCells (blank 0)) 29 (0, 0))) := (bb4.block _ (by have := L3.out; have := L4.out; omega)).trans ((G4.out.block _ (lt_of_block Z3.out) (by have := L2.out; simp; omega)).trans Z3.out)
      have X4 : Hid (W4.heap[w2.heap.size]? = some (.cells #[.pointer (some ⟨rb, 0, none⟩), .int .i64 n] 110 (0, 0))) := (bb4.block _ (by have := L3.out; have := L4.out; omega)).trans ((G4.out.block _ (lt_of_block X3.out) (by have := L3.out; simp; omega)).trans X3.out)
      have B4 : Hid (Below w.heap.size w W4) := by
        have q : Below w.heap.size w wr := B3.out.grown G4.out B3.out.size (by intro q hq; cases hq; have := L2.out; omega)
        exact q.trans (bb4.mono q.size)
      have b0 : W4.cell? ⟨w2.heap.size, 0, none⟩ = some (.pointer (some ⟨rb, 0, none⟩)) := by simp [World.cell?, X4.out]
      have b1 : W4.cell? ⟨w2.heap.size, 1, none⟩ = some (.int .i64 n) := by simp [World.cell?, X4.out]
      clear bb4 hW4 R4 G4 B3 Z3 X3
      go_wp2_with fail
      go_must (go_at_call 76)
      clear b0 b1
      refine (into_any fl kd HK.out C4.out).mono ?_
      rintro e w5 hO
      obtain ⟨I, hI⟩ : ∃ I, I = intoP z n ⟨k, 0, 0⟩ kd noCn fl := ⟨_, rfl⟩
      rw [← hI] at hO HP
      cases I with
      | error x =>
        obtain ⟨⟨gg, rfl, hgg⟩, hF⟩ := hO
        have HR2 : Hid (R = .error x) := HP.out
        have Z5 : Hid (w5.heap[w.heap.size]? = some (.cells (pkCells (blank 0)) 29 (0, 0))) := (hF.block _ (lt_of_block Z4.out) (by have := L2.out; omega) (by have := L3.out; have := L4.out; omega)).trans Z4.out
        have B5 : Hid (Below w.heap.size w w5) := fr2_below B4.out hF (by have := L2.out; omega) (by have := L3.out; have := L4.out; omega)
        have E5 : Hid (w5.heap[gg]? = some (.cells #[.int .i64 x.1, .int .i64 x.2] 81 (0, 0))) := hgg
        clear hgg hF HP hI
        go_wp2_with (first | (refine wpList_build_to rfl 29 _ rfl (pkCells (blank 0)) built_zero ?_) | (refine wpList_store_row rfl 29 _ _ rfl w.heap.size (pkCells (blank 0)) rfl rfl 29 (pkCells (blank 0)) Z5.out pk_info rfl (pk_one _) ?_))
        rw [setRow_self w5 w.heap.size _ 29 (0, 0) Z5.out]
        refine bodyPost_ret (results_row_tmp rfl _ _ w.heap.size 29 (pkCells (blank 0)) (0, 0) _ rfl Z5.out Tryz.underlying29 rfl pk_info) rfl ?_
        rw [HR2.out]
        exact ⟨⟨gg, rfl, E5.out⟩, B5.out⟩
      | ok y =>
        obtain ⟨rfl, q, hq, ha⟩ := hO
        have SM : Small q y.2.2 := small_alike ha (into_small HN.out.1 HN.out.2.2 hI.symm)
        have hck : ck TT q y.2.2 = ck TT y.2.1 y.2.2 := ck_alike ha TT _
        have B5 : Hid (Below w.heap.size w w5) := fr2_below B4.out hq.fr (by have := L2.out; omega) (by have := L3.out; have := L4.out; omega)
        have Z5 : Hid (w5.heap[w.heap.size]? = some (.cells (pkCells (blank 0)) 29 (0, 0))) := (hq.block _ (lt_of_block Z4.out) (by have := L2.out; omega) (by have := L3.out; have := L4.out; omega)).trans Z4.out
        have C5 : Hid (Cs W4 w5 rb g n cp wr.heap.size z y.1 q y.2.2) := hq
        have AL : Hid (Alike q y.2.1) := ha
        have CH := Pkt.check_any q y.2.2 w5 (HG.out.below B5.out) hq.inn SM
        rw [hck] at CH
        obtain ⟨cd, hcd⟩ : ∃ cd, cd = ck TT y.2.1 y.2.2 := ⟨_, rfl⟩
        rw [← hcd] at CH
        have HR2 : Hid (R = if cd = 0 then .ok (y.2.1, y.2.2) else .error (0, (cd : Int))) := by have q := HP.out; simp only at q; show _ = _; rw [q, hcd]
        have HH : Hid (Calls Tryz.prog 10 #[.agg (pkCells q)] w5 fun e w' => e = .returned (.int .i64 (cd : Int)) ∧ Below w5.heap.size w5 w') := CH
        clear CH hck SM hq ha hcd HP hI
        go_wp2_with (first | (refine wpList_load_wanted rfl _ rfl wr.heap.size rfl _ (0, 0) C5.out.pk (pk_size _) ?_) | fail)
        go_must (go_at_call 10)
        refine HH.out.mono ?_
        rintro e w6 ⟨rfl, hb6⟩
        have B6 : Hid (Below w.heap.size w w6) := B5.out.trans (hb6.mono B5.out.size)
        have Z6 : Hid (w6.heap[w.heap.size]? = some (.cells (pkCells (blank 0)) 29 (0, 0))) := (hb6.block _ (lt_of_block Z5.out)).trans Z5.out
        have P6 : Hid (w6.heap[wr.heap.size]? = some (.cells (pkCells q) 29 (0, 0))) := (hb6.block _ (lt_of_block C5.out.pk)).trans C5.out.pk
        have I6 : Hid (In w6 q y.2.2) := C5.out.inn.below hb6
        have NX : Hid (NxAll W4.heap.size q) := C5.out.nx
        clear hb6 HH
        by_cases h0 : cd = 0
        · have HR3 : Hid (R = .ok (y.2.1, y.2.2)) := by show _ = _; rw [HR2.out, if_pos h0]
          have h0' : ((cd : Int) != 0) = false := by simp [h0]
          clear h0
          go_wp2_with (first | (refine wpList_load_wanted rfl _ rfl wr.heap.size rfl _ (0, 0) P6.out (pk_size _) ?_) | (refine wpList_store_row rfl 29 _ _ rfl w.heap.size (pkCells q) rfl rfl 29 (pkCells (blank 0)) Z6.out pk_info rfl (pk_one _) ?_))
          refine bodyPost_ret (results_row_tmp rfl _ _ w.heap.size 29 (pkCells q) (0, 0) _ rfl (setRow_heap w6 w.heap.size _ _ 29 (0, 0) Z6.out) Tryz.underlying29 rfl pk_info) rfl ?_
          rw [HR3.out]
          have x := NX.out
          have lw : w.heap.size ≤ W4.heap.size := by have := L3.out; have := L4.out; omega
          refine ⟨⟨q, rfl, In.keep I6.out NX.out (fun a v hav hb => ?_), AL.out, ⟨x.wP.lower lw, x.pass.lower lw, x.mP.lower lw, x.asks.lower lw, x.codes.lower lw, x.filters.lower lw⟩⟩, below_setRow B6.out (Nat.le_refl _) _⟩
          rw [cell_setRow_other _ _ _ _ (by have := L3.out; have := L4.out; omega)]
          exact hav
        · have HR3 : Hid (R = .error (0, (cd : Int))) := by show _ = _; rw [HR2.out, if_neg h0]
          have h0' : ((cd : Int) != 0) = true := by simp [h0]
          clear h0
          go_wp2_with (first | (refine wpList_build_to rfl 29 _ rfl (pkCells (blank 0)) built_zero ?_) | fail)
          go_must (go_at_call 72)
          refine (fault_any _ _ _).mono ?_
          rintro e w7 ⟨⟨gg, rfl, hgg⟩, hb7⟩
          have B7 : Hid (Below w.heap.size w w7) := B6.out.trans (hb7.mono B6.out.size)
          have Z7 : Hid (w7.heap[w.heap.size]? = some (.cells (pkCells (blank 0)) 29 (0, 0))) := (hb7.block _ (lt_of_block Z6.out)).trans Z6.out
          have E7 : Hid (w7.heap[gg]? = some (.cells #[.int .i64 0, .int .i64 (cd : Int)] 81 (0, 0))) := hgg
          clear hgg hb7
          go_wp2_with (first | (refine wpList_store_row rfl 29 _ _ rfl w.heap.size (pkCells (blank 0)) rfl rfl 29 (pkCells (blank 0)) Z7.out pk_info rfl (pk_one _) ?_))
          rw [setRow_self w7 w.heap.size _ 29 (0, 0) Z7.out]
          refine bodyPost_ret (results_row_tmp rfl _ _ w.heap.size 29 (pkCells (blank 0)) (0, 0) _ rfl Z7.out Tryz.underlying29 rfl pk_info) rfl ?_
          rw [HR3.out]
          exact ⟨⟨gg, rfl, E7.out⟩, B7.out⟩
end Go.Proofs.YtibihbclijpkjaaGreatDoor
namespace Go.Proofs.YtibihbclijpkjaaGreatDoor
open Go Go.RowKit
open Pkt (Pk Cn Sl In By Is Ss As pkCells Gd KindsAt form isK isKind_any Small ck TT sumN Tx wpList_load_wanted)
set_option linter.unusedSimpArgs false
set_option linter.unusedVariables false

theorem results_row_tmp2 {P : Program} {fn : Func} {p u v : Tmp} {ty : TypeId} (h : fn.results = #[.cell p ty, .tmp u, .tmp v]) (tmps : Array Value) (w : World) (g : Nat) (t : TypeId) (cs : Array Value) (fr : Nat × Nat) (d : TypeDesc)
    (hp : tmps.getD p undef = .pointer (some ⟨g, 0, none⟩)) (hg : w.heap[g]? = some (.cells cs t fr))
    (hu : P.underlying ty = some d) (hd : (match d with | .struct _ | .array _ _ => true | _ => false) = true) (hi : (P.info? ty).map (·.size) = some cs.size) :
    (results fn tmps).run P w = .ok (.tuple #[.agg cs, tmps.getD u undef, tmps.getD v undef]) w := by
  have hp' : tmps[p]?.getD undef = .pointer (some ⟨g, 0, none⟩) := by simpa using hp
  simp [results, h, hp', asAddr, run_loadVar_row w g t ty cs fr d hg hu hd hi]
theorem lenF_out (z : Nat → Int) (n : Nat) (most : Int) (hz : ∀ i, 0 ≤ z i ∧ z i ≤ 255) (f k : Nat) (acc hd l : Int) (ha : 0 ≤ acc) (h : lenF z n most f k acc = (hd, l, none)) (h0 : hd ≠ 0) : ∃ j : Nat, hd = ((j + 1 : Nat) : Int) ∧ k ≤ j ∧ 0 ≤ l ∧ j + 1 ≤ k + f := by
  induction f generalizing k acc with
  | zero => cases h
  | succ f ih =>
    unfold lenF at h
    have hp : (0 : Int) ≤ z k % 128 * 128 ^ (k - 1) := Int.mul_nonneg (by omega) (Int.pow_nonneg (by decide))
    split at h
    · cases h; exact absurd rfl h0
    split at h
    · split at h
      · cases h
      · cases h; exact ⟨k, rfl, Nat.le_refl _, by omega, by omega⟩
    · obtain ⟨j, a, b, c, d⟩ := ih (k + 1) _ (by omega) h
      exact ⟨j, a, by omega, c, by omega⟩
theorem firstP_kind {b : Int} (h : firstP b = 0) : 1 ≤ b / 16 ∧ b / 16 ≤ 14 := by
  unfold firstP at h
  split at h
  · cases h
  · omega
theorem headP_out (z : Nat → Int) (n : Nat) (most : Int) (hz : ∀ i, 0 ≤ z i ∧ z i ≤ 255) (hd l : Int) (h : headP z n most = (hd, l, none)) (h0 : hd ≠ 0) : ∃ j : Nat, hd = ((j + 1 : Nat) : Int) ∧ 1 ≤ j ∧ 0 ≤ l ∧ j ≤ 4 ∧ 1 ≤ z 0 / 16 ∧ z 0 / 16 ≤ 14 := by
  unfold headP at h
  split at h
  · cases h; exact absurd rfl h0
  split at h
  · cases h
  · rename_i hf
    obtain ⟨j, a, b, c, d⟩ := lenF_out z n most hz 4 1 0 hd l (by omega) h h0
    have q := firstP_kind (b := z 0) (by simpa using hf)
    exact ⟨j, a, b, c, by omega, q⟩
/-- What Decode tells. -/
inductive DecR where
  | fault (x : Int × Int)
  | more
  | ok (p : Pk) (c : Cn) (n : Nat)
def decH (z : Nat → Int) (n : Nat) (H : Int × Int × Option (Int × Int)) : DecR :=
  match H.2.2 with
  | some x => .fault x
  | none => if H.1 = 0 ∨ (n : Int) - H.1 < H.2.1 then .more else match packP z (H.1 + H.2.1).toNat H.1.toNat with
    | .error x => .fault x
    | .ok y => .ok y.1 y.2 (H.1 + H.2.1).toNat
def clampM (most : Int) : Int := min (max most 2) 268435455
def decP (z : Nat → Int) (n : Nat) (most : Int) : DecR := decH z n (headP z n (clampM most))
def DecIs (w w' : World) (e : Ending) : DecR → Prop
  | .fault x => (∃ gg, e = .returned (.tuple #[.agg (pkCells (blank 0)), .int .i64 0, .iface 78 (.pointer (some ⟨gg, 0, none⟩))]) ∧ w'.heap[gg]? = some (.cells #[.int .i64 x.1, .int .i64 x.2] 81 (0, 0))) ∧ Below w.heap.size w w'
  | .more => e = .returned (.tuple #[.agg (pkCells (blank 0)), .int .i64 0, .nilIface]) ∧ Below w.heap.size w w'
  | .ok p c n => (∃ q : Pk, e = .returned (.tuple #[.agg (pkCells q), .int .i64 n, .nilIface]) ∧ In w' q c ∧ Alike q p ∧ NxAll w.heap.size q) ∧ Below w.heap.size w w'
set_option maxRecDepth 100000 in
set_option maxHeartbeats 4000000 in
theorem decode_any (gb off n cpb : Nat) (z : Nat → Int) (most : Int) (w : World) (hc : Came w (some ⟨gb, off, none⟩) n cpb z) (hn : n ≤ 700000) (hg : Gd w) :
    Calls Tryz.prog 14 #[.slice (some ⟨gb, off, none⟩) n cpb, .int .i64 most] w fun e w' => DecIs w w' e (decP z n most) := by
  obtain ⟨R, hR⟩ : ∃ R, R = decP z n most := ⟨_, rfl⟩
  rw [← hR]
  obtain ⟨W1, hW1⟩ : ∃ W, W = w.alloc (.cells (pkCells (blank 0)) 29) := ⟨_, rfl⟩
  have B1 : Hid (Below w.heap.size w W1) := by show Below _ _ _; rw [hW1]; exact (Below.refl _ _).alloc (Nat.le_refl _) _
  have Z1 : Hid (W1.heap[w.heap.size]? = some (.cells (pkCells (blank 0)) 29 (0, 0))) := by show _ = _; rw [hW1]; exact heap_alloc_new w _
  have S1 : Hid (W1.heap.size = w.heap.size + 1) := by show _ = _; rw [hW1]; simp
  obtain ⟨H, hH⟩ : ∃ H, H = headP z n (clampM most) := ⟨_, rfl⟩
  have HZ : Hid (∀ i, 0 ≤ z i ∧ z i ≤ 255) := hc.2.1
  have HC : Hid (Came w (some ⟨gb, off, none⟩) n cpb z) := hc
  have HCP : Hid (n ≤ cpb) := hc.1
  have HG : Hid (Gd w) := hg
  have HN : Hid (n ≤ 700000) := hn
  have T : Hid (Calls Tryz.prog 44 #[.slice (some ⟨gb, off, none⟩) n cpb, .int .i64 (min (max most 2) 268435455)] W1 fun e w' => HeadIs w' e H ∧ Below W1.heap.size W1 w') := by
    rw [hH]
    refine head_any gb off n cpb z (clampM most) W1 (fun j hj => ?_) hc.2.1 (by omega) (hg.below B1.out)
    rcases hc.2.2 with ⟨e, _⟩ | ⟨ad, e, q⟩
    · cases e
    · cases e
      have q2 := q j hj
      rw [plain_add] at q2
      exact cell_later B1.out q2
  have HR : Hid (R = decH z n H) := by show _ = _; rw [hR, decP, hH]
  have HO : Hid (∀ hd l, H = (hd, l, none) → hd ≠ 0 → ∃ j : Nat, hd = ((j + 1 : Nat) : Int) ∧ 1 ≤ j ∧ 0 ≤ l ∧ j ≤ 4 ∧ 1 ≤ z 0 / 16 ∧ z 0 / 16 ≤ 14) := fun hd l e h0 => headP_out z n (clampM most) hc.2.1 hd l (by rw [← hH]; exact e) h0
  clear hR hH hc hg hn
  obtain ⟨hd, l, o⟩ := H
  go_enter Tryz.func14, Tryz.ntmps14
  go_upto_region 1 with fail
  have eW : w.alloc (.cells #[.int .i64 0, .int .i64 0, .bool false, .int .i64 0, .string ⟨#[]⟩, .bool false, .string ⟨#[]⟩, .slice none 0 0, .int .i64 0, .bool false, .bool false, .string ⟨#[]⟩, .bool false, .slice none 0 0, .bool false, .int .i64 0, .bool false, .string ⟨#[]⟩, .slice none 0 0, .int .i64 0, .bool false, .int .i64 0, .slice none 0 0, .slice none 0 0, .slice none 0 0] 29) = W1 := hW1.symm
  rw [eW]
  clear eW hW1
  go_wp2_with fail
  go_must (go_at_call 44)
  refine T.out.mono ?_
  clear T
  cases o with
  | some x =>
    have HV : Hid (R = .fault x) := HR.out
    rintro e w2 ⟨⟨gg, rfl, hgg⟩, hb2⟩
    have B2 : Hid (Below w.heap.size w w2) := B1.out.trans (hb2.mono B1.out.size)
    have Z2 : Hid (w2.heap[w.heap.size]? = some (.cells (pkCells (blank 0)) 29 (0, 0))) := (hb2.block _ (lt_of_block Z1.out)).trans Z1.out
    have E2 : Hid (w2.heap[gg]? = some (.cells #[.int .i64 x.1, .int .i64 x.2] 81 (0, 0))) := hgg
    clear hgg hb2
    go_wp2_with (first | (refine wpList_build_to rfl 29 _ rfl (pkCells (blank 0)) built_zero ?_) | (refine wpList_store_row rfl 29 _ _ rfl w.heap.size (pkCells (blank 0)) rfl rfl 29 (pkCells (blank 0)) Z2.out pk_info rfl (pk_one _) ?_))
    rw [setRow_self w2 w.heap.size _ 29 (0, 0) Z2.out]
    refine bodyPost_ret (results_row_tmp2 rfl _ _ w.heap.size 29 (pkCells (blank 0)) (0, 0) _ rfl Z2.out Tryz.underlying29 rfl pk_info) rfl ?_
    rw [HV.out]
    exact ⟨⟨gg, rfl, E2.out⟩, B2.out⟩
  | none =>
    rintro e w2 ⟨he, hb2⟩
    obtain rfl : e = .returned (.tuple #[.int .i64 hd, .int .i64 l, .nilIface]) := he
    have B2 : Hid (Below w.heap.size w w2) := B1.out.trans (hb2.mono B1.out.size)
    have Z2 : Hid (w2.heap[w.heap.size]? = some (.cells (pkCells (blank 0)) 29 (0, 0))) := (hb2.block _ (lt_of_block Z1.out)).trans Z1.out
    have S2 : Hid (w.heap.size < w2.heap.size) := lt_of_block Z2.out
    have HR2 : Hid (R = if hd = 0 ∨ (n : Int) - hd < l then .more else match packP z (hd + l).toNat hd.toNat with | .error x => .fault x | .ok y => .ok y.1 y.2 (hd + l).toNat) := HR.out
    clear hb2 HR
    by_cases h0 : hd = 0
    · have HV : Hid (R = .more) := by show _ = _; rw [HR2.out, if_pos (.inl h0)]
      subst h0
      clear HR2
      go_wp2_with (first | (refine wpList_build_to rfl 29 _ rfl (pkCells (blank 0)) built_zero ?_) | (refine wpList_store_row rfl 29 _ _ rfl w.heap.size (pkCells (blank 0)) rfl rfl 29 (pkCells (blank 0)) Z2.out pk_info rfl (pk_one _) ?_))
      rw [setRow_self w2 w.heap.size _ 29 (0, 0) Z2.out]
      refine bodyPost_ret (results_row_tmp2 rfl _ _ w.heap.size 29 (pkCells (blank 0)) (0, 0) _ rfl Z2.out Tryz.underlying29 rfl pk_info) rfl ?_
      rw [HV.out]
      exact ⟨rfl, B2.out⟩
    obtain ⟨j, hj, hj1, hl0, hj4, hk⟩ := HO.out hd l rfl h0
    obtain ⟨a, ha⟩ : ∃ a : Nat, a = j + 1 := ⟨_, rfl⟩
    obtain ⟨L, hL⟩ : ∃ L : Nat, l = (L : Int) := ⟨l.toNat, by omega⟩
    rw [← ha] at hj
    subst hj hL
    have A1 : Hid (2 ≤ a ∧ a ≤ 5) := ⟨by omega, by omega⟩
    have ab : (a : Int) ≤ 5 := by omega
    have a0 : ((a : Int) == 0) = false := by have := A1.out; simp; omega
    have HK : Hid (1 ≤ z 0 / 16 ∧ z 0 / 16 ≤ 14) := hk
    have nb : (n : Int) ≤ 700000 := by have := HN.out; omega
    clear ha hj1 hl0 hk HO hj4 h0
    by_cases hl : (n : Int) - a < L
    · have HV : Hid (R = .more) := by show _ = _; rw [HR2.out, if_pos (.inr hl)]
      clear HR2
      go_wp2_with (first | (refine wpList_build_to rfl 29 _ rfl (pkCells (blank 0)) built_zero ?_) | (refine wpList_store_row rfl 29 _ _ rfl w.heap.size (pkCells (blank 0)) rfl rfl 29 (pkCells (blank 0)) Z2.out pk_info rfl (pk_one _) ?_))
      rw [setRow_self w2 w.heap.size _ 29 (0, 0) Z2.out]
      refine bodyPost_ret (results_row_tmp2 rfl _ _ w.heap.size 29 (pkCells (blank 0)) (0, 0) _ rfl Z2.out Tryz.underlying29 rfl pk_info) rfl ?_
      rw [HV.out]
      exact ⟨rfl, B2.out⟩
    obtain ⟨N, hN⟩ : ∃ N : Nat, ((a : Int) + (L : Int)).toNat = N := ⟨_, rfl⟩
    have NN : Hid (N = a + L ∧ N ≤ n) := ⟨by omega, by omega⟩
    have HR3 : Hid (R = match packP z N a with | .error x => .fault x | .ok y => .ok y.1 y.2 N) := by
      show _ = _
      have na : ¬ ((a : Int) = 0 ∨ (n : Int) - a < L) := by have := A1.out; omega
      rw [HR2.out, if_neg na, hN]
      rfl
    have lb : (L : Int) ≤ 700000 := by omega
    have hlb : decide ((n : Int) - a < L) = false := decide_eq_false hl
    have u0 : ¬ (a : Int) + L < 0 := by omega
    have u1 : (a : Int) + L ≤ cpb := by have := HCP.out; omega
    have u2 : ¬ (cpb : Int) < (a : Int) + L := by omega
    have PK : Hid (Calls Tryz.prog 45 #[.slice (some ⟨gb, off, none⟩) N cpb, .int .i64 a] w2 fun e w' => PackIs w2 w' e (packP z N a)) := by
      refine packet_any gb off N cpb a z w2 ?_ (by have := HN.out; have := NN.out; omega) (by have := A1.out; omega) (by have := NN.out; omega) HK.out (HG.out.below B2.out)
      have q := came_below (B := 0) HC.out B2.out
      refine ⟨by have := NN.out; have := HCP.out; omega, q.2.1, ?_⟩
      rcases q.2.2 with ⟨e, _⟩ | ⟨ad, e, c⟩
      · cases e
      · exact .inr ⟨ad, e, fun i hi => c i (by have := NN.out; omega)⟩
    obtain ⟨I, hI⟩ : ∃ I, I = packP z N a := ⟨_, rfl⟩
    rw [← hI] at PK HR3
    clear HR2 hI
    go_wp2_with fail
    go_must (go_at_call 45)
    refine PK.out.mono ?_
    clear PK
    cases I with
    | error x =>
      have HV : Hid (R = .fault x) := HR3.out
      rintro e w3 ⟨⟨gg, rfl, hgg⟩, hb3⟩
      have b4 : Below w3.heap.size w3 (w3.alloc (.cells (pkCells (blank 0)) 29)) := (Below.refl _ _).alloc (Nat.le_refl _) _
      obtain ⟨w4, hw4⟩ : ∃ W, W = w3.alloc (.cells (pkCells (blank 0)) 29) := ⟨_, rfl⟩
      rw [← hw4] at b4
      have B3 : Below w.heap.size w w3 := B2.out.trans (hb3.mono B2.out.size)
      have B4 : Hid (Below w.heap.size w w4) := B3.trans (b4.mono B3.size)
      have Z3 := (hb3.block _ (lt_of_block Z2.out)).trans Z2.out
      have Z4 : Hid (w4.heap[w.heap.size]? = some (.cells (pkCells (blank 0)) 29 (0, 0))) := (b4.block _ (lt_of_block Z3)).trans Z3
      have E4 : Hid (w4.heap[gg]? = some (.cells #[.int .i64 x.1, .int .i64 x.2] 81 (0, 0))) := (b4.block _ (lt_of_block hgg)).trans hgg
      clear hgg hb3 b4 B3 Z3
      go_upto_region 5 with (first | (refine wpList_store_row rfl 29 _ _ rfl w3.heap.size (pkCells (blank 0)) rfl rfl 29 _ (heap_alloc_new w3 _) pk_info rfl (pk_one _) ?_))
      rw [World.setRow_alloc_new, ← hw4]
      clear hw4
      go_wp2_with (first | (refine wpList_build_to rfl 29 _ rfl (pkCells (blank 0)) built_zero ?_) | (refine wpList_store_row rfl 29 _ _ rfl w.heap.size (pkCells (blank 0)) rfl rfl 29 (pkCells (blank 0)) Z4.out pk_info rfl (pk_one _) ?_))
      rw [setRow_self w4 w.heap.size _ 29 (0, 0) Z4.out]
      refine bodyPost_ret (results_row_tmp2 rfl _ _ w.heap.size 29 (pkCells (blank 0)) (0, 0) _ rfl Z4.out Tryz.underlying29 rfl pk_info) rfl ?_
      rw [HV.out]
      exact ⟨⟨gg, rfl, E4.out⟩, B4.out⟩
    | ok y =>
      have HV : Hid (R = .ok y.1 y.2 N) := HR3.out
      rintro e w3 ⟨⟨q, rfl, hin, hal, hnx⟩, hb3⟩
      obtain ⟨w4, hw4⟩ : ∃ W, W = w3.alloc (.cells (pkCells q) 29) := ⟨_, rfl⟩
      have b4 : Below w3.heap.size w3 w4 := by rw [hw4]; exact (Below.refl _ _).alloc (Nat.le_refl _) _
      have B3 : Below w.heap.size w w3 := B2.out.trans (hb3.mono B2.out.size)
      have B4 : Hid (Below w.heap.size w w4) := B3.trans (b4.mono B3.size)
      have Z3 := (hb3.block _ (lt_of_block Z2.out)).trans Z2.out
      have Z4 : Hid (w4.heap[w.heap.size]? = some (.cells (pkCells (blank 0)) 29 (0, 0))) := (b4.block _ (lt_of_block Z3)).trans Z3
      have P4 : Hid (w4.heap[w3.heap.size]? = some (.cells (pkCells q) 29 (0, 0))) := by show _ = _; rw [hw4]; exact heap_alloc_new w3 _
      have I4 : Hid (In w4 q y.2) := hin.below b4
      have AL : Hid (Alike q y.1) := hal
      have NX : Hid (NxAll w2.heap.size q) := hnx
      clear hin hal hnx hb3 b4 B3 Z3
      go_upto_region 5 with (first | (refine wpList_store_row rfl 29 _ _ rfl w3.heap.size (pkCells q) rfl rfl 29 _ (heap_alloc_new w3 _) pk_info rfl (pk_one _) ?_))
      rw [World.setRow_alloc_new, ← hw4]
      clear hw4
      go_wp2_with (first | (refine wpList_load_wanted rfl _ rfl w3.heap.size rfl _ (0, 0) P4.out (pk_size _) ?_) | (refine wpList_store_row rfl 29 _ _ rfl w.heap.size (pkCells q) rfl rfl 29 (pkCells (blank 0)) Z4.out pk_info rfl (pk_one _) ?_))
      refine bodyPost_ret (results_row_tmp2 rfl _ _ w.heap.size 29 (pkCells q) (0, 0) _ rfl (setRow_heap w4 w.heap.size _ _ 29 (0, 0) Z4.out) Tryz.underlying29 rfl pk_info) rfl ?_
      rw [HV.out]
      have x := NX.out
      have lw : w.heap.size ≤ w2.heap.size := Nat.le_of_lt S2.out
      have ea : (a : Int) + (L : Int) = (N : Int) := by have := NN.out; omega
      refine ⟨⟨q, by rw [← ea]; rfl, In.keep I4.out NX.out (fun ad v hav hb => ?_), AL.out, ⟨x.wP.lower lw, x.pass.lower lw, x.mP.lower lw, x.asks.lower lw, x.codes.lower lw, x.filters.lower lw⟩⟩, below_setRow B4.out (Nat.le_refl _) _⟩
      rw [cell_setRow_other _ _ _ _ (by have := S2.out; omega)]
      exact hav
end Go.Proofs.YtibihbclijpkjaaGreatDoor
namespace Go.Proofs.YtibihbclijpkjaaGreatDoor
open Go Go.RowKit
open Pkt (Pk Cn Sl In By Is Ss As pkCells Gd KindsAt form isK isKind_any Small ck TT sumN Tx wpList_load_wanted)
set_option linter.unusedSimpArgs false
set_option linter.unusedVariables false

/-! ### What is told of bytes, and what follows them -/
def needs : Int × Int × Option (Int × Int) := (0, 0, none)
theorem lenF_mono (z : Nat → Int) (n n' : Nat) (most : Int) (hn : n ≤ n') (f k : Nat) (acc : Int) (hk : k ≤ n) (h : lenF z n most f k acc ≠ needs) : lenF z n' most f k acc = lenF z n most f k acc := by
  induction f generalizing k acc with
  | zero => rfl
  | succ f ih =>
    unfold lenF at h ⊢
    by_cases e : k = n
    · rw [if_pos e] at h; exact absurd rfl h
    · rw [if_neg e] at h
      rw [if_neg e, if_neg (show ¬ k = n' by omega)]
      split
      · rfl
      · rename_i hz
        rw [if_neg hz] at h
        exact ih (k + 1) _ (by omega) h
theorem headP_mono (z : Nat → Int) (n n' : Nat) (most : Int) (hn : n ≤ n') (h : headP z n most ≠ needs) : headP z n' most = headP z n most := by
  unfold headP at h ⊢
  by_cases e : n = 0
  · rw [if_pos e] at h; exact absurd rfl h
  · rw [if_neg e] at h
    rw [if_neg e, if_neg (show ¬ n' = 0 by omega)]
    split
    · rfl
    · rename_i hf
      rw [if_neg hf] at h
      exact lenF_mono z n n' most hn 4 1 0 (by omega) h
theorem lenF_needs (z : Nat → Int) (n : Nat) (most : Int) (f k : Nat) (acc : Int) (hk : k ≤ n) (h : lenF z n most f k acc = needs) : n < k + f := by
  induction f generalizing k acc with
  | zero => cases h
  | succ f ih =>
    unfold lenF at h
    split at h
    · omega
    · rename_i e
      split at h
      · split at h
        · cases h
        · have : (((k + 1 : Nat) : Int)) = 0 := congrArg Prod.fst h
          omega
      · have := ih (k + 1) _ (by omega) h
        omega
theorem headP_needs (z : Nat → Int) (n : Nat) (most : Int) (h : headP z n most = needs) : n ≤ 4 := by
  unfold headP at h
  split at h
  · omega
  split at h
  · cases h
  · have := lenF_needs z n most 4 1 0 (by omega) h
    omega
theorem lenF_le (z : Nat → Int) (n : Nat) (most : Int) (f k : Nat) (acc hd l : Int) (h : lenF z n most f k acc = (hd, l, none)) (h0 : hd ≠ 0) : l ≤ most := by
  induction f generalizing k acc with
  | zero => cases h
  | succ f ih =>
    unfold lenF at h
    split at h
    · cases h; exact absurd rfl h0
    split at h
    · split at h
      · cases h
      · cases h; omega
    · exact ih (k + 1) _ h
theorem headP_le (z : Nat → Int) (n : Nat) (most hd l : Int) (h : headP z n most = (hd, l, none)) (h0 : hd ≠ 0) : l ≤ most := by
  unfold headP at h
  split at h
  · cases h; exact absurd rfl h0
  split at h
  · cases h
  · exact lenF_le z n most 4 1 0 hd l h h0
theorem head_none {z : Nat → Int} {n : Nat} {most : Int} {x : Int × Int} {hd l : Int} (h : headP z n most = (hd, l, none)) (h0 : hd = 0) : headP z n most = needs := by
  rw [h]
  subst h0
  unfold headP at h
  split at h
  · cases h; rfl
  split at h
  · cases h
  · have : l = 0 := by
      suffices g : ∀ f k acc, lenF z n most f k acc = (0, l, none) → l = 0 from g 4 1 0 h
      intro f
      induction f with
      | zero => intro k acc h; cases h
      | succ f ih =>
        intro k acc h
        unfold lenF at h
        split at h
        · cases h; rfl
        split at h
        · split at h
          · cases h
          · have : (((k + 1 : Nat) : Int)) = 0 := congrArg Prod.fst h
            omega
        · exact ih _ _ h
    rw [this]; rfl
/-- What is told is told whatever follows. -/
theorem decP_firm (z : Nat → Int) (n n' : Nat) (most : Int) (hn : n ≤ n') (h : decP z n most ≠ .more) : decP z n' most = decP z n most := by
  unfold decP at h ⊢
  have hh : headP z n (clampM most) ≠ needs := by
    intro e
    rw [e] at h
    exact h (by simp [decH, needs])
  rw [headP_mono z n n' _ hn hh]
  clear hh
  generalize headP z n (clampM most) = H at h ⊢
  obtain ⟨hd, l, o⟩ := H
  cases o with
  | some x => rfl
  | none =>
    unfold decH at h ⊢
    simp only at h ⊢
    by_cases e : hd = 0 ∨ (n : Int) - hd < l
    · rw [if_pos e] at h; exact absurd rfl h
    · rw [if_neg e, if_neg (by omega)]
theorem clampM_bd (most : Int) : 2 ≤ clampM most ∧ clampM most ≤ 268435455 := by unfold clampM; omega
/-- Where more is needed there are few bytes. -/
theorem decP_few (z : Nat → Int) (n : Nat) (most : Int) (hz : ∀ i, 0 ≤ z i ∧ z i ≤ 255) (h : decP z n most = .more) : (n : Int) < clampM most + 5 := by
  unfold decP at h
  have hb := clampM_bd most
  by_cases hh : headP z n (clampM most) = needs
  · have := headP_needs z n _ hh; omega
  · cases e : headP z n (clampM most) with
    | mk hd t =>
      obtain ⟨l, o⟩ := t
      rw [e] at h
      cases o with
      | some x => cases h
      | none =>
        by_cases h0 : hd = 0
        · exact absurd (head_none (x := (0, 0)) e h0) hh
        · have l1 := headP_le z n _ hd l e h0
          obtain ⟨j, a1, a2, a3, a4, _⟩ := headP_out z n _ hz hd l e h0
          unfold decH at h
          simp only at h
          split at h
          · omega
          · split at h <;> cases h
/-- Where more is needed it is needed of every beginning. -/
theorem decP_cut (z : Nat → Int) (n m : Nat) (most : Int) (hm : m ≤ n) (h : decP z n most = .more) : decP z m most = .more := by
  cases e : decP z m most with
  | more => rfl
  | fault x => have := decP_firm z m n most hm (by rw [e]; intro q; cases q); rw [h, e] at this; cases this
  | ok p c k => have := decP_firm z m n most hm (by rw [e]; intro q; cases q); rw [h, e] at this; cases this
end Go.Proofs.YtibihbclijpkjaaGreatDoor
namespace Go.Proofs.YtibihbclijpkjaaGreatDoor
open Go Go.RowKit
set_option linter.unusedSimpArgs false
set_option linter.unusedVariables false

theorem clamp_any (m : Int) (w : World) : Calls Tryz.prog 17 #[.int .i64 m] w fun e w' => e = .returned (.int .i64 (clampM m)) ∧ w' = w := by
  go_enter Tryz.func17, Tryz.ntmps17
  go_wp2
  go_ret
  exact ⟨rfl, rfl⟩
theorem f45_info : (Tryz.prog.info? 45).map (·.size) = some 2 := by kernel_rfl
set_option maxRecDepth 100000 in
set_option maxHeartbeats 1000000 in
theorem told_nil (w : World) : Calls Tryz.prog 18 #[.nilIface] w fun e w' => e = .returned (.tuple #[.agg #[.int .i64 0, .int .i64 0], .bool true]) ∧ Below w.heap.size w w' := by
  have B : Hid (Below w.heap.size w (w.alloc (.cells #[.int .i64 0, .int .i64 0] 45))) := (Below.refl _ _).alloc (Nat.le_refl _) _
  go_enter Tryz.func18, Tryz.ntmps18
  go_wp2
  refine bodyPost_ret (results_row_tmp rfl _ _ w.heap.size 45 #[.int .i64 0, .int .i64 0] (0, 0) _ rfl (heap_alloc_new w _) Tryz.underlying45 rfl f45_info) rfl ?_
  exact ⟨rfl, B.out⟩
set_option maxRecDepth 100000 in
set_option maxHeartbeats 1000000 in
theorem told_fault (gg : Nat) (x y : Int) (w : World) (hg : w.heap[gg]? = some (.cells #[.int .i64 x, .int .i64 y] 81 (0, 0))) (hy : y ≠ 0) :
    Calls Tryz.prog 18 #[.iface 78 (.pointer (some ⟨gg, 0, none⟩))] w fun e w' => e = .returned (.tuple #[.agg #[.int .i64 x, .int .i64 y], .bool true]) ∧ Below w.heap.size w w' := by
  obtain ⟨W1, hW1⟩ : ∃ W, W = w.alloc (.cells #[.int .i64 0, .int .i64 0] 45) := ⟨_, rfl⟩
  have B1 : Hid (Below w.heap.size w W1) := by show Below _ _ _; rw [hW1]; exact (Below.refl _ _).alloc (Nat.le_refl _) _
  have Z1 : Hid (W1.heap[w.heap.size]? = some (.cells #[.int .i64 0, .int .i64 0] 45 (0, 0))) := by show _ = _; rw [hW1]; exact heap_alloc_new w _
  have hg1 := (B1.out.block _ (lt_of_block hg)).trans hg
  have c0 : W1.cell? ⟨gg, 0, none⟩ = some (.int .i64 x) := by simp [World.cell?, hg1]
  have c1 : W1.cell? ⟨gg, 1, none⟩ = some (.int .i64 y) := by simp [World.cell?, hg1]
  have d0 : W1.cell? ⟨w.heap.size, 0, none⟩ = some (.int .i64 0) := by simp [World.cell?, Z1.out]
  have d1 : W1.cell? ⟨w.heap.size, 1, none⟩ = some (.int .i64 0) := by simp [World.cell?, Z1.out]
  have f0 : W1.frozen? ⟨w.heap.size, 0, none⟩ = false := by simp [World.frozen?, Z1.out]
  have f1 : W1.frozen? ⟨w.heap.size, 1, none⟩ = false := by simp [World.frozen?, Z1.out]
  have y0 : (y == 0) = false := by simpa using hy
  have ta : ∀ w, (Instr.typeAssert (.iface 78 (.pointer (some ⟨gg, 0, none⟩))) 39 78 true).run Tryz.prog w = .ok (.tuple #[.pointer (some ⟨gg, 0, none⟩), .bool true]) w := fun _ => by first | kernel_rfl | rfl | simp [Instr.typeAssert, Tryz.underlying78]
  clear hg hg1 hy
  go_enter Tryz.func18, Tryz.ntmps18
  go_upto_region 1 with fail
  rw [← hW1]
  clear hW1
  go_wp2
  go_region
  all_goals go_wp2
  all_goals
    have Z2 : ((W1.drew.setCell ⟨w.heap.size, 0, none⟩ (.int .i64 x)).setCell ⟨w.heap.size, 1, none⟩ (.int .i64 y)).heap[w.heap.size]? = some (.cells #[.int .i64 x, .int .i64 y] 45 (0, 0)) := heap_set (heap_set (w := W1.drew) Z1.out _) _
    refine bodyPost_ret (results_row_tmp rfl _ _ w.heap.size 45 #[.int .i64 x, .int .i64 y] (0, 0) _ rfl Z2 Tryz.underlying45 rfl f45_info) rfl ?_
    refine ⟨rfl, ?_⟩
    have g := gb_set (gb_set (gb_refl W1.drew (some w.heap.size)) 0 (.int .i64 x)) 1 (.int .i64 y)
    exact B1.out.drew.grown g B1.out.size (by intro q hq; cases hq; exact Nat.le_refl _)
end Go.Proofs.YtibihbclijpkjaaGreatDoor
namespace Go.Proofs.YtibihbclijpkjaaGreatDoor
open Go Go.RowKit
set_option linter.unusedSimpArgs false
set_option linter.unusedVariables false

theorem came_cells {w : World} {ad : Addr} {l k : Nat} {z : Nat → Int} (h : Came w (some ad) l k z) : ∀ j u, (cellsOf z l)[j]? = some u → w.cell? (ad.add j) = some u := by
  intro j u hj
  obtain ⟨q1, rfl⟩ := cellsOf_get z l j u hj
  obtain ⟨_, _, ⟨h, _⟩ | ⟨ad', h, hc⟩⟩ := h
  · cases h
  · obtain rfl := Option.some.inj h
    exact hc j q1
theorem came_nil {w : World} {l k : Nat} {z : Nat → Int} (h : Came w none l k z) : l = 0 ∧ k = 0 := by
  obtain ⟨_, _, ⟨_, h1, h2⟩ | ⟨_, h, _⟩⟩ := h
  · exact ⟨h1, h2⟩
  · cases h

/-- What is owned, whatever its value. -/
def OwnV (w w' : World) (e : Ending) (n : Nat) (xs : List Value) : Prop := ∃ a c, e = .returned (.slice a n c) ∧ w'.ownsRow w.heap.size 5 1 (.slice a n c) n xs ∧ Below w.heap.size w w'

theorem own_slice {w : World} {base n : Nat} {v : Value} {xs : List Value} (h : w.ownsRow base 5 1 v n xs) : ∃ a c, v = .slice a n c := by
  obtain ⟨_, ⟨rfl, rfl⟩ | ⟨g, cp, cur, hv, _⟩⟩ := h
  · exact ⟨none, 0, rfl⟩
  · exact ⟨_, cp, hv⟩

set_option maxRecDepth 100000 in
set_option maxHeartbeats 1000000 in
theorem lbehind_any (a0 a1 : Option Addr) (l0 k0 l1 k1 : Nat) (z0 z1 : Nat → Int) (w : World) (h0 : Came w a0 l0 k0 z0) (h1 : Came w a1 l1 k1 z1) (hl0 : l0 ≤ 400000) (hl1 : l1 ≤ 400000) :
    Calls Tryz.prog 15 #[.slice a0 l0 k0, .slice a1 l1 k1] w fun e w' => OwnV w w' e (l0 + l1) (cellsOf z0 l0 ++ cellsOf z1 l1) := by
  obtain ⟨i0, hi, hz0, hz1, hz2⟩ := info_parts Tryz.info5
  have H1 : Hid (∀ w', Below w.heap.size w w' → Came w' a1 l1 k1 z1) := fun w' hb => came_below (B := 0) h1 hb
  have H0 : Hid (Came w a0 l0 k0 z0) := h0
  have HN : Hid (a1 = none → l1 = 0 ∧ k1 = 0) := by rintro rfl; exact came_nil h1
  clear h0 h1
  cases a0 with
  | none =>
    obtain ⟨rfl, rfl⟩ := came_nil H0.out
    have O0 : Hid (w.ownsRow w.heap.size 5 1 (.slice none 0 0) 0 []) := World.ownsRow_nil _ _ _ _
    cases a1 with
    | none =>
      obtain ⟨rfl, rfl⟩ := HN.out rfl
      go_enter Tryz.func15, Tryz.ntmps15
      go_wp2_with (first | (at_builtin; refine wpList_append_own_none rfl (.tmp 6) (.tmp 7) 22 rfl w.heap.size 5 i0 1 Tryz.underlying22 hi _ 0 [] rfl O0.out rfl ?_) | (at_builtin; refine wpList_append_own_none rfl (.tmp 9) (.tmp 10) 22 rfl w.heap.size 5 i0 1 Tryz.underlying22 hi _ 0 [] rfl O0.out rfl ?_))
      go_ret
      exact ⟨none, 0, rfl, O0.out, Below.refl _ _⟩
    | some a1 =>
      go_enter Tryz.func15, Tryz.ntmps15
      go_wp2_with (first | (at_builtin; refine wpList_append_own_none rfl (.tmp 6) (.tmp 7) 22 rfl w.heap.size 5 i0 1 Tryz.underlying22 hi _ 0 [] rfl O0.out rfl ?_) | (at_builtin; refine wpList_append_own _ rfl (.tmp 9) (.tmp 10) 22 rfl w.heap.size 5 i0 (.int .u8 0) 1 1 Tryz.underlying22 hi hz0 hz1 hz2 rfl (by decide) _ _ _ rfl O0.out a1 l1 k1 (cellsOf z1 l1) rfl ?c0 ?c1 ?c2 ?c3 ?c4 ?c5 ?_))
      case c0 => simp [cellsOf]
      case c1 => exact came_cells (H1.out _ (Below.refl _ _))
      case c2 => exact fun u hu => cellsOf_one z1 l1 u hu
      case c3 => unfold maxLen; omega
      case c4 => omega
      case c5 => exact Nat.le_refl _
      intro v2 w2 hown2 hgrow2 _
      have hb2 := (Below.refl w.heap.size w).grown hgrow2 (Nat.le_refl _) (fun q hq => (O0.out.lt q hq).1)
      obtain ⟨a, c, rfl⟩ := own_slice hown2
      have HS : Hid (w2.ownsRow w.heap.size 5 1 (.slice a (0 + l1) c) (0 + l1) ([] ++ cellsOf z1 l1) ∧ Below w.heap.size w w2) := ⟨by simpa using hown2, hb2⟩
      clear hown2 hgrow2 hb2
      go_wp2
      go_ret
      first | exact ⟨a, c, rfl, HS.out.1, HS.out.2⟩ | exact ⟨a, c, by rw [Nat.zero_add]; rfl, HS.out.1, HS.out.2⟩
  | some a0 =>
    have O0 : Hid (w.ownsRow w.heap.size 5 1 (.slice none 0 0) 0 []) := World.ownsRow_nil _ _ _ _
    go_enter Tryz.func15, Tryz.ntmps15
    go_wp2_with (at_builtin; refine wpList_append_own _ rfl (.tmp 6) (.tmp 7) 22 rfl w.heap.size 5 i0 (.int .u8 0) 1 1 Tryz.underlying22 hi hz0 hz1 hz2 rfl (by decide) _ _ _ rfl O0.out a0 l0 k0 (cellsOf z0 l0) rfl ?d0 ?d1 ?d2 ?d3 ?d4 ?d5 ?_)
    case d0 => simp [cellsOf]
    case d1 => exact came_cells H0.out
    case d2 => exact fun u hu => cellsOf_one z0 l0 u hu
    case d3 => unfold maxLen; omega
    case d4 => omega
    case d5 => exact Nat.le_refl _
    intro v1 w1 hown1 hgrow1 _
    have hb1 := (Below.refl w.heap.size w).grown hgrow1 (Nat.le_refl _) (fun q hq => (O0.out.lt q hq).1)
    have hown1' : w1.ownsRow w.heap.size 5 1 v1 l0 (cellsOf z0 l0) := by simpa using hown1
    obtain ⟨a, c, rfl⟩ := own_slice hown1'
    have HS : Hid (w1.ownsRow w.heap.size 5 1 (.slice a l0 c) l0 (cellsOf z0 l0) ∧ Below w.heap.size w w1) := ⟨hown1', hb1⟩
    clear hown1 hown1' hgrow1 hb1
    cases a1 with
    | none =>
      obtain ⟨rfl, rfl⟩ := HN.out rfl
      go_wp2_with (at_builtin; refine wpList_append_own_none rfl (.tmp 9) (.tmp 10) 22 rfl w.heap.size 5 i0 1 Tryz.underlying22 hi _ l0 (cellsOf z0 l0) rfl HS.out.1 rfl ?_)
      go_ret
      exact ⟨a, c, rfl, by simpa [cellsOf] using HS.out.1, HS.out.2⟩
    | some a1 =>
      go_wp2_with (at_builtin; refine wpList_append_own _ rfl (.tmp 9) (.tmp 10) 22 rfl w.heap.size 5 i0 (.int .u8 0) 1 1 Tryz.underlying22 hi hz0 hz1 hz2 rfl (by decide) _ _ _ rfl HS.out.1 a1 l1 k1 (cellsOf z1 l1) rfl ?e0 ?e1 ?e2 ?e3 ?e4 ?e5 ?_)
      case e0 => simp [cellsOf]
      case e1 => exact came_cells (H1.out _ HS.out.2)
      case e2 => exact fun u hu => cellsOf_one z1 l1 u hu
      case e3 => unfold maxLen; omega
      case e4 => omega
      case e5 => exact HS.out.2.size
      intro v2 w2 hown2 hgrow2 _
      have hb2 := HS.out.2.grown hgrow2 HS.out.2.size (fun q hq => (HS.out.1.lt q hq).1)
      obtain ⟨a2, c2, rfl⟩ := own_slice hown2
      have HS2 : Hid (w2.ownsRow w.heap.size 5 1 (.slice a2 (l0 + l1) c2) (l0 + l1) (cellsOf z0 l0 ++ cellsOf z1 l1) ∧ Below w.heap.size w w2) := ⟨hown2, hb2⟩
      clear hown2 hgrow2 hb2
      go_wp2
      go_ret
      exact ⟨a2, c2, rfl, HS2.out.1, HS2.out.2⟩

theorem cellsOf_congr (z z' : Nat → Int) (n : Nat) (h : ∀ i, i < n → z i = z' i) : cellsOf z n = cellsOf z' n := by
  unfold cellsOf
  apply List.map_congr_left
  intro i hi
  rw [h i (List.mem_range.1 hi)]
/-- Bytes, and others behind them. -/
def cat (z : Nat → Int) (n : Nat) (z' : Nat → Int) : Nat → Int := fun i => if i < n then z i else z' (i - n)
theorem cat_bd {z z' : Nat → Int} {n : Nat} (h : ∀ i, 0 ≤ z i ∧ z i ≤ 255) (h' : ∀ i, 0 ≤ z' i ∧ z' i ≤ 255) (i : Nat) : 0 ≤ cat z n z' i ∧ cat z n z' i ≤ 255 := by
  unfold cat
  split
  · exact h i
  · exact h' _
theorem cells_cat (z z' : Nat → Int) (n : Nat) : ∀ m, cellsOf z n ++ cellsOf z' m = cellsOf (cat z n z') (n + m)
  | 0 => by
    rw [Nat.add_zero, cellsOf_zero, List.append_nil]
    exact cellsOf_congr _ _ _ fun i hi => by simp [cat, hi]
  | m + 1 => by
    rw [cellsOf_succ, ← List.append_assoc, cells_cat z z' n m, ← Nat.add_assoc, cellsOf_succ]
    have e : cat z n z' (n + m) = z' m := by unfold cat; rw [if_neg (by omega), Nat.add_sub_cancel_left]
    rw [e]


/-- Bytes of an owned row came. -/
theorem came_own {w : World} {base n : Nat} {a : Option Addr} {c : Nat} {z : Nat → Int} (h : w.ownsRow base 5 1 (.slice a n c) n (cellsOf z n)) (hz : ∀ i, 0 ≤ z i ∧ z i ≤ 255) : Came w a n c z := by
  rcases h.2 with ⟨e, hl⟩ | ⟨g, cap, cur, e, _, hb, hc, _, _, ht⟩
  · cases e
    exact ⟨Nat.le_refl _, hz, .inl ⟨rfl, rfl, rfl⟩⟩
  · cases e
    refine ⟨hc, hz, .inr ⟨_, rfl, fun i hi => ?_⟩⟩
    rw [plain_add, Nat.zero_add]
    have q : (cellsOf z n)[i]? = some (.int .u8 (z i)) := by simp [cellsOf, hi]
    rw [← ht, List.getElem?_take] at q
    simp only [Nat.mul_one, hi, if_true, Array.getElem?_toList] at q
    simp [World.cell?, hb, q]
end Go.Proofs.YtibihbclijpkjaaGreatDoor
namespace Go.Proofs.YtibihbclijpkjaaGreatDoor.Pkt
open Go Go.RowKit Go.Sort
set_option linter.unusedSimpArgs false
set_option linter.unusedVariables false


set_option maxHeartbeats 1000000 in
theorem sameBytes_eq (s s' : Sl) (z : Nat → Int) (w : World) (h : By w s z) (h' : By w s' z) (hn : s.n = s'.n) (hm : s.n ≤ 1000000) :
    Calls Tryz.prog 47 #[.slice s.a s.n s.c, .slice s'.a s'.n s'.c] w fun e w' => e = .returned (.bool true) ∧ Below w.heap.size w w' := by
  obtain ⟨a, n, c⟩ := s
  obtain ⟨a', n', c'⟩ := s'
  simp only at hn hm
  subst hn
  have HA : Hid (By w ⟨a, n, c⟩ z) := h
  have HB : Hid (By w ⟨a', n, c'⟩ z) := h'
  have B0 : Hid (Below w.heap.size w w) := Below.refl _ _
  clear h h'
  go_enter Tryz.func47, Tryz.ntmps47
  go_wp2_with fail
  go_loopg [5] n (fun gg s5 wx => ∃ (k : Nat), s5 = .int .i64 k ∧ k + gg = n ∧ Hid (Below w.heap.size w wx))
  case atStart => exact ⟨0, rfl, by omega, B0⟩
  case round =>
    obtain ⟨k, rfl, hkg, B1⟩ := hrel
    by_cases hk : k < n
    · have hk' : (k : Int) < n := by omega
      obtain ⟨b, off, he, hc⟩ : ∃ b off, a = some ⟨b, off, none⟩ ∧ ∀ i, i < n → w.cell? ⟨b, off + i, none⟩ = some (.int .u8 (z i)) := by
        rcases HA.out.2.2 with h | h
        · simp only at h; omega
        · exact h
      obtain ⟨b', off', he', hc'⟩ : ∃ b off, a' = some ⟨b, off, none⟩ ∧ ∀ i, i < n → w.cell? ⟨b, off + i, none⟩ = some (.int .u8 (z i)) := by
        rcases HB.out.2.2 with h | h
        · simp only at h; omega
        · exact h
      subst he he'
      have hac : n ≤ c := HA.out.1
      have hac' : n ≤ c' := HB.out.1
      have c0 := cell_later B1.out (hc k hk)
      have d0 := cell_later B1.out (hc' k hk)
      obtain ⟨x, hx⟩ : ∃ x, z k = x := ⟨_, rfl⟩
      rw [hx] at c0 d0
      clear hx hc hc'
      obtain ⟨gg, hg⟩ : ∃ gg, gk = gg + 1 := ⟨gk - 1, by omega⟩
      go_wp2_with fail
      go_region
      all_goals
        go_wp2
        go_roundg gg
        case measure => omega
        case rel => exact ⟨k + 1, by first | rfl | simp, by omega, by first | exact B1 | exact B1.out.drew⟩
    · obtain rfl : k = n := by omega
      have hk' : ¬ (k : Int) < k := by omega
      go_wp2
      go_ret
      exact ⟨rfl, B1.out⟩

set_option maxHeartbeats 1000000 in
theorem sameMessage_eq (t : ByteArray) (q : Int) (r : Bool) (s s' : Sl) (z : Nat → Int) (w : World) (h : By w s z) (h' : By w s' z) (hn : s.n = s'.n) (hm : s.n ≤ 1000000) :
    Calls Tryz.prog 46 #[.agg #[.string t, .slice s.a s.n s.c, .int .i64 q, .bool r], .agg #[.string t, .slice s'.a s'.n s'.c, .int .i64 q, .bool r]] w fun e w' => e = .returned (.bool true) ∧ Below w.heap.size w w' := by
  have HC : Hid (∀ w', Below w.heap.size w w' → Calls Tryz.prog 47 #[.slice s.a s.n s.c, .slice s'.a s'.n s'.c] w' fun e w'' => e = .returned (.bool true) ∧ Below w'.heap.size w' w'') := fun w' hb => sameBytes_eq s s' z w' (h.below hb) (h'.below hb) hn hm
  clear h h' hn hm
  go_enter Tryz.func46, Tryz.ntmps46
  go_wp2_with fail
  go_must (go_at_call 47)
  refine (HC.out _ (below2 _ _ _)).mono ?_
  rintro e w1 ⟨rfl, hb⟩
  have B1 : Hid (Below w.heap.size w w1) := (below2 w _ _).trans (hb.mono (below2 w _ _).size)
  clear hb
  go_wp2
  go_ret
  exact ⟨rfl, B1.out⟩

theorem neq_ask (t t' : ByteArray) (q q' : Int) (w : World) : (binOp .neq 84 (.agg #[.string t, .int .i64 q]) (.agg #[.string t', .int .i64 q'])).run Tryz.prog w = .ok (.bool (!((t.toList == t'.toList) && (q == q')))) w := by
  have hu : Tryz.prog.underlying 84 = some (.struct (Tryz.prog.fieldsOf 84)) := by kernel_rfl
  have hp : Tryz.prog.stoodInHeld 84 = false := by kernel_rfl
  rw [run_neq_struct, run_equalIn_agg w 9999 84 _ _ hu hp]
  clear hu hp
  simp only [Program.fieldsOf, Tryz.underlying84]
  cases h1 : (t.toList == t'.toList)
  · go_simp
  · cases h2 : (q == q')
    · go_simp
    · go_simp
theorem neq_ask_eq (t : ByteArray) (q : Int) (w : World) : (binOp .neq 84 (.agg #[.string t, .int .i64 q]) (.agg #[.string t, .int .i64 q])).run Tryz.prog w = .ok (.bool false) w := by
  rw [neq_ask]; simp

/-- A packet with other lists. -/
def Pk.re (p : Pk) (s1 s2 s3 s4 s5 s6 : Sl) : Pk := { p with wP := s1, pass := s2, mP := s3, asks := s4, codes := s5, filters := s6 }
end Go.Proofs.YtibihbclijpkjaaGreatDoor.Pkt
