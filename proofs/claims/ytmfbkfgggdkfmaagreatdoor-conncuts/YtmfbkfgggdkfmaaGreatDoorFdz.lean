import Derived.Test.YtmfbkfgggdkfmaaGreatDoorFdo
import Derived.Laws.Tables
import Derived.Laws.CopyRow
import Derived.Laws.CopyOwn
import Derived.Deep.WholeRow
import Derived.Test.YtmfbkfgggdkfmaaGreatDoorPWm
import Derived.Deep.LoopGhost
namespace Go.Proofs.YtmfbkfgggdkfmaaGreatDoor
open Go Go.RowKit
open Pkt (Pk Cn Sl In By Is Ss As pkCells Gd KindsAt form isK isKind_any Small ck TT sumN Tx wpList_load_wanted)
set_option linter.unusedSimpArgs false
set_option linter.unusedVariables false

theorem results_row_tmp {P : Program} {fn : Func} {p u : Tmp} {ty : TypeId} (h : fn.results = #[.cell p ty, .tmp u]) (tmps : Array Value) (w : World) (g : Nat) (t : TypeId) (cs : Array Value) (fr : Nat × Nat) (d : TypeDesc)
    (hp : tmps.getD p undef = .pointer (some ⟨g, 0, none⟩)) (hg : w.heap[g]? = some (.cells cs t fr))
    (hu : P.underlying ty = some d) (hd : (match d with | .struct _ | .array _ _ => true | _ => false) = true) (hi : (P.info? ty).map (·.size) = some cs.size) :
    (results fn tmps).run P w = .ok (.tuple #[.agg cs, tmps.getD u undef]) w := by
  have hp' : tmps[p]?.getD undef = .pointer (some ⟨g, 0, none⟩) := by simpa using hp
  simp [results, h, hp', asAddr, run_loadVar_row w g t ty cs fr d hg hu hd hi]
theorem wpList_build_to {ops : Array Oper} {rest : List Oper} {o : Oper} {a : Act} {w : World} {Q : Exit → Act → World → Prop} (hg : o.guard = none) (t : TypeId) (parts : Array (Nat × Operand)) (ho : o.op = .build t parts) (cells : Array Value)
    (hf : Tryz.prog.built t (parts.map fun (i, x) => (i, a.eval x)).toList = some cells) (h : wpList Tryz.prog ops Q rest (a.put o.dst (.agg cells)) w) : wpList Tryz.prog ops Q (o :: rest) a w :=
  wpList_build hg t parts ho (by rw [hf]; rfl) (by rw [hf]; exact h)
theorem built_blank (k : Int) : Tryz.prog.built 38 [(0, .int .i64 k)] = some (pkCells (blank k)) := by kernel_rfl
theorem built_zero : Tryz.prog.built 38 [] = some (pkCells (blank 0)) := by kernel_rfl
theorem pk_one (p : Pk) : (pkCells p).all (·.oneCell') = true := by simp [pkCells, Value.oneCell']
theorem pk_size (p : Pk) : (pkCells p).size = 25 := rfl
theorem pk_info : (Tryz.prog.info? 38).map (·.size) = some 25 := by kernel_rfl
/-- Nothing in any list. -/
def noCn : Cn := ⟨fun _ => 0, fun _ => 0, fun _ => 0, fun _ => ⟨#[]⟩, fun _ => 0, fun _ => 0, fun _ => ⟨#[]⟩⟩
theorem in_blank (w : World) (k : Int) : In w (blank k) noCn := ⟨⟨Nat.le_refl _, fun _ => by simp [noCn], .inl rfl⟩, ⟨Nat.le_refl _, fun _ => by simp [noCn], .inl rfl⟩, ⟨Nat.le_refl _, fun _ => by simp [noCn], .inl rfl⟩, ⟨Nat.le_refl _, .inl rfl⟩, ⟨Nat.le_refl _, .inl rfl⟩, ⟨Nat.le_refl _, .inl rfl⟩⟩
def packP (z : Nat → Int) (n h : Nat) : Except (Int × Int) (Pk × Cn) :=
  match intoP z n ⟨h, 0, 0⟩ (z 0 / 16) noCn (z 0 % 16) with
  | .error x => .error x
  | .ok y => if ck TT y.2.1 y.2.2 = 0 then .ok (y.2.1, y.2.2) else .error (0, (ck TT y.2.1 y.2.2 : Int))
def PackIs (w w' : World) (e : Ending) : Except (Int × Int) (Pk × Cn) → Prop
  | .error x => (∃ gg, e = .returned (.tuple #[.agg (pkCells (blank 0)), .iface 71 (.pointer (some ⟨gg, 0, none⟩))]) ∧ w'.heap[gg]? = some (.cells #[.int .i64 x.1, .int .i64 x.2] 61 (0, 0))) ∧ Below w.heap.size w w'
  | .ok y => (∃ q : Pk, e = .returned (.tuple #[.agg (pkCells q), .nilIface]) ∧ In w' q y.2 ∧ Alike q y.1 ∧ NxAll w.heap.size q) ∧ Below w.heap.size w w'
theorem rByte_first {z : Nat → Int} {n k : Nat} (h : k < n) : rByte z n ⟨k, 0, 0⟩ = (z k, ⟨k + 1, 0, 0⟩) := by
  unfold rByte
  rw [if_neg (by simp), if_neg (by show ¬ n < k + 1; omega)]
  rfl
/-- Behind the reading: old memory is as it was. -/
theorem fr2_below {w W4 w5 : World} {rb pb : Nat} (hb : Below w.heap.size w W4) (hf : Fr2 W4 w5 rb pb) (h1 : w.heap.size ≤ rb) (h2 : w.heap.size ≤ pb) : Below w.heap.size w w5 :=
  ⟨hf.os.trans hb.os, hf.tape.trans hb.tape, hf.output.trans hb.output, Nat.le_trans hb.size hf.size, fun k hk => (hf.block k (Nat.lt_of_lt_of_le hk hb.size) (by omega) (by omega)).trans (hb.block k hk)⟩
set_option maxRecDepth 100000 in
set_option maxHeartbeats 4000000 in
theorem packet_any (gb off n cpb h : Nat) (z : Nat → Int) (w : World) (hc : Came w (some ⟨gb, off, none⟩) n cpb z) (hn : n ≤ 700000) (h1 : 1 ≤ h) (hh : h ≤ n) (hk : 1 ≤ z 0 / 16 ∧ z 0 / 16 ≤ 14) (hg : Gd w) :
    Calls Tryz.prog 36 #[.slice (some ⟨gb, off, none⟩) n cpb, .int .i64 h] w fun e w' => PackIs w w' e (packP z n h) := by
  obtain ⟨R, hR⟩ : ∃ R, R = packP z n h := ⟨_, rfl⟩
  rw [← hR]
  have HR : Hid (R = packP z n h) := hR
  have HC : Hid (Came w (some ⟨gb, off, none⟩) n cpb z) := hc
  have HG : Hid (Gd w) := hg
  have HN : Hid (n ≤ 700000 ∧ 1 ≤ h ∧ h ≤ n) := ⟨hn, h1, hh⟩
  have HK : Hid (1 ≤ z 0 / 16 ∧ z 0 / 16 ≤ 14) := hk
  have c00 : Hid (w.cell? ⟨gb, off, none⟩ = some (.int .u8 (z 0))) := by
    rcases hc.2.2 with ⟨e, _⟩ | ⟨ad, e, q⟩
    · cases e
    · cases e; have q0 := q 0 (by omega); rw [plain_add, Nat.add_zero] at q0; exact q0
  have hz := hc.2.1 0
  have HZ : Hid (0 ≤ z 0 ∧ z 0 ≤ 255) := hz
  clear hc hg hk hR hz hn
  obtain ⟨W1, hW1⟩ : ∃ W, W = w.alloc (.cells (pkCells (blank 0)) 38) := ⟨_, rfl⟩
  have B1 : Hid (Below w.heap.size w W1) := by show Below _ _ _; rw [hW1]; exact (Below.refl _ _).alloc (Nat.le_refl _) _
  have RZ : Hid (W1.heap[w.heap.size]? = some (.cells (pkCells (blank 0)) 38 (0, 0))) := by show _ = _; rw [hW1]; exact heap_alloc_new w _
  have S1 : Hid (W1.heap.size = w.heap.size + 1) := by show _ = _; rw [hW1]; simp
  go_enter Tryz.func36, Tryz.ntmps36
  go_upto_region 1 with fail
  have eW : w.alloc (.cells #[.int .i64 0, .int .i64 0, .bool false, .int .i64 0, .string ⟨#[]⟩, .bool false, .string ⟨#[]⟩, .slice none 0 0, .int .i64 0, .bool false, .bool false, .string ⟨#[]⟩, .bool false, .slice none 0 0, .bool false, .int .i64 0, .bool false, .string ⟨#[]⟩, .slice none 0 0, .int .i64 0, .bool false, .int .i64 0, .slice none 0 0, .slice none 0 0, .slice none 0 0] 38) = W1 := hW1.symm
  rw [eW]
  clear eW hW1
  go_wp2_with fail
  go_must (go_at_call 45)
  refine (read_some ⟨gb, off, none⟩ n cpb z W1 (came_below (B := 0) HC.out B1.out) (by have := HN.out; omega)).mono ?_
  rintro e w2 ⟨rb, g, cp, rfl, hRd, hOwn, hgr, hcp, hg1, hrb1, hb2⟩
  have R2 : Hid (Rdr w2 rb g n cp z ⟨0, 0, 0⟩) := ⟨hRd, ⟨hOwn, hcp, HN.out.1, hgr⟩, Nat.zero_le _⟩
  have L2 : Hid (w.heap.size + 1 ≤ g ∧ w.heap.size + 1 ≤ rb) := by have := S1.out; exact ⟨by omega, by omega⟩
  have B2 : Hid (Below w.heap.size w w2) := B1.out.trans (hb2.mono (by have := S1.out; omega))
  have Z2 : Hid (w2.heap[w.heap.size]? = some (.cells (pkCells (blank 0)) 38 (0, 0))) := (hb2.block _ (lt_of_block RZ.out)).trans RZ.out
  clear hRd hOwn hgr hcp hg1 hrb1 hb2 RZ B1 S1
  obtain ⟨W3, hW3⟩ : ∃ W, W = w2.alloc (.cells #[.pointer (some ⟨rb, 0, none⟩), .int .i64 n] 100) := ⟨_, rfl⟩
  have bb3 : Below w2.heap.size w2 W3 := by rw [hW3]; exact (Below.refl _ _).alloc (Nat.le_refl _) _
  have R3 : Hid (Rdr W3 rb g n cp z ⟨0, 0, 0⟩) := R2.out.below bb3
  have B3 : Hid (Below w.heap.size w W3) := B2.out.trans (bb3.mono B2.out.size)
  have Z3 : Hid (W3.heap[w.heap.size]? = some (.cells (pkCells (blank 0)) 38 (0, 0))) := (bb3.block _ (lt_of_block Z2.out)).trans Z2.out
  have X3 : Hid (W3.heap[w2.heap.size]? = some (.cells #[.pointer (some ⟨rb, 0, none⟩), .int .i64 n] 100 (0, 0))) := by show _ = _; rw [hW3]; exact heap_alloc_new w2 _
  have L3 : Hid (rb < w2.heap.size ∧ w.heap.size < w2.heap.size ∧ W3.heap.size = w2.heap.size + 1) := ⟨lt_of_block R2.out.rd, lt_of_block Z2.out, by rw [hW3]; simp⟩
  clear bb3
  go_upto_region 2 with fail
  rw [← hW3]
  clear hW3 R2 B2 Z2
  go_wp2_with fail
  go_loopg [18] h (fun gg s18 wx => ∃ k : Nat, s18 = .int .i64 k ∧ k + gg = h ∧ Hid (Rdr wx rb g n cp z ⟨k, 0, 0⟩) ∧ Hid (W3.grownBy wx (some rb)))
  case atStart => exact ⟨0, rfl, by omega, R3.out, gb_refl _ _⟩
  case round =>
    obtain ⟨k, rfl, hkg, R4, G4⟩ := hrel
    have bx : wr.cell? ⟨w2.heap.size, 0, none⟩ = some (.pointer (some ⟨rb, 0, none⟩)) := G4.out.cell (by simp [World.cell?, X3.out]) (by have := L3.out; simp; omega)
    by_cases hkh : k < h
    · obtain ⟨gg, rfl⟩ : ∃ gg, gk = gg + 1 := ⟨gk - 1, by omega⟩
      go_wp2_with fail
      go_must (go_at_call 46)
      clear bx
      refine (byte_any R4.out).mono ?_
      rw [rByte_first (by have := HN.out; omega)]
      rintro e w4 ⟨rfl, hr, hg⟩
      have R5 : Hid (Rdr w4 rb g n cp z ⟨k + 1, 0, 0⟩) := hr
      have G5 : Hid (W3.grownBy w4 (some rb)) := gb_trans G4.out hg
      have HJ : Hid (k + 1 + gg = h) := by show _ = _; omega
      have kb : (k : Int) ≤ 700000 := by have := HN.out; omega
      clear hr hg
      go_wp2
      go_roundg gg
      case measure => omega
      case rel => exact ⟨k + 1, by simp, HJ.out, R5.out, G5.out⟩
    · have hk' : k = h := by omega
      subst hk'
      clear hkh bx R3
      have cb : wr.cell? ⟨gb, off, none⟩ = some (.int .u8 (z 0)) := G4.out.cell (cell_later B3.out c00.out) (by have := World.block_lt_of_cell? _ _ c00.out; have := L2.out; simp at *; omega)
      have n0 : (0 : Int) < n := by have := HN.out; omega
      go_wp2_with fail
      go_must (go_at_call 47)
      refine (split_any (z 0) HZ.out wr).mono ?_
      rintro e w' ⟨rfl, hee⟩
      obtain rfl := hee.symm
      clear hee cb n0
      obtain ⟨kd, hkd⟩ : ∃ x, x = z 0 / 16 := ⟨_, rfl⟩
      obtain ⟨fl, hfl⟩ : ∃ x, x = z 0 % 16 := ⟨_, rfl⟩
      rw [← hkd] at HK
      have HP : Hid (R = match intoP z n ⟨k, 0, 0⟩ kd noCn fl with | .error x => .error x | .ok y => if ck TT y.2.1 y.2.2 = 0 then .ok (y.2.1, y.2.2) else .error (0, (ck TT y.2.1 y.2.2 : Int))) := by show _ = _; rw [HR.out, packP, ← hkd, ← hfl]
      rw [← hkd, ← hfl]
      clear hkd hfl HR
      obtain ⟨W4, hW4⟩ : ∃ W, W = wr.alloc (.cells (pkCells (blank kd)) 38) := ⟨_, rfl⟩
      go_upto_region 8 with (first | (refine wpList_build_to rfl 38 _ rfl (pkCells (blank kd)) (built_blank kd) ?_) | (refine wpList_store_row rfl 38 _ _ rfl wr.heap.size (pkCells (blank kd)) rfl rfl 38 _ (heap_alloc_new wr _) pk_info rfl (pk_one _) ?_))
      rw [World.setRow_alloc_new, ← hW4]
      have bb4 : Below wr.heap.size wr W4 := by rw [hW4]; exact (Below.refl _ _).alloc (Nat.le_refl _) _
      have L4 : Hid (W3.heap.size ≤ wr.heap.size ∧ W4.heap.size = wr.heap.size + 1) := ⟨G4.out.size, by rw [hW4]; simp⟩
      have C4 : Hid (Cs W4 W4 rb g n cp wr.heap.size z ⟨k, 0, 0⟩ (blank kd) noCn) := by
        have a1 := L3.out
        have a2 := L4.out
        have a3 := World.block_lt_of_cell? _ _ (R4.out.rb.own.2 0 (by have := HN.out; omega))
        simp only at a3
        exact ⟨R4.out.below bb4, by rw [hW4]; exact heap_alloc_new wr _, lt_of_block (R4.out.below bb4).rd, by omega, by omega, by omega, in_blank _ _, nx_blank _ _, rfl, rfl, rfl, Nat.le_refl _, fun _ _ _ _ => rfl⟩
      have Z4 : Hid (W4.heap[w.heap.size]? = some (.cells (pkCells (blank 0)) 38 (0, 0))) := (bb4.block _ (by have := L3.out; have := L4.out; omega)).trans ((G4.out.block _ (lt_of_block Z3.out) (by have := L2.out; simp; omega)).trans Z3.out)
      have X4 : Hid (W4.heap[w2.heap.size]? = some (.cells #[.pointer (some ⟨rb, 0, none⟩), .int .i64 n] 100 (0, 0))) := (bb4.block _ (by have := L3.out; have := L4.out; omega)).trans ((G4.out.block _ (lt_of_block X3.out) (by have := L3.out; simp; omega)).trans X3.out)
      have B4 : Hid (Below w.heap.size w W4) := by
        have q : Below w.heap.size w wr := B3.out.grown G4.out B3.out.size (by intro q hq; cases hq; have := L2.out; omega)
        exact q.trans (bb4.mono q.size)
      have b0 : W4.cell? ⟨w2.heap.size, 0, none⟩ = some (.pointer (some ⟨rb, 0, none⟩)) := by simp [World.cell?, X4.out]
      have b1 : W4.cell? ⟨w2.heap.size, 1, none⟩ = some (.int .i64 n) := by simp [World.cell?, X4.out]
      clear bb4 hW4 R4 G4 B3 Z3 X3
      go_wp2_with fail
      go_must (go_at_call 48)
      clear b0 b1
      refine (into_any fl kd HK.out C4.out).mono ?_
      rintro e w5 hO
      obtain ⟨I, hI⟩ : ∃ I, I = intoP z n ⟨k, 0, 0⟩ kd noCn fl := ⟨_, rfl⟩
      rw [← hI] at hO HP
      cases I with
      | error x =>
        obtain ⟨⟨gg, rfl, hgg⟩, hF⟩ := hO
        have HR2 : Hid (R = .error x) := HP.out
        have Z5 : Hid (w5.heap[w.heap.size]? = some (.cells (pkCells (blank 0)) 38 (0, 0))) := (hF.block _ (lt_of_block Z4.out) (by have := L2.out; omega) (by have := L3.out; have := L4.out; omega)).trans Z4.out
        have B5 : Hid (Below w.heap.size w w5) := fr2_below B4.out hF (by have := L2.out; omega) (by have := L3.out; have := L4.out; omega)
        have E5 : Hid (w5.heap[gg]? = some (.cells #[.int .i64 x.1, .int .i64 x.2] 61 (0, 0))) := hgg
        clear hgg hF HP hI
        go_wp2_with (first | (refine wpList_build_to rfl 38 _ rfl (pkCells (blank 0)) built_zero ?_) | (refine wpList_store_row rfl 38 _ _ rfl w.heap.size (pkCells (blank 0)) rfl rfl 38 (pkCells (blank 0)) Z5.out pk_info rfl (pk_one _) ?_))
        rw [setRow_self w5 w.heap.size _ 38 (0, 0) Z5.out]
        refine bodyPost_ret (results_row_tmp rfl _ _ w.heap.size 38 (pkCells (blank 0)) (0, 0) _ rfl Z5.out Tryz.underlying38 rfl pk_info) rfl ?_
        rw [HR2.out]
        exact ⟨⟨gg, rfl, E5.out⟩, B5.out⟩
      | ok y =>
        obtain ⟨rfl, q, hq, ha⟩ := hO
        have SM : Small q y.2.2 := small_alike ha (into_small HN.out.1 HN.out.2.2 hI.symm)
        have hck : ck TT q y.2.2 = ck TT y.2.1 y.2.2 := ck_alike ha TT _
        have B5 : Hid (Below w.heap.size w w5) := fr2_below B4.out hq.fr (by have := L2.out; omega) (by have := L3.out; have := L4.out; omega)
        have Z5 : Hid (w5.heap[w.heap.size]? = some (.cells (pkCells (blank 0)) 38 (0, 0))) := (hq.block _ (lt_of_block Z4.out) (by have := L2.out; omega) (by have := L3.out; have := L4.out; omega)).trans Z4.out
        have C5 : Hid (Cs W4 w5 rb g n cp wr.heap.size z y.1 q y.2.2) := hq
        have AL : Hid (Alike q y.2.1) := ha
        have CH := Pkt.check_any q y.2.2 w5 (HG.out.below B5.out) hq.inn SM
        rw [hck] at CH
        obtain ⟨cd, hcd⟩ : ∃ cd, cd = ck TT y.2.1 y.2.2 := ⟨_, rfl⟩
        rw [← hcd] at CH
        have HR2 : Hid (R = if cd = 0 then .ok (y.2.1, y.2.2) else .error (0, (cd : Int))) := by have q := HP.out; simp only at q; show _ = _; rw [q, hcd]
        have HH : Hid (Calls Tryz.prog 49 #[.agg (pkCells q)] w5 fun e w' => e = .returned (.int .i64 (cd : Int)) ∧ Below w5.heap.size w5 w') := CH
        clear CH hck SM hq ha hcd HP hI
        go_wp2_with (first | (refine wpList_load_wanted rfl _ rfl wr.heap.size rfl _ (0, 0) C5.out.pk (pk_size _) ?_) | fail)
        go_must (go_at_call 49)
        refine HH.out.mono ?_
        rintro e w6 ⟨rfl, hb6⟩
        have B6 : Hid (Below w.heap.size w w6) := B5.out.trans (hb6.mono B5.out.size)
        have Z6 : Hid (w6.heap[w.heap.size]? = some (.cells (pkCells (blank 0)) 38 (0, 0))) := (hb6.block _ (lt_of_block Z5.out)).trans Z5.out
        have P6 : Hid (w6.heap[wr.heap.size]? = some (.cells (pkCells q) 38 (0, 0))) := (hb6.block _ (lt_of_block C5.out.pk)).trans C5.out.pk
        have I6 : Hid (In w6 q y.2.2) := C5.out.inn.below hb6
        have NX : Hid (NxAll W4.heap.size q) := C5.out.nx
        clear hb6 HH
        by_cases h0 : cd = 0
        · have HR3 : Hid (R = .ok (y.2.1, y.2.2)) := by show _ = _; rw [HR2.out, if_pos h0]
          have h0' : ((cd : Int) != 0) = false := by simp [h0]
          clear h0
          go_wp2_with (first | (refine wpList_load_wanted rfl _ rfl wr.heap.size rfl _ (0, 0) P6.out (pk_size _) ?_) | (refine wpList_store_row rfl 38 _ _ rfl w.heap.size (pkCells q) rfl rfl 38 (pkCells (blank 0)) Z6.out pk_info rfl (pk_one _) ?_))
          refine bodyPost_ret (results_row_tmp rfl _ _ w.heap.size 38 (pkCells q) (0, 0) _ rfl (setRow_heap w6 w.heap.size _ _ 38 (0, 0) Z6.out) Tryz.underlying38 rfl pk_info) rfl ?_
          rw [HR3.out]
          have x := NX.out
          have lw : w.heap.size ≤ W4.heap.size := by have := L3.out; have := L4.out; omega
          refine ⟨⟨q, rfl, In.keep I6.out NX.out (fun a v hav hb => ?_), AL.out, ⟨x.wP.lower lw, x.pass.lower lw, x.mP.lower lw, x.asks.lower lw, x.codes.lower lw, x.filters.lower lw⟩⟩, below_setRow B6.out (Nat.le_refl _) _⟩
          rw [cell_setRow_other _ _ _ _ (by have := L3.out; have := L4.out; omega)]
          exact hav
        · have HR3 : Hid (R = .error (0, (cd : Int))) := by show _ = _; rw [HR2.out, if_neg h0]
          have h0' : ((cd : Int) != 0) = true := by simp [h0]
          clear h0
          go_wp2_with (first | (refine wpList_build_to rfl 38 _ rfl (pkCells (blank 0)) built_zero ?_) | fail)
          go_must (go_at_call 44)
          refine (fault_any _ _ _).mono ?_
          rintro e w7 ⟨⟨gg, rfl, hgg⟩, hb7⟩
          have B7 : Hid (Below w.heap.size w w7) := B6.out.trans (hb7.mono B6.out.size)
          have Z7 : Hid (w7.heap[w.heap.size]? = some (.cells (pkCells (blank 0)) 38 (0, 0))) := (hb7.block _ (lt_of_block Z6.out)).trans Z6.out
          have E7 : Hid (w7.heap[gg]? = some (.cells #[.int .i64 0, .int .i64 (cd : Int)] 61 (0, 0))) := hgg
          clear hgg hb7
          go_wp2_with (first | (refine wpList_store_row rfl 38 _ _ rfl w.heap.size (pkCells (blank 0)) rfl rfl 38 (pkCells (blank 0)) Z7.out pk_info rfl (pk_one _) ?_))
          rw [setRow_self w7 w.heap.size _ 38 (0, 0) Z7.out]
          refine bodyPost_ret (results_row_tmp rfl _ _ w.heap.size 38 (pkCells (blank 0)) (0, 0) _ rfl Z7.out Tryz.underlying38 rfl pk_info) rfl ?_
          rw [HR3.out]
          exact ⟨⟨gg, rfl, E7.out⟩, B7.out⟩
end Go.Proofs.YtmfbkfgggdkfmaaGreatDoor
namespace Go.Proofs.YtmfbkfgggdkfmaaGreatDoor
open Go Go.RowKit
open Pkt (Pk Cn Sl In By Is Ss As pkCells Gd KindsAt form isK isKind_any Small ck TT sumN Tx wpList_load_wanted)
set_option linter.unusedSimpArgs false
set_option linter.unusedVariables false

theorem results_row_tmp2 {P : Program} {fn : Func} {p u v : Tmp} {ty : TypeId} (h : fn.results = #[.cell p ty, .tmp u, .tmp v]) (tmps : Array Value) (w : World) (g : Nat) (t : TypeId) (cs : Array Value) (fr : Nat × Nat) (d : TypeDesc)
    (hp : tmps.getD p undef = .pointer (some ⟨g, 0, none⟩)) (hg : w.heap[g]? = some (.cells cs t fr))
    (hu : P.underlying ty = some d) (hd : (match d with | .struct _ | .array _ _ => true | _ => false) = true) (hi : (P.info? ty).map (·.size) = some cs.size) :
    (results fn tmps).run P w = .ok (.tuple #[.agg cs, tmps.getD u undef, tmps.getD v undef]) w := by
  have hp' : tmps[p]?.getD undef = .pointer (some ⟨g, 0, none⟩) := by simpa using hp
  simp [results, h, hp', asAddr, run_loadVar_row w g t ty cs fr d hg hu hd hi]
theorem lenF_out (z : Nat → Int) (n : Nat) (most : Int) (hz : ∀ i, 0 ≤ z i ∧ z i ≤ 255) (f k : Nat) (acc hd l : Int) (ha : 0 ≤ acc) (h : lenF z n most f k acc = (hd, l, none)) (h0 : hd ≠ 0) : ∃ j : Nat, hd = ((j + 1 : Nat) : Int) ∧ k ≤ j ∧ 0 ≤ l ∧ j + 1 ≤ k + f := by
  induction f generalizing k acc with
  | zero => cases h
  | succ f ih =>
    unfold lenF at h
    have hp : (0 : Int) ≤ z k % 128 * 128 ^ (k - 1) := Int.mul_nonneg (by omega) (Int.pow_nonneg (by decide))
    split at h
    · cases h; exact absurd rfl h0
    split at h
    · split at h
      · cases h
      · cases h; exact ⟨k, rfl, Nat.le_refl _, by omega, by omega⟩
    · obtain ⟨j, a, b, c, d⟩ := ih (k + 1) _ (by omega) h
      exact ⟨j, a, by omega, c, by omega⟩
theorem firstP_kind {b : Int} (h : firstP b = 0) : 1 ≤ b / 16 ∧ b / 16 ≤ 14 := by
  unfold firstP at h
  split at h
  · cases h
  · omega
theorem headP_out (z : Nat → Int) (n : Nat) (most : Int) (hz : ∀ i, 0 ≤ z i ∧ z i ≤ 255) (hd l : Int) (h : headP z n most = (hd, l, none)) (h0 : hd ≠ 0) : ∃ j : Nat, hd = ((j + 1 : Nat) : Int) ∧ 1 ≤ j ∧ 0 ≤ l ∧ j ≤ 4 ∧ 1 ≤ z 0 / 16 ∧ z 0 / 16 ≤ 14 := by
  unfold headP at h
  split at h
  · cases h; exact absurd rfl h0
  split at h
  · cases h
  · rename_i hf
    obtain ⟨j, a, b, c, d⟩ := lenF_out z n most hz 4 1 0 hd l (by omega) h h0
    have q := firstP_kind (b := z 0) (by simpa using hf)
    exact ⟨j, a, b, c, by omega, q⟩
/-- What Decode tells. -/
inductive DecR where
  | fault (x : Int × Int)
  | more
  | ok (p : Pk) (c : Cn) (n : Nat)
def decH (z : Nat → Int) (n : Nat) (H : Int × Int × Option (Int × Int)) : DecR :=
  match H.2.2 with
  | some x => .fault x
  | none => if H.1 = 0 ∨ (n : Int) - H.1 < H.2.1 then .more else match packP z (H.1 + H.2.1).toNat H.1.toNat with
    | .error x => .fault x
    | .ok y => .ok y.1 y.2 (H.1 + H.2.1).toNat
def clampM (most : Int) : Int := min (max most 2) 268435455
def decP (z : Nat → Int) (n : Nat) (most : Int) : DecR := decH z n (headP z n (clampM most))
def DecIs (w w' : World) (e : Ending) : DecR → Prop
  | .fault x => (∃ gg, e = .returned (.tuple #[.agg (pkCells (blank 0)), .int .i64 0, .iface 71 (.pointer (some ⟨gg, 0, none⟩))]) ∧ w'.heap[gg]? = some (.cells #[.int .i64 x.1, .int .i64 x.2] 61 (0, 0))) ∧ Below w.heap.size w w'
  | .more => e = .returned (.tuple #[.agg (pkCells (blank 0)), .int .i64 0, .nilIface]) ∧ Below w.heap.size w w'
  | .ok p c n => (∃ q : Pk, e = .returned (.tuple #[.agg (pkCells q), .int .i64 n, .nilIface]) ∧ In w' q c ∧ Alike q p ∧ NxAll w.heap.size q) ∧ Below w.heap.size w w'
set_option maxRecDepth 100000 in
set_option maxHeartbeats 4000000 in
theorem decode_any (gb off n cpb : Nat) (z : Nat → Int) (most : Int) (w : World) (hc : Came w (some ⟨gb, off, none⟩) n cpb z) (hn : n ≤ 700000) (hg : Gd w) :
    Calls Tryz.prog 26 #[.slice (some ⟨gb, off, none⟩) n cpb, .int .i64 most] w fun e w' => DecIs w w' e (decP z n most) := by
  obtain ⟨R, hR⟩ : ∃ R, R = decP z n most := ⟨_, rfl⟩
  rw [← hR]
  obtain ⟨W1, hW1⟩ : ∃ W, W = w.alloc (.cells (pkCells (blank 0)) 38) := ⟨_, rfl⟩
  have B1 : Hid (Below w.heap.size w W1) := by show Below _ _ _; rw [hW1]; exact (Below.refl _ _).alloc (Nat.le_refl _) _
  have Z1 : Hid (W1.heap[w.heap.size]? = some (.cells (pkCells (blank 0)) 38 (0, 0))) := by show _ = _; rw [hW1]; exact heap_alloc_new w _
  have S1 : Hid (W1.heap.size = w.heap.size + 1) := by show _ = _; rw [hW1]; simp
  obtain ⟨H, hH⟩ : ∃ H, H = headP z n (clampM most) := ⟨_, rfl⟩
  have HZ : Hid (∀ i, 0 ≤ z i ∧ z i ≤ 255) := hc.2.1
  have HC : Hid (Came w (some ⟨gb, off, none⟩) n cpb z) := hc
  have HCP : Hid (n ≤ cpb) := hc.1
  have HG : Hid (Gd w) := hg
  have HN : Hid (n ≤ 700000) := hn
  have T : Hid (Calls Tryz.prog 35 #[.slice (some ⟨gb, off, none⟩) n cpb, .int .i64 (min (max most 2) 268435455)] W1 fun e w' => HeadIs w' e H ∧ Below W1.heap.size W1 w') := by
    rw [hH]
    refine head_any gb off n cpb z (clampM most) W1 (fun j hj => ?_) hc.2.1 (by omega) (hg.below B1.out)
    rcases hc.2.2 with ⟨e, _⟩ | ⟨ad, e, q⟩
    · cases e
    · cases e
      have q2 := q j hj
      rw [plain_add] at q2
      exact cell_later B1.out q2
  have HR : Hid (R = decH z n H) := by show _ = _; rw [hR, decP, hH]
  have HO : Hid (∀ hd l, H = (hd, l, none) → hd ≠ 0 → ∃ j : Nat, hd = ((j + 1 : Nat) : Int) ∧ 1 ≤ j ∧ 0 ≤ l ∧ j ≤ 4 ∧ 1 ≤ z 0 / 16 ∧ z 0 / 16 ≤ 14) := fun hd l e h0 => headP_out z n (clampM most) hc.2.1 hd l (by rw [← hH]; exact e) h0
  clear hR hH hc hg hn
  obtain ⟨hd, l, o⟩ := H
  go_enter Tryz.func26, Tryz.ntmps26
  go_upto_region 1 with fail
  have eW : w.alloc (.cells #[.int .i64 0, .int .i64 0, .bool false, .int .i64 0, .string ⟨#[]⟩, .bool false, .string ⟨#[]⟩, .slice none 0 0, .int .i64 0, .bool false, .bool false, .string ⟨#[]⟩, .bool false, .slice none 0 0, .bool false, .int .i64 0, .bool false, .string ⟨#[]⟩, .slice none 0 0, .int .i64 0, .bool false, .int .i64 0, .slice none 0 0, .slice none 0 0, .slice none 0 0] 38) = W1 := hW1.symm
  rw [eW]
  clear eW hW1
  go_wp2_with fail
  go_must (go_at_call 35)
  refine T.out.mono ?_
  clear T
  cases o with
  | some x =>
    have HV : Hid (R = .fault x) := HR.out
    rintro e w2 ⟨⟨gg, rfl, hgg⟩, hb2⟩
    have B2 : Hid (Below w.heap.size w w2) := B1.out.trans (hb2.mono B1.out.size)
    have Z2 : Hid (w2.heap[w.heap.size]? = some (.cells (pkCells (blank 0)) 38 (0, 0))) := (hb2.block _ (lt_of_block Z1.out)).trans Z1.out
    have E2 : Hid (w2.heap[gg]? = some (.cells #[.int .i64 x.1, .int .i64 x.2] 61 (0, 0))) := hgg
    clear hgg hb2
    go_wp2_with (first | (refine wpList_build_to rfl 38 _ rfl (pkCells (blank 0)) built_zero ?_) | (refine wpList_store_row rfl 38 _ _ rfl w.heap.size (pkCells (blank 0)) rfl rfl 38 (pkCells (blank 0)) Z2.out pk_info rfl (pk_one _) ?_))
    rw [setRow_self w2 w.heap.size _ 38 (0, 0) Z2.out]
    refine bodyPost_ret (results_row_tmp2 rfl _ _ w.heap.size 38 (pkCells (blank 0)) (0, 0) _ rfl Z2.out Tryz.underlying38 rfl pk_info) rfl ?_
    rw [HV.out]
    exact ⟨⟨gg, rfl, E2.out⟩, B2.out⟩
  | none =>
    rintro e w2 ⟨he, hb2⟩
    obtain rfl : e = .returned (.tuple #[.int .i64 hd, .int .i64 l, .nilIface]) := he
    have B2 : Hid (Below w.heap.size w w2) := B1.out.trans (hb2.mono B1.out.size)
    have Z2 : Hid (w2.heap[w.heap.size]? = some (.cells (pkCells (blank 0)) 38 (0, 0))) := (hb2.block _ (lt_of_block Z1.out)).trans Z1.out
    have S2 : Hid (w.heap.size < w2.heap.size) := lt_of_block Z2.out
    have HR2 : Hid (R = if hd = 0 ∨ (n : Int) - hd < l then .more else match packP z (hd + l).toNat hd.toNat with | .error x => .fault x | .ok y => .ok y.1 y.2 (hd + l).toNat) := HR.out
    clear hb2 HR
    by_cases h0 : hd = 0
    · have HV : Hid (R = .more) := by show _ = _; rw [HR2.out, if_pos (.inl h0)]
      subst h0
      clear HR2
      go_wp2_with (first | (refine wpList_build_to rfl 38 _ rfl (pkCells (blank 0)) built_zero ?_) | (refine wpList_store_row rfl 38 _ _ rfl w.heap.size (pkCells (blank 0)) rfl rfl 38 (pkCells (blank 0)) Z2.out pk_info rfl (pk_one _) ?_))
      rw [setRow_self w2 w.heap.size _ 38 (0, 0) Z2.out]
      refine bodyPost_ret (results_row_tmp2 rfl _ _ w.heap.size 38 (pkCells (blank 0)) (0, 0) _ rfl Z2.out Tryz.underlying38 rfl pk_info) rfl ?_
      rw [HV.out]
      exact ⟨rfl, B2.out⟩
    obtain ⟨j, hj, hj1, hl0, hj4, hk⟩ := HO.out hd l rfl h0
    obtain ⟨a, ha⟩ : ∃ a : Nat, a = j + 1 := ⟨_, rfl⟩
    obtain ⟨L, hL⟩ : ∃ L : Nat, l = (L : Int) := ⟨l.toNat, by omega⟩
    rw [← ha] at hj
    subst hj hL
    have A1 : Hid (2 ≤ a ∧ a ≤ 5) := ⟨by omega, by omega⟩
    have ab : (a : Int) ≤ 5 := by omega
    have a0 : ((a : Int) == 0) = false := by have := A1.out; simp; omega
    have HK : Hid (1 ≤ z 0 / 16 ∧ z 0 / 16 ≤ 14) := hk
    have nb : (n : Int) ≤ 700000 := by have := HN.out; omega
    clear ha hj1 hl0 hk HO hj4 h0
    by_cases hl : (n : Int) - a < L
    · have HV : Hid (R = .more) := by show _ = _; rw [HR2.out, if_pos (.inr hl)]
      clear HR2
      go_wp2_with (first | (refine wpList_build_to rfl 38 _ rfl (pkCells (blank 0)) built_zero ?_) | (refine wpList_store_row rfl 38 _ _ rfl w.heap.size (pkCells (blank 0)) rfl rfl 38 (pkCells (blank 0)) Z2.out pk_info rfl (pk_one _) ?_))
      rw [setRow_self w2 w.heap.size _ 38 (0, 0) Z2.out]
      refine bodyPost_ret (results_row_tmp2 rfl _ _ w.heap.size 38 (pkCells (blank 0)) (0, 0) _ rfl Z2.out Tryz.underlying38 rfl pk_info) rfl ?_
      rw [HV.out]
      exact ⟨rfl, B2.out⟩
    obtain ⟨N, hN⟩ : ∃ N : Nat, ((a : Int) + (L : Int)).toNat = N := ⟨_, rfl⟩
    have NN : Hid (N = a + L ∧ N ≤ n) := ⟨by omega, by omega⟩
    have HR3 : Hid (R = match packP z N a with | .error x => .fault x | .ok y => .ok y.1 y.2 N) := by
      show _ = _
      have na : ¬ ((a : Int) = 0 ∨ (n : Int) - a < L) := by have := A1.out; omega
      rw [HR2.out, if_neg na, hN]
      rfl
    have lb : (L : Int) ≤ 700000 := by omega
    have hlb : decide ((n : Int) - a < L) = false := decide_eq_false hl
    have u0 : ¬ (a : Int) + L < 0 := by omega
    have u1 : (a : Int) + L ≤ cpb := by have := HCP.out; omega
    have u2 : ¬ (cpb : Int) < (a : Int) + L := by omega
    have PK : Hid (Calls Tryz.prog 36 #[.slice (some ⟨gb, off, none⟩) N cpb, .int .i64 a] w2 fun e w' => PackIs w2 w' e (packP z N a)) := by
      refine packet_any gb off N cpb a z w2 ?_ (by have := HN.out; have := NN.out; omega) (by have := A1.out; omega) (by have := NN.out; omega) HK.out (HG.out.below B2.out)
      have q := came_below (B := 0) HC.out B2.out
      refine ⟨by have := NN.out; have := HCP.out; omega, q.2.1, ?_⟩
      rcases q.2.2 with ⟨e, _⟩ | ⟨ad, e, c⟩
      · cases e
      · exact .inr ⟨ad, e, fun i hi => c i (by have := NN.out; omega)⟩
    obtain ⟨I, hI⟩ : ∃ I, I = packP z N a := ⟨_, rfl⟩
    rw [← hI] at PK HR3
    clear HR2 hI
    go_wp2_with fail
    go_must (go_at_call 36)
    refine PK.out.mono ?_
    clear PK
    cases I with
    | error x =>
      have HV : Hid (R = .fault x) := HR3.out
      rintro e w3 ⟨⟨gg, rfl, hgg⟩, hb3⟩
      have b4 : Below w3.heap.size w3 (w3.alloc (.cells (pkCells (blank 0)) 38)) := (Below.refl _ _).alloc (Nat.le_refl _) _
      obtain ⟨w4, hw4⟩ : ∃ W, W = w3.alloc (.cells (pkCells (blank 0)) 38) := ⟨_, rfl⟩
      rw [← hw4] at b4
      have B3 : Below w.heap.size w w3 := B2.out.trans (hb3.mono B2.out.size)
      have B4 : Hid (Below w.heap.size w w4) := B3.trans (b4.mono B3.size)
      have Z3 := (hb3.block _ (lt_of_block Z2.out)).trans Z2.out
      have Z4 : Hid (w4.heap[w.heap.size]? = some (.cells (pkCells (blank 0)) 38 (0, 0))) := (b4.block _ (lt_of_block Z3)).trans Z3
      have E4 : Hid (w4.heap[gg]? = some (.cells #[.int .i64 x.1, .int .i64 x.2] 61 (0, 0))) := (b4.block _ (lt_of_block hgg)).trans hgg
      clear hgg hb3 b4 B3 Z3
      go_upto_region 5 with (first | (refine wpList_store_row rfl 38 _ _ rfl w3.heap.size (pkCells (blank 0)) rfl rfl 38 _ (heap_alloc_new w3 _) pk_info rfl (pk_one _) ?_))
      rw [World.setRow_alloc_new, ← hw4]
      clear hw4
      go_wp2_with (first | (refine wpList_build_to rfl 38 _ rfl (pkCells (blank 0)) built_zero ?_) | (refine wpList_store_row rfl 38 _ _ rfl w.heap.size (pkCells (blank 0)) rfl rfl 38 (pkCells (blank 0)) Z4.out pk_info rfl (pk_one _) ?_))
      rw [setRow_self w4 w.heap.size _ 38 (0, 0) Z4.out]
      refine bodyPost_ret (results_row_tmp2 rfl _ _ w.heap.size 38 (pkCells (blank 0)) (0, 0) _ rfl Z4.out Tryz.underlying38 rfl pk_info) rfl ?_
      rw [HV.out]
      exact ⟨⟨gg, rfl, E4.out⟩, B4.out⟩
    | ok y =>
      have HV : Hid (R = .ok y.1 y.2 N) := HR3.out
      rintro e w3 ⟨⟨q, rfl, hin, hal, hnx⟩, hb3⟩
      obtain ⟨w4, hw4⟩ : ∃ W, W = w3.alloc (.cells (pkCells q) 38) := ⟨_, rfl⟩
      have b4 : Below w3.heap.size w3 w4 := by rw [hw4]; exact (Below.refl _ _).alloc (Nat.le_refl _) _
      have B3 : Below w.heap.size w w3 := B2.out.trans (hb3.mono B2.out.size)
      have B4 : Hid (Below w.heap.size w w4) := B3.trans (b4.mono B3.size)
      have Z3 := (hb3.block _ (lt_of_block Z2.out)).trans Z2.out
      have Z4 : Hid (w4.heap[w.heap.size]? = some (.cells (pkCells (blank 0)) 38 (0, 0))) := (b4.block _ (lt_of_block Z3)).trans Z3
      have P4 : Hid (w4.heap[w3.heap.size]? = some (.cells (pkCells q) 38 (0, 0))) := by show _ = _; rw [hw4]; exact heap_alloc_new w3 _
      have I4 : Hid (In w4 q y.2) := hin.below b4
      have AL : Hid (Alike q y.1) := hal
      have NX : Hid (NxAll w2.heap.size q) := hnx
      clear hin hal hnx hb3 b4 B3 Z3
      go_upto_region 5 with (first | (refine wpList_store_row rfl 38 _ _ rfl w3.heap.size (pkCells q) rfl rfl 38 _ (heap_alloc_new w3 _) pk_info rfl (pk_one _) ?_))
      rw [World.setRow_alloc_new, ← hw4]
      clear hw4
      go_wp2_with (first | (refine wpList_load_wanted rfl _ rfl w3.heap.size rfl _ (0, 0) P4.out (pk_size _) ?_) | (refine wpList_store_row rfl 38 _ _ rfl w.heap.size (pkCells q) rfl rfl 38 (pkCells (blank 0)) Z4.out pk_info rfl (pk_one _) ?_))
      refine bodyPost_ret (results_row_tmp2 rfl _ _ w.heap.size 38 (pkCells q) (0, 0) _ rfl (setRow_heap w4 w.heap.size _ _ 38 (0, 0) Z4.out) Tryz.underlying38 rfl pk_info) rfl ?_
      rw [HV.out]
      have x := NX.out
      have lw : w.heap.size ≤ w2.heap.size := Nat.le_of_lt S2.out
      have ea : (a : Int) + (L : Int) = (N : Int) := by have := NN.out; omega
      refine ⟨⟨q, by rw [← ea]; rfl, In.keep I4.out NX.out (fun ad v hav hb => ?_), AL.out, ⟨x.wP.lower lw, x.pass.lower lw, x.mP.lower lw, x.asks.lower lw, x.codes.lower lw, x.filters.lower lw⟩⟩, below_setRow B4.out (Nat.le_refl _) _⟩
      rw [cell_setRow_other _ _ _ _ (by have := S2.out; omega)]
      exact hav
end Go.Proofs.YtmfbkfgggdkfmaaGreatDoor
namespace Go.Proofs.YtmfbkfgggdkfmaaGreatDoor
open Go Go.RowKit
open Pkt (Pk Cn Sl In By Is Ss As pkCells Gd KindsAt form isK isKind_any Small ck TT sumN Tx wpList_load_wanted)
set_option linter.unusedSimpArgs false
set_option linter.unusedVariables false

/-! ### What is told of bytes, and what follows them -/
def needs : Int × Int × Option (Int × Int) := (0, 0, none)
theorem lenF_mono (z : Nat → Int) (n n' : Nat) (most : Int) (hn : n ≤ n') (f k : Nat) (acc : Int) (hk : k ≤ n) (h : lenF z n most f k acc ≠ needs) : lenF z n' most f k acc = lenF z n most f k acc := by
  induction f generalizing k acc with
  | zero => rfl
  | succ f ih =>
    unfold lenF at h ⊢
    by_cases e : k = n
    · rw [if_pos e] at h; exact absurd rfl h
    · rw [if_neg e] at h
      rw [if_neg e, if_neg (show ¬ k = n' by omega)]
      split
      · rfl
      · rename_i hz
        rw [if_neg hz] at h
        exact ih (k + 1) _ (by omega) h
theorem headP_mono (z : Nat → Int) (n n' : Nat) (most : Int) (hn : n ≤ n') (h : headP z n most ≠ needs) : headP z n' most = headP z n most := by
  unfold headP at h ⊢
  by_cases e : n = 0
  · rw [if_pos e] at h; exact absurd rfl h
  · rw [if_neg e] at h
    rw [if_neg e, if_neg (show ¬ n' = 0 by omega)]
    split
    · rfl
    · rename_i hf
      rw [if_neg hf] at h
      exact lenF_mono z n n' most hn 4 1 0 (by omega) h
/-- What is told is told whatever follows. -/
theorem decP_firm (z : Nat → Int) (n n' : Nat) (most : Int) (hn : n ≤ n') (h : decP z n most ≠ .more) : decP z n' most = decP z n most := by
  unfold decP at h ⊢
  have hh : headP z n (clampM most) ≠ needs := by
    intro e
    rw [e] at h
    exact h (by simp [decH, needs])
  rw [headP_mono z n n' _ hn hh]
  clear hh
  generalize headP z n (clampM most) = H at h ⊢
  obtain ⟨hd, l, o⟩ := H
  cases o with
  | some x => rfl
  | none =>
    unfold decH at h ⊢
    simp only at h ⊢
    by_cases e : hd = 0 ∨ (n : Int) - hd < l
    · rw [if_pos e] at h; exact absurd rfl h
    · rw [if_neg e, if_neg (by omega)]
end Go.Proofs.YtmfbkfgggdkfmaaGreatDoor
namespace Go.Proofs.YtmfbkfgggdkfmaaGreatDoor
open Go Go.RowKit
set_option linter.unusedSimpArgs false
set_option linter.unusedVariables false


end Go.Proofs.YtmfbkfgggdkfmaaGreatDoor
namespace Go.Proofs.YtmfbkfgggdkfmaaGreatDoor
open Go Go.RowKit
set_option linter.unusedSimpArgs false
set_option linter.unusedVariables false

theorem came_nil {w : World} {l k : Nat} {z : Nat → Int} (h : Came w none l k z) : l = 0 ∧ k = 0 := by
  obtain ⟨_, _, ⟨_, h1, h2⟩ | ⟨_, h, _⟩⟩ := h
  · exact ⟨h1, h2⟩
  · cases h

set_option maxRecDepth 100000 in
set_option maxHeartbeats 1000000 in
theorem cellsOf_congr (z z' : Nat → Int) (n : Nat) (h : ∀ i, i < n → z i = z' i) : cellsOf z n = cellsOf z' n := by
  unfold cellsOf
  apply List.map_congr_left
  intro i hi
  rw [h i (List.mem_range.1 hi)]
/-- Bytes, and others behind them. -/
def cat (z : Nat → Int) (n : Nat) (z' : Nat → Int) : Nat → Int := fun i => if i < n then z i else z' (i - n)
theorem cat_bd {z z' : Nat → Int} {n : Nat} (h : ∀ i, 0 ≤ z i ∧ z i ≤ 255) (h' : ∀ i, 0 ≤ z' i ∧ z' i ≤ 255) (i : Nat) : 0 ≤ cat z n z' i ∧ cat z n z' i ≤ 255 := by
  unfold cat
  split
  · exact h i
  · exact h' _
end Go.Proofs.YtmfbkfgggdkfmaaGreatDoor
namespace Go.Proofs.YtmfbkfgggdkfmaaGreatDoor.Pkt
open Go Go.RowKit Go.Sort
set_option linter.unusedSimpArgs false
set_option linter.unusedVariables false


set_option maxHeartbeats 1000000 in
theorem sameBytes_eq (s s' : Sl) (z : Nat → Int) (w : World) (h : By w s z) (h' : By w s' z) (hn : s.n = s'.n) (hm : s.n ≤ 1000000) :
    Calls Tryz.prog 34 #[.slice s.a s.n s.c, .slice s'.a s'.n s'.c] w fun e w' => e = .returned (.bool true) ∧ Below w.heap.size w w' := by
  obtain ⟨a, n, c⟩ := s
  obtain ⟨a', n', c'⟩ := s'
  simp only at hn hm
  subst hn
  have HA : Hid (By w ⟨a, n, c⟩ z) := h
  have HB : Hid (By w ⟨a', n, c'⟩ z) := h'
  have B0 : Hid (Below w.heap.size w w) := Below.refl _ _
  clear h h'
  go_enter Tryz.func34, Tryz.ntmps34
  go_wp2_with fail
  go_loopg [5] n (fun gg s5 wx => ∃ (k : Nat), s5 = .int .i64 k ∧ k + gg = n ∧ Hid (Below w.heap.size w wx))
  case atStart => exact ⟨0, rfl, by omega, B0⟩
  case round =>
    obtain ⟨k, rfl, hkg, B1⟩ := hrel
    by_cases hk : k < n
    · have hk' : (k : Int) < n := by omega
      obtain ⟨b, off, he, hc⟩ : ∃ b off, a = some ⟨b, off, none⟩ ∧ ∀ i, i < n → w.cell? ⟨b, off + i, none⟩ = some (.int .u8 (z i)) := by
        rcases HA.out.2.2 with h | h
        · simp only at h; omega
        · exact h
      obtain ⟨b', off', he', hc'⟩ : ∃ b off, a' = some ⟨b, off, none⟩ ∧ ∀ i, i < n → w.cell? ⟨b, off + i, none⟩ = some (.int .u8 (z i)) := by
        rcases HB.out.2.2 with h | h
        · simp only at h; omega
        · exact h
      subst he he'
      have hac : n ≤ c := HA.out.1
      have hac' : n ≤ c' := HB.out.1
      have c0 := cell_later B1.out (hc k hk)
      have d0 := cell_later B1.out (hc' k hk)
      obtain ⟨x, hx⟩ : ∃ x, z k = x := ⟨_, rfl⟩
      rw [hx] at c0 d0
      clear hx hc hc'
      obtain ⟨gg, hg⟩ : ∃ gg, gk = gg + 1 := ⟨gk - 1, by omega⟩
      go_wp2_with fail
      go_region
      all_goals
        go_wp2
        go_roundg gg
        case measure => omega
        case rel => exact ⟨k + 1, by first | rfl | simp, by omega, by first | exact B1 | exact B1.out.drew⟩
    · obtain rfl : k = n := by omega
      have hk' : ¬ (k : Int) < k := by omega
      go_wp2
      go_ret
      exact ⟨rfl, B1.out⟩

set_option maxHeartbeats 1000000 in
theorem sameMessage_eq (t : ByteArray) (q : Int) (r : Bool) (s s' : Sl) (z : Nat → Int) (w : World) (h : By w s z) (h' : By w s' z) (hn : s.n = s'.n) (hm : s.n ≤ 1000000) :
    Calls Tryz.prog 33 #[.agg #[.string t, .slice s.a s.n s.c, .int .i64 q, .bool r], .agg #[.string t, .slice s'.a s'.n s'.c, .int .i64 q, .bool r]] w fun e w' => e = .returned (.bool true) ∧ Below w.heap.size w w' := by
  have HC : Hid (∀ w', Below w.heap.size w w' → Calls Tryz.prog 34 #[.slice s.a s.n s.c, .slice s'.a s'.n s'.c] w' fun e w'' => e = .returned (.bool true) ∧ Below w'.heap.size w' w'') := fun w' hb => sameBytes_eq s s' z w' (h.below hb) (h'.below hb) hn hm
  clear h h' hn hm
  go_enter Tryz.func33, Tryz.ntmps33
  go_wp2_with fail
  go_must (go_at_call 34)
  refine (HC.out _ (below2 _ _ _)).mono ?_
  rintro e w1 ⟨rfl, hb⟩
  have B1 : Hid (Below w.heap.size w w1) := (below2 w _ _).trans (hb.mono (below2 w _ _).size)
  clear hb
  go_wp2
  go_ret
  exact ⟨rfl, B1.out⟩

theorem neq_ask (t t' : ByteArray) (q q' : Int) (w : World) : (binOp .neq 77 (.agg #[.string t, .int .i64 q]) (.agg #[.string t', .int .i64 q'])).run Tryz.prog w = .ok (.bool (!((t.toList == t'.toList) && (q == q')))) w := by
  have hu : Tryz.prog.underlying 77 = some (.struct (Tryz.prog.fieldsOf 77)) := by kernel_rfl
  have hp : Tryz.prog.stoodInHeld 77 = false := by kernel_rfl
  rw [run_neq_struct, run_equalIn_agg w 9999 77 _ _ hu hp]
  clear hu hp
  simp only [Program.fieldsOf, Tryz.underlying77]
  cases h1 : (t.toList == t'.toList)
  · go_simp
  · cases h2 : (q == q')
    · go_simp
    · go_simp
theorem neq_ask_eq (t : ByteArray) (q : Int) (w : World) : (binOp .neq 77 (.agg #[.string t, .int .i64 q]) (.agg #[.string t, .int .i64 q])).run Tryz.prog w = .ok (.bool false) w := by
  rw [neq_ask]; simp

/-- A packet with other lists. -/
def Pk.re (p : Pk) (s1 s2 s3 s4 s5 s6 : Sl) : Pk := { p with wP := s1, pass := s2, mP := s3, asks := s4, codes := s5, filters := s6 }
end Go.Proofs.YtmfbkfgggdkfmaaGreatDoor.Pkt
namespace Go.Proofs.YtmfbkfgggdkfmaaGreatDoor.Pkt
open Go Go.RowKit Go.Sort
set_option linter.unusedSimpArgs false
set_option linter.unusedVariables false

set_option maxHeartbeats 8000000 in
set_option maxRecDepth 100000 in
/-- The document's Same of a packet and of one that has the same things in other lists. -/
theorem rsame_eq (p : Pk) (c : Cn) (s1 s2 s3 s4 s5 s6 : Sl) (w : World) (hb : In w p c) (ha : In w (p.re s1 s2 s3 s4 s5 s6) c) (n1 : s1.n = p.wP.n) (n2 : s2.n = p.pass.n) (n3 : s3.n = p.mP.n) (n4 : s4.n = p.asks.n) (n5 : s5.n = p.codes.n) (n6 : s6.n = p.filters.n) (hs : Small p c) :
    Calls Tryz.prog 24 #[(p.re s1 s2 s3 s4 s5 s6).v, p.v] w fun e w' => e = .returned (.bool true) ∧ Below w.heap.size w w' := by
  have HB : Hid (In w p c) := hb
  have HA : Hid (In w (p.re s1 s2 s3 s4 s5 s6) c) := ha
  have HS : Hid (Small p c) := hs
  have N1 : Hid (s1.n = p.wP.n) := n1
  have N2 : Hid (s2.n = p.pass.n) := n2
  have N3 : Hid (s3.n = p.mP.n) := n3
  have N4 : Hid (s4.n = p.asks.n) := n4
  have N5 : Hid (s5.n = p.codes.n) := n5
  have N6 : Hid (s6.n = p.filters.n) := n6
  have LA : Hid (s4.n ≤ 1000000 ∧ s5.n ≤ 1000000 ∧ s6.n ≤ 1000000) := ⟨by rw [n4]; exact hs.an, by rw [n5]; exact hs.cn, by rw [n6]; exact hs.fn⟩
  clear hb ha hs n1 n2 n3 n4 n5 n6
  obtain ⟨P, hP⟩ : ∃ P, P = pkCells (p.re s1 s2 s3 s4 s5 s6) := ⟨_, rfl⟩
  obtain ⟨Q, hQ⟩ : ∃ Q, Q = pkCells p := ⟨_, rfl⟩
  rw [show (p.re s1 s2 s3 s4 s5 s6).v = .agg P by rw [hP]; rfl, show p.v = .agg Q by rw [hQ]; rfl]
  have HP : Hid (P = pkCells (p.re s1 s2 s3 s4 s5 s6)) := hP
  have HQ : Hid (Q = pkCells p) := hQ
  clear hP hQ
  obtain ⟨V, hV⟩ : ∃ V, V = w.alloc (.cells P 38) := ⟨_, rfl⟩
  obtain ⟨W, hW⟩ : ∃ W, W = V.alloc (.cells Q 38) := ⟨_, rfl⟩
  obtain ⟨g, hg⟩ : ∃ g, g = w.heap.size + 1 := ⟨_, rfl⟩
  have hgV : g = V.heap.size := by rw [hg, hV]; simp
  have bV : Hid (Below w.heap.size w V) := box_below hV
  have bW : Hid (Below V.heap.size V W) := box_below hW
  have b0 : Hid (Below w.heap.size w W) := bV.out.trans (bW.out.mono bV.out.size)
  have FA : Hid (∀ k v, (pkCells (p.re s1 s2 s3 s4 s5 s6))[k]? = some v → ∀ w', Below W.heap.size W w' → w'.cell? ⟨w.heap.size, k, none⟩ = some v) := fun k v h w' hb => cell_later hb (cell_later bW.out (by rw [hV]; exact box_cell w P 38 k v (by rw [HP.out]; exact h)))
  have FB : Hid (∀ k v, (pkCells p)[k]? = some v → ∀ w', Below W.heap.size W w' → w'.cell? ⟨g, k, none⟩ = some v) := fun k v h w' hb => cell_later hb (by rw [hgV, hW]; exact box_cell V Q 38 k v (by rw [HQ.out]; exact h))
  have BW : Hid (∀ w', Below W.heap.size W w' → Below w.heap.size w w') := fun w' hb => b0.out.trans (hb.mono b0.out.size)
  have R0 : Hid (Below W.heap.size W W) := Below.refl _ _
  go_enter Tryz.func24, Tryz.ntmps24
  go_upto_region 1 with fail
  rw [← hV, ← hg, ← hW]
  clear hV hW hg hgV
  have c0 := FA.out 0 (.int .i64 p.kind) rfl W R0.out
  have d0 := FB.out 0 (.int .i64 p.kind) rfl W R0.out
  have c1 := FA.out 1 (.int .i64 p.level) rfl W R0.out
  have d1 := FB.out 1 (.int .i64 p.level) rfl W R0.out
  have c2 := FA.out 2 (.bool p.clean) rfl W R0.out
  have d2 := FB.out 2 (.bool p.clean) rfl W R0.out
  have c3 := FA.out 3 (.int .i64 p.keep) rfl W R0.out
  have d3 := FB.out 3 (.int .i64 p.keep) rfl W R0.out
  have c4 := FA.out 4 (.string p.client) rfl W R0.out
  have d4 := FB.out 4 (.string p.client) rfl W R0.out
  have c5 := FA.out 5 (.bool p.hasWill) rfl W R0.out
  have d5 := FB.out 5 (.bool p.hasWill) rfl W R0.out
  have c10 := FA.out 10 (.bool p.hasUser) rfl W R0.out
  have d10 := FB.out 10 (.bool p.hasUser) rfl W R0.out
  have c11 := FA.out 11 (.string p.user) rfl W R0.out
  have d11 := FB.out 11 (.string p.user) rfl W R0.out
  have c12 := FA.out 12 (.bool p.hasPass) rfl W R0.out
  have d12 := FB.out 12 (.bool p.hasPass) rfl W R0.out
  go_upto_region 3 with fail
  clear c0 d0 c1 d1 c2 d2 c3 d3 c4 d4 c5 d5 c10 d10 c11 d11 c12 d12
  have c14 := FA.out 14 (.bool p.present) rfl W R0.out
  have d14 := FB.out 14 (.bool p.present) rfl W R0.out
  have c15 := FA.out 15 (.int .i64 p.code) rfl W R0.out
  have d15 := FB.out 15 (.int .i64 p.code) rfl W R0.out
  have c16 := FA.out 16 (.bool p.dup) rfl W R0.out
  have d16 := FB.out 16 (.bool p.dup) rfl W R0.out
  have c21 := FA.out 21 (.int .i64 p.id) rfl W R0.out
  have d21 := FB.out 21 (.int .i64 p.id) rfl W R0.out
  have c6 := FA.out 6 (.string p.wT) rfl W R0.out
  have d6 := FB.out 6 (.string p.wT) rfl W R0.out
  have c7 := FA.out 7 (.slice s1.a s1.n s1.c) rfl W R0.out
  have d7 := FB.out 7 (.slice p.wP.a p.wP.n p.wP.c) rfl W R0.out
  have c8 := FA.out 8 (.int .i64 p.wQ) rfl W R0.out
  have d8 := FB.out 8 (.int .i64 p.wQ) rfl W R0.out
  have c9 := FA.out 9 (.bool p.wR) rfl W R0.out
  have d9 := FB.out 9 (.bool p.wR) rfl W R0.out
  go_wp2_with fail
  go_must (go_at_call 33)
  refine (sameMessage_eq _ _ _ s1 p.wP c.wz _ (HA.out.wP.below b0.out) (HB.out.wP.below b0.out) N1.out (by rw [N1.out]; exact HS.out.wp)).mono ?_
  rintro e w1 ⟨rfl, hb⟩
  have B1 : Hid (Below W.heap.size W w1) := hb
  clear hb
  clear c14 d14 c15 d15 c16 d16 c21 d21 c6 d6 c7 d7 c8 d8 c9 d9
  have c17 := FA.out 17 (.string p.mT) rfl w1 B1.out
  have d17 := FB.out 17 (.string p.mT) rfl w1 B1.out
  have c18 := FA.out 18 (.slice s3.a s3.n s3.c) rfl w1 B1.out
  have d18 := FB.out 18 (.slice p.mP.a p.mP.n p.mP.c) rfl w1 B1.out
  have c19 := FA.out 19 (.int .i64 p.mQ) rfl w1 B1.out
  have d19 := FB.out 19 (.int .i64 p.mQ) rfl w1 B1.out
  have c20 := FA.out 20 (.bool p.mR) rfl w1 B1.out
  have d20 := FB.out 20 (.bool p.mR) rfl w1 B1.out
  go_wp2_with fail
  go_must (go_at_call 33)
  refine (sameMessage_eq _ _ _ s3 p.mP c.mz _ (HA.out.mP.below (BW.out _ B1.out)) (HB.out.mP.below (BW.out _ B1.out)) N3.out (by rw [N3.out]; exact HS.out.mp)).mono ?_
  rintro e w2 ⟨rfl, hb⟩
  have B2 : Hid (Below W.heap.size W w2) := B1.out.trans (hb.mono B1.out.size)
  clear hb
  clear c17 d17 c18 d18 c19 d19 c20 d20
  have c13 := FA.out 13 (.slice s2.a s2.n s2.c) rfl w2 B2.out
  have d13 := FB.out 13 (.slice p.pass.a p.pass.n p.pass.c) rfl w2 B2.out
  go_wp2_with fail
  go_must (go_at_call 34)
  refine (sameBytes_eq s2 p.pass c.pz _ (HA.out.pass.below (BW.out _ B2.out)) (HB.out.pass.below (BW.out _ B2.out)) N2.out (by rw [N2.out]; exact HS.out.ps)).mono ?_
  rintro e w3 ⟨rfl, hb⟩
  have B3 : Hid (Below W.heap.size W w3) := B2.out.trans (hb.mono B2.out.size)
  clear hb
  clear c13 d13
  have c22 := FA.out 22 (.slice s4.a s4.n s4.c) rfl w3 B3.out
  have d22 := FB.out 22 (.slice p.asks.a p.asks.n p.asks.c) rfl w3 B3.out
  have c23 := FA.out 23 (.slice s5.a s5.n s5.c) rfl w3 B3.out
  have d23 := FB.out 23 (.slice p.codes.a p.codes.n p.codes.c) rfl w3 B3.out
  have c24 := FA.out 24 (.slice s6.a s6.n s6.c) rfl w3 B3.out
  have d24 := FB.out 24 (.slice p.filters.a p.filters.n p.filters.c) rfl w3 B3.out
  rw [← N4.out] at d22
  rw [← N5.out] at d23
  rw [← N6.out] at d24
  go_wp2_with fail
  clear c22 d22 c23 d23 c24 d24
  go_loopg [5] s4.n (fun gg sx wx => ∃ (k : Nat), sx = .int .i64 k ∧ k + gg = s4.n ∧ Hid (Below W.heap.size W wx))
  case atStart => exact ⟨0, rfl, by omega, B3⟩
  case round =>
    obtain ⟨k, rfl, hkg, B5⟩ := hrel
    have c22 := FA.out 22 (.slice s4.a s4.n s4.c) rfl _ B5.out
    have d22 := FB.out 22 (.slice p.asks.a p.asks.n p.asks.c) rfl _ B5.out
    rw [← N4.out] at d22
    by_cases hk : k < s4.n
    · have hk' : (k : Int) < s4.n := by omega
      obtain ⟨b, off, he, hc⟩ : ∃ b off, s4.a = some ⟨b, off, none⟩ ∧ ∀ i, i < s4.n → (w.cell? ⟨b, off + i * 2, none⟩ = some (.string (c.af i)) ∧ w.cell? ⟨b, off + i * 2 + 1, none⟩ = some (.int .i64 (c.aq i))) := by
        rcases (HA.out.asks).2 with h | h
        · have h' : s4.n = 0 := h
          omega
        · exact h
      obtain ⟨b', off', he', hc'⟩ : ∃ b off, p.asks.a = some ⟨b, off, none⟩ ∧ ∀ i, i < p.asks.n → (w.cell? ⟨b, off + i * 2, none⟩ = some (.string (c.af i)) ∧ w.cell? ⟨b, off + i * 2 + 1, none⟩ = some (.int .i64 (c.aq i))) := by
        rcases (HB.out.asks).2 with h | h
        · have h' := N4.out
          omega
        · exact h
      have hac : s4.n ≤ s4.c := HA.out.asks.1
      have hac' : s4.n ≤ p.asks.c := by rw [N4.out]; exact HB.out.asks.1
      rw [he] at c22
      rw [he'] at d22
      have hk2 : k < p.asks.n := by rw [← N4.out]; exact hk
      have e0 := cell_later (BW.out _ B5.out) (hc k hk).1
      have e1 := cell_later (BW.out _ B5.out) (hc k hk).2
      have f0 := cell_later (BW.out _ B5.out) (hc' k hk2).1
      have f1 := cell_later (BW.out _ B5.out) (hc' k hk2).2
      obtain ⟨x, hx⟩ : ∃ x, c.af k = x := ⟨_, rfl⟩
      obtain ⟨y, hy⟩ : ∃ x, c.aq k = x := ⟨_, rfl⟩
      rw [hx] at e0 f0
      rw [hy] at e1 f1
      clear hx hy
      have EQ := neq_ask_eq x y
      have EG : Tryz.prog.eqGuardType Tryz.prog.depth 77 = false := by kernel_rfl
      clear he he' hc hc' hk2
      have hlim := LA.out
      obtain ⟨gg, hgg⟩ : ∃ gg, gk = gg + 1 := ⟨gk - 1, by omega⟩
      go_wp2_with fail
      go_region
      all_goals
        go_wp2
        go_roundg gg
        case measure => omega
        case rel => exact ⟨k + 1, by first | rfl | simp, by omega, by first | exact B5 | exact B5.out.drew⟩
    · obtain rfl : k = s4.n := by omega
      have hk' : ¬ (s4.n : Int) < s4.n := by omega
      go_wp2_with fail
      clear c22 d22 hk hk'
      go_loopg [6] s5.n (fun gg sx wx => ∃ (k : Nat), sx = .int .i64 k ∧ k + gg = s5.n ∧ Hid (Below W.heap.size W wx))
      case atStart => exact ⟨0, rfl, by omega, B5⟩
      case round =>
        obtain ⟨k, rfl, hkg, B6⟩ := hrel
        have c23 := FA.out 23 (.slice s5.a s5.n s5.c) rfl _ B6.out
        have d23 := FB.out 23 (.slice p.codes.a p.codes.n p.codes.c) rfl _ B6.out
        rw [← N5.out] at d23
        by_cases hk : k < s5.n
        · have hk' : (k : Int) < s5.n := by omega
          obtain ⟨b, off, he, hc⟩ : ∃ b off, s5.a = some ⟨b, off, none⟩ ∧ ∀ i, i < s5.n → w.cell? ⟨b, off + i, none⟩ = some (.int .i64 (c.cs i)) := by
            rcases (HA.out.codes).2 with h | h
            · have h' : s5.n = 0 := h
              omega
            · exact h
          obtain ⟨b', off', he', hc'⟩ : ∃ b off, p.codes.a = some ⟨b, off, none⟩ ∧ ∀ i, i < p.codes.n → w.cell? ⟨b, off + i, none⟩ = some (.int .i64 (c.cs i)) := by
            rcases (HB.out.codes).2 with h | h
            · have h' := N5.out
              omega
            · exact h
          have hac : s5.n ≤ s5.c := HA.out.codes.1
          have hac' : s5.n ≤ p.codes.c := by rw [N5.out]; exact HB.out.codes.1
          rw [he] at c23
          rw [he'] at d23
          have hk2 : k < p.codes.n := by rw [← N5.out]; exact hk
          have e0 := cell_later (BW.out _ B6.out) (hc k hk)
          have f0 := cell_later (BW.out _ B6.out) (hc' k hk2)
          obtain ⟨x, hx⟩ : ∃ x, c.cs k = x := ⟨_, rfl⟩
          rw [hx] at e0 f0
          clear hx
          clear he he' hc hc' hk2
          have hlim := LA.out
          obtain ⟨gg, hgg⟩ : ∃ gg, gk = gg + 1 := ⟨gk - 1, by omega⟩
          go_wp2_with fail
          go_region
          all_goals
            go_wp2
            go_roundg gg
            case measure => omega
            case rel => exact ⟨k + 1, by first | rfl | simp, by omega, by first | exact B6 | exact B6.out.drew⟩
        · obtain rfl : k = s5.n := by omega
          have hk' : ¬ (s5.n : Int) < s5.n := by omega
          go_wp2_with fail
          clear c23 d23 hk hk'
          go_loopg [7] s6.n (fun gg sx wx => ∃ (k : Nat), sx = .int .i64 k ∧ k + gg = s6.n ∧ Hid (Below W.heap.size W wx))
          case atStart => exact ⟨0, rfl, by omega, B6⟩
          case round =>
            obtain ⟨k, rfl, hkg, B7⟩ := hrel
            have c24 := FA.out 24 (.slice s6.a s6.n s6.c) rfl _ B7.out
            have d24 := FB.out 24 (.slice p.filters.a p.filters.n p.filters.c) rfl _ B7.out
            rw [← N6.out] at d24
            by_cases hk : k < s6.n
            · have hk' : (k : Int) < s6.n := by omega
              obtain ⟨b, off, he, hc⟩ : ∃ b off, s6.a = some ⟨b, off, none⟩ ∧ ∀ i, i < s6.n → w.cell? ⟨b, off + i, none⟩ = some (.string (c.fs i)) := by
                rcases (HA.out.filters).2 with h | h
                · have h' : s6.n = 0 := h
                  omega
                · exact h
              obtain ⟨b', off', he', hc'⟩ : ∃ b off, p.filters.a = some ⟨b, off, none⟩ ∧ ∀ i, i < p.filters.n → w.cell? ⟨b, off + i, none⟩ = some (.string (c.fs i)) := by
                rcases (HB.out.filters).2 with h | h
                · have h' := N6.out
                  omega
                · exact h
              have hac : s6.n ≤ s6.c := HA.out.filters.1
              have hac' : s6.n ≤ p.filters.c := by rw [N6.out]; exact HB.out.filters.1
              rw [he] at c24
              rw [he'] at d24
              have hk2 : k < p.filters.n := by rw [← N6.out]; exact hk
              have e0 := cell_later (BW.out _ B7.out) (hc k hk)
              have f0 := cell_later (BW.out _ B7.out) (hc' k hk2)
              obtain ⟨x, hx⟩ : ∃ x, c.fs k = x := ⟨_, rfl⟩
              rw [hx] at e0 f0
              clear hx
              clear he he' hc hc' hk2
              have hlim := LA.out
              obtain ⟨gg, hgg⟩ : ∃ gg, gk = gg + 1 := ⟨gk - 1, by omega⟩
              go_wp2_with fail
              go_region
              all_goals
                go_wp2
                go_roundg gg
                case measure => omega
                case rel => exact ⟨k + 1, by first | rfl | simp, by omega, by first | exact B7 | exact B7.out.drew⟩
            · obtain rfl : k = s6.n := by omega
              have hk' : ¬ (s6.n : Int) < s6.n := by omega
              go_wp2
              go_ret
              exact ⟨rfl, BW.out _ B7.out⟩
end Go.Proofs.YtmfbkfgggdkfmaaGreatDoor.Pkt
namespace Go.Proofs.YtmfbkfgggdkfmaaGreatDoor
open Go Go.RowKit
open Pkt (Pk Cn Sl In By Is Ss As pkCells Gd KindsAt form isK isKind_any Small ck TT sumN Tx wpList_load_wanted)
set_option linter.unusedSimpArgs false
set_option linter.unusedVariables false

theorem head_nil (most : Int) (w : World) : Calls Tryz.prog 35 #[.slice none 0 0, .int .i64 most] w fun e w' => e = .returned (.tuple #[.int .i64 0, .int .i64 0, .nilIface]) ∧ w' = w := by
  go_enter Tryz.func35, Tryz.ntmps35
  go_wp2
  go_step3
  go_wp2
  try rw [Exit.noGoto_ret]
  go_ret3
  exact ⟨rfl, rfl⟩
set_option maxRecDepth 100000 in
set_option maxHeartbeats 1000000 in
theorem decode_nil (most : Int) (w : World) : Calls Tryz.prog 26 #[.slice none 0 0, .int .i64 most] w fun e w' => DecIs w w' e .more := by
  obtain ⟨W1, hW1⟩ : ∃ W, W = w.alloc (.cells (pkCells (blank 0)) 38) := ⟨_, rfl⟩
  have B1 : Hid (Below w.heap.size w W1) := by show Below _ _ _; rw [hW1]; exact (Below.refl _ _).alloc (Nat.le_refl _) _
  have Z1 : Hid (W1.heap[w.heap.size]? = some (.cells (pkCells (blank 0)) 38 (0, 0))) := by show _ = _; rw [hW1]; exact heap_alloc_new w _
  go_enter Tryz.func26, Tryz.ntmps26
  go_upto_region 1 with fail
  have eW : w.alloc (.cells #[.int .i64 0, .int .i64 0, .bool false, .int .i64 0, .string ⟨#[]⟩, .bool false, .string ⟨#[]⟩, .slice none 0 0, .int .i64 0, .bool false, .bool false, .string ⟨#[]⟩, .bool false, .slice none 0 0, .bool false, .int .i64 0, .bool false, .string ⟨#[]⟩, .slice none 0 0, .int .i64 0, .bool false, .int .i64 0, .slice none 0 0, .slice none 0 0, .slice none 0 0] 38) = W1 := hW1.symm
  rw [eW]
  clear eW hW1
  go_wp2_with fail
  go_must (go_at_call 35)
  refine (head_nil _ W1).mono ?_
  rintro e w' ⟨rfl, hee⟩
  obtain rfl := hee.symm
  clear hee
  go_wp2_with (first | (refine wpList_build_to rfl 38 _ rfl (pkCells (blank 0)) built_zero ?_) | (refine wpList_store_row rfl 38 _ _ rfl w.heap.size (pkCells (blank 0)) rfl rfl 38 (pkCells (blank 0)) Z1.out pk_info rfl (pk_one _) ?_))
  rw [setRow_self W1 w.heap.size _ 38 (0, 0) Z1.out]
  refine bodyPost_ret (results_row_tmp2 rfl _ _ w.heap.size 38 (pkCells (blank 0)) (0, 0) _ rfl Z1.out Tryz.underlying38 rfl pk_info) rfl ?_
  exact ⟨rfl, B1.out⟩
/-- A slice whose bytes came from a plain place. -/
def Plain (ao : Option Addr) : Prop := ∀ ad, ao = some ad → ∃ g off, ad = ⟨g, off, none⟩
theorem decode_came (ao : Option Addr) (n cpb : Nat) (z : Nat → Int) (most : Int) (w : World) (hc : Came w ao n cpb z) (hp : Plain ao) (hn : n ≤ 700000) (hg : Gd w) :
    Calls Tryz.prog 26 #[.slice ao n cpb, .int .i64 most] w fun e w' => DecIs w w' e (decP z n most) := by
  cases ao with
  | none =>
    obtain ⟨rfl, rfl⟩ := came_nil hc
    have e : decP z 0 most = .more := by simp [decP, headP, decH]
    rw [e]
    exact decode_nil most w
  | some ad =>
    obtain ⟨g, off, rfl⟩ := hp ad rfl
    exact decode_any g off n cpb z most w hc hn hg
/-- Two readings of one packet are the same. -/
theorem same_alike (p q q' : Pk) (c : Cn) (w : World) (h : Alike q p) (h' : Alike q' p) (hi : In w q c) (hi' : In w q' c) (hs : Small p c) :
    Calls Tryz.prog 24 #[.agg (pkCells q), .agg (pkCells q')] w fun e w' => e = .returned (.bool true) ∧ Below w.heap.size w w' := by
  have hs' : Small q' c := small_alike h' hs
  obtain ⟨s1, s2, s3, s4, s5, s6, rfl, h1, h2, h3, h4, h5, h6⟩ := h
  obtain ⟨t1, t2, t3, t4, t5, t6, rfl, g1, g2, g3, g4, g5, g6⟩ := h'
  exact Pkt.rsame_eq { p with wP := t1, pass := t2, mP := t3, asks := t4, codes := t5, filters := t6 } c s1 s2 s3 s4 s5 s6 w hi' hi (h1.trans g1.symm) (h2.trans g2.symm) (h3.trans g3.symm) (h4.trans g4.symm) (h5.trans g5.symm) (h6.trans g6.symm) hs'
end Go.Proofs.YtmfbkfgggdkfmaaGreatDoor
namespace Go.Proofs.YtmfbkfgggdkfmaaGreatDoor
open Go Go.RowKit
open Pkt (Pk Cn Sl In By Is Ss As pkCells Gd KindsAt form isK isKind_any Small ck TT sumN Tx wpList_load_wanted)
set_option linter.unusedSimpArgs false
set_option linter.unusedVariables false

/-! ### A fault has a number, a packet has bytes -/
section
variable {z : Nat → Int} {n : Nat}
theorem pack_ok {h : Nat} {y : Pk × Cn} (hn : n ≤ 700000) (hh : h ≤ n) (e : packP z n h = .ok y) : Small y.1 y.2 := by
  unfold packP at e
  split at e
  · cases e
  · rename_i y' hy
    split at e
    · cases e; exact into_small hn hh hy
    · cases e
theorem dec_ok (most : Int) (hz : ∀ i, 0 ≤ z i ∧ z i ≤ 255) (hn : n ≤ 700000) {p : Pk} {c : Cn} {N : Nat} (h : decP z n most = .ok p c N) : 0 < N ∧ N ≤ n ∧ Small p c := by
  unfold decP at h
  cases e : headP z n (clampM most) with
  | mk hd t =>
    obtain ⟨l, o⟩ := t
    rw [e] at h
    cases o with
    | some y => cases h
    | none =>
      unfold decH at h
      simp only at h
      split at h
      · cases h
      · rename_i hc
        split at h
        · cases h
        · rename_i y hy
          have h0 : hd ≠ 0 := fun q => hc (.inl q)
          obtain ⟨j, a1, a2, a3, a4, _⟩ := headP_out z n _ hz hd l e h0
          have hl : ¬ (n : Int) - hd < l := fun q => hc (.inr q)
          cases h
          refine ⟨by omega, by omega, pack_ok (by omega) (by omega) hy⟩
end
end Go.Proofs.YtmfbkfgggdkfmaaGreatDoor
namespace Go.Proofs.YtmfbkfgggdkfmaaGreatDoor
open Go Go.RowKit
open Pkt (Pk Cn Sl In By Is Ss As pkCells Gd KindsAt form isK isKind_any Small ck TT sumN Tx wpList_load_wanted)
set_option linter.unusedSimpArgs false
set_option linter.unusedVariables false

end Go.Proofs.YtmfbkfgggdkfmaaGreatDoor
namespace Go.Proofs.YtmfbkfgggdkfmaaGreatDoor
open Go Go.RowKit
open Pkt (Pk Cn Sl In By Is Ss As pkCells Gd KindsAt form isK isKind_any Small ck TT sumN Tx wpList_load_wanted)
set_option linter.unusedSimpArgs false
set_option linter.unusedVariables false



end Go.Proofs.YtmfbkfgggdkfmaaGreatDoor
namespace Go.Proofs.YtmfbkfgggdkfmaaGreatDoor
open Go Go.RowKit
open Pkt (Pk Cn Sl In By Is Ss As pkCells Gd KindsAt form isK isKind_any Small ck TT sumN Tx wpList_load_wanted)
set_option linter.unusedSimpArgs false
set_option linter.unusedVariables false

/-- Bytes of a list, and nothing behind. -/
def listZ (L : List Int) : Nat → Int := fun i => L.getD i 0
theorem ck_ping : ck TT (blank 12) noCn = 0 := by kernel_rfl
end Go.Proofs.YtmfbkfgggdkfmaaGreatDoor
namespace Go.Proofs.YtmfbkfgggdkfmaaGreatDoor
open Go Go.RowKit
open Pkt (Pk Cn Sl In By Is Ss As pkCells Gd KindsAt form isK isKind_any Small ck TT sumN Tx wpList_load_wanted)
set_option linter.unusedSimpArgs false
set_option linter.unusedVariables false

theorem listZ_bd (L : List Int) (h : ∀ x ∈ L, 0 ≤ x ∧ x ≤ 255) (i : Nat) : 0 ≤ listZ L i ∧ listZ L i ≤ 255 := by
  unfold listZ
  by_cases hi : i < L.length
  · have : L.getD i 0 ∈ L := by simp [hi]
    exact h _ this
  · simp [List.getD, List.getElem?_eq_none (by omega : L.length ≤ i)]
end Go.Proofs.YtmfbkfgggdkfmaaGreatDoor
