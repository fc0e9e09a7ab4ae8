import Derived.Test.YtmfbkfgggdkfmaaGreatDoorCp
namespace Go.Proofs.YtmfbkfgggdkfmaaGreatDoor.Co
open Go Go.RowKit
open Pkt (Pk Cn Sl In By Is Ss As pkCells Gd KindsAt Small wpList_load_wanted)
set_option linter.unusedSimpArgs false
set_option linter.unusedVariables false
/-! ### Next of a conn that is over -/
/-! ### Push -/
set_option maxHeartbeats 1000000 in
theorem push_any {w : World} {cb fb : Nat} {most : Int} {B : Nat} {st si bd : Int} {rf : Option Nat} {P : Nat} {z : Nat → Int} {H : Nat} (h : LvS w cb fb most B st si bd rf P z H) (hst : st = 0 ∨ st = 1) (l : Sl) (zb z' : Nat → Int) (hl : By w l zb) (hn : P + H ≤ 400000) (hln : l.n ≤ 400000) (hB : B ≤ w.heap.size) (h1 : ∀ i, i < H → z' i = z i) (h2 : ∀ i, i < l.n → z' (H + i) = zb i) :
    Calls Tryz.prog 8 #[.pointer (some ⟨cb, 0, none⟩), .slice l.a l.n l.c] w fun e w' => e = .returned (.tuple #[]) ∧ ∃ rf', LvS w' cb fb most B st si bd rf' P z' (H + l.n) ∧ Ch (fun k => k = fb ∨ rf = some k) w w' ∧ Nw w.heap.size rf rf' := by
  have c0 := h.cn.cells.1
  have c1 := h.cn.cells.2.1
  have es : (st == 2) = false := by rcases hst with q | q <;> rw [q] <;> rfl
  have es' : (st != 2) = true := by rcases hst with q | q <;> rw [q] <;> rfl
  have PT := hidi (fs_put h.fs l zb z' hl hn hln hB h1 h2)
  have HL := hidi h
  obtain ⟨la, ln, lc⟩ := l
  clear h hst hl hn hln hB h1 h2
  go_enter Tryz.func8, Tryz.ntmps8
  go_wp2_with fail
  go_must (go_at_call 15)
  refine PT.out.mono ?_
  rintro e w2 ⟨rfl, rf', h1, h2, h3⟩
  have HF := hidi (show ∃ rf', LvS w2 cb fb most B st si bd rf' P z' (H + ln) ∧ Ch (fun k => k = fb ∨ rf = some k) w w2 ∧ Nw w.heap.size rf rf' from ⟨rf', ⟨HL.out.cn.keep (h2.out.block cb HL.out.cn.lt (by
    rintro (q | q)
    · exact HL.out.ne q
    · obtain ⟨_, cc, h4⟩ := HL.out.fs.blk.2 cb q
      exact blk_ne HL.out.cn h4 (by decide) rfl)), h1.out⟩, h2.out, h3.out⟩)
  clear h1 h2 h3 PT
  go_wp2_with fail
  go_end0
  exact ⟨rfl, HF.out⟩
/-! ### A conn among other things -/
/-- What is told of a packet: what, code, error. -/
def ansP (st : Int) (p : Pk) : Int × Int × Int := if st = 0 then (if p.kind = 1 then (if p.level = 4 then (1, 0, 0) else (2, 1, 0)) else (3, 0, 140)) else if p.kind = 1 then (3, 0, 141) else if p.kind = 2 ∨ p.kind = 9 ∨ p.kind = 11 ∨ p.kind = 13 then (3, 0, 142) else (1, 0, 0)
def inA (a : Int × Int × Int) (q : Pk) : Array Value := inC a.1 (if a.1 = 1 then q else blank 0) a.2.1 a.2.2
theorem ans_in (st : Int) (q : Pk) : (if st = 0 then fstV q else latV q) = inA (ansP st q) q := by
  unfold fstV latV ansP inA
  repeat' split
  all_goals first | rfl | simp_all
theorem Alike.kind {q p : Pk} (h : Alike q p) : q.kind = p.kind ∧ q.level = p.level ∧ q.keep = p.keep := by
  obtain ⟨s1, s2, s3, s4, s5, s6, rfl, _⟩ := h
  exact ⟨rfl, rfl, rfl⟩
theorem ans_alike {q p : Pk} (h : Alike q p) (st : Int) : ansP st q = ansP st p := by
  obtain ⟨h1, h2, _⟩ := Alike.kind h
  unfold ansP
  rw [h1, h2]
theorem inC_inj {a b c a' b' c' : Int} {q q' : Pk} (h : inC a q b c = inC a' q' b' c') : a = a' ∧ q.kind = q'.kind ∧ q.keep = q'.keep := by
  have h0 := congrArg (fun l => l[0]?) h
  have h1 := congrArg (fun l => l[1]?) h
  have h4 := congrArg (fun l => l[4]?) h
  simp [inC] at h0 h1 h4
  exact ⟨h0, h1, h4⟩
/-- The conn goes on. -/
def onP (st : Int) (p : Pk) : Bool := decide ((ansP st p).1 = 1) && decide (p.kind ≠ 14)
def bdP (st bd : Int) (p : Pk) : Int := if p.kind = 1 then 3 * kpC p.keep / 2 else bd
structure KL (w W : World) (cb fb : Nat) (most st si bd : Int) (rf : Option Nat) (P : Nat) (z : Nat → Int) (H : Nat) : Prop where
  lv : LvS W cb fb most w.heap.size st si bd rf P z H
  bel : Below w.heap.size w W
  cbl : w.heap.size ≤ cb
  fbl : w.heap.size ≤ fb
  gw : Gw w
  s01 : st = 0 ∨ st = 1
/-- It is over. -/
structure KO (w W : World) (cb : Nat) : Prop where
  cn : ∃ fp si bd, CnAt W cb 2 fp si bd
  bel : Below w.heap.size w W
  cbl : w.heap.size ≤ cb
end Go.Proofs.YtmfbkfgggdkfmaaGreatDoor.Co
namespace Go.Proofs.YtmfbkfgggdkfmaaGreatDoor.Co
open Go Go.RowKit
open Pkt (Pk Cn Sl In By Is Ss As pkCells Gd KindsAt Small wpList_load_wanted)
set_option linter.unusedSimpArgs false
set_option linter.unusedVariables false
theorem bel_ch {w W W' : World} {S : Nat → Prop} (h : Below w.heap.size w W) (hc : Ch S W W') (hs : ∀ k, S k → w.heap.size ≤ k) : Below w.heap.size w W' := below_ch h hc hs
section
variable {w W : World} {cb fb : Nat} {most st si bd : Int} {rf : Option Nat} {P : Nat} {z : Nat → Int} {H : Nat}
theorem KL.below {W' : World} (h : KL w W cb fb most st si bd rf P z H) (hb : Below W.heap.size W W') : KL w W' cb fb most st si bd rf P z H := ⟨⟨later_at h.lv.cn hb, h.lv.fs.below hb⟩, bel_on h.bel hb, h.cbl, h.fbl, h.gw, h.s01⟩
theorem KO.below {W' : World} (h : KO w W cb) (hb : Below W.heap.size W W') : KO w W' cb := by
  obtain ⟨fp, si, bd, hc⟩ := h.cn
  exact ⟨⟨fp, si, bd, later_at hc hb⟩, bel_on h.bel hb, h.cbl⟩
/-- What others write is nothing to it. -/
theorem KL.keep {W' : World} {S : Nat → Prop} (h : KL w W cb fb most st si bd rf P z H) (hc : Ch S W W') (h1 : ¬ S cb) (h2 : ¬ S fb) (h3 : ∀ k, rf = some k → ¬ S k) (hs : ∀ k, S k → w.heap.size ≤ k) : KL w W' cb fb most st si bd rf P z H :=
  ⟨⟨h.lv.cn.keep (hc.block cb h.lv.cn.lt h1), h.lv.fs.keep (hc.block fb h.lv.fs.lt.1 h2) (fun k e => hc.block k (h.lv.fs.lt.2 k e) (h3 k e))⟩, bel_ch h.bel hc hs, h.cbl, h.fbl, h.gw, h.s01⟩
theorem KO.keep {W' : World} {S : Nat → Prop} (h : KO w W cb) (hc : Ch S W W') (h1 : ¬ S cb) (hs : ∀ k, S k → w.heap.size ≤ k) : KO w W' cb := by
  obtain ⟨fp, si, bd, hcn⟩ := h.cn
  exact ⟨⟨fp, si, bd, hcn.keep (hc.block cb hcn.lt h1)⟩, bel_ch h.bel hc hs, h.cbl⟩
theorem KL.rge {k : Nat} (h : KL w W cb fb most st si bd rf P z H) (e : rf = some k) : w.heap.size ≤ k := (h.lv.fs.blk.2 k e).1
theorem kl_new (most pat : Int) (z : Nat → Int) {w W : World} (hg : Gw w) (hb : Below w.heap.size w W) : Calls Tryz.prog 7 #[.int .i64 most, .int .i64 pat] W fun e w' => e = .returned (.pointer (some ⟨W.heap.size + 1, 0, none⟩)) ∧ KL w w' (W.heap.size + 1) W.heap.size most 0 0 (max pat 0) none 0 z 0 ∧ Below W.heap.size W w' := by
  refine (cnew_any most pat W).mono ?_
  rintro e w' ⟨rfl, rfl⟩
  have b1 : Below W.heap.size W (W.alloc (.cells (frCells most (.slice none 0 0) 0 0 0 0) 63)) := (Below.refl _ _).alloc (Nat.le_refl _) _
  obtain ⟨V, hV⟩ : ∃ V, V = W.alloc (.cells (frCells most (.slice none 0 0) 0 0 0 0) 63) := ⟨_, rfl⟩
  rw [← hV] at b1 ⊢
  have hs : V.heap.size = W.heap.size + 1 := by rw [hV]; simp
  have b2 : Below V.heap.size V (V.alloc (.cells (cnC 0 (.pointer (some ⟨W.heap.size, 0, none⟩)) 0 (max pat 0)) 50)) := (Below.refl _ _).alloc (Nat.le_refl _) _
  have hf : FS V W.heap.size most w.heap.size none 0 z 0 := by rw [hV]; exact fs_new W most _ z
  have hsz := hb.size
  refine ⟨rfl, ⟨⟨?_, hf.below b2⟩, bel_on hb (bel_on b1 b2), by omega, by omega, hg, .inl rfl⟩, bel_on b1 b2⟩
  unfold CnAt
  rw [← hs]
  exact heap_alloc_new V _
theorem kl_push (h : KL w W cb fb most st si bd rf P z H) (l : Sl) (zb z' : Nat → Int) (hl : By W l zb) (hn : P + H ≤ 400000) (hln : l.n ≤ 400000) (h1 : ∀ i, i < H → z' i = z i) (h2 : ∀ i, i < l.n → z' (H + i) = zb i) :
    Calls Tryz.prog 8 #[.pointer (some ⟨cb, 0, none⟩), .slice l.a l.n l.c] W fun e w' => e = .returned (.tuple #[]) ∧ ∃ rf', KL w w' cb fb most st si bd rf' P z' (H + l.n) ∧ Ch (fun k => k = fb ∨ rf = some k) W w' ∧ Nw W.heap.size rf rf' := by
  refine (push_any h.lv h.s01 l zb z' hl hn hln h.bel.size h1 h2).mono ?_
  rintro e w' ⟨rfl, rf', a1, a2, a3⟩
  refine ⟨rfl, rf', ⟨a1, bel_ch h.bel a2 ?_, h.cbl, h.fbl, h.gw, h.s01⟩, a2, a3⟩
  rintro k (q | q)
  · rw [q]; exact h.fbl
  · exact h.rge q
theorem kl_gw (h : KL w W cb fb most st si bd rf P z H) : Gw W ∧ 3 ≤ fb := by
  refine ⟨h.gw.keep (fun k hk => h.bel.block k (by have := h.gw.three; omega)), ?_⟩
  have := h.gw.three
  have := h.fbl
  omega
theorem kl_ch {W' : World} (h : KL w W cb fb most st si bd rf P z H) (hc : Ch (fun k => k = cb ∨ k = fb) W W') : Below w.heap.size w W' := bel_ch h.bel hc (fun k q => by
  have := h.cbl
  have := h.fbl
  rcases q with q | q <;> omega)
theorem kl_more (h : KL w W cb fb most st si bd rf P z H) (hz : ∀ i, 0 ≤ z i ∧ z i ≤ 255) (hn : P + H ≤ 400000) (hR : decP z H most = .more) :
    Calls Tryz.prog 12 #[.pointer (some ⟨cb, 0, none⟩)] W fun e w' => e = .returned (.tuple #[.agg (inC 0 (blank 0) 0 0), .bool false]) ∧ ∃ rf', KL w w' cb fb most st si bd rf' P z H ∧ Ch (fun k => k = cb ∨ k = fb) W w' ∧ Nw W.heap.size rf rf' := by
  refine (cnext_any h.lv h.s01 hz (kl_gw h).1 hn h.bel.size (kl_gw h).2).mono ?_
  rintro e w' ⟨what, q, code, err, rfl, hN, hC⟩
  rw [hR] at hN
  obtain ⟨rfl, rfl, rfl, rfl, h5, rf', h6, h7⟩ := hN
  refine ⟨rfl, rf', ⟨⟨h5, h6⟩, kl_ch h hC, h.cbl, h.fbl, h.gw, h.s01⟩, hC, ?_⟩
  rcases h7 with y | y | ⟨m, y, y2⟩
  · exact .inl y
  · exact .inr (.inl y)
  · exact .inr (.inr ⟨m, y, by omega⟩)
theorem ans_ne (st : Int) (p : Pk) : ((ansP st p).1 != 0) = true := by
  unfold ansP
  repeat' split
  all_goals rfl
theorem ans_one {st : Int} {p : Pk} (hs : st = 0 ∨ st = 1) (h : (ansP st p).1 = 1) : (st = 0 ∧ p.kind = 1) ∨ (st = 1 ∧ p.kind ≠ 1) := by
  rcases hs with rfl | rfl
  · refine .inl ⟨rfl, Classical.byContradiction fun hn => ?_⟩
    simp [ansP, hn] at h
  · refine .inr ⟨rfl, fun hn => ?_⟩
    simp [ansP, hn] at h
/-- What Next leaves behind a packet. -/
def PkL (w W w' : World) (cb fb : Nat) (most st bd : Int) (rf : Option Nat) (P : Nat) (z : Nat → Int) (H : Nat) (p : Pk) (k : Nat) (q : Pk) : Prop :=
  if onP st p = true then ∃ rf', KL w w' cb fb most 1 0 (bdP st bd p) rf' (P + k) (sh z k) (H - k) ∧ Nw W.heap.size rf rf' ∧ ∀ b, Uses q b → rf' ≠ some b else KO w w' cb
theorem kl_pkt (h : KL w W cb fb most st si bd rf P z H) (hz : ∀ i, 0 ≤ z i ∧ z i ≤ 255) (hn : P + H ≤ 400000) {p : Pk} {c : Cn} {k : Nat} (hR : decP z H most = .ok p c k) :
    Calls Tryz.prog 12 #[.pointer (some ⟨cb, 0, none⟩)] W fun e w' => ∃ q, e = .returned (.tuple #[.agg (inA (ansP st p) q), .bool true]) ∧ (Alike q p ∧ In w' q c ∧ ∀ b, Uses q b → W.heap.size ≤ b) ∧ PkL w W w' cb fb most st bd rf P z H p k q ∧ Ch (fun k => k = cb ∨ k = fb) W w' := by
  refine (cnext_any h.lv h.s01 hz (kl_gw h).1 hn h.bel.size (kl_gw h).2).mono ?_
  rintro e w' ⟨what, q', code, err, rfl, hN, hC⟩
  rw [hR] at hN
  obtain ⟨q, h1, h2, h3, h4, h5, rf', h6, h7, h8⟩ := hN
  rw [ans_in, ans_alike h1] at h4
  have hi := inC_inj (show inC what q' code err = inC (ansP st p).1 (if (ansP st p).1 = 1 then q else blank 0) (ansP st p).2.1 (ansP st p).2.2 from h4)
  have hk := Alike.kind h1
  have hw : (what != 0) = true := by rw [hi.1]; exact ans_ne st p
  refine ⟨q, by rw [h4, hw], ⟨h1, h2, fun b hb => by have := h3 b hb; omega⟩, ?_, hC⟩
  have h7' : Nw W.heap.size rf rf' := by
    rcases h7 with y | y | ⟨m, y, y2⟩
    · exact .inl y
    · exact .inr (.inl y)
    · exact .inr (.inr ⟨m, y, by omega⟩)
  unfold PkL
  by_cases ho : onP st p = true
  · rw [if_pos ho]
    unfold onP at ho
    simp only [Bool.and_eq_true, decide_eq_true_eq] at ho
    have hq' : q'.kind = p.kind ∧ q'.keep = p.keep := by
      rw [hi.2.1, hi.2.2, if_pos ho.1]
      exact ⟨hk.1, hk.2.2⟩
    unfold TookIs at h5
    rw [if_pos ⟨hi.1.trans ho.1, by rw [hq'.1]; exact ho.2⟩, hq'.1, hq'.2] at h5
    refine ⟨rf', ⟨⟨?_, h6⟩, kl_ch h hC, h.cbl, h.fbl, h.gw, .inr rfl⟩, h7', h8⟩
    unfold bdP
    rcases ans_one h.s01 ho.1 with ⟨a1, a2⟩ | ⟨a1, a2⟩
    · rw [if_pos a2] at h5
      rw [if_pos a2]
      exact h5
    · rw [if_neg a2] at h5
      rw [if_neg a2]
      rw [a1] at h5
      exact h5
  · rw [if_neg ho]
    refine ⟨?_, kl_ch h hC, h.cbl⟩
    unfold TookIs at h5
    by_cases hg : what = 1 ∧ q'.kind ≠ 14
    · exfalso
      apply ho
      have a1 : (ansP st p).1 = 1 := hi.1.symm.trans hg.1
      have hq' : q'.kind = p.kind := by rw [hi.2.1, if_pos a1]; exact hk.1
      unfold onP
      rw [decide_eq_true a1, decide_eq_true (by rw [← hq']; exact hg.2)]
      rfl
    · rw [if_neg hg] at h5
      exact ⟨_, _, _, h5⟩
theorem kl_tick (h : KL w W cb fb most st si bd rf P z H) (hs : 0 ≤ si ∧ si ≤ 1000000000) : Calls Tryz.prog 13 #[.pointer (some ⟨cb, 0, none⟩)] W fun e w' => e = .returned (.bool (lateP bd (si + 1))) ∧ KL w w' cb fb most st (si + 1) bd rf P z H ∧ Ch (fun k => k = cb ∨ k = fb) W w' := by
  refine (tick_any h.lv.cn hs).mono ?_
  rintro e w' ⟨rfl, h1, h2⟩
  have hC : Ch (fun k => k = cb ∨ k = fb) W w' := h2.mono (fun j _ q => .inl q)
  refine ⟨rfl, ⟨⟨h1, h.lv.fs.keep (h2.block fb h.lv.fs.lt.1 (fun q => h.lv.ne q.symm)) (fun k e => h2.block k (h.lv.fs.lt.2 k e) (fun q => ?_))⟩, kl_ch h hC, h.cbl, h.fbl, h.gw, h.s01⟩, hC⟩
  obtain ⟨_, cc, h4⟩ := h.lv.fs.blk.2 k e
  exact blk_ne h.lv.cn h4 (by decide) q.symm
end
end Go.Proofs.YtmfbkfgggdkfmaaGreatDoor.Co
namespace Go.Proofs.YtmfbkfgggdkfmaaGreatDoor.Co
open Go Go.RowKit
open Pkt (Pk Cn Sl In By Is Ss As pkCells Gd KindsAt Small wpList_load_wanted ck TT)
set_option linter.unusedSimpArgs false
set_option linter.unusedVariables false
/-! ### The bytes of the examples -/
def kbZ (a b : Int) : List Int := [16, 12, 0, 4, 77, 81, 84, 84, 4, 2, a, b, 0, 0, 192, 0]
theorem kb_bd (a b : Int) (ha : 0 ≤ a ∧ a ≤ 255) (hb : 0 ≤ b ∧ b ≤ 255) : ∀ i, 0 ≤ listZ (kbZ a b) i ∧ listZ (kbZ a b) i ≤ 255 := listZ_bd _ (by
  intro x hx
  simp only [kbZ, List.mem_cons, List.not_mem_nil, or_false] at hx
  omega)
theorem kb_con (n : Nat) (hn : n = 14 ∨ n = 15) (a b : Int) (ha : 0 ≤ a ∧ a ≤ 255) (hb : 0 ≤ b ∧ b ≤ 255) : decP (listZ (kbZ a b)) n 1000 = .ok (conP (a * 256 + b)) noCn 14 := by
  have hp : packP (listZ (kbZ a b)) (2 + 12) 2 = .ok (conP (a * 256 + b), noCn) := by
    unfold packP
    rw [show intoP (listZ (kbZ a b)) (2 + 12) ⟨2, 0, 0⟩ (listZ (kbZ a b) 0 / 16) noCn (listZ (kbZ a b) 0 % 16) = .ok (⟨14, 0, 0⟩, conP (a * 256 + b), noCn) by kernel_rfl]
    simp only
    rw [if_pos (con_ck (a * 256 + b) (by omega))]
  rcases hn with rfl | rfl
  · exact dec_of (h := 2) (l := 12) (by kernel_rfl) (by decide) (by decide) hp
  · exact dec_of (h := 2) (l := 12) (by kernel_rfl) (by decide) (by decide) hp
theorem ping_more (a b : Int) : decP (sh (listZ (kbZ a b)) 14) 1 1000 = .more := by rw [decP, show headP (sh (listZ (kbZ a b)) 14) 1 (clampM 1000) = (0, 0, none) by kernel_rfl]; rfl
theorem ping_ok (a b : Int) : decP (sh (listZ (kbZ a b)) 14) 2 1000 = .ok (blank 12) noCn 2 := by
  refine dec_of (h := 2) (l := 0) (by kernel_rfl) (by decide) (by decide) ?_
  unfold packP
  rw [show intoP (sh (listZ (kbZ a b)) 14) (2 + 0) ⟨2, 0, 0⟩ (sh (listZ (kbZ a b)) 14 0 / 16) noCn (sh (listZ (kbZ a b)) 14 0 % 16) = .ok (⟨2, 0, 0⟩, blank 12, noCn) by kernel_rfl]
  simp only [ck_ping, if_true]
def pgZ : List Int := [192, 0]
theorem pg_bd : ∀ i, 0 ≤ listZ pgZ i ∧ listZ pgZ i ≤ 255 := listZ_bd _ (by decide)
theorem pg_more : decP (listZ pgZ) 1 1000 = .more := by rw [decP, show headP (listZ pgZ) 1 (clampM 1000) = (0, 0, none) by kernel_rfl]; rfl
theorem pg_ok : decP (listZ pgZ) 2 1000 = .ok (blank 12) noCn 2 := by
  refine dec_of (h := 2) (l := 0) (by kernel_rfl) (by decide) (by decide) ?_
  unfold packP
  rw [show intoP (listZ pgZ) (2 + 0) ⟨2, 0, 0⟩ (listZ pgZ 0 / 16) noCn (listZ pgZ 0 % 16) = .ok (⟨2, 0, 0⟩, blank 12, noCn) by kernel_rfl]
  simp only [ck_ping, if_true]
/-! ### Calls, in few words -/
def Mk (cb fb : Nat) (rf : Option Nat) (k : Nat) : Prop := k = cb ∨ k = fb ∨ rf = some k
section
variable {w W : World} {cb fb : Nat} {most st si bd : Int} {rf : Option Nat} {P : Nat} {z : Nat → Int} {H : Nat}
/-- A box of another kind stays. -/
theorem KL.oth {W' : World} (h : KL w W cb fb most st si bd rf P z H) (hc : Ch (Mk cb fb rf) W W') {j : Nat} {c : Array Value} {t : TypeId} (hj : W.heap[j]? = some (.cells c t (0, 0))) (ht : t ≠ 5 ∧ t ≠ 50 ∧ t ≠ 63) : W'.heap[j]? = some (.cells c t (0, 0)) := by
  refine (hc.block j (Array.getElem?_eq_some_iff.1 hj).1 ?_).trans hj
  rintro (q | q | q)
  · exact blk_ne hj h.lv.cn ht.2.1 q
  · obtain ⟨c', h2⟩ := h.lv.fs.blk.1
    exact blk_ne hj h2 ht.2.2 q
  · obtain ⟨_, c', h2⟩ := h.lv.fs.blk.2 j q
    exact blk_ne hj h2 ht.1 rfl
/-- Bytes that are laid in a new list are pushed. -/
theorem kl_lit (L : List Int) (cs : Array Value) (h : KL w W cb fb most st si bd rf P z H) (z' : Nat → Int) (hcs : ∀ i, i < L.length → cs[i]? = some (.int .u8 (listZ L i))) (hb : ∀ x ∈ L, 0 ≤ x ∧ x ≤ 255) (hn : P + H ≤ 400000) (hln : L.length ≤ 400000) (h1 : ∀ i, i < H → z' i = z i) (h2 : ∀ i, i < L.length → z' (H + i) = listZ L i) :
    Calls Tryz.prog 8 #[.pointer (some ⟨cb, 0, none⟩), .slice (some ⟨W.heap.size, 0, none⟩) L.length L.length] (W.alloc (.cells cs 5)) fun e w' => e = .returned (.tuple #[]) ∧ ∃ rf', KL w w' cb fb most st si bd rf' P z' (H + L.length) ∧ Ch (Mk cb fb rf) W w' ∧ Nw W.heap.size rf rf' := by
  have hbb : Below W.heap.size W (W.alloc (.cells cs 5)) := (Below.refl _ _).alloc (Nat.le_refl _) _
  refine (kl_push (h.below hbb) ⟨some ⟨W.heap.size, 0, none⟩, L.length, L.length⟩ (listZ L) z' (by_new L cs hcs (listZ_bd L hb)) hn hln h1 h2).mono ?_
  rintro e w' ⟨rfl, rf', a1, a2, a3⟩
  refine ⟨rfl, rf', a1, (Below.ch (S := Mk cb fb rf) hbb).trans a2 (fun j _ q => ?_), ?_⟩
  · rcases q with q | q
    · exact .inr (.inl q)
    · exact .inr (.inr q)
  · rcases a3 with y | y | ⟨m, y, y2⟩
    · exact .inl y
    · exact .inr (.inl y)
    · exact .inr (.inr ⟨m, y, by have := hbb.size; omega⟩)
theorem mk_ch {W' : World} (hc : Ch (fun k => k = cb ∨ k = fb) W W') : Ch (Mk cb fb rf) W W' := hc.mono (fun j _ q => by
  rcases q with q | q
  · exact .inl q
  · exact .inr (.inl q))
/-- An Input in a box of its own. -/
theorem ibox {w2 w3 : World} {cs : Array Value} (h : w3 = (w2.alloc (.cells #[.int .i64 0, .int .i64 0, .int .i64 0, .bool false, .int .i64 0, .string ⟨#[]⟩, .bool false, .string ⟨#[]⟩, .slice none 0 0, .int .i64 0, .bool false, .bool false, .string ⟨#[]⟩, .bool false, .slice none 0 0, .bool false, .int .i64 0, .bool false, .string ⟨#[]⟩, .slice none 0 0, .int .i64 0, .bool false, .int .i64 0, .slice none 0 0, .slice none 0 0, .slice none 0 0, .int .i64 0, .int .i64 0] 41)).setRow w2.heap.size cs) : w3.heap[w2.heap.size]? = some (.cells cs 41 (0, 0)) ∧ Below w2.heap.size w2 w3 := by
  have h1 := zero_in w2
  rw [h]
  exact ⟨setRow_at h1, (below_setRow ((Below.refl _ _).alloc (Nat.le_refl _) _) (Nat.le_refl _)).out⟩
/-- Older blocks stay while a younger conn is called. -/
theorem KL.young {W' : World} {S : Nat → Prop} {n : Nat} (h : KL w W cb fb most st si bd rf P z H) (hc : Ch S W W') (hs : ∀ k, S k → n ≤ k) (h1 : cb < n) (h2 : fb < n) (h3 : ∀ k, rf = some k → k < n) (hw : w.heap.size ≤ n) : KL w W' cb fb most st si bd rf P z H :=
  h.keep hc (fun q => by have := hs _ q; omega) (fun q => by have := hs _ q; omega) (fun k e q => by have := hs _ q; have := h3 k e; omega) (fun k q => by have := hs k q; omega)
end
end Go.Proofs.YtmfbkfgggdkfmaaGreatDoor.Co
namespace Go.Proofs.YtmfbkfgggdkfmaaGreatDoor.Co
open Go Go.RowKit
open Pkt (Pk Cn Sl In By Is Ss As pkCells Gd KindsAt Small wpList_load_wanted ck TT)
set_option linter.unusedSimpArgs false
set_option linter.unusedVariables false
theorem in_con {q : Pk} (h : Alike q (conP 10)) : inA (ansP 0 (conP 10)) q = inC 1 q 0 0 ∧ q.kind = 1 ∧ q.clean = true ∧ q.keep = 10 := by
  obtain ⟨s1, s2, s3, s4, s5, s6, rfl, _⟩ := h
  exact ⟨rfl, rfl, rfl, rfl⟩
theorem in_ping {q : Pk} (h : Alike q (blank 12)) : inA (ansP 1 (blank 12)) q = inC 1 q 0 0 ∧ q.kind = 12 := by
  obtain ⟨s1, s2, s3, s4, s5, s6, rfl, _⟩ := h
  exact ⟨rfl, rfl⟩
theorem in_first (q : Pk) : inA (ansP 0 (blank 12)) q = inC 3 (blank 0) 0 140 := rfl
theorem lits (L : List Int) (cs : Array Value) (h : cs.toList = L.map (fun x => .int .u8 x)) : ∀ i, i < L.length → cs[i]? = some (.int .u8 (listZ L i)) := by
  intro i hi
  have : cs[i]? = cs.toList[i]? := by simp
  rw [this, h, List.getElem?_map, List.getElem?_eq_getElem hi]
  simp [listZ, List.getD_eq_getElem?_getD, List.getElem?_eq_getElem hi]
set_option maxRecDepth 100000 in
set_option maxHeartbeats 8000000 in
theorem cknown_any (w : World) (hg : Gw w) : Calls Tryz.prog 6 #[] w fun e w' => e = .returned (.bool true) ∧ Below w.heap.size w w' := by
  have G := hidi hg
  clear hg
  go_enter Tryz.func6, Tryz.ntmps6
  go_wp2_with (first
    | (go_at_call 7; refine (kl_new 1000 0 (listZ (kbZ 0 10)) G.out (Below.refl _ _)).mono ?_; rintro e W1 ⟨rfl, h1, -⟩; have K1 := hidi h1; clear h1)
    | (go_at_call 11; refine (over_any K1.out.lv.cn).mono ?_; rintro e w' ⟨rfl, he⟩; obtain rfl := he.symm))
  obtain ⟨cb, hcb⟩ : ∃ cb, cb = w.heap.size + 1 := ⟨_, rfl⟩
  obtain ⟨fb, hfb⟩ : ∃ fb, fb = w.heap.size := ⟨_, rfl⟩
  rw [← hcb, show KL w W1 cb w.heap.size = KL w W1 cb fb by rw [hfb]] at K1
  rw [← hcb]
  clear hcb hfb
  obtain ⟨bd0, hbd0⟩ : ∃ b : Int, b = max 0 0 := ⟨_, rfl⟩
  rw [← hbd0] at K1
  clear hbd0
  go_must (go_at_call 8)
  refine (kl_lit [16, 12, 0, 4, 77, 81, 84, 84, 4, 2, 0, 10, 0, 0, 192] _ K1.out (listZ (kbZ 0 10)) (lits _ _ rfl) (by decide) (by decide) (by decide) (by intro i hi; omega) (by decide)).mono ?_
  rintro e W2 ⟨rfl, rf2, k2, -, -⟩
  have K2 := hidi (show KL w W2 cb fb 1000 0 0 bd0 rf2 0 (listZ (kbZ 0 10)) 15 from k2)
  have kbz := hidi (kb_bd 0 10 (by decide) (by decide))
  clear k2 K1
  go_wp2_with fail
  go_must (go_at_call 12)
  refine (kl_pkt K2.out kbz.out (by decide) (show decP (listZ (kbZ 0 10)) 15 1000 = .ok (conP 10) noCn 14 from kb_con 15 (.inr rfl) 0 10 (by decide) (by decide))).mono ?_
  rintro e W3 ⟨q, rfl, ⟨ha, -, -⟩, hp, -⟩
  obtain ⟨hin, q1, q2, q3⟩ := in_con ha
  rw [hin]
  unfold PkL at hp
  rw [if_pos (show onP 0 (conP 10) = true from rfl)] at hp
  obtain ⟨rf3, k3, -, -⟩ := hp
  have K3 := hidi (show KL w W3 cb fb 1000 1 0 15 rf3 14 (sh (listZ (kbZ 0 10)) 14) 1 from k3)
  clear k3 ha hin K2
  go_upto_region 6 with (first | (refine wpList_store_row rfl 41 _ _ rfl W3.heap.size (inC 1 q 0 0) rfl rfl 41 (inC 0 (blank 0) 0 0) (zero_in W3) in_info rfl (in_one _ _ _ _) ?_))
  obtain ⟨W4, hW4⟩ : ∃ W4, W4 = (W3.alloc (.cells #[.int .i64 0, .int .i64 0, .int .i64 0, .bool false, .int .i64 0, .string ⟨#[]⟩, .bool false, .string ⟨#[]⟩, .slice none 0 0, .int .i64 0, .bool false, .bool false, .string ⟨#[]⟩, .bool false, .slice none 0 0, .bool false, .int .i64 0, .bool false, .string ⟨#[]⟩, .slice none 0 0, .int .i64 0, .bool false, .int .i64 0, .slice none 0 0, .slice none 0 0, .slice none 0 0, .int .i64 0, .int .i64 0] 41)).setRow W3.heap.size (inC 1 q 0 0) := ⟨_, rfl⟩
  obtain ⟨a4, b4⟩ := ibox hW4
  obtain ⟨bx, hbx⟩ : ∃ bx, bx = W3.heap.size := ⟨_, rfl⟩
  rw [← hW4, ← hbx]
  rw [← hbx] at a4
  have K4 := hidi (K3.out.below b4)
  have HBX := hidi (show w.heap.size ≤ bx by rw [hbx]; exact K3.out.bel.size)
  have A4 := hidi a4
  have e0 : W4.cell? ⟨bx, 0, none⟩ = some (.int .i64 1) := box_cells a4 0 _ rfl
  have e1 : W4.cell? ⟨bx, 1, none⟩ = some (.int .i64 1) := (by have h := box_cells a4 1 (.int .i64 q.kind) rfl; rw [q1] at h; exact h)
  have e3 : W4.cell? ⟨bx, 3, none⟩ = some (.bool true) := (by have h := box_cells a4 3 (.bool q.clean) rfl; rw [q2] at h; exact h)
  have e4 : W4.cell? ⟨bx, 4, none⟩ = some (.int .i64 10) := (by have h := box_cells a4 4 (.int .i64 q.keep) rfl; rw [q3] at h; exact h)
  clear hW4 hbx a4 b4 K3 q1 q2 q3
  have shz := hidi (fun i => kbz.out (14 + i))
  go_wp2_with fail
  clear e0 e1 e3 e4
  go_must (go_at_call 12)
  refine (kl_more K4.out shz.out (by decide) (ping_more 0 10)).mono ?_
  rintro e W5 ⟨rfl, rf5, k5, c5, -⟩
  have K5 := hidi k5
  have A5 := hidi (K4.out.oth (mk_ch c5) A4.out ⟨by decide, by decide, by decide⟩)
  clear k5 c5 K4 A4
  go_wp2_with fail
  go_must (go_at_call 8)
  refine (kl_lit [0] _ K5.out (sh (listZ (kbZ 0 10)) 14) (lits _ _ rfl) (by decide) (by decide) (by decide) (fun _ _ => rfl) (by decide)).mono ?_
  rintro e W6 ⟨rfl, rf6, k6, c6, -⟩
  have K6 := hidi (show KL w W6 cb fb 1000 1 0 15 rf6 14 (sh (listZ (kbZ 0 10)) 14) 2 from k6)
  have A6 := hidi (K5.out.oth c6 A5.out ⟨by decide, by decide, by decide⟩)
  clear k6 c6 K5 A5
  go_wp2_with fail
  go_must (go_at_call 12)
  refine (kl_pkt K6.out shz.out (by decide) (ping_ok 0 10)).mono ?_
  rintro e W7 ⟨q', rfl, ⟨ha, -, -⟩, hp, hc⟩
  obtain ⟨hin, q1⟩ := in_ping ha
  rw [hin]
  unfold PkL at hp
  rw [if_pos (show onP 1 (blank 12) = true from rfl)] at hp
  obtain ⟨rf7, k7, -, -⟩ := hp
  have K7 := hidi (show KL w W7 cb fb 1000 1 0 15 rf7 16 (sh (sh (listZ (kbZ 0 10)) 14) 2) 0 from k7)
  have A7 := hidi (K6.out.oth (mk_ch hc) A6.out ⟨by decide, by decide, by decide⟩)
  clear k7 ha hin K6 A6 hc
  go_upto_region 11 with (first | (refine wpList_store_row rfl 41 _ _ rfl bx (inC 1 q' 0 0) rfl rfl 41 (inC 1 q 0 0) A7.out in_info rfl (in_one _ _ _ _) ?_))
  obtain ⟨W8, hW8⟩ : ∃ W8, W8 = W7.setRow bx (inC 1 q' 0 0) := ⟨_, rfl⟩
  have a8 : W8.heap[bx]? = some (.cells (inC 1 q' 0 0) 41 (0, 0)) := by rw [hW8]; exact setRow_at A7.out
  have hbxl : w.heap.size ≤ bx := HBX.out
  have K8 := hidi (show KL w W8 cb fb 1000 1 0 15 rf7 16 (sh (sh (listZ (kbZ 0 10)) 14) 2) 0 from K7.out.keep (S := fun k => k = bx) (by rw [hW8]; exact ch_row) (fun q => blk_ne K7.out.lv.cn A7.out (by decide) q) (fun q => by obtain ⟨c', h2⟩ := K7.out.lv.fs.blk.1; exact blk_ne h2 A7.out (by decide) q) (fun k e q => by obtain ⟨_, c', h2⟩ := K7.out.lv.fs.blk.2 k e; exact blk_ne h2 A7.out (by decide) q) (fun k q => by rw [q]; exact hbxl))
  rw [← hW8]
  have e0 : W8.cell? ⟨bx, 0, none⟩ = some (.int .i64 1) := box_cells a8 0 _ rfl
  have e1 : W8.cell? ⟨bx, 1, none⟩ = some (.int .i64 12) := (by have h := box_cells a8 1 (.int .i64 q'.kind) rfl; rw [q1] at h; exact h)
  clear hW8 a8 K7 A7 q1 hbxl
  go_wp2_with fail
  clear e0 e1
  go_loopg [5] 15 (fun gk s5 wx => ∃ i : Nat, i + gk = 15 ∧ s5 = .int .i64 i ∧ Hid (KL w wx cb fb 1000 1 (i : Int) 15 rf7 16 (sh (sh (listZ (kbZ 0 10)) 14) 2) 0))
  case atStart => exact ⟨0, by omega, rfl, K8.out⟩
  case round =>
    obtain ⟨i, hi, rfl, KI⟩ := hrel
    clear K8
    by_cases hin : i < 15
    · have hlt : (i : Int) < 15 := by omega
      have hw1 : IntKind.i64.wrap ((i : Int) + 1) = (i : Int) + 1 := by rw [IntKind.wrap_i64]; omega
      have hl : lateP 15 ((i : Int) + 1) = false := by unfold lateP; simp; omega
      have TK := hidi (kl_tick KI.out (by omega))
      rw [hl] at TK
      clear hl KI
      go_wp2_with fail
      go_must (go_at_call 13)
      refine TK.out.mono ?_
      rintro e W9 ⟨rfl, k9, -⟩
      have K9 := hidi k9
      clear k9 TK
      go_wp2_with fail
      go_roundg (15 - (i + 1))
      case measure => omega
      case rel => exact ⟨i + 1, by omega, by first | rfl | simp, by have := K9.out; rw [show ((i + 1 : Nat) : Int) = (i : Int) + 1 by omega]; exact this⟩
    · have hi15 : i = 15 := by omega
      subst hi15
      have hlt : ¬ ((15 : Nat) : Int) < 15 := by omega
      obtain ⟨n0, hn0⟩ : ∃ n, n = wr.heap.size := ⟨_, rfl⟩
      have ND := hidi (kl_new 1000 0 (listZ pgZ) G.out KI.out.bel)
      rw [← hn0] at ND
      have HC := hidi (show cb < n0 ∧ fb < n0 ∧ (∀ k, rf7 = some k → k < n0) ∧ w.heap.size ≤ n0 by rw [hn0]; exact ⟨KI.out.lv.cn.lt, KI.out.lv.fs.lt.1, KI.out.lv.fs.lt.2, KI.out.bel.size⟩)
      have HN := hidi hn0
      clear hin hi hn0
      go_wp2_with fail
      go_must (go_at_call 7)
      refine ND.out.mono ?_
      clear ND
      rintro e X1 ⟨rfl, d1, hb⟩
      have KC1 := hidi (KI.out.below (by rw [← HN.out]; exact hb))
      have D1 := hidi d1
      clear d1 hb KI
      go_wp2_with fail
      go_must (go_at_call 8)
      refine (kl_lit [192, 0] _ D1.out (listZ pgZ) (lits _ _ rfl) (by decide) (by decide) (by decide) (by intro i hi; omega) (by decide)).mono ?_
      rintro e X2 ⟨rfl, rg2, d2, c2, n2⟩
      have hge1 : ∀ k, Mk (n0 + 1) n0 none k → n0 ≤ k := by
        rintro k (q | q | q)
        · omega
        · omega
        · cases q
      have KC2 := hidi (KC1.out.young c2 hge1 HC.out.1 HC.out.2.1 HC.out.2.2.1 HC.out.2.2.2)
      have D2 := hidi (show KL w X2 (n0 + 1) n0 1000 0 0 (max 0 0) rg2 0 (listZ pgZ) 2 from d2)
      clear d2 c2 n2 hge1 D1 KC1
      go_wp2_with fail
      go_must (go_at_call 12)
      refine (kl_pkt D2.out pg_bd (by decide) pg_ok).mono ?_
      rintro e X3 ⟨q2, rfl, -, hp, hc⟩
      rw [in_first]
      unfold PkL at hp
      rw [if_neg (show ¬ onP 0 (blank 12) = true from by decide)] at hp
      have KC3 := hidi (KC2.out.young hc (by rintro k (q | q) <;> omega) HC.out.1 HC.out.2.1 HC.out.2.2.1 HC.out.2.2.2)
      have D3 := hidi hp
      clear hp hc D2 KC2
      go_upto_region 21 with (first | (refine wpList_store_row rfl 41 _ _ rfl X3.heap.size (inC 3 (blank 0) 0 140) rfl rfl 41 (inC 0 (blank 0) 0 0) (zero_in X3) in_info rfl (in_one _ _ _ _) ?_))
      obtain ⟨X4, hX4⟩ : ∃ X4, X4 = (X3.alloc (.cells #[.int .i64 0, .int .i64 0, .int .i64 0, .bool false, .int .i64 0, .string ⟨#[]⟩, .bool false, .string ⟨#[]⟩, .slice none 0 0, .int .i64 0, .bool false, .bool false, .string ⟨#[]⟩, .bool false, .slice none 0 0, .bool false, .int .i64 0, .bool false, .string ⟨#[]⟩, .slice none 0 0, .int .i64 0, .bool false, .int .i64 0, .slice none 0 0, .slice none 0 0, .slice none 0 0, .int .i64 0, .int .i64 0] 41)).setRow X3.heap.size (inC 3 (blank 0) 0 140) := ⟨_, rfl⟩
      obtain ⟨a4, b4⟩ := ibox hX4
      obtain ⟨by_, hby⟩ : ∃ bx, bx = X3.heap.size := ⟨_, rfl⟩
      rw [← hX4, ← hby]
      rw [← hby] at a4
      have KC4 := hidi (KC3.out.below b4)
      have D4 := hidi (D3.out.below b4)
      have TK := hidi (kl_tick KC4.out (by decide))
      rw [show lateP 15 (((15 : Nat) : Int) + 1) = true from rfl] at TK
      have A4 := hidi a4
      clear hX4 hby a4 b4 KC3 D3
      go_wp2_with fail
      go_must (go_at_call 13)
      refine TK.out.mono ?_
      rintro e X5 ⟨rfl, k5, c5⟩
      have a5 := KC4.out.oth (mk_ch c5) A4.out ⟨by decide, by decide, by decide⟩
      have f0 : X5.cell? ⟨by_, 0, none⟩ = some (.int .i64 3) := box_cells a5 0 _ rfl
      have f27 : X5.cell? ⟨by_, 27, none⟩ = some (.int .i64 140) := box_cells a5 27 _ rfl
      obtain ⟨fp, si, bd, hcn⟩ := D4.out.cn
      have OV := hidi (over_any (hcn.keep (c5.block _ hcn.lt (by have := HC.out; rintro (q | q) <;> omega))))
      have HB := hidi k5.bel
      clear k5 c5 a5 A4 TK KC4 D4 hcn
      go_wp2_with (first | (go_at_call 11; refine OV.out.mono ?_; rintro e w' ⟨rfl, he⟩; obtain rfl := he.symm))
      go_ret
      exact ⟨rfl, HB.out⟩
end Go.Proofs.YtmfbkfgggdkfmaaGreatDoor.Co
