import Derived.Test.YtibihbclijpkjaaGreatDoorGr
import Derived.Test.YtibihbclijpkjaaGreatDoorFdu
import Derived.Test.YtibihbclijpkjaaGreatDoorFdo
import Derived.Test.YtibihbclijpkjaaGreatDoorFdz
import Derived.Test.YtibihbclijpkjaaGreatDoorPLb
namespace Go.Proofs.YtibihbclijpkjaaGreatDoor
open Go Go.RowKit
open Pkt (Pk Cn Sl In By Is Ss As pkCells Gd sumN)
set_option linter.unusedSimpArgs false
set_option linter.unusedVariables false

/-- Cells that stand in a row of bytes from a place on. -/
def AtL (z : Nat → Int) (k : Nat) (L : List Value) : Prop := ∀ (i : Nat) (v : Value), L[i]? = some v → v = .int .u8 (z (k + i))
theorem AtL.left {z : Nat → Int} {k : Nat} {A B : List Value} (h : AtL z k (A ++ B)) : AtL z k A := fun i v e => by
  refine h i v ?_
  have hl : i < A.length := by
    rcases Nat.lt_or_ge i A.length with q | q
    · exact q
    · rw [List.getElem?_eq_none q] at e; cases e
  rw [List.getElem?_append_left hl]; exact e
theorem AtL.right {z : Nat → Int} {k : Nat} {A B : List Value} (h : AtL z k (A ++ B)) : AtL z (k + A.length) B := fun i v e => by
  have := h (A.length + i) v (by rw [List.getElem?_append_right (Nat.le_add_right _ _), Nat.add_sub_cancel_left]; exact e)
  rw [this, Nat.add_assoc]
theorem AtL.cells {z y : Nat → Int} {k m : Nat} (h : AtL z k (cellsOf y m)) {i : Nat} (hi : i < m) : z (k + i) = y i := by
  have := h i (.int .u8 (y i)) (by simp [cellsOf, hi])
  injection this with _ e; exact e.symm
theorem AtL.one {z : Nat → Int} {k : Nat} {x : Int} {L : List Value} (h : AtL z k (.int .u8 x :: L)) : z k = x ∧ AtL z (k + 1) L := by
  refine ⟨?_, fun i v e => ?_⟩
  · have := h 0 (.int .u8 x) rfl
    injection this with _ e; exact e.symm
  · have := h (i + 1) v (by simpa using e)
    rw [this, show k + 1 + i = k + (i + 1) by omega]
theorem AtL.str {z : Nat → Int} {k : Nat} {s : ByteArray} (h : AtL z k (Lib.strCells s)) : strZ (fun i => z (k + i)) s.size = s := by
  have e : ∀ i (hi : i < s.size), z (k + i) = ((s.data[i]'hi).toNat : Int) := fun i hi => by
    have := h i (.int .u8 ((s.data[i]'hi).toNat : Int)) (by rw [Lib.strCells, List.getElem?_map, Array.getElem?_toList, Array.getElem?_eq_getElem hi]; rfl)
    injection this with _ e; exact e.symm
  unfold strZ strOfNums
  apply ByteArray.ext
  apply Array.ext
  · show (((List.range s.size).map _).map _).toArray.size = s.size
    rw [List.size_toArray, List.length_map, List.length_map, List.length_range]
  · intro i h1 h2
    rw [List.getElem_toArray, List.getElem_map, List.getElem_map, List.getElem_range, e i h2]
    show UInt8.ofNat (Int.toNat _) = _
    rw [Int.toNat_natCast, UInt8.ofNat_toNat]
theorem numZ_two {z : Nat → Int} {k : Nat} {m : Int} (h : AtL z k (cellsOf (numZ m) 2)) (h0 : 0 ≤ m) (h1 : m ≤ 65535) : z k * 256 + z (k + 1) = m := by
  have a := h.cells (i := 0) (by decide)
  have b := h.cells (i := 1) (by decide)
  rw [Nat.add_zero] at a
  rw [a, b]; simp only [numZ]; simp; omega
theorem cellsOf_len (y : Nat → Int) (m : Nat) : (cellsOf y m).length = m := by simp [cellsOf]

theorem num_back {z : Nat → Int} {n : Nat} {r : Rs} {m : Int} (h : AtL z r.at0 (cellsOf (numZ m) 2)) (h0 : 0 ≤ m) (h1 : m ≤ 65535) (hq : r.q = 0) (hn : r.at0 + 2 ≤ n) : rNum z n r = (m, r.on 2) := by
  unfold rNum
  rw [if_neg (by simpa using hq), if_neg (by omega), numZ_two h h0 h1]
theorem byte_back {z : Nat → Int} {n : Nat} {r : Rs} {x : Int} (h : z r.at0 = x) (hq : r.q = 0) (hn : r.at0 + 1 ≤ n) : rByte z n r = (x, r.on 1) := by
  unfold rByte
  rw [if_neg (by simpa using hq), if_neg (by omega), h]
theorem two_back {z : Nat → Int} {k m : Nat} (h : AtL z k (cellsOf (numZ m) 2)) (h1 : m ≤ 65535) : two z k = m := by
  have := numZ_two h (by omega) (by omega)
  unfold two; omega
theorem text_back {z : Nat → Int} {n : Nat} {r : Rs} {s : ByteArray} (h : AtL z r.at0 (tx s)) (hs : s.size ≤ 65535) (hc : (chk s).2 = 0) (hq : r.q = 0) (hn : r.at0 + (2 + s.size) ≤ n) : rText z n r = (s, r.on (2 + s.size)) := by
  unfold tx at h
  have e2 := two_back h.left hs
  have hr := h.right
  rw [cellsOf_len] at hr
  have et : txtAt z r.at0 s.size = s := hr.str
  unfold rText
  rw [e2, et, if_neg (by simpa using hq), if_neg (by omega), if_neg (by omega), if_neg (by simpa using hc)]
theorem data_back {z y : Nat → Int} {n l : Nat} {r : Rs} (h : AtL z r.at0 (dt y l)) (hs : l ≤ 65535) (hq : r.q = 0) (hn : r.at0 + (2 + l) ≤ n) : rData z n r = ((l, fun i => z (r.at0 + 2 + i)), r.on (2 + l)) ∧ ∀ i, i < l → z (r.at0 + 2 + i) = y i := by
  unfold dt at h
  have e2 := two_back h.left hs
  have hr := h.right
  rw [cellsOf_len] at hr
  refine ⟨?_, fun i hi => hr.cells hi⟩
  unfold rData
  rw [e2, if_neg (by simpa using hq), if_neg (by omega), if_neg (by omega)]
theorem end_back {n : Nat} {r : Rs} (h : r.at0 = n) : rEnd n r = r := by
  unfold rEnd
  split
  · rfl
  · rw [if_neg (by omega)]
end Go.Proofs.YtibihbclijpkjaaGreatDoor
namespace Go.Proofs.YtibihbclijpkjaaGreatDoor
open Go Go.RowKit
open Pkt (Pk Cn Sl In By Is Ss As pkCells Gd sumN Right TT sz fg hasID form mkI)
set_option linter.unusedSimpArgs false
set_option linter.unusedVariables false

/-- A packet that was read again. -/
structure Back (p : Pk) (c : Cn) (p' : Pk) (c' : Cn) : Prop where
  al : Alike p' p
  wz : ∀ i, i < p.wP.n → c'.wz i = c.wz i
  pz : ∀ i, i < p.pass.n → c'.pz i = c.pz i
  mz : ∀ i, i < p.mP.n → c'.mz i = c.mz i
  af : ∀ i, i < p.asks.n → c'.af i = c.af i
  aq : ∀ i, i < p.asks.n → c'.aq i = c.aq i
  cs : ∀ i, i < p.codes.n → c'.cs i = c.cs i
  fs : ∀ i, i < p.filters.n → c'.fs i = c.fs i
theorem ba_nil {s : ByteArray} (h : s.size = 0) : s = ⟨#[]⟩ := by
  apply ByteArray.ext
  exact Array.eq_empty_of_size_eq_zero h
theorem alike_mk {q p : Pk} (h0 : q.kind = p.kind) (h1 : q.level = p.level) (h2 : q.clean = p.clean) (h3 : q.keep = p.keep) (h4 : q.client = p.client) (h5 : q.hasWill = p.hasWill) (h6 : q.wT = p.wT) (h7 : q.wQ = p.wQ) (h8 : q.wR = p.wR) (h9 : q.hasUser = p.hasUser) (h10 : q.user = p.user) (h11 : q.hasPass = p.hasPass) (h12 : q.present = p.present) (h13 : q.code = p.code) (h14 : q.dup = p.dup) (h15 : q.mT = p.mT) (h16 : q.mQ = p.mQ) (h17 : q.mR = p.mR) (h18 : q.id = p.id)
    (n1 : q.wP.n = p.wP.n) (n2 : q.pass.n = p.pass.n) (n3 : q.mP.n = p.mP.n) (n4 : q.asks.n = p.asks.n) (n5 : q.codes.n = p.codes.n) (n6 : q.filters.n = p.filters.n) : Alike q p := by
  refine ⟨q.wP, q.pass, q.mP, q.asks, q.codes, q.filters, ?_, n1, n2, n3, n4, n5, n6⟩
  cases q; cases p
  simp only at *
  subst_vars
  rfl
/-- What a packet of a kind has not. -/
structure NoConn (p : Pk) : Prop where
  level : p.level = 0
  clean : p.clean = false
  keep : p.keep = 0
  client : p.client = ⟨#[]⟩
  hasWill : p.hasWill = false
  wT : p.wT = ⟨#[]⟩
  wQ : p.wQ = 0
  wR : p.wR = false
  wP : p.wP.n = 0
  hasUser : p.hasUser = false
  user : p.user = ⟨#[]⟩
  hasPass : p.hasPass = false
  pass : p.pass.n = 0
theorem no_conn {p : Pk} (o : Pkt.Own p) (h : p.kind ≠ 1) : NoConn p := by
  have w := o.will (fun e => h e.1)
  exact ⟨o.level h, o.clean h, o.keep h, ba_nil (o.client h), o.hasWill h, ba_nil w.1, w.2.1, w.2.2.1, w.2.2.2, o.hasUser h, ba_nil (o.user (fun e => h e.1)), o.hasPass h, o.pass (fun e => h e.1)⟩
structure NoMsg (p : Pk) : Prop where
  dup : p.dup = false
  mT : p.mT = ⟨#[]⟩
  mQ : p.mQ = 0
  mR : p.mR = false
  mP : p.mP.n = 0
theorem no_msg {p : Pk} (o : Pkt.Own p) (h : p.kind ≠ 3) : NoMsg p := by
  have w := o.msg h
  exact ⟨o.dup h, ba_nil w.1, w.2.1, w.2.2.1, w.2.2.2⟩
theorem bnd_of {p : Pk} {c : Cn} (r : Right TT p c) : 0 ≤ p.level ∧ p.level ≤ 255 ∧ 0 ≤ p.code ∧ p.code ≤ 255 ∧ 0 ≤ p.keep ∧ p.keep ≤ 65535 := by
  have := r.bd
  simp [Pkt.bnd] at this
  omega

/-- Kinds without fields. -/
theorem back_none {z : Nat → Int} {h : Nat} {p : Pk} {c : Cn} (r : Right TT p c) (hk : 12 ≤ p.kind) (fl : Int) : ∃ r' p' c', intoP z (h + sz p c) ⟨h, 0, 0⟩ p.kind noCn fl = .ok (r', p', c') ∧ Back p c p' c' := by
  have k2 := r.k2
  have nc := no_conn r.own (by omega)
  have nm := no_msg r.own (by omega)
  have a8 := r.own.asks (by omega)
  have a9 := r.own.codes (by omega)
  have a10 := r.own.filters (by omega)
  have hid : hasID p = false := by unfold hasID; simp; constructor <;> intros <;> omega
  have e1 : sz p c = 0 := by
    unfold sz Pkt.nid
    rw [if_neg (by omega), if_neg (by omega), if_neg (by omega), a8, a9, a10, hid]
    simp [sumN]
  have e2 : p.kind = 12 ∨ p.kind = 13 ∨ p.kind = 14 := by omega
  refine ⟨⟨h, 0, 0⟩, blank p.kind, noCn, ?_, ?_⟩
  · unfold intoP
    rw [if_neg (by omega), if_neg (by omega), if_neg (by omega), if_neg (by omega), if_neg (by omega), if_neg (by omega), if_pos e2, e1, end_back (n := h + 0) (r := ⟨h, 0, 0⟩) rfl]
    rfl
  · refine ⟨alike_mk rfl nc.level.symm nc.clean.symm nc.keep.symm nc.client.symm nc.hasWill.symm nc.wT.symm nc.wQ.symm nc.wR.symm nc.hasUser.symm nc.user.symm nc.hasPass.symm (r.own.present (by omega)).symm (r.own.code (by omega)).symm nm.dup.symm nm.mT.symm nm.mQ.symm nm.mR.symm (r.own.id hid).symm nc.wP.symm nc.pass.symm nm.mP.symm a8.symm a9.symm a10.symm, ?_, ?_, ?_, ?_, ?_, ?_, ?_⟩
    all_goals intro i hi
    all_goals (first | (have := nc.wP; omega) | (have := nc.pass; omega) | (have := nm.mP; omega) | omega)
/-- Connack. -/
theorem back_ack {z : Nat → Int} {h : Nat} {p : Pk} {c : Cn} (r : Right TT p c) (hk : p.kind = 2) (fl : Int) (hz : AtL z h (fieldsL p c)) : ∃ r' p' c', intoP z (h + sz p c) ⟨h, 0, 0⟩ p.kind noCn fl = .ok (r', p', c') ∧ Back p c p' c' := by
  have nc := no_conn r.own (by omega)
  have nm := no_msg r.own (by omega)
  have a8 := r.own.asks (by omega)
  have a9 := r.own.codes (by omega)
  have a10 := r.own.filters (by omega)
  have hid : hasID p = false := by unfold hasID; simp; constructor <;> intros <;> omega
  have hb := bnd_of r
  have e1 : sz p c = 2 := by unfold sz; rw [if_neg (by omega), if_pos hk]
  unfold fieldsL at hz
  rw [if_neg (by omega), if_pos hk] at hz
  obtain ⟨z0, hz1⟩ := hz.one
  have z1 := hz1.one.1
  rw [Int.emod_eq_of_lt hb.2.2.1 (by omega)] at z1
  have b0 : rByte z (h + 2) ⟨h, 0, 0⟩ = (mkU p.present 1, ⟨h + 1, 0, 0⟩) := byte_back (r := ⟨h, 0, 0⟩) z0 rfl (by show h + 1 ≤ h + 2; omega)
  have b1 : rByte z (h + 2) ⟨h + 1, 0, 0⟩ = (p.code, ⟨h + 1 + 1, 0, 0⟩) := byte_back (r := ⟨h + 1, 0, 0⟩) z1 rfl (by show h + 1 + 1 ≤ h + 2; omega)
  refine ⟨⟨h + 1 + 1, 0, 0⟩, { blank 2 with present := p.present, code := p.code }, noCn, ?_, ?_⟩
  · unfold intoP
    rw [if_neg (by omega), if_pos hk, e1]
    unfold connackP
    rw [b0]
    simp only
    rw [b1, end_back (r := ⟨h + 1 + 1, 0, 0⟩) rfl]
    rw [hk]
    cases p.present <;> simp [mkU]
  · refine ⟨alike_mk hk.symm nc.level.symm nc.clean.symm nc.keep.symm nc.client.symm nc.hasWill.symm nc.wT.symm nc.wQ.symm nc.wR.symm nc.hasUser.symm nc.user.symm nc.hasPass.symm rfl rfl nm.dup.symm nm.mT.symm nm.mQ.symm nm.mR.symm (r.own.id hid).symm nc.wP.symm nc.pass.symm nm.mP.symm a8.symm a9.symm a10.symm, ?_, ?_, ?_, ?_, ?_, ?_, ?_⟩
    all_goals intro i hi
    all_goals (first | (have := nc.wP; omega) | (have := nc.pass; omega) | (have := nm.mP; omega) | omega)
/-- Kinds with a number alone. -/
theorem back_id {z : Nat → Int} {h : Nat} {p : Pk} {c : Cn} (r : Right TT p c) (hk : p.kind = 4 ∨ p.kind = 5 ∨ p.kind = 6 ∨ p.kind = 7 ∨ p.kind = 11) (fl : Int) (hz : AtL z h (fieldsL p c)) : ∃ r' p' c', intoP z (h + sz p c) ⟨h, 0, 0⟩ p.kind noCn fl = .ok (r', p', c') ∧ Back p c p' c' := by
  have nc := no_conn r.own (by omega)
  have nm := no_msg r.own (by omega)
  have a8 := r.own.asks (by omega)
  have a9 := r.own.codes (by omega)
  have a10 := r.own.filters (by omega)
  have hid : hasID p = true := by unfold hasID; simp; omega
  have hi := r.id hid
  have e1 : sz p c = 2 := by
    unfold sz Pkt.nid
    rw [if_neg (by omega), if_neg (by omega), if_neg (by omega), a8, a9, a10, hid]
    simp [sumN]
  unfold fieldsL at hz
  rw [if_neg (by omega), if_neg (by omega), if_neg (by omega), if_neg (by omega)] at hz
  have b0 : rNum z (h + 2) ⟨h, 0, 0⟩ = (p.id, ⟨h + 2, 0, 0⟩) := num_back (r := ⟨h, 0, 0⟩) hz.left (by omega) hi.2 rfl (by show h + 2 ≤ h + 2; omega)
  refine ⟨⟨h + 2, 0, 0⟩, { blank p.kind with id := p.id }, noCn, ?_, ?_⟩
  · unfold intoP
    rw [if_neg (by omega), if_neg (by omega), if_neg (by omega), if_neg (by omega), if_neg (by omega), if_neg (by omega), if_neg (by omega), e1]
    unfold idP
    rw [b0, end_back (r := ⟨h + 2, 0, 0⟩) rfl]
    rfl
  · refine ⟨alike_mk rfl nc.level.symm nc.clean.symm nc.keep.symm nc.client.symm nc.hasWill.symm nc.wT.symm nc.wQ.symm nc.wR.symm nc.hasUser.symm nc.user.symm nc.hasPass.symm (r.own.present (by omega)).symm (r.own.code (by omega)).symm nm.dup.symm nm.mT.symm nm.mQ.symm nm.mR.symm rfl nc.wP.symm nc.pass.symm nm.mP.symm a8.symm a9.symm a10.symm, ?_, ?_, ?_, ?_, ?_, ?_, ?_⟩
    all_goals intro i hi
    all_goals (first | (have := nc.wP; omega) | (have := nc.pass; omega) | (have := nm.mP; omega) | omega)
theorem fg_pub (d m : Bool) (q : Fin 3) : fD (bits .or .i64 (bits .or .i64 (bits .or .i64 0 (mkI d 8)) (2 * (q.val : Int))) (mkI m 1)) = d ∧ fQ (bits .or .i64 (bits .or .i64 (bits .or .i64 0 (mkI d 8)) (2 * (q.val : Int))) (mkI m 1)) = q.val ∧ fR (bits .or .i64 (bits .or .i64 (bits .or .i64 0 (mkI d 8)) (2 * (q.val : Int))) (mkI m 1)) = m := by
  revert q; cases d <;> cases m <;> decide +kernel
theorem fg_three {p : Pk} {c : Cn} (r : Right TT p c) (hk : p.kind = 3) : fD (fg p) = p.dup ∧ fQ (fg p) = p.mQ ∧ fR (fg p) = p.mR := by
  have q := r.q2
  have e : (form p.kind.toNat).2.1 = 0 := by rw [hk]; rfl
  unfold fg
  rw [e]
  rcases q with q | q | q
  · have := fg_pub p.dup p.mR 0; rw [q]; exact this
  · have := fg_pub p.dup p.mR 1; rw [q]; exact this
  · have := fg_pub p.dup p.mR 2; rw [q]; exact this
/-- Publish. -/
theorem back_pub {z : Nat → Int} {h : Nat} {p : Pk} {c : Cn} (r : Right TT p c) (hk : p.kind = 3) (hz : AtL z h (fieldsL p c)) : ∃ r' p' c', intoP z (h + sz p c) ⟨h, 0, 0⟩ p.kind noCn (fg p) = .ok (r', p', c') ∧ Back p c p' c' := by
  have nc := no_conn r.own (by omega)
  have a8 := r.own.asks (by omega)
  have a9 := r.own.codes (by omega)
  have a10 := r.own.filters (by omega)
  obtain ⟨f1, f2, f3⟩ := fg_three r hk
  have q2 := r.q2
  have ht : Pkt.topb p.mT = true := by have := r.tp; simp [Pkt.tps, hk] at this; exact this.2
  obtain ⟨t1, t2⟩ := top_ok ht
  unfold fieldsL at hz
  rw [if_neg (by omega), if_neg (by omega), if_pos hk] at hz
  unfold pubL at hz
  have hA := hz.left.left
  have hB := hz.left.right
  have hC := hz.right
  have el : (tx p.mT).length = 2 + p.mT.size := by simp [tx, cellsOf_len, Lib.strCells_length]
  rw [el] at hB
  have e1 : sz p c = Pkt.nid p + 2 + p.mT.size + p.mP.n := by unfold sz; rw [if_neg (by omega), if_neg (by omega), if_pos hk]
  have en : Pkt.nid p = if 0 < p.mQ then 2 else 0 := by
    unfold Pkt.nid hasID
    by_cases hq : p.mQ = 0
    · simp [hk, hq]
    · have : 0 < p.mQ := by omega
      simp [hk, hq, this]
  have bt : rText z (h + sz p c) ⟨h, 0, 0⟩ = (p.mT, ⟨h + (2 + p.mT.size), 0, 0⟩) := text_back (r := ⟨h, 0, 0⟩) hA t1 t2 rfl (by show h + (2 + p.mT.size) ≤ _; omega)
  have bn : pubNum z (h + sz p c) 0 (fg p) ⟨h + (2 + p.mT.size), 0, 0⟩ = (p.id, ⟨h + (2 + p.mT.size) + Pkt.nid p, 0, 0⟩) := by
    unfold pubNum
    rw [f2]
    by_cases hq : 0 < p.mQ
    · rw [if_pos hq] at hB en ⊢
      have hid : hasID p = true := by unfold hasID; simp [hk]; omega
      have hi := r.id hid
      have := num_back (z := z) (n := h + sz p c) (r := ⟨h + (2 + p.mT.size), 0, 0⟩) hB (by omega) hi.2 rfl (by show h + (2 + p.mT.size) + 2 ≤ _; omega)
      rw [this, en]; rfl
    · rw [if_neg hq] at en ⊢
      have hid : hasID p = false := by unfold hasID; simp [hk]; omega
      rw [r.own.id hid, en]; rfl
  have hl : (tx p.mT ++ if 0 < p.mQ then cellsOf (numZ p.id) 2 else []).length = 2 + p.mT.size + Pkt.nid p := by
    rw [List.length_append, el, en]
    split <;> simp [cellsOf_len]
  rw [hl] at hC
  have br : rRest z (h + sz p c) ⟨h + (2 + p.mT.size) + Pkt.nid p, 0, 0⟩ = ((p.mP.n, fun i => z (h + (2 + p.mT.size) + Pkt.nid p + i)), ⟨h + sz p c, 0, 0⟩) := by
    unfold rRest
    rw [if_neg (by simp)]
    simp only
    rw [show h + sz p c - (h + (2 + p.mT.size) + Pkt.nid p) = p.mP.n by omega]
  refine ⟨⟨h + sz p c, 0, 0⟩, { blank 3 with dup := p.dup, mQ := p.mQ, mR := p.mR, mT := p.mT, id := p.id, mP := ⟨none, p.mP.n, 0⟩ }, { noCn with mz := fun i => z (h + (2 + p.mT.size) + Pkt.nid p + i) }, ?_, ?_⟩
  · unfold intoP
    rw [if_neg (by omega), if_neg (by omega), if_pos hk, hk]
    unfold publishP
    have eb : (blank 3).id = 0 := rfl
    rw [bt]
    simp only [eb]
    rw [bn]
    simp only
    rw [br, f1, f2, f3]
    rfl
  · refine ⟨alike_mk hk.symm nc.level.symm nc.clean.symm nc.keep.symm nc.client.symm nc.hasWill.symm nc.wT.symm nc.wQ.symm nc.wR.symm nc.hasUser.symm nc.user.symm nc.hasPass.symm (r.own.present (by omega)).symm (r.own.code (by omega)).symm rfl rfl rfl rfl rfl nc.wP.symm nc.pass.symm rfl a8.symm a9.symm a10.symm, ?_, ?_, ?_, ?_, ?_, ?_, ?_⟩
    case _ => intro i hi; have := nc.wP; omega
    case _ => intro i hi; have := nc.pass; omega
    case _ =>
      intro i hi
      have := hC.cells hi
      show z (h + (2 + p.mT.size) + Pkt.nid p + i) = c.mz i
      rw [← this]; congr 1; omega
    all_goals intro i hi
    all_goals omega
end Go.Proofs.YtibihbclijpkjaaGreatDoor
namespace Go.Proofs.YtibihbclijpkjaaGreatDoor
open Go Go.RowKit
open Pkt (Pk Cn Sl In By Is Ss As pkCells Gd sumN Right TT sz fg hasID form mkI)
set_option linter.unusedSimpArgs false
set_option linter.unusedVariables false

theorem tx_len (s : ByteArray) : (tx s).length = 2 + s.size := by simp [tx, cellsOf_len, Lib.strCells_length]
theorem asksL_len (f : Nat → ByteArray) (q : Nat → Int) (m : Nat) : (asksL f q m).length = sumN (fun i => 3 + (f i).size) m := by
  induction m with
  | zero => rfl
  | succ m ih => rw [asksL, sumN_succ, List.length_append, List.length_append, ih, tx_len, List.length_singleton]; omega
theorem codesL_len (q : Nat → Int) (m : Nat) : (codesL q m).length = m := by
  induction m with
  | zero => rfl
  | succ m ih => rw [codesL, List.length_append, ih]; rfl
theorem filtL_len (f : Nat → ByteArray) (m : Nat) : (filtL f m).length = sumN (fun i => 2 + (f i).size) m := by
  induction m with
  | zero => rfl
  | succ m ih => rw [filtL, sumN_succ, List.length_append, ih, tx_len]
theorem asks_at {z : Nat → Int} {a : Nat} (f : Nat → ByteArray) (q : Nat → Int) (m : Nat) (h : AtL z a (asksL f q m)) (k : Nat) (hk : k < m) : AtL z (a + sumN (fun i => 3 + (f i).size) k) (tx (f k) ++ [.int .u8 (q k % 256)]) := by
  induction m with
  | zero => omega
  | succ m ih =>
    rw [asksL] at h
    by_cases e : k = m
    · have := h.right; rw [asksL_len] at this; rw [e]; exact this
    · exact ih h.left (by omega)
theorem codes_at {z : Nat → Int} {a : Nat} (q : Nat → Int) (m : Nat) (h : AtL z a (codesL q m)) (k : Nat) (hk : k < m) : z (a + k) = q k % 256 := by
  induction m with
  | zero => omega
  | succ m ih =>
    rw [codesL] at h
    by_cases e : k = m
    · have := h.right; rw [codesL_len] at this; rw [e]; exact this.one.1
    · exact ih h.left (by omega)
theorem filt_at {z : Nat → Int} {a : Nat} (f : Nat → ByteArray) (m : Nat) (h : AtL z a (filtL f m)) (k : Nat) (hk : k < m) : AtL z (a + sumN (fun i => 2 + (f i).size) k) (tx (f k)) := by
  induction m with
  | zero => omega
  | succ m ih =>
    rw [filtL] at h
    by_cases e : k = m
    · have := h.right; rw [filtL_len] at this; rw [e]; exact this
    · exact ih h.left (by omega)

theorem subF_back {z : Nat → Int} {a : Nat} (f : Nat → ByteArray) (q : Nat → Int) (m : Nat) (h : AtL z a (asksL f q m)) (hf : ∀ i, i < m → (f i).size ≤ 65535 ∧ (chk (f i)).2 = 0) (hq : ∀ i, i < m → 0 ≤ q i ∧ q i ≤ 255) (d : Nat) :
    ∀ (k b : Nat), k + d = m → d ≤ b → subF z (a + sumN (fun i => 3 + (f i).size) m) b ⟨a + sumN (fun i => 3 + (f i).size) k, 0, 0⟩ ((List.range k).map fun i => (f i, q i)) = (⟨a + sumN (fun i => 3 + (f i).size) m, 0, 0⟩, (List.range m).map fun i => (f i, q i)) := by
  induction d with
  | zero =>
    intro k b e _
    obtain rfl : k = m := by omega
    exact subF_end _ _ _ (by simp [more])
  | succ d ih =>
    intro k b e hb
    obtain ⟨b', rfl⟩ : ∃ b', b = b' + 1 := ⟨b - 1, by omega⟩
    have hk : k < m := by omega
    have hle := sumN_le (fun i => 3 + (f i).size) (k := k + 1) (n := m) hk
    rw [sumN_succ] at hle
    have hA := asks_at f q m h k hk
    have ht : rText z (a + sumN (fun i => 3 + (f i).size) m) ⟨a + sumN (fun i => 3 + (f i).size) k, 0, 0⟩ = (f k, ⟨a + sumN (fun i => 3 + (f i).size) k + (2 + (f k).size), 0, 0⟩) :=
      text_back (r := ⟨a + sumN (fun i => 3 + (f i).size) k, 0, 0⟩) hA.left (hf k hk).1 (hf k hk).2 rfl (by show a + sumN (fun i => 3 + (f i).size) k + (2 + (f k).size) ≤ _; omega)
    have hz := hA.right.one.1
    rw [tx_len, Int.emod_eq_of_lt (hq k hk).1 (by have := (hq k hk).2; omega)] at hz
    have hy : rByte z (a + sumN (fun i => 3 + (f i).size) m) ⟨a + sumN (fun i => 3 + (f i).size) k + (2 + (f k).size), 0, 0⟩ = (q k, ⟨a + sumN (fun i => 3 + (f i).size) (k + 1), 0, 0⟩) := by
      have := byte_back (z := z) (n := a + sumN (fun i => 3 + (f i).size) m) (r := ⟨a + sumN (fun i => 3 + (f i).size) k + (2 + (f k).size), 0, 0⟩) hz rfl (by show a + sumN (fun i => 3 + (f i).size) k + (2 + (f k).size) + 1 ≤ _; omega)
      rw [this, Rs.on, sumN_succ]
      simp only [Prod.mk.injEq, Rs.mk.injEq, true_and, and_true]; omega
    rw [subF, if_pos (by simp [more]; omega), ht]
    simp only
    rw [hy]
    simp only
    have := ih (k + 1) b' (by omega) (by omega)
    rw [List.range_succ, List.map_append] at this
    exact this
theorem unsF_back {z : Nat → Int} {a : Nat} (f : Nat → ByteArray) (m : Nat) (h : AtL z a (filtL f m)) (hf : ∀ i, i < m → (f i).size ≤ 65535 ∧ (chk (f i)).2 = 0) (d : Nat) :
    ∀ (k b : Nat), k + d = m → d ≤ b → unsF z (a + sumN (fun i => 2 + (f i).size) m) b ⟨a + sumN (fun i => 2 + (f i).size) k, 0, 0⟩ ((List.range k).map f) = (⟨a + sumN (fun i => 2 + (f i).size) m, 0, 0⟩, (List.range m).map f) := by
  induction d with
  | zero =>
    intro k b e _
    obtain rfl : k = m := by omega
    exact unsF_end _ _ _ (by simp [more])
  | succ d ih =>
    intro k b e hb
    obtain ⟨b', rfl⟩ : ∃ b', b = b' + 1 := ⟨b - 1, by omega⟩
    have hk : k < m := by omega
    have hle := sumN_le (fun i => 2 + (f i).size) (k := k + 1) (n := m) hk
    rw [sumN_succ] at hle
    have hA := filt_at f m h k hk
    have ht : rText z (a + sumN (fun i => 2 + (f i).size) m) ⟨a + sumN (fun i => 2 + (f i).size) k, 0, 0⟩ = (f k, ⟨a + sumN (fun i => 2 + (f i).size) (k + 1), 0, 0⟩) := by
      have := text_back (z := z) (n := a + sumN (fun i => 2 + (f i).size) m) (r := ⟨a + sumN (fun i => 2 + (f i).size) k, 0, 0⟩) hA (hf k hk).1 (hf k hk).2 rfl (by show a + sumN (fun i => 2 + (f i).size) k + (2 + (f k).size) ≤ _; omega)
      rw [this, Rs.on, sumN_succ]
      simp only [Prod.mk.injEq, Rs.mk.injEq, true_and, and_true]; omega
    rw [unsF, if_pos (by simp [more]; omega), ht]
    simp only
    have := ih (k + 1) b' (by omega) (by omega)
    rw [List.range_succ, List.map_append] at this
    exact this

/-- Subscribe, Suback, Unsubscribe. -/
theorem back_lists {z : Nat → Int} {h : Nat} {p : Pk} {c : Cn} (r : Right TT p c) (hk : p.kind = 8 ∨ p.kind = 9 ∨ p.kind = 10) (fl : Int) (hz : AtL z h (fieldsL p c)) : ∃ r' p' c', intoP z (h + sz p c) ⟨h, 0, 0⟩ p.kind noCn fl = .ok (r', p', c') ∧ Back p c p' c' := by
  have nc := no_conn r.own (by omega)
  have nm := no_msg r.own (by omega)
  have hid : hasID p = true := by unfold hasID; simp; omega
  have hi := r.id hid
  have e1 : sz p c = 2 + (sumN (fun i => 3 + (c.af i).size) p.asks.n + sumN (fun i => 2 + (c.fs i).size) p.filters.n + p.codes.n) := by
    unfold sz Pkt.nid
    rw [if_neg (by omega), if_neg (by omega), if_neg (by omega), hid, if_pos rfl]
    omega
  have hft := r.ft
  simp only [Pkt.flts, Bool.and_eq_true, Pkt.allN_iff] at hft
  have hQ := r.ql
  simp only [Pkt.qls, Bool.and_eq_true, Pkt.allN_iff] at hQ
  unfold fieldsL at hz
  rw [if_neg (by omega), if_neg (by omega), if_neg (by omega), if_neg (by omega)] at hz
  have b0 : rNum z (h + sz p c) ⟨h, 0, 0⟩ = (p.id, ⟨h + 2, 0, 0⟩) := num_back (r := ⟨h, 0, 0⟩) hz.left (by omega) hi.2 rfl (by show h + 2 ≤ _; omega)
  have hr := hz.right
  rw [cellsOf_len] at hr
  rcases hk with hk | hk | hk
  · have a9 := r.own.codes (by omega)
    have a10 := r.own.filters (by omega)
    have eS : h + sz p c = h + 2 + sumN (fun i => 3 + (c.af i).size) p.asks.n := by rw [e1, a9, a10]; simp [sumN]; omega
    have hS := subF_back c.af c.aq p.asks.n hr.left.left (fun i hi => flt_ok (hft.1 i hi)) (fun i hi => by have := hQ.1.2 i hi; simp [Pkt.isQ] at this; omega) p.asks.n 0 (h + sz p c) (by omega) (by have := sumN_ge (fun i => 3 + (c.af i).size) (fun i => by omega) p.asks.n; omega)
    rw [← eS] at hS
    have hS : subF z (h + sz p c) (h + sz p c) ⟨h + 2, 0, 0⟩ [] = (⟨h + sz p c, 0, 0⟩, (List.range p.asks.n).map fun i => (c.af i, c.aq i)) := hS
    refine ⟨⟨h + sz p c, 0, 0⟩, { blank 8 with id := p.id, asks := ⟨none, p.asks.n, 0⟩ }, { noCn with af := fun i => (((List.range p.asks.n).map fun i => (c.af i, c.aq i)).getD i (⟨#[]⟩, 0)).1, aq := fun i => (((List.range p.asks.n).map fun i => (c.af i, c.aq i)).getD i (⟨#[]⟩, 0)).2 }, ?_, ?_⟩
    · unfold intoP
      rw [if_neg (by omega), if_neg (by omega), if_neg (by omega), if_pos hk, hk]
      unfold subP
      rw [b0]
      simp only
      rw [hS]
      simp only [List.length_map, List.length_range]
      rfl
    · refine ⟨alike_mk hk.symm nc.level.symm nc.clean.symm nc.keep.symm nc.client.symm nc.hasWill.symm nc.wT.symm nc.wQ.symm nc.wR.symm nc.hasUser.symm nc.user.symm nc.hasPass.symm (r.own.present (by omega)).symm (r.own.code (by omega)).symm nm.dup.symm nm.mT.symm nm.mQ.symm nm.mR.symm rfl nc.wP.symm nc.pass.symm nm.mP.symm rfl a9.symm a10.symm, ?_, ?_, ?_, ?_, ?_, ?_, ?_⟩
      case _ => intro i hi; have := nc.wP; omega
      case _ => intro i hi; have := nc.pass; omega
      case _ => intro i hi; have := nm.mP; omega
      case _ => intro i hi; simp [hi]
      case _ => intro i hi; simp [hi]
      case _ => intro i hi; omega
      case _ => intro i hi; omega
  · have a8 := r.own.asks (by omega)
    have a10 := r.own.filters (by omega)
    have eS : h + sz p c = h + 2 + p.codes.n := by rw [e1, a8, a10]; simp [sumN]; omega
    have hC := hr.left.right
    rw [asksL_len, a8] at hC
    have br : rRest z (h + sz p c) ⟨h + 2, 0, 0⟩ = ((p.codes.n, fun i => z (h + 2 + i)), ⟨h + sz p c, 0, 0⟩) := by
      unfold rRest
      rw [if_neg (by simp)]
      simp only
      rw [show h + sz p c - (h + 2) = p.codes.n by omega]
    refine ⟨⟨h + sz p c, 0, 0⟩, { blank 9 with id := p.id, codes := ⟨none, p.codes.n, 0⟩ }, { noCn with cs := fun i => z (h + 2 + i) }, ?_, ?_⟩
    · unfold intoP
      rw [if_neg (by omega), if_neg (by omega), if_neg (by omega), if_neg (by omega), if_pos hk, hk]
      unfold subackP
      rw [b0]
      simp only
      rw [br]
      rfl
    · refine ⟨alike_mk hk.symm nc.level.symm nc.clean.symm nc.keep.symm nc.client.symm nc.hasWill.symm nc.wT.symm nc.wQ.symm nc.wR.symm nc.hasUser.symm nc.user.symm nc.hasPass.symm (r.own.present (by omega)).symm (r.own.code (by omega)).symm nm.dup.symm nm.mT.symm nm.mQ.symm nm.mR.symm rfl nc.wP.symm nc.pass.symm nm.mP.symm a8.symm rfl a10.symm, ?_, ?_, ?_, ?_, ?_, ?_, ?_⟩
      case _ => intro i hi; have := nc.wP; omega
      case _ => intro i hi; have := nc.pass; omega
      case _ => intro i hi; have := nm.mP; omega
      case _ => intro i hi; omega
      case _ => intro i hi; omega
      case _ =>
        intro i hi
        have h1 := codes_at c.cs p.codes.n hC i hi
        have h2 := hQ.2 i hi
        simp [Pkt.isC, Pkt.isQ] at h2
        show z (h + 2 + i) = c.cs i
        rw [show h + 2 + i = h + 2 + sumN (fun i => 3 + (c.af i).size) 0 + i from rfl, h1]
        exact Int.emod_eq_of_lt (by omega) (by omega)
      case _ => intro i hi; omega
  · have a8 := r.own.asks (by omega)
    have a9 := r.own.codes (by omega)
    have eS : h + sz p c = h + 2 + sumN (fun i => 2 + (c.fs i).size) p.filters.n := by rw [e1, a8, a9]; simp [sumN]; omega
    have hF := hr.right
    rw [List.length_append, asksL_len, codesL_len, a8, a9] at hF
    have hS := unsF_back c.fs p.filters.n hF (fun i hi => flt_ok (hft.2 i hi)) p.filters.n 0 (h + sz p c) (by omega) (by have := sumN_ge (fun i => 2 + (c.fs i).size) (fun i => by omega) p.filters.n; omega)
    have hS : unsF z (h + 2 + sumN (fun i => 2 + (c.fs i).size) p.filters.n) (h + sz p c) ⟨h + 2, 0, 0⟩ [] = (⟨h + 2 + sumN (fun i => 2 + (c.fs i).size) p.filters.n, 0, 0⟩, (List.range p.filters.n).map c.fs) := hS
    rw [← eS] at hS
    refine ⟨⟨h + sz p c, 0, 0⟩, { blank 10 with id := p.id, filters := ⟨none, p.filters.n, 0⟩ }, { noCn with fs := fun i => (((List.range p.filters.n).map c.fs).getD i ⟨#[]⟩) }, ?_, ?_⟩
    · unfold intoP
      rw [if_neg (by omega), if_neg (by omega), if_neg (by omega), if_neg (by omega), if_neg (by omega), if_pos hk, hk]
      unfold unsP
      rw [b0]
      simp only
      rw [hS]
      simp only [List.length_map, List.length_range]
      rfl
    · refine ⟨alike_mk hk.symm nc.level.symm nc.clean.symm nc.keep.symm nc.client.symm nc.hasWill.symm nc.wT.symm nc.wQ.symm nc.wR.symm nc.hasUser.symm nc.user.symm nc.hasPass.symm (r.own.present (by omega)).symm (r.own.code (by omega)).symm nm.dup.symm nm.mT.symm nm.mQ.symm nm.mR.symm rfl nc.wP.symm nc.pass.symm nm.mP.symm a8.symm a9.symm rfl, ?_, ?_, ?_, ?_, ?_, ?_, ?_⟩
      case _ => intro i hi; have := nc.wP; omega
      case _ => intro i hi; have := nc.pass; omega
      case _ => intro i hi; have := nm.mP; omega
      case _ => intro i hi; omega
      case _ => intro i hi; omega
      case _ => intro i hi; omega
      case _ => intro i hi; simp [hi]
end Go.Proofs.YtibihbclijpkjaaGreatDoor
namespace Go.Proofs.YtibihbclijpkjaaGreatDoor
open Go Go.RowKit
open Pkt (Pk Cn Sl In By Is Ss As pkCells Gd sumN Right TT sz fg hasID form mkI)
set_option linter.unusedSimpArgs false
set_option linter.unusedVariables false

theorem marks_read (a b c d e : Bool) (q : Fin 3) : let m := mkU a 128 + mkU b 64 + mkU c 32 + 8 * (q.val : Int) + mkU d 4 + mkU e 2
    mk m 128 = a ∧ mk m 64 = b ∧ mk m 32 = c ∧ bits .and .u8 m 24 / 8 = q.val ∧ mk m 4 = d ∧ mk m 2 = e ∧ badMarks m = false ∧ 0 ≤ m ∧ m ≤ 255 := by
  revert q; cases a <;> cases b <;> cases c <;> cases d <;> cases e <;> decide +kernel
theorem marks_back {p : Pk} (hq : p.wQ = 0 ∨ p.wQ = 1 ∨ p.wQ = 2) : mk (marksV p) 128 = p.hasUser ∧ mk (marksV p) 64 = p.hasPass ∧ mk (marksV p) 32 = p.wR ∧ bits .and .u8 (marksV p) 24 / 8 = p.wQ ∧ mk (marksV p) 4 = p.hasWill ∧ mk (marksV p) 2 = p.clean ∧ badMarks (marksV p) = false ∧ 0 ≤ marksV p ∧ marksV p ≤ 255 := by
  unfold marksV
  rcases hq with q | q | q
  · have := marks_read p.hasUser p.hasPass p.wR p.hasWill p.clean 0; rw [q]; exact this
  · have := marks_read p.hasUser p.hasPass p.wR p.hasWill p.clean 1; rw [q]; exact this
  · have := marks_read p.hasUser p.hasPass p.wR p.hasWill p.clean 2; rw [q]; exact this
theorem will_back {z : Nat → Int} {n a : Nat} {p : Pk} {c : Cn} (r : Right TT p c) (hk : p.kind = 1) (h : AtL z a (if p.hasWill then tx p.wT ++ dt c.wz p.wP.n else [])) (hn : a + (if p.hasWill then 4 + p.wT.size + p.wP.n else 0) ≤ n) :
    ∃ y, cWill z n p.hasWill ⟨a, 0, 0⟩ ⟨#[]⟩ (0, noCn.wz) = ((p.wT, (p.wP.n, y)), ⟨a + (if p.hasWill then 4 + p.wT.size + p.wP.n else 0), 0, 0⟩) ∧ ∀ i, i < p.wP.n → y i = c.wz i := by
  cases hw : p.hasWill with
  | true =>
    rw [hw] at h hn
    simp only [if_true] at h hn ⊢
    have ht : Pkt.topb p.wT = true := by have := r.tp; simp [Pkt.tps, hw, hk] at this; exact this
    obtain ⟨t1, t2⟩ := top_ok ht
    have bt : rText z n ⟨a, 0, 0⟩ = (p.wT, ⟨a + (2 + p.wT.size), 0, 0⟩) := text_back (r := ⟨a, 0, 0⟩) h.left t1 t2 rfl (by show a + (2 + p.wT.size) ≤ n; omega)
    have hr := h.right
    rw [tx_len] at hr
    obtain ⟨bd, hy⟩ := data_back (n := n) (r := ⟨a + (2 + p.wT.size), 0, 0⟩) hr r.s1 rfl (by show a + (2 + p.wT.size) + (2 + p.wP.n) ≤ n; omega)
    refine ⟨fun i => z (a + (2 + p.wT.size) + 2 + i), ?_, hy⟩
    unfold cWill
    rw [if_pos rfl, bt]
    simp only
    rw [bd]
    simp only [Rs.on, Prod.mk.injEq, Rs.mk.injEq, true_and, and_true]
    omega
  | false =>
    have o := r.own.will (fun e => by rw [hw] at e; cases e.2)
    refine ⟨noCn.wz, ?_, fun i hi => by omega⟩
    unfold cWill
    rw [if_neg (by simp), ba_nil o.1, o.2.2.2]
    simp
theorem user_back {z : Nat → Int} {n a : Nat} {p : Pk} {c : Cn} (r : Right TT p c) (hk : p.kind = 1) (h : AtL z a (if p.hasUser then tx p.user else [])) (hn : a + (if p.hasUser then 2 + p.user.size else 0) ≤ n) :
    cUser z n p.hasUser ⟨a, 0, 0⟩ ⟨#[]⟩ = (p.user, ⟨a + (if p.hasUser then 2 + p.user.size else 0), 0, 0⟩) := by
  cases hw : p.hasUser with
  | true =>
    rw [hw] at h hn
    simp only [if_true] at h hn ⊢
    obtain ⟨t1, t2⟩ := txt_ok r.t2
    unfold cUser
    rw [if_pos rfl]
    exact text_back (r := ⟨a, 0, 0⟩) h t1 t2 rfl hn
  | false =>
    unfold cUser
    rw [if_neg (by simp), ba_nil (r.own.user (fun e => by rw [hw] at e; cases e.2))]
    simp
theorem pass_back {z : Nat → Int} {n a : Nat} {p : Pk} {c : Cn} (r : Right TT p c) (hk : p.kind = 1) (h : AtL z a (if p.hasPass then dt c.pz p.pass.n else [])) (hn : a + (if p.hasPass then 2 + p.pass.n else 0) ≤ n) :
    ∃ y, cPass z n p.hasPass ⟨a, 0, 0⟩ (0, noCn.pz) = ((p.pass.n, y), ⟨a + (if p.hasPass then 2 + p.pass.n else 0), 0, 0⟩) ∧ ∀ i, i < p.pass.n → y i = c.pz i := by
  cases hw : p.hasPass with
  | true =>
    rw [hw] at h hn
    simp only [if_true] at h hn ⊢
    obtain ⟨bd, hy⟩ := data_back (n := n) (r := ⟨a, 0, 0⟩) h r.s2 rfl hn
    refine ⟨fun i => z (a + 2 + i), ?_, hy⟩
    unfold cPass
    rw [if_pos rfl]
    exact bd
  | false =>
    refine ⟨noCn.pz, ?_, fun i hi => by have := r.own.pass (fun e => by rw [hw] at e; cases e.2); omega⟩
    unfold cPass
    rw [if_neg (by simp), r.own.pass (fun e => by rw [hw] at e; cases e.2)]
    simp
set_option maxHeartbeats 1000000 in
/-- Connect. -/
theorem back_conn {z : Nat → Int} {h : Nat} {p : Pk} {c : Cn} (r : Right TT p c) (hk : p.kind = 1) (fl : Int) (hz : AtL z h (fieldsL p c)) : ∃ r' p' c', intoP z (h + sz p c) ⟨h, 0, 0⟩ p.kind noCn fl = .ok (r', p', c') ∧ Back p c p' c' := by
  have nm := no_msg r.own (by omega)
  have a8 := r.own.asks (by omega)
  have a9 := r.own.codes (by omega)
  have a10 := r.own.filters (by omega)
  have hid : hasID p = false := by unfold hasID; simp; constructor <;> intros <;> omega
  have hQ := r.ql
  simp only [Pkt.qls, Bool.and_eq_true, Pkt.isQ, decide_eq_true_eq] at hQ
  obtain ⟨m1, m2, m3, m4, m5, m6, m7, m8, m9⟩ := marks_back (p := p) (by omega)
  have hb := bnd_of r
  have e1 : sz p c = 12 + p.client.size + (if p.hasWill then 4 + p.wT.size + p.wP.n else 0) + (if p.hasUser then 2 + p.user.size else 0) + (if p.hasPass then 2 + p.pass.n else 0) := by unfold sz; rw [if_pos hk]; rfl
  unfold fieldsL at hz
  rw [if_pos hk] at hz
  unfold connL at hz
  have em : (tx mq).length = 6 := by rw [tx_len]; rfl
  have l0 : (tx mq ++ [Value.int .u8 (p.level % 256), .int .u8 (marksV p)]).length = 8 := by rw [List.length_append, em]; rfl
  have l1 : (tx mq ++ [Value.int .u8 (p.level % 256), .int .u8 (marksV p)] ++ cellsOf (numZ p.keep) 2).length = 10 := by rw [List.length_append, l0, cellsOf_len]
  have l2 : (tx mq ++ [Value.int .u8 (p.level % 256), .int .u8 (marksV p)] ++ cellsOf (numZ p.keep) 2 ++ tx p.client).length = 12 + p.client.size := by rw [List.length_append, l1, tx_len]; omega
  have l3 : (tx mq ++ [Value.int .u8 (p.level % 256), .int .u8 (marksV p)] ++ cellsOf (numZ p.keep) 2 ++ tx p.client ++ (if p.hasWill then tx p.wT ++ dt c.wz p.wP.n else [])).length = 12 + p.client.size + (if p.hasWill then 4 + p.wT.size + p.wP.n else 0) := by
    rw [List.length_append, l2]
    cases p.hasWill
    · rfl
    · simp only [if_true]; rw [List.length_append, tx_len, dt, List.length_append, cellsOf_len, cellsOf_len]; omega
  have l4 : (tx mq ++ [Value.int .u8 (p.level % 256), .int .u8 (marksV p)] ++ cellsOf (numZ p.keep) 2 ++ tx p.client ++ (if p.hasWill then tx p.wT ++ dt c.wz p.wP.n else []) ++ (if p.hasUser then tx p.user else [])).length = 12 + p.client.size + (if p.hasWill then 4 + p.wT.size + p.wP.n else 0) + (if p.hasUser then 2 + p.user.size else 0) := by
    rw [List.length_append, l3]
    cases p.hasUser
    · rfl
    · simp only [if_true]; rw [tx_len]
  have z6 := hz.right
  have z5 := hz.left.right
  have z4 := hz.left.left.right
  have z3 := hz.left.left.left.right
  have z2 := hz.left.left.left.left.right
  have z1 := hz.left.left.left.left.left.right
  have z0 := hz.left.left.left.left.left.left
  rw [l4] at z6
  rw [l3] at z5
  rw [l2] at z4
  rw [l1] at z3
  rw [l0] at z2
  rw [em] at z1
  have zl := z1.one.1
  have zm := z1.one.2.one.1
  rw [Int.emod_eq_of_lt hb.1 (by omega)] at zl
  clear l0 l1 l2 l3 l4 em hz z1
  obtain ⟨N, hN⟩ : ∃ N, N = h + sz p c := ⟨_, rfl⟩
  rw [← hN]
  rw [e1] at hN
  have t0 : rText z N ⟨h, 0, 0⟩ = (mq, ⟨h + 6, 0, 0⟩) := text_back (r := ⟨h, 0, 0⟩) z0 (by decide) mq_ok rfl (by show h + 6 ≤ N; omega)
  have t1 : rByte z N ⟨h + 6, 0, 0⟩ = (p.level, ⟨h + 7, 0, 0⟩) := byte_back (r := ⟨h + 6, 0, 0⟩) zl rfl (by show h + 6 + 1 ≤ N; omega)
  have t2 : rByte z N ⟨h + 7, 0, 0⟩ = (marksV p, ⟨h + 8, 0, 0⟩) := byte_back (r := ⟨h + 7, 0, 0⟩) zm rfl (by show h + 7 + 1 ≤ N; omega)
  have t3 : rNum z N ⟨h + 8, 0, 0⟩ = (p.keep, ⟨h + 10, 0, 0⟩) := num_back (r := ⟨h + 8, 0, 0⟩) z2 hb.2.2.2.2.1 hb.2.2.2.2.2 rfl (by show h + 8 + 2 ≤ N; omega)
  have t4 : rText z N ⟨h + 10, 0, 0⟩ = (p.client, ⟨h + (12 + p.client.size), 0, 0⟩) := by
    have := text_back (z := z) (n := N) (r := ⟨h + 10, 0, 0⟩) z3 (txt_ok r.t1).1 (txt_ok r.t1).2 rfl (by show h + 10 + (2 + p.client.size) ≤ N; omega)
    rw [this, Rs.on]; simp only [Prod.mk.injEq, Rs.mk.injEq, true_and, and_true]; omega
  obtain ⟨yw, t5, hyw⟩ := will_back (z := z) (n := N) (a := h + (12 + p.client.size)) r hk z4 (by omega)
  rw [← Nat.add_assoc] at z5 z6
  have t6 := user_back (z := z) (n := N) (a := h + (12 + p.client.size) + (if p.hasWill then 4 + p.wT.size + p.wP.n else 0)) r hk (by rw [Nat.add_assoc]; rw [Nat.add_assoc] at z5; exact z5) (by omega)
  obtain ⟨yp, t7, hyp⟩ := pass_back (z := z) (n := N) (a := h + (12 + p.client.size) + (if p.hasWill then 4 + p.wT.size + p.wP.n else 0) + (if p.hasUser then 2 + p.user.size else 0)) r hk (by
    have e : h + (12 + p.client.size) + (if p.hasWill then 4 + p.wT.size + p.wP.n else 0) + (if p.hasUser then 2 + p.user.size else 0) = h + (12 + p.client.size + (if p.hasWill then 4 + p.wT.size + p.wP.n else 0)) + (if p.hasUser then 2 + p.user.size else 0) := by omega
    rw [e]; exact z6) (by omega)
  have hend : h + (12 + p.client.size) + (if p.hasWill then 4 + p.wT.size + p.wP.n else 0) + (if p.hasUser then 2 + p.user.size else 0) + (if p.hasPass then 2 + p.pass.n else 0) = N := by omega
  rw [hend] at t7
  refine ⟨⟨N, 0, 0⟩, { blank 1 with level := p.level, hasUser := p.hasUser, hasPass := p.hasPass, wR := p.wR, wQ := p.wQ, hasWill := p.hasWill, clean := p.clean, keep := p.keep, client := p.client, wT := p.wT, wP := ⟨none, p.wP.n, 0⟩, user := p.user, pass := ⟨none, p.pass.n, 0⟩ }, { noCn with wz := yw, pz := yp }, ?_, ?_⟩
  · unfold intoP
    rw [if_pos hk, hk]
    unfold connectP
    rw [t0]
    simp only
    rw [if_neg (by intro e; exact absurd e.2 (by unfold isM; rw [ByteArray.toList_eq]; decide)), t1]
    simp only
    rw [t2]
    simp only
    rw [m7]
    simp only [Bool.false_eq_true, if_false]
    unfold cMid
    rw [t3]
    simp only
    rw [t4]
    simp only
    rw [m5, m1, m2]
    have bw : (blank 1).wT = ⟨#[]⟩ := rfl
    have bp : ((blank 1).wP.n, noCn.wz) = (0, noCn.wz) := rfl
    have bu : (blank 1).user = ⟨#[]⟩ := rfl
    have bs : ((blank 1).pass.n, noCn.pz) = (0, noCn.pz) := rfl
    rw [bw, bp, bu, bs, t5]
    simp only
    rw [t6]
    simp only
    rw [t7]
    simp only
    rw [end_back (n := N) (r := ⟨N, 0, 0⟩) rfl]
    unfold cEnd
    rw [if_neg (by simp), m1, m2, m3, m4, m5, m6]
  · refine ⟨alike_mk hk.symm rfl rfl rfl rfl rfl rfl rfl rfl rfl rfl rfl (r.own.present (by omega)).symm (r.own.code (by omega)).symm nm.dup.symm nm.mT.symm nm.mQ.symm nm.mR.symm (r.own.id hid).symm rfl rfl nm.mP.symm a8.symm a9.symm a10.symm, hyw, hyp, ?_, ?_, ?_, ?_, ?_⟩
    case _ => intro i hi; have := nm.mP; omega
    case _ => intro i hi; omega
    case _ => intro i hi; omega
    case _ => intro i hi; omega
    case _ => intro i hi; omega
/-- Every right packet's fields are read as they were written. -/
theorem into_back {z : Nat → Int} {h : Nat} {p : Pk} {c : Cn} (r : Right TT p c) (hz : AtL z h (fieldsL p c)) : ∃ r' p' c', intoP z (h + sz p c) ⟨h, 0, 0⟩ p.kind noCn (fg p) = .ok (r', p', c') ∧ Back p c p' c' := by
  have k1 := r.k1
  have k2 := r.k2
  by_cases a : 12 ≤ p.kind
  · exact back_none r a _
  by_cases b : p.kind = 1
  · exact back_conn r b _ hz
  by_cases d : p.kind = 2
  · exact back_ack r d _ hz
  by_cases e : p.kind = 3
  · exact back_pub r e hz
  by_cases f : p.kind = 8 ∨ p.kind = 9 ∨ p.kind = 10
  · exact back_lists r f _ hz
  · exact back_id r (by omega) _ hz
end Go.Proofs.YtibihbclijpkjaaGreatDoor
namespace Go.Proofs.YtibihbclijpkjaaGreatDoor
open Go Go.RowKit
open Pkt (Pk Cn Sl In By Is Ss As pkCells Gd sumN Right TT sz fg hasID form mkI ck ck_right allN_iff sumN_congr)
set_option linter.unusedSimpArgs false
set_option linter.unusedVariables false

theorem allN_congr (n : Nat) (f g : Nat → Bool) (h : ∀ i, i < n → f i = g i) : Pkt.allN n f = Pkt.allN n g := by
  rw [Bool.eq_iff_iff, allN_iff, allN_iff]
  exact ⟨fun a i hi => h i hi ▸ a i hi, fun a i hi => (h i hi).symm ▸ a i hi⟩
theorem back_sz {p p' : Pk} {c c' : Cn} (b : Back p c p' c') : sz p' c' = sz p c := by
  obtain ⟨⟨s1, s2, s3, s4, s5, s6, rfl, n1, n2, n3, n4, n5, n6⟩, wz, pz, mz, af, aq, cs, fs⟩ := b
  unfold sz Pkt.nid hasID Pkt.szc
  simp only [n1, n2, n3, n4, n5, n6]
  rw [sumN_congr (fun i => 3 + (c'.af i).size) (fun i => 3 + (c.af i).size) p.asks.n (fun i hi => by rw [af i hi]), sumN_congr (fun i => 2 + (c'.fs i).size) (fun i => 2 + (c.fs i).size) p.filters.n (fun i hi => by rw [fs i hi])]
theorem back_right {p p' : Pk} {c c' : Cn} (r : Right TT p c) (b : Back p c p' c') : Right TT p' c' := by
  have hs := back_sz b
  obtain ⟨⟨s1, s2, s3, s4, s5, s6, rfl, n1, n2, n3, n4, n5, n6⟩, wz, pz, mz, af, aq, cs, fs⟩ := b
  obtain ⟨k1, k2, own, bd, t1, t2, tp, ft, ql, id, a1, a2, a3, ne, m1, m2, m3⟩ := r
  refine ⟨k1, k2, ?_, bd, t1, t2, tp, ?_, ?_, id, by simp only [n1]; exact a1, by simp only [n2]; exact a2, by rw [hs]; exact a3, by simp only [n4, n5, n6]; exact ne, m1, m2, m3⟩
  · obtain ⟨o1, o2, o3, o4, o5, o6, o7, o8, o9, o10, o11, o12, o13, o14, o15, o16, o17, o18⟩ := own
    exact ⟨o1, o2, o3, o4, o5, fun h => by simp only [n1]; exact o6 h, o7, o8, o9, fun h => by simp only [n2]; exact o10 h, o11, o12, o13, fun h => by simp only [n3]; exact o14 h, o15, fun h => by simp only [n4]; exact o16 h, fun h => by simp only [n5]; exact o17 h, fun h => by simp only [n6]; exact o18 h⟩
  · unfold Pkt.flts at ft ⊢
    simp only [n4, n6]
    rw [allN_congr p.asks.n (fun i => TT.flt (c'.af i)) (fun i => TT.flt (c.af i)) (fun i hi => by rw [af i hi]), allN_congr p.filters.n (fun i => TT.flt (c'.fs i)) (fun i => TT.flt (c.fs i)) (fun i hi => by rw [fs i hi])]
    exact ft
  · unfold Pkt.qls at ql ⊢
    simp only [n4, n5]
    rw [allN_congr p.asks.n (fun i => Pkt.isQ (c'.aq i)) (fun i => Pkt.isQ (c.aq i)) (fun i hi => by rw [aq i hi]), allN_congr p.codes.n (fun i => Pkt.isC (c'.cs i)) (fun i => Pkt.isC (c.cs i)) (fun i hi => by rw [cs i hi])]
    exact ql

theorem may_pub (d m : Bool) (q : Fin 3) (h : d = true → q.val ≠ 0) : mayP 3 (bits .or .i64 (bits .or .i64 (bits .or .i64 0 (mkI d 8)) (2 * (q.val : Int))) (mkI m 1)) = true := by
  revert q; cases d <;> cases m <;> decide +kernel
theorem may_back {p : Pk} {c : Cn} (r : Right TT p c) : mayP p.kind (fg p) = true := by
  have k1 := r.k1
  have k2 := r.k2
  by_cases hk : p.kind = 3
  · have q := r.q2
    have e : (form p.kind.toNat).2.1 = 0 := by rw [hk]; rfl
    have m2 := r.m2
    unfold fg
    rw [e, hk]
    rcases q with q | q | q
    · have := may_pub p.dup p.mR 0 (fun h => absurd q (m2 h)); rw [q]; exact this
    · have := may_pub p.dup p.mR 1 (fun h => by decide); rw [q]; exact this
    · have := may_pub p.dup p.mR 2 (fun h => by decide); rw [q]; exact this
  · have nm := no_msg r.own hk
    unfold mayP fg
    rw [if_neg hk, nm.dup, nm.mQ, nm.mR]
    have : p.kind = 1 ∨ p.kind = 2 ∨ p.kind = 4 ∨ p.kind = 5 ∨ p.kind = 6 ∨ p.kind = 7 ∨ p.kind = 8 ∨ p.kind = 9 ∨ p.kind = 10 ∨ p.kind = 11 ∨ p.kind = 12 ∨ p.kind = 13 ∨ p.kind = 14 := by omega
    generalize p.kind = k at this
    rcases this with rfl | rfl | rfl | rfl | rfl | rfl | rfl | rfl | rfl | rfl | rfl | rfl | rfl <;> decide +kernel
theorem first_back {p : Pk} {c : Cn} (r : Right TT p c) : firstP (16 * p.kind + fg p) = 0 ∧ (16 * p.kind + fg p) / 16 = p.kind ∧ (16 * p.kind + fg p) % 16 = fg p := by
  have hb := fg_bd r
  have k1 := r.k1
  have k2 := r.k2
  have e1 : (16 * p.kind + fg p) / 16 = p.kind := by omega
  have e2 : (16 * p.kind + fg p) % 16 = fg p := by omega
  refine ⟨?_, e1, e2⟩
  unfold firstP
  rw [e1, e2, if_neg (by omega), may_back r]
  rfl
theorem len_back {z : Nat → Int} {n : Nat} {N : Nat} {most : Int} (hN : (N : Int) ≤ 268435455) (hz : AtL z 1 (cellsOf (glZ N) (kn N))) (hn : 1 + kn N ≤ n) :
    lenF z n most 4 1 0 = if most < N then (0, 0, some (1, 32)) else (((1 + kn N : Nat) : Int), (N : Int), none) := by
  have g : ∀ i, i < kn N → z (1 + i) = glZ N i := fun i hi => hz.cells hi
  by_cases h1 : (N : Int) < 128
  · have ek : kn N = 1 := by unfold kn; rw [if_pos h1]
    have z1 : z 1 = N := by have := g 0 (by omega); rw [this, glZ, ek]; simp [qn]
    rw [ek] at hn ⊢
    rw [lenF, if_neg (by omega), z1, if_pos h1]
    have e : (0 : Int) + (N : Int) % 128 * 128 ^ (1 - 1) = N := by simp; omega
    rw [e]
  by_cases h2 : (N : Int) < 16384
  · have ek : kn N = 2 := by unfold kn; rw [if_neg h1, if_pos h2]
    have z1 : z 1 = (N : Int) % 128 + 128 := by have := g 0 (by omega); rw [this, glZ, ek]; simp [qn]
    have z2 : z 2 = (N : Int) / 128 := by have := g 1 (by omega); rw [this, glZ, ek]; simp [qn]
    rw [ek] at hn ⊢
    rw [lenF, if_neg (by omega), z1, if_neg (by omega), lenF, if_neg (by omega), z2, if_pos (by omega)]
    have e : (0 : Int) + ((N : Int) % 128 + 128) % 128 * 128 ^ (1 - 1) + (N : Int) / 128 % 128 * 128 ^ (1 + 1 - 1) = N := by simp; omega
    rw [e]
  by_cases h3 : (N : Int) < 2097152
  · have ek : kn N = 3 := by unfold kn; rw [if_neg h1, if_neg h2, if_pos h3]
    have z1 : z 1 = (N : Int) % 128 + 128 := by have := g 0 (by omega); rw [this, glZ, ek]; simp [qn]
    have z2 : z 2 = (N : Int) / 128 % 128 + 128 := by have := g 1 (by omega); rw [this, glZ, ek]; simp [qn]
    have z3 : z 3 = (N : Int) / 128 / 128 := by have := g 2 (by omega); rw [this, glZ, ek]; simp [qn]
    rw [ek] at hn ⊢
    rw [lenF, if_neg (by omega), z1, if_neg (by omega), lenF, if_neg (by omega), z2, if_neg (by omega), lenF, if_neg (by omega), z3, if_pos (by omega)]
    have e : (0 : Int) + ((N : Int) % 128 + 128) % 128 * 128 ^ (1 - 1) + ((N : Int) / 128 % 128 + 128) % 128 * 128 ^ (1 + 1 - 1) + (N : Int) / 128 / 128 % 128 * 128 ^ (1 + 1 + 1 - 1) = N := by simp; omega
    rw [e]
  · have ek : kn N = 4 := by unfold kn; rw [if_neg h1, if_neg h2, if_neg h3]
    have z1 : z 1 = (N : Int) % 128 + 128 := by have := g 0 (by omega); rw [this, glZ, ek]; simp [qn]
    have z2 : z 2 = (N : Int) / 128 % 128 + 128 := by have := g 1 (by omega); rw [this, glZ, ek]; simp [qn]
    have z3 : z 3 = (N : Int) / 128 / 128 % 128 + 128 := by have := g 2 (by omega); rw [this, glZ, ek]; simp [qn]
    have z4 : z 4 = (N : Int) / 128 / 128 / 128 := by have := g 3 (by omega); rw [this, glZ, ek]; simp [qn]
    rw [ek] at hn ⊢
    rw [lenF, if_neg (by omega), z1, if_neg (by omega), lenF, if_neg (by omega), z2, if_neg (by omega), lenF, if_neg (by omega), z3, if_neg (by omega), lenF, if_neg (by omega), z4, if_pos (by omega)]
    have e : (0 : Int) + ((N : Int) % 128 + 128) % 128 * 128 ^ (1 - 1) + ((N : Int) / 128 % 128 + 128) % 128 * 128 ^ (1 + 1 - 1) + ((N : Int) / 128 / 128 % 128 + 128) % 128 * 128 ^ (1 + 1 + 1 - 1) + (N : Int) / 128 / 128 / 128 % 128 * 128 ^ (1 + 1 + 1 + 1 - 1) = N := by simp; omega
    rw [e]
/-- What a packet is written as. -/
def encL (p : Pk) (c : Cn) : List Value := cellsOf (oneZ (16 * p.kind + fg p)) 1 ++ cellsOf (glZ (sz p c)) (kn (sz p c)) ++ fieldsL p c
/-- A right packet that was written is read again, whatever is behind it. -/
theorem dec_back {z : Nat → Int} {n : Nat} {p : Pk} {c : Cn} (r : Right TT p c) (most : Int) (hz : AtL z 0 (encL p c)) (hn : 1 + kn (sz p c) + sz p c ≤ n) :
    (clampM most < sz p c → decP z n most = .fault (1, 32)) ∧ ((sz p c : Int) ≤ clampM most → ∃ p' c', decP z n most = .ok p' c' (1 + kn (sz p c) + sz p c) ∧ Back p c p' c') := by
  unfold encL at hz
  have z0 : z 0 = 16 * p.kind + fg p := by have := hz.left.left.cells (i := 0) (by decide); rw [Nat.zero_add] at this; rw [this]; rfl
  have hg := hz.left.right
  have hf := hz.right
  rw [cellsOf_len, Nat.zero_add] at hg
  rw [List.length_append, cellsOf_len, cellsOf_len, Nat.zero_add] at hf
  obtain ⟨f1, f2, f3⟩ := first_back r
  have hh : headP z n (clampM most) = lenF z n (clampM most) 4 1 0 := by
    unfold headP
    rw [if_neg (by omega), z0, f1]
    simp
  rw [len_back (by have := r.s3; omega) hg (by omega)] at hh
  refine ⟨fun h => ?_, fun h => ?_⟩
  · rw [if_pos h] at hh
    unfold decP
    rw [hh]; rfl
  · rw [if_neg (by omega)] at hh
    obtain ⟨r', p', c', hi, hb⟩ := into_back r hf
    refine ⟨p', c', ?_, hb⟩
    have hp : packP z (1 + kn (sz p c) + sz p c) (1 + kn (sz p c)) = .ok (p', c') := by
      unfold packP
      rw [z0, f2, f3, hi]
      simp only
      rw [if_pos ((ck_right TT p' c').2 (back_right r hb))]
    unfold decP
    rw [hh]
    unfold decH
    simp only
    rw [if_neg (by omega)]
    have e1 : (((1 + kn (sz p c) : Nat) : Int) + (sz p c : Int)).toNat = 1 + kn (sz p c) + sz p c := by omega
    have e2 : (((1 + kn (sz p c) : Nat) : Int)).toNat = 1 + kn (sz p c) := by omega
    rw [e1, e2, hp]
end Go.Proofs.YtibihbclijpkjaaGreatDoor
namespace Go.Proofs.YtibihbclijpkjaaGreatDoor
open Go Go.RowKit
open Pkt (Pk Cn Sl In By Is Ss As pkCells Gd sumN Right TT sz fg hasID form mkI ck ck_right allN_iff sumN_congr)
set_option linter.unusedSimpArgs false
set_option linter.unusedVariables false

section
variable {z : Nat → Int} {n : Nat}
end
end Go.Proofs.YtibihbclijpkjaaGreatDoor
namespace Go.Proofs.YtibihbclijpkjaaGreatDoor
open Go Go.RowKit
open Pkt (Pk Cn Sl In By Is Ss As pkCells Gd sumN Right TT sz fg hasID form mkI ck ck_right allN_iff sumN_congr Small)
set_option linter.unusedSimpArgs false
set_option linter.unusedVariables false

/-! Lists of bytes -/
def Byts (L : List Value) : Prop := ∀ v ∈ L, ∃ x : Int, v = .int .u8 x ∧ 0 ≤ x ∧ x ≤ 255
def byteAt (L : List Value) (i : Nat) : Int := match L[i]? with | some (.int _ x) => x | _ => 0
theorem Byts.app {A B : List Value} (a : Byts A) (b : Byts B) : Byts (A ++ B) := fun v h => (List.mem_append.1 h).elim (a v) (b v)
theorem byts_cells {z : Nat → Int} {n : Nat} (h : ∀ i, 0 ≤ z i ∧ z i ≤ 255) : Byts (cellsOf z n) := fun v hv => by
  simp only [cellsOf, List.mem_map, List.mem_range] at hv
  obtain ⟨i, _, rfl⟩ := hv
  exact ⟨_, rfl, h i⟩
theorem byts_str (s : ByteArray) : Byts (Lib.strCells s) := fun v hv => by
  simp only [Lib.strCells, List.mem_map] at hv
  obtain ⟨b, _, rfl⟩ := hv
  refine ⟨_, rfl, by omega, ?_⟩
  have := b.toNat_lt; omega
theorem byts_nil : Byts [] := fun v h => by cases h
theorem byts_one {x : Int} (h : 0 ≤ x ∧ x ≤ 255) : Byts [.int .u8 x] := fun v hv => by
  simp at hv; exact ⟨x, hv, h⟩
theorem byts_tx (s : ByteArray) : Byts (tx s) := (byts_cells (numZ_bd _)).app (byts_str s)
theorem byts_dt {z : Nat → Int} {n : Nat} (h : ∀ i, 0 ≤ z i ∧ z i ≤ 255) : Byts (dt z n) := (byts_cells (numZ_bd _)).app (byts_cells h)
theorem byteAt_bd {L : List Value} (h : Byts L) (i : Nat) : 0 ≤ byteAt L i ∧ byteAt L i ≤ 255 := by
  unfold byteAt
  cases e : L[i]? with
  | none => simp
  | some v =>
    obtain ⟨x, rfl, hx⟩ := h v (List.mem_of_getElem? e)
    exact hx
theorem byteAt_cells {L : List Value} (h : Byts L) : L = cellsOf (byteAt L) L.length := by
  apply List.ext_getElem?
  intro i
  by_cases hi : i < L.length
  · have e : L[i]? = some L[i] := List.getElem?_eq_getElem hi
    obtain ⟨x, hx, _⟩ := h L[i] (List.getElem_mem hi)
    rw [show (cellsOf (byteAt L) L.length)[i]? = some (.int .u8 (byteAt L i)) by simp [cellsOf, hi], e, hx]
    congr 2
    unfold byteAt
    rw [e, hx]
  · rw [List.getElem?_eq_none (by omega), List.getElem?_eq_none (by simp [cellsOf]; omega)]
theorem byteAt_at {L : List Value} (h : Byts L) : AtL (byteAt L) 0 L := fun i v e => by
  obtain ⟨x, rfl, _⟩ := h v (List.mem_of_getElem? e)
  unfold byteAt
  rw [Nat.zero_add, e]
theorem byts_asks (f : Nat → ByteArray) (q : Nat → Int) (m : Nat) : Byts (asksL f q m) := by
  induction m with
  | zero => exact byts_nil
  | succ m ih => exact ih.app ((byts_tx _).app (byts_one (by omega)))
theorem byts_codes (q : Nat → Int) (m : Nat) : Byts (codesL q m) := by
  induction m with
  | zero => exact byts_nil
  | succ m ih => exact ih.app (byts_one (by omega))
theorem byts_filt (f : Nat → ByteArray) (m : Nat) : Byts (filtL f m) := by
  induction m with
  | zero => exact byts_nil
  | succ m ih => exact ih.app (byts_tx _)
theorem byts_fields {p : Pk} {c : Cn} (r : Right TT p c) (hw : ∀ i, 0 ≤ c.wz i ∧ c.wz i ≤ 255) (hp : ∀ i, 0 ≤ c.pz i ∧ c.pz i ≤ 255) (hm : ∀ i, 0 ≤ c.mz i ∧ c.mz i ≤ 255) : Byts (fieldsL p c) := by
  have hQ := r.ql
  simp only [Pkt.qls, Bool.and_eq_true, Pkt.isQ, decide_eq_true_eq] at hQ
  have mb := (marks_back (p := p) (by omega)).2.2.2.2.2.2.2
  unfold fieldsL
  split
  · unfold connL
    refine ((((((byts_tx _).app ?_).app (byts_cells (numZ_bd _))).app (byts_tx _)).app ?_).app ?_).app ?_
    · exact Byts.app (A := [_]) (byts_one (by omega)) (byts_one mb)
    · split
      · exact (byts_tx _).app (byts_dt hw)
      · exact byts_nil
    · split
      · exact byts_tx _
      · exact byts_nil
    · split
      · exact byts_dt hp
      · exact byts_nil
  split
  · exact Byts.app (A := [_]) (byts_one (by cases p.present <;> simp [mkU])) (byts_one (by omega))
  split
  · unfold pubL
    refine ((byts_tx _).app ?_).app (byts_cells hm)
    split
    · exact byts_cells (numZ_bd _)
    · exact byts_nil
  split
  · exact byts_nil
  · exact (byts_cells (numZ_bd _)).app (((byts_asks _ _ _).app (byts_codes _ _)).app (byts_filt _ _))
theorem fields_len {p : Pk} {c : Cn} (r : Right TT p c) : (fieldsL p c).length = sz p c := by
  have k1 := r.k1
  have k2 := r.k2
  unfold fieldsL
  split
  · rename_i h1
    unfold connL sz
    rw [if_pos h1]
    unfold Pkt.szc
    have e : mq.size = 4 := rfl
    simp only [List.length_append, tx_len, cellsOf_len, List.length_cons, List.length_nil]
    cases p.hasWill <;> cases p.hasUser <;> cases p.hasPass <;> simp [tx_len, dt, cellsOf_len, List.length_append] <;> omega
  rename_i h1
  split
  · rename_i h2
    unfold sz; rw [if_neg h1, if_pos h2]; rfl
  rename_i h2
  split
  · rename_i h3
    unfold pubL sz Pkt.nid hasID
    have q := r.q2
    rw [if_neg h1, if_neg h2, if_pos h3]
    simp only [List.length_append, tx_len, cellsOf_len]
    by_cases hq : p.mQ = 0
    · simp [h3, hq]
    · have : 0 < p.mQ := by omega
      simp [h3, hq, this, cellsOf_len]; omega
  rename_i h3
  split
  · rename_i h12
    have a8 := r.own.asks (by omega)
    have a9 := r.own.codes (by omega)
    have a10 := r.own.filters (by omega)
    unfold sz Pkt.nid hasID
    rw [if_neg h1, if_neg h2, if_neg h3, a8, a9, a10]
    have : ¬ p.kind ≤ 11 := by omega
    simp [h3, this, sumN]
  · rename_i h12
    unfold sz Pkt.nid hasID
    rw [if_neg h1, if_neg h2, if_neg h3]
    have a : p.kind ≤ 11 := by omega
    have b : 4 ≤ p.kind := by omega
    simp only [List.length_append, cellsOf_len, asksL_len, codesL_len, filtL_len]
    simp [h3, a, b]; omega
theorem enc_len {p : Pk} {c : Cn} (r : Right TT p c) : (encL p c).length = 1 + kn (sz p c) + sz p c := by
  unfold encL
  rw [List.length_append, List.length_append, cellsOf_len, cellsOf_len, fields_len r]
theorem byts_enc {p : Pk} {c : Cn} (r : Right TT p c) (hw : ∀ i, 0 ≤ c.wz i ∧ c.wz i ≤ 255) (hp : ∀ i, 0 ≤ c.pz i ∧ c.pz i ≤ 255) (hm : ∀ i, 0 ≤ c.mz i ∧ c.mz i ≤ 255) : Byts (encL p c) := by
  have hb := fg_bd r
  have k1 := r.k1
  have k2 := r.k2
  have s3 := r.s3
  refine ((byts_cells fun i => ?_).app (byts_cells fun i => ?_)).app (byts_fields r hw hp hm)
  · unfold oneZ; split <;> omega
  · exact glZ_bd _ (by omega) (by omega) i

/-! What is taken -/
theorem Alike.trans {p q r : Pk} (h : Alike p q) (h' : Alike q r) : Alike p r := by
  obtain ⟨s1, s2, s3, s4, s5, s6, rfl, a1, a2, a3, a4, a5, a6⟩ := h
  obtain ⟨t1, t2, t3, t4, t5, t6, rfl, b1, b2, b3, b4, b5, b6⟩ := h'
  exact ⟨s1, s2, s3, s4, s5, s6, rfl, a1.trans b1, a2.trans b2, a3.trans b3, a4.trans b4, a5.trans b5, a6.trans b6⟩
/-- A packet read again stands in memory as the one that was written. -/
theorem back_in {w w0 : World} {p p' q : Pk} {c c' : Cn} (b : Back p c p' c') (ha : Alike q p') (hi : In w q c') (h0 : In w0 p c) : In w q c := by
  obtain ⟨al, wz, pz, mz, af, aq, cs, fs⟩ := b
  obtain ⟨s1, s2, s3, s4, s5, s6, rfl, a1, a2, a3, a4, a5, a6⟩ := ha.trans al
  obtain ⟨i1, i2, i3, i4, i5, i6⟩ := hi
  have byb : ∀ {s : Sl} {z z' : Nat → Int}, By w s z' → (∀ i, 0 ≤ z i ∧ z i ≤ 255) → (∀ i, i < s.n → z' i = z i) → By w s z := fun {s z z'} h hb he => by
    refine ⟨h.1, hb, ?_⟩
    rcases h.2.2 with e | ⟨b, off, e, hc⟩
    · exact .inl e
    · exact .inr ⟨b, off, e, fun i hi => by rw [← he i hi]; exact hc i hi⟩
  refine ⟨byb i1 h0.wP.2.1 (fun i hi => wz i (by simp only at hi; omega)), byb i2 h0.pass.2.1 (fun i hi => pz i (by simp only at hi; omega)), byb i3 h0.mP.2.1 (fun i hi => mz i (by simp only at hi; omega)), ?_, ?_, ?_⟩
  · refine ⟨i4.1, ?_⟩
    rcases i4.2 with e | ⟨b, off, e, hc⟩
    · exact .inl e
    · exact .inr ⟨b, off, e, fun i hi => by rw [← af i (by simp only at hi; omega), ← aq i (by simp only at hi; omega)]; exact hc i hi⟩
  · refine ⟨i5.1, ?_⟩
    rcases i5.2 with e | ⟨b, off, e, hc⟩
    · exact .inl e
    · exact .inr ⟨b, off, e, fun i hi => by rw [← cs i (by simp only at hi; omega)]; exact hc i hi⟩
  · refine ⟨i6.1, ?_⟩
    rcases i6.2 with e | ⟨b, off, e, hc⟩
    · exact .inl e
    · exact .inr ⟨b, off, e, fun i hi => by rw [← fs i (by simp only at hi; omega)]; exact hc i hi⟩
end Go.Proofs.YtibihbclijpkjaaGreatDoor
namespace Go.Proofs.YtibihbclijpkjaaGreatDoor
open Go Go.RowKit
open Pkt (Pk Cn Sl In By Is Ss As pkCells Gd sumN Right TT sz fg ck ck_right Small wpList_load_wanted check_any length_any box_below Fit Off parts Cg St Cb cpacket_any many_any ok_any)
set_option linter.unusedSimpArgs false
set_option linter.unusedVariables false

end Go.Proofs.YtibihbclijpkjaaGreatDoor
namespace Go.Proofs.YtibihbclijpkjaaGreatDoor
open Go Go.RowKit
open Pkt (Pk Cn Sl In By Is Ss As pkCells Gd sumN Right TT sz fg ck ck_right Small wpList_load_wanted check_any)
set_option linter.unusedSimpArgs false
set_option linter.unusedVariables false

end Go.Proofs.YtibihbclijpkjaaGreatDoor
namespace Go.Proofs.YtibihbclijpkjaaGreatDoor
open Go Go.RowKit
open Pkt (Pk Cn Sl In By Is Ss As pkCells Gd sumN Right TT sz fg ck ck_right Small wpList_load_wanted check_any length_any box_below Fit Off parts small_of sumN_scale allN_iff)
set_option linter.unusedSimpArgs false
set_option linter.unusedVariables false

theorem flt_pos {s : ByteArray} (h : Pkt.flt s = true) : 1 ≤ s.size := by
  simp only [Pkt.flt, Pkt.fcode, Pkt.rfc, beq_iff_eq] at h
  have hc : Pkt.ct s = 0 := by split at h <;> assumption
  unfold Pkt.ct at hc
  split at hc
  · cases hc
  · omega
end Go.Proofs.YtibihbclijpkjaaGreatDoor
