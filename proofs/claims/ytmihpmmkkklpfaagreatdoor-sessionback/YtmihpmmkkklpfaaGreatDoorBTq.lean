import Derived.Test.YtmihpmmkkklpfaaGreatDoorBTl
import Derived.Test.YtmihpmmkkklpfaaGreatDoorBKc
namespace Go.Proofs.YtmihpmmkkklpfaaGreatDoor
open Go Go.RowKit Go.Shelf Go.Maps Go.Sort
open Tq (cmpB cmpB_flip cmpB_zero cmpB_trans cmpB_self)
set_option linter.unusedSimpArgs false
set_option linter.unusedVariables false
/-! ### One list for one map -/
theorem uniqL {α : Type} (lt : α → α → Prop) (irr : ∀ a, ¬ lt a a) (tr : ∀ a b c, lt a b → lt b c → lt a c) : ∀ L M : List α, L.Pairwise lt → M.Pairwise lt → (∀ x, x ∈ L ↔ x ∈ M) → L = M
  | [], [], _, _, _ => rfl
  | [], b :: M, _, _, h => by have := (h b).2 List.mem_cons_self; cases this
  | a :: L, [], _, _, h => by have := (h a).1 List.mem_cons_self; cases this
  | a :: L, b :: M, hL, hM, h => by
    have h1 := List.pairwise_cons.1 hL
    have h2 := List.pairwise_cons.1 hM
    have hab : a = b := by
      rcases List.mem_cons.1 ((h a).1 List.mem_cons_self) with e | e
      · exact e
      · rcases List.mem_cons.1 ((h b).2 List.mem_cons_self) with e' | e'
        · exact e'.symm
        · exact absurd (tr _ _ _ (h2.1 a e) (h1.1 b e')) (irr b)
    subst hab
    rw [uniqL lt irr tr L M h1.2 h2.2 (fun x => ⟨fun hx => ?_, fun hx => ?_⟩)]
    · rcases List.mem_cons.1 ((h x).1 (List.mem_cons_of_mem _ hx)) with e | e
      · subst e; exact absurd (h1.1 x hx) (irr x)
      · exact e
    · rcases List.mem_cons.1 ((h x).2 (List.mem_cons_of_mem _ hx)) with e | e
      · subst e; exact absurd (h2.1 x hx) (irr x)
      · exact e
theorem SubsOf.mem {f : ByteArray → Option Int} {n : Nat} {L : List Sb} (h : SubsOf f n L) (x : Sb) : x ∈ L ↔ (okT x.1 ∧ f x.1 = some x.2) := by
  refine ⟨h.val x, fun ⟨h1, h2⟩ => ?_⟩
  obtain ⟨p, hp, he⟩ := List.mem_map.1 (h.all x.1 h1 (by rw [h2]; rfl))
  have := (h.val p hp).2
  rw [he, h2] at this
  have e2 : x.2 = p.2 := by simpa using this
  have : x = p := Prod.ext he.symm e2
  rw [this]
  exact hp
theorem SubsOf.uniq {f : ByteArray → Option Int} {n m : Nat} {L M : List Sb} (h : SubsOf f n L) (k : SubsOf f m M) : L = M := by
  refine uniqL (fun a b : Sb => cmpB a.1 b.1 < 0) (fun a q => by rw [cmpB_self] at q; omega) (fun a b c q r => ?_) L M h.ord k.ord (fun x => (h.mem x).trans (k.mem x).symm)
  have t := cmpB_trans (a := a.1) (b := b.1) (c := c.1) (by omega) (by omega)
  by_cases e : cmpB a.1 c.1 = 0
  · have e' := cmpB_zero e
    rw [e'] at q
    have := cmpB_flip c.1 b.1
    omega
  · omega
theorem InbOf.uniq {g : Int → Option Value} {n m : Nat} {L M : List Int} (h : InbOf g n L) (k : InbOf g m M) : L = M :=
  uniqL (fun a b : Int => a < b) (fun a q => by omega) (fun a b c q r => by omega) L M h.ord k.ord (fun x => ⟨fun hx => k.all x (h.val x hx).1 (h.val x hx).2, fun hx => h.all x (k.val x hx).1 (k.val x hx).2⟩)
section
variable {mo : Int} {N Q : Nat} {z : Pz} {c : Nat}
theorem Zok.good (h : Zok mo N Q z c) {n : Nat} {L : List Sb} (hS : SubsOf z.f n L) : GoodL L := ⟨hS.ord, fun x hx => h.fq x.1 x.2 (hS.val x hx).2⟩
theorem Zok.inb (h : Zok mo N Q z c) {m : Nat} {L : List Int} (hI : InbOf z.g m L) : ∀ x ∈ L, 1 ≤ x ∧ x ≤ 65535 := fun x hx => h.gr x (hI.val x hx).2
end
/-! ### A new session -/
theorem snew_sz {w : World} (g : Gd w) (k : ByteArray) (l0 : Bool) (c1 n q s c5 c6 c7 c8 : Int) (ua : Option Addr) (un uc : Nat) (hk : k.size ≤ 1000000) :
    Calls Tryz.prog 7 #[.string k, .bool true, .agg #[.bool l0, .int .i64 c1, .int .i64 n, .int .i64 q, .int .i64 s, .int .i64 c5, .int .i64 c6, .int .i64 c7, .int .i64 c8, .slice ua un uc]] w fun e w' => ∃ sb wb, e = .returned (.pointer (some ⟨sb, 0, none⟩)) ∧ SZ (fun j => j < w.heap.size) w' sb wb k true (min (max s 0) 65536) ⟨⟨mostOf n, queueOf q, false, 0, [], [], []⟩, 0, fun _ => none, 0, fun _ => none⟩ 0 (.map none) (.map none) ∧ Below w.heap.size w w' := by
  have hp : 0 < w.heap.size := by
    obtain ⟨o, ho, _⟩ := g.oth
    exact (Array.getElem?_eq_some_iff.1 ho).1
  refine (snew_any g k true l0 c1 n q s c5 c6 c7 c8 ua un uc hk).mono ?_
  rintro e w' ⟨sb, wb, rfl, ss, ks, hb, hs⟩
  refine ⟨sb, wb, rfl, ⟨?_, ss, MG.nil _, .inl ⟨rfl, rfl, fun _ _ => rfl⟩, fun j z => (by cases z), fun j hj => ?_, fun x v z => (by cases z), by omega⟩, hb⟩
  · refine (ks.addO (b := sb) ss ⟨_, 56, _, rfl, by decide, by decide, by decide⟩).less (fun j hj => ?_)
    rcases hj with z | z | z | z
    · exact .inl z
    · exact .inr z
    · cases z
    · cases z
  · rcases hj with z | z | z
    · omega
    · cases z
    · cases z
end Go.Proofs.YtmihpmmkkklpfaaGreatDoor
namespace Go.Proofs.YtmihpmmkkklpfaaGreatDoor
open Go Go.RowKit Go.Shelf Go.Maps Go.Sort
set_option linter.unusedSimpArgs false
set_option linter.unusedVariables false
/-! ### SessionBack: the first script -/
theorem built_key (k : ByteArray) : Tryz.prog.built 34 [(0, .string k)] = some (imK k) := by kernel_rfl
theorem built_none : Tryz.prog.built 34 [] = some (imK ⟨#[]⟩) := by kernel_rfl
/-- One session, j calls made. -/
structure L1z (w wx : World) (sb wb : Nat) (k : ByteArray) (mo : Int) (N Q : Nat) (z : Pz) (sv nv : Value) (j : Nat) : Prop where
  sz : SZ (fun i => i < w.heap.size) wx sb wb k true mo z j sv nv
  ok : Zok mo N Q z j
  bel : Below w.heap.size w wx
theorem Left.l1 {w wx wy : World} {sb wb : Nat} {k : ByteArray} {mo : Int} {N Q : Nat} {z y : Pz} {sv nv : Value} {j d : Nat} (h : L1z w wx sb wb k mo N Q z sv nv j) (hl : Left (fun i => i < w.heap.size) wx wy sb wb k true mo y d) (hy : Zok mo N Q y d) : ∃ sv2 nv2, L1z w wy sb wb k mo N Q y sv2 nv2 d := by
  obtain ⟨sv2, nv2, s, r, _⟩ := hl
  exact ⟨sv2, nv2, s, hy, ⟨r.os.trans h.bel.os, r.tape.trans h.bel.tape, r.output.trans h.bel.output, Nat.le_trans h.bel.size r.size, fun i hi => (r.at hi (Nat.lt_of_lt_of_le hi h.bel.size)).trans (h.bel.block i hi)⟩⟩
theorem L1z.below {w wx wy : World} {sb wb : Nat} {k : ByteArray} {mo : Int} {N Q : Nat} {z : Pz} {sv nv : Value} {j : Nat} (h : L1z w wx sb wb k mo N Q z sv nv j) (hb : Below wx.heap.size wx wy) : L1z w wy sb wb k mo N Q z sv nv j := ⟨S1.below h.sz hb, h.ok, h.bel.trans (hb.mono h.bel.size)⟩
/-- Its image, with the law's bounds. -/
theorem l1_image {w wx : World} {sb wb : Nat} {k : ByteArray} {mo : Int} {N Q : Nat} {z : Pz} {sv nv : Value} {j : Nat} (h : L1z w wx sb wb k mo N Q z sv nv j) (hmo : mo ≤ 65536) (hj : j ≤ 10000) :
    Calls Tryz.prog 9 #[.pointer (some ⟨sb, 0, none⟩)] wx fun e w' => ∃ v1 vf vq vi LS LI Lf Lm, e = .returned (.agg #[.string k, v1, .int .i64 (z.p.last : Int), vf, vq, vi]) ∧ w'.ownsRow wx.heap.size 42 2 v1 LS.length (arow LS) ∧ SubsOf z.f z.n LS ∧ Imo w' z.p Lf Lm vf vq ∧ w'.ownsRow wx.heap.size 3 1 vi LI.length (LI.map (Value.int .i64)) ∧ InbOf z.g z.m LI ∧ Below wx.heap.size wx w' ∧ ((LS.length : Int) ≤ mo ∧ Lf.length ≤ N ∧ Lm.length ≤ Q ∧ LI.length ≤ 10000) ∧ ImOk z.p := by
  have hok := h.sz.ks.imok h.ok.fi hj
  refine (simage_any h.sz.ks h.sz.ss h.sz.mg (by have := h.ok.n0; omega) (fun x hx hs => by obtain ⟨q, hq⟩ := Option.isSome_iff_exists.1 hs; exact (h.ok.fq x q hq).2.1) h.sz.mi (by have := h.ok.m0; omega) (by omega)).mono ?_
  rintro e w' ⟨v1, vf, vq, vi, LS, LI, Lf, Lm, rfl, h1, h2, h3, h4, h5, h6⟩
  refine ⟨v1, vf, vq, vi, LS, LI, Lf, Lm, rfl, h1, h2, h3, h4, h5, h6, ⟨by rw [h2.len]; exact h.ok.n0, ?_, ?_, by rw [h5.len]; have := h.ok.m0; omega⟩, hok⟩
  · have e1 : Lf.length = z.p.fl.length := by rw [← h3.ef, List.length_map]
    have := hok.lf
    rw [h.ok.mt] at this
    omega
  · have e1 : Lm.length = z.p.wt.length := by rw [← h3.eq, List.length_map]
    have := hok.lw
    rw [h.ok.qu] at this
    omega
/-- One call of the script. -/
theorem l1_does {w wx : World} {sb wb : Nat} {k : ByteArray} {mo : Int} {N Q : Nat} {z : Pz} {sv nv : Value} {j : Nat} (h : L1z w wx sb wb k mo N Q z sv nv j) (hmo : mo ≤ 65536) (hj : j ≤ 10000) (o : Ow) (hp : PBi wx o.m.v o.m.xs) (hf : o.fl.size ≤ 1000000) (ht : o.m.t.size ≤ 1000000) (hid : okI o.id) :
    Calls Tryz.prog 8 #[.pointer (some ⟨sb, 0, none⟩), .agg o.cs] wx fun e w' => ∃ v, e = .returned (.tuple #[v, .bool (pDo mo z o.c).ok, .int .i64 (pDo mo z o.c).n]) ∧ (∃ sv2 nv2, L1z w w' sb wb k mo N Q (pDo mo z o.c).z sv2 nv2 (j + 1)) ∧ Lst w' v (pDo mo z o.c).X := by
  obtain ⟨pa, pn, pc, hv⟩ := hp.sl
  have hz := h.ok.do o.c hf ht
  have D := does_any h.sz o.c o.wh pa pn pc (by rw [← hv]; exact hp) hmo (by have := h.ok.n0; omega) (by have := h.ok.m0; omega) (by omega) hf ht hid
  have e : o.cs = #[.int .i64 o.c.kd, .int .i64 o.wh, .int .i64 o.c.nn, .int .i64 o.c.id, .string o.c.fl, .int .i64 o.c.q, .string o.c.m.t, .slice pa pn pc, .int .i64 o.c.m.q, .bool o.c.m.r] := by
    unfold Ow.cs
    rw [hv]
    rfl
  rw [e]
  refine D.mono ?_
  rintro e w' ⟨v, rfl, hl, l⟩
  exact ⟨v, rfl, hl.l1 h hz, l⟩
end Go.Proofs.YtmihpmmkkklpfaaGreatDoor
namespace Go.Proofs.YtmihpmmkkklpfaaGreatDoor
open Go Go.RowKit Go.Shelf Go.Maps Go.Sort
set_option linter.unusedSimpArgs false
set_option linter.unusedVariables false
/-! ### SessionBack: the second session, and the second script -/
section
variable {w wx : World} {sb wb tb xb : Nat} {k : ByteArray} {mo : Int} {N Q : Nat} {z : Pz} {sv nv : Value} {j : Nat}
/-- From, of an image that was told just now. -/
theorem l1_from {W : World} (h : L1z w W sb wb k mo N Q z sv nv j) (hw : 0 < w.heap.size) (hk : k.size ≤ 1000000) {v1 vf vq vi : Value} {LS : List Sb} {LI : List Int} {Lf : List Fo} {Lm : List Ms} {B B' : Nat}
    (h1 : W.ownsRow B 42 2 v1 LS.length (arow LS)) (hS : SubsOf z.f z.n LS) (h2 : Imo W z.p Lf Lm vf vq) (hok : ImOk z.p) (h3 : W.ownsRow B' 3 1 vi LI.length (LI.map (Value.int .i64))) (hI : InbOf z.g z.m LI)
    (l0 : Bool) (c1 nn qq s c5 c6 c7 c8 : Int) (ua : Option Addr) (un uc : Nat) (hN : N = mostOf nn) (hQ : Q = queueOf qq) (hmo : mo = min (max s 0) 65536) (hj : j ≤ 10000) :
    Calls Tryz.prog 10 #[.agg #[.string k, v1, .int .i64 (z.p.last : Int), vf, vq, vi], .agg #[.bool l0, .int .i64 c1, .int .i64 nn, .int .i64 qq, .int .i64 s, .int .i64 c5, .int .i64 c6, .int .i64 c7, .int .i64 c8, .slice ua un uc]] W fun e w' => ∃ tb xb sv' nv', e = .returned (.tuple #[.pointer (some ⟨tb, 0, none⟩), .int .i64 0]) ∧ Z2 w w' sb wb tb xb k true mo z { z with p := ⟨z.p.most, z.p.queue, false, z.p.last, z.p.fl, z.p.wt, []⟩ } j 100000 sv nv sv' nv' ∧ Below W.heap.size W w' := by
  have F := from_any h.sz.ks.gd hk (own0 h1) hS (h.ok.good hS) h2 hok (own0 h3) hI h.sz.gq (h.ok.inb hI) l0 c1 nn qq s c5 c6 c7 c8 ua un uc (by rw [h.ok.mt, hN]) (by rw [h.ok.qu, hQ]) (by rw [hS.len, ← hmo]; exact h.ok.n0) (by rw [hI.len]; have := h.ok.m0; omega)
  rw [← hmo] at F
  refine F.mono ?_
  rintro e w' ⟨tb, xb, sv', nv', rfl, hs, hb⟩
  exact ⟨tb, xb, sv', nv', rfl, SZ.two h.sz h.bel hw hb hs, hb⟩
end
section
variable {w0 W : World} {sb wb tb xb : Nat} {k : ByteArray} {mo : Int} {N Q : Nat} {z z' : Pz} {c c' : Nat} {sv nv sv' nv' : Value}
theorem z2_down (h : Z2 w0 W sb wb tb xb k true mo z z' c c' sv nv sv' nv') : Calls Tryz.prog 11 #[.pointer (some ⟨wb, 0, none⟩)] W fun e w' => e = .returned (.tuple #[]) ∧ ∃ sv2 nv2, Z2 w0 w' sb wb tb xb k true mo { z with p := { z.p with on := false } } z' c c' sv2 nv2 sv' nv' := by
  obtain ⟨G, hz, hn⟩ := h.one
  refine (s1_down hz).mono ?_
  rintro e w' ⟨rfl, hl⟩
  obtain ⟨sv2, nv2, h2, _⟩ := hn hl
  exact ⟨rfl, sv2, nv2, h2⟩
theorem z2_does (h : Z2 w0 W sb wb tb xb k true mo z z' c c' sv nv sv' nv') {j : Nat} (hz : Zok mo N Q z j) (hmo : mo ≤ 65536) (hj : j ≤ 10000) (hc : c ≤ 150000) (o : Ow) (hp : PBi W o.m.v o.m.xs) (hf : o.fl.size ≤ 1000000) (ht : o.m.t.size ≤ 1000000) (hid : okI o.id) :
    Calls Tryz.prog 8 #[.pointer (some ⟨sb, 0, none⟩), .agg o.cs] W fun e w' => ∃ v, e = .returned (.tuple #[v, .bool (pDo mo z o.c).ok, .int .i64 (pDo mo z o.c).n]) ∧ (∃ sv2 nv2, Z2 w0 w' sb wb tb xb k true mo (pDo mo z o.c).z z' (c + 1) c' sv2 nv2 sv' nv') ∧ Lst w' v (pDo mo z o.c).X ∧ KQ W w' := by
  obtain ⟨G, hs, hn⟩ := h.one
  obtain ⟨pa, pn, pc, hv⟩ := hp.sl
  have D := does_any hs o.c o.wh pa pn pc (by rw [← hv]; exact hp) hmo (by have := hz.n0; omega) (by have := hz.m0; omega) (by omega) hf ht hid
  have e : o.cs = #[.int .i64 o.c.kd, .int .i64 o.wh, .int .i64 o.c.nn, .int .i64 o.c.id, .string o.c.fl, .int .i64 o.c.q, .string o.c.m.t, .slice pa pn pc, .int .i64 o.c.m.q, .bool o.c.m.r] := by
    unfold Ow.cs
    rw [hv]
    rfl
  rw [e]
  refine D.mono ?_
  rintro e w' ⟨v, rfl, hl, l⟩
  obtain ⟨sv2, nv2, h2, kq⟩ := hn hl
  exact ⟨v, rfl, ⟨sv2, nv2, h2⟩, l, kq⟩
theorem z2_online (h : Z2 w0 W sb wb tb xb k true mo z z' c c' sv nv sv' nv') : Calls Tryz.prog 14 #[.pointer (some ⟨wb, 0, none⟩)] W fun e w' => e = .returned (.bool z.p.on) ∧ w' = W := by
  obtain ⟨G, hs, hn⟩ := h.one
  exact ks_online hs.ks
theorem z2_image (h : Z2 w0 W sb wb tb xb k true mo z z' c c' sv nv sv' nv') {j : Nat} (hz : Zok mo N Q z j) (hmo : mo ≤ 65536) (hj : j ≤ 10000) (hc : c ≤ 200000) :
    Calls Tryz.prog 9 #[.pointer (some ⟨sb, 0, none⟩)] W fun e w' => ∃ v1 vf vq vi LS LI Lf Lm, e = .returned (.agg #[.string k, v1, .int .i64 (z.p.last : Int), vf, vq, vi]) ∧ w'.ownsRow W.heap.size 42 2 v1 LS.length (arow LS) ∧ SubsOf z.f z.n LS ∧ Imo w' z.p Lf Lm vf vq ∧ w'.ownsRow W.heap.size 3 1 vi LI.length (LI.map (Value.int .i64)) ∧ InbOf z.g z.m LI ∧ Below W.heap.size W w' := by
  obtain ⟨G, hs, hn⟩ := h.one
  exact simage_any hs.ks hs.ss hs.mg (by have := hz.n0; omega) (fun x hx hq => by obtain ⟨q, hq⟩ := Option.isSome_iff_exists.1 hq; exact (hz.fq x q hq).2.1) hs.mi (by have := hz.m0; omega) hc
end
end Go.Proofs.YtmihpmmkkklpfaaGreatDoor
namespace Go.Proofs.YtmihpmmkkklpfaaGreatDoor
open Go Go.RowKit Go.Shelf Go.Maps Go.Sort
set_option linter.unusedSimpArgs false
set_option linter.unusedVariables false
/-! ### How much is sent -/
theorem fillL_len : ∀ (wt : List Mp) (p : Pw), (pFillL wt p).2.length ≤ wt.length
  | [], p => by simp [pFillL]
  | m :: wt, p => by
    simp only [pFillL]
    split
    · have := fillL_len wt (pLaunch { p with wt := wt } m).1
      simp
      omega
    · simp
theorem fill_len (p : Pw) : (pFill p).2.length ≤ p.wt.length := fillL_len p.wt p
theorem ack_len (p : Pw) (k id : Int) : (pAck p k id).2.length ≤ p.fl.length + p.wt.length + 1 := by
  unfold pAck
  split
  · simp
  · rename_i f _
    unfold pAckF
    split
    · simp
    · split
      · simp
      · split
        · have := fill_len { p with fl := p.fl.filter (fun g => g.id != f.id) }
          simp only at this
          omega
        · simp
theorem up_len (p : Pw) : (pUp p).2.length ≤ p.fl.length + p.wt.length + 1 := by
  have := fill_len { p with on := true }
  unfold pUp
  simp only [List.length_append, List.length_map] at *
  omega
theorem send_len (p : Pw) (m : Mp) : (pSend p m).2.1.length ≤ p.fl.length + p.wt.length + 1 := by
  unfold pSend
  split
  · split
    · simp
    · split <;> simp
  · simp
theorem do_len (mo : Int) (z : Pz) (o : Oc) : (pDo mo z o).X.length ≤ z.p.fl.length + z.p.wt.length + 1 := by
  unfold pDo
  split
  · exact up_len z.p
  split
  · simp
  split
  · simp
  split
  · simp
  split
  · show (pDel z o.m).2.1.length ≤ _
    unfold pDel
    split
    · exact send_len z.p o.m
    · split <;> simp
  split
  · exact ack_len z.p o.nn o.id
  split
  · simp
  split
  · simp
  · simp
section
variable {mo : Int} {N Q : Nat} {z : Pz} {c : Nat}
theorem Zok.downZ (h : Zok mo N Q z c) : Zok mo N Q { z with p := ⟨z.p.most, z.p.queue, false, z.p.last, z.p.fl, z.p.wt, []⟩ } (c + 1) := by
  rw [← h.down]
  exact h.win 4 ⟨⟨#[]⟩, 0, false, []⟩ 0 0 (by decide) (by decide) (by simp [pPlay])
end
/-! ### Two sessions alike -/
section
variable {w0 W : World} {sb wb tb xb : Nat} {k : ByteArray} {mo : Int} {N Q : Nat} {y : Pz} {c i : Nat}
def T2 (w0 W : World) (sb wb tb xb : Nat) (k : ByteArray) (mo : Int) (N Q : Nat) (y : Pz) (c i : Nat) : Prop := ∃ sv nv sv' nv', Zok mo N Q y (c + 1 + i) ∧ Z2 w0 W sb wb tb xb k true mo y y (c + i) (100000 + i) sv nv sv' nv'
def T2h (w0 W : World) (sb wb tb xb : Nat) (k : ByteArray) (mo : Int) (N Q : Nat) (y : Pz) (o : Oc) (c i : Nat) (v : Value) : Prop := ∃ sv nv sv' nv', Zok mo N Q y (c + 1 + i) ∧ Z2 w0 W sb wb tb xb k true mo (pDo mo y o).z y (c + i + 1) (100000 + i) sv nv sv' nv' ∧ Lst W v (pDo mo y o).X
theorem T2.bel (h : T2 w0 W sb wb tb xb k mo N Q y c i) : Below w0.heap.size w0 W := by
  obtain ⟨_, _, _, _, _, hz⟩ := h
  exact hz.bel
theorem T2h.bel {o : Oc} {v : Value} (h : T2h w0 W sb wb tb xb k mo N Q y o c i v) : Below w0.heap.size w0 W := by
  obtain ⟨_, _, _, _, _, hz, _⟩ := h
  exact hz.bel
theorem T2.below {W' : World} (h : T2 w0 W sb wb tb xb k mo N Q y c i) (hb : Below W.heap.size W W') : T2 w0 W' sb wb tb xb k mo N Q y c i := by
  obtain ⟨sv, nv, sv', nv', ho, hz⟩ := h
  exact ⟨sv, nv, sv', nv', ho, hz.below hb⟩
theorem T2.c1 (h : T2 w0 W sb wb tb xb k mo N Q y c i) : W.cell? ⟨sb, 0, none⟩ = some (.pointer (some ⟨wb, 0, none⟩)) ∧ W.cell? ⟨tb, 0, none⟩ = some (.pointer (some ⟨xb, 0, none⟩)) := by
  obtain ⟨sv, nv, sv', nv', ho, hz⟩ := h
  exact ⟨box_cells hz.a1 0 _ rfl, box_cells hz.b1 0 _ rfl⟩
theorem T2.len (h : T2 w0 W sb wb tb xb k mo N Q y c i) : y.p.fl.length + y.p.wt.length ≤ 199999 := by
  obtain ⟨sv, nv, sv', nv', ho, hz⟩ := h
  obtain ⟨G, hs, hn⟩ := hz.one
  have := hs.ks.facts
  omega
theorem t2_first (h : T2 w0 W sb wb tb xb k mo N Q y c i) (hmo : mo ≤ 65536) (hc : c + i ≤ 1000) (o : Ow) (hp : PBi W o.m.v o.m.xs) (hf : o.fl.size ≤ 1000000) (ht : o.m.t.size ≤ 1000000) (hid : okI o.id) :
    Calls Tryz.prog 8 #[.pointer (some ⟨sb, 0, none⟩), .agg o.cs] W fun e w' => ∃ v, e = .returned (.tuple #[v, .bool (pDo mo y o.c).ok, .int .i64 (pDo mo y o.c).n]) ∧ T2h w0 w' sb wb tb xb k mo N Q y o.c c i v := by
  obtain ⟨sv, nv, sv', nv', ho, hz⟩ := h
  refine (z2_does hz ho hmo (by omega) (by omega) o hp hf ht hid).mono ?_
  rintro e w' ⟨v, rfl, ⟨sv2, nv2, h2⟩, l, kq⟩
  exact ⟨v, rfl, sv2, nv2, sv', nv', ho, h2, l⟩
theorem t2_second {v : Value} (o : Ow) (h : T2h w0 W sb wb tb xb k mo N Q y o.c c i v) (hmo : mo ≤ 65536) (hc : c + i ≤ 1000) (hp : PBi W o.m.v o.m.xs) (hf : o.fl.size ≤ 1000000) (ht : o.m.t.size ≤ 1000000) (hid : okI o.id) :
    Calls Tryz.prog 8 #[.pointer (some ⟨tb, 0, none⟩), .agg o.cs] W fun e w' => ∃ v', e = .returned (.tuple #[v', .bool (pDo mo y o.c).ok, .int .i64 (pDo mo y o.c).n]) ∧ T2 w0 w' sb wb tb xb k mo N Q (pDo mo y o.c).z c (i + 1) ∧ Lst w' v (pDo mo y o.c).X ∧ Lst w' v' (pDo mo y o.c).X ∧ (pDo mo y o.c).X.length ≤ 200000 := by
  obtain ⟨sv, nv, sv', nv', ho, hz, hl⟩ := h
  have hlen : (pDo mo y o.c).X.length ≤ 200000 := by
    obtain ⟨G, hs, hn⟩ := hz.swap.one
    have h1 := hs.ks.facts
    have h2 := do_len mo y o.c
    omega
  refine (z2_does hz.swap ho hmo (by omega) (by omega) o hp hf ht hid).mono ?_
  rintro e w' ⟨v', rfl, ⟨sv2, nv2, h2⟩, l, kq⟩
  exact ⟨v', rfl, ⟨_, _, _, _, ho.do o.c hf ht, h2.swap⟩, kq.lst hl, l, hlen⟩
/-! ### Their images -/
def I1 (W : World) (y : Pz) (v1 vf vq vi : Value) : Prop := ∃ B B' LS LI Lf Lm, W.ownsRow B 42 2 v1 LS.length (arow LS) ∧ SubsOf y.f y.n LS ∧ Imo W y.p Lf Lm vf vq ∧ W.ownsRow B' 3 1 vi LI.length (LI.map (Value.int .i64)) ∧ InbOf y.g y.m LI
theorem I1.below {W' : World} {v1 vf vq vi : Value} (h : I1 W y v1 vf vq vi) (hb : Below W.heap.size W W') : I1 W' y v1 vf vq vi := by
  obtain ⟨B, B', LS, LI, Lf, Lm, h1, h2, h3, h4, h5⟩ := h
  exact ⟨B, B', LS, LI, Lf, Lm, own_below h1 hb, h2, h3.below hb, own_below h4 hb, h5⟩
theorem t2_image1 (h : T2 w0 W sb wb tb xb k mo N Q y c i) (hmo : mo ≤ 65536) (hc : c + i ≤ 1000) :
    Calls Tryz.prog 9 #[.pointer (some ⟨sb, 0, none⟩)] W fun e w' => ∃ v1 vf vq vi, e = .returned (.agg #[.string k, v1, .int .i64 (y.p.last : Int), vf, vq, vi]) ∧ I1 w' y v1 vf vq vi ∧ Below W.heap.size W w' := by
  obtain ⟨sv, nv, sv', nv', ho, hz⟩ := h
  refine (z2_image hz ho hmo (by omega) (by omega)).mono ?_
  rintro e w' ⟨v1, vf, vq, vi, LS, LI, Lf, Lm, rfl, h1, h2, h3, h4, h5, hb⟩
  exact ⟨v1, vf, vq, vi, rfl, ⟨_, _, LS, LI, Lf, Lm, h1, h2, h3, h4, h5⟩, hb⟩
theorem t2_image2 (h : T2 w0 W sb wb tb xb k mo N Q y c i) (hmo : mo ≤ 65536) (hc : c + i ≤ 1000) :
    Calls Tryz.prog 9 #[.pointer (some ⟨tb, 0, none⟩)] W fun e w' => ∃ v1 vf vq vi, e = .returned (.agg #[.string k, v1, .int .i64 (y.p.last : Int), vf, vq, vi]) ∧ I1 w' y v1 vf vq vi ∧ Below W.heap.size W w' := by
  obtain ⟨sv, nv, sv', nv', ho, hz⟩ := h
  refine (z2_image hz.swap ho hmo (by omega) (by omega)).mono ?_
  rintro e w' ⟨v1, vf, vq, vi, LS, LI, Lf, Lm, rfl, h1, h2, h3, h4, h5, hb⟩
  exact ⟨v1, vf, vq, vi, rfl, ⟨_, _, LS, LI, Lf, Lm, h1, h2, h3, h4, h5⟩, hb⟩
theorem t2_online1 (h : T2 w0 W sb wb tb xb k mo N Q y c i) : Calls Tryz.prog 14 #[.pointer (some ⟨wb, 0, none⟩)] W fun e w' => e = .returned (.bool y.p.on) ∧ w' = W := by
  obtain ⟨sv, nv, sv', nv', ho, hz⟩ := h
  exact z2_online hz
theorem t2_online2 (h : T2 w0 W sb wb tb xb k mo N Q y c i) : Calls Tryz.prog 14 #[.pointer (some ⟨xb, 0, none⟩)] W fun e w' => e = .returned (.bool y.p.on) ∧ w' = W := by
  obtain ⟨sv, nv, sv', nv', ho, hz⟩ := h
  exact z2_online hz.swap
theorem t2_same (h : T2 w0 W sb wb tb xb k mo N Q y c i) (hmo : mo ≤ 65536) (hc : c + i ≤ 1000) {v1 vf vq vi u1 uf uq ui : Value} (a : I1 W y v1 vf vq vi) (b : I1 W y u1 uf uq ui) :
    Calls Tryz.prog 13 #[.agg #[.string k, v1, .int .i64 (y.p.last : Int), vf, vq, vi], .agg #[.string k, u1, .int .i64 (y.p.last : Int), uf, uq, ui]] W fun e w' => e = .returned (.bool true) ∧ Below W.heap.size W w' := by
  have hl := h.len
  obtain ⟨sv, nv, sv', nv', ho, hz⟩ := h
  obtain ⟨B, B', LS, LI, Lf, Lm, h1, h2, h3, h4, h5⟩ := a
  obtain ⟨C, C', MS, MI, Mf, Mm, k1, k2, k3, k4, k5⟩ := b
  have e1 := h2.uniq k2
  have e2 := h5.uniq k5
  subst e1 e2
  exact sameSess_any h1 k1 h3 k3 h4 k4 (by omega) (by rw [h2.len]; have := ho.n0; omega) (by rw [h5.len]; have := ho.m0; omega)
end
end Go.Proofs.YtmihpmmkkklpfaaGreatDoor
