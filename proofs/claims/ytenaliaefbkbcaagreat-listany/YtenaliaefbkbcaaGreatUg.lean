import Derived.Test.YtenaliaefbkbcaaGreatCbd
import Derived.Test.YtenaliaefbkbcaaGreatNm
import Derived.Test.YtenaliaefbkbcaaGreatNh
namespace Go.Proofs.YtenaliaefbkbcaaGreat.Li
open Go Go.RowKit Go.Maps
set_option linter.unusedSimpArgs false
set_option linter.unusedVariables false
/-! ### What Find gives, purely -/
def FR (P : List Fp) (t : ByteArray) (R : List En) : Prop := R.Pairwise (fun a b => kl1 a.1 b.1 < 0) ∧ ∀ k q, (k, q) ∈ R ↔ ((∃ f, Has P f k q ∧ mch f t = true) ∧ ∀ q', (∃ f, Has P f k q' ∧ mch f t = true) → q' ≤ q)
theorem fr_of {L : List Fl} {t : ByteArray} {ys : List En} (hp : ys.Perm (ents (ms L t))) (hs : ByF ys) : FR (L.map Fl.p) t (cmpct ys) := by
  obtain ⟨p1, p2⟩ := cmpct_spec ys hs
  refine ⟨p1, fun k q => ?_⟩
  rw [p2]
  unfold Mx
  rw [mem_found hp]
  constructor
  · rintro ⟨h1, h2⟩
    exact ⟨h1, fun q' h => h2 q' ((mem_found hp k q').2 h)⟩
  · rintro ⟨h1, h2⟩
    exact ⟨h1, fun q' h => h2 q' ((mem_found hp k q').1 h)⟩
theorem fr_same {P Q : List Fp} {t : ByteArray} {R S : List En} (hh : SameH P Q) (hr : FR P t R) (hs : FR Q t S) : R = S := by
  refine sorted_eq (r := fun a b : En => kl1 a.1 b.1 < 0) (fun x h => ?_) (fun x y z h k => kl_lt_trans h k) hr.1 hs.1 (fun ⟨k, q⟩ => ?_)
  · have : cb x.1.data.toList x.1.data.toList < 0 := h
    rw [cb_self] at this
    omega
  · have e : ∀ q, (∃ f, Has P f k q ∧ mch f t = true) ↔ (∃ f, Has Q f k q ∧ mch f t = true) := fun q => by
      constructor
      · rintro ⟨f, h1, h2⟩
        exact ⟨f, (hh f k q).1 h1, h2⟩
      · rintro ⟨f, h1, h2⟩
        exact ⟨f, (hh f k q).2 h1, h2⟩
    rw [hr.2, hs.2, e]
    constructor
    · rintro ⟨h1, h2⟩
      exact ⟨h1, fun q' h => h2 q' ((e q').2 h)⟩
    · rintro ⟨h1, h2⟩
      exact ⟨h1, fun q' h => h2 q' ((e q').1 h)⟩
theorem cm1_len : ∀ (r : List En) (p : ByteArray), (cm1 p r).length ≤ r.length
  | [], p => by simp [cm1]
  | y :: r, p => by
    by_cases e : y.1 = p
    · rw [cm1_eq e]
      have := cm1_len r y.1
      simp
      omega
    · rw [cm1_ne e]
      have := cm1_len r y.1
      simp
      omega
theorem cmpct_len (ys : List En) : (cmpct ys).length ≤ ys.length := by
  cases ys with
  | nil => simp [cmpct]
  | cons y r =>
    show (y :: cm1 y.1 r).length ≤ _
    have := cm1_len r y.1
    simp
    omega
theorem ents_le9 {L : List Fl} {m : Nat} (h : ∀ x ∈ L, x.es.length ≤ m) : (ents L).length ≤ L.length * m := by
  induction L with
  | nil => simp [ents]
  | cons y r ih =>
    have h1 := h y (by simp)
    have h2 := ih (fun z hz => h z (by simp [hz]))
    simp only [ents, List.flatMap_cons, List.length_append, List.length_cons, Nat.succ_mul] at h2 ⊢
    omega
/-- Find, told purely. -/
theorem sfindR_any {B : Nat} {w : World} {sb : Nat} {v : Value} {L : List Fl} (h : SL B w sb v L) (hw : Wf (L.map Fl.p)) (t : ByteArray) (hL : L.length ≤ 900) (hM : ∀ x ∈ L, x.es.length ≤ 900) :
    Calls Tryz.prog 11 #[.pointer (some ⟨sb, 0, none⟩), .string t] w fun e w' => ∃ v' R, e = .returned v' ∧ FR (L.map Fl.p) t R ∧ R.length ≤ 900000 ∧ w'.ownsRow w.heap.size 44 2 v' R.length (arow R) ∧ Below w.heap.size w w' := by
  refine (sfind_any h t hL hM (fun x hx => (hw.es x.p (List.mem_map.2 ⟨x, hx, rfl⟩)).2)).mono ?_
  rintro e w' ⟨v', ys, rfl, h1, h2, h3, h4⟩
  refine ⟨v', cmpct ys, rfl, fr_of h1 h2, ?_, h3, h4⟩
  have e1 := cmpct_len ys
  have e2 := h1.length_eq
  have e3 := ents_le9 (L := ms L t) (m := 900) (fun x hx => hM x (List.mem_filter.1 hx).1)
  have e4 : (ms L t).length ≤ 900 := Nat.le_trans (List.length_filter_le _ _) hL
  have e5 := Nat.mul_le_mul_right 900 e4
  omega
/-! ### Two lists beside one another -/
structure ST (W : World) (B : Nat) (ops : List Ow) (sa sb : Nat) (σa σb : Nat → Nat) (ia ib : Nat) (PA PB : List Fp) (wx : World) : Prop where
  mem : ∃ va La vb Lb, SL B wx sa va La ∧ La.map Fl.p = PA ∧ SL B wx sb vb Lb ∧ Lb.map Fl.p = PB ∧ ∀ j, LB sa va La j → ¬ LB sb vb Lb j
  wa : Wf PA
  wb : Wf PB
  la : PA.length ≤ ia ∧ ∀ x ∈ PA, x.2.length ≤ ia
  lb : PB.length ≤ ib ∧ ∀ x ∈ PB, x.2.length ≤ ib
  ha : ∀ f k q, Has PA f k q ↔ Lay ops σa ia f k q
  hb : ∀ f k q, Has PB f k q ↔ Lay ops σb ib f k q
  bel : Below W.heap.size W wx
  base : W.heap.size ≤ B
section
variable {W : World} {B : Nat} {ops : List Ow} {sa sb : Nat} {σa σb : Nat → Nat} {ia ib : Nat} {PA PB : List Fp} {wx wy : World}
theorem ST.swap (h : ST W B ops sa sb σa σb ia ib PA PB wx) : ST W B ops sb sa σb σa ib ia PB PA wx := by
  obtain ⟨va, La, vb, Lb, h1, h2, h3, h4, h5⟩ := h.mem
  exact ⟨⟨vb, Lb, va, La, h3, h4, h1, h2, fun j hj hk => h5 j hk hj⟩, h.wb, h.wa, h.lb, h.la, h.hb, h.ha, h.bel, h.base⟩
theorem ST.below (h : ST W B ops sa sb σa σb ia ib PA PB wx) (hb : Below wx.heap.size wx wy) : ST W B ops sa sb σa σb ia ib PA PB wy := by
  obtain ⟨va, La, vb, Lb, h1, h2, h3, h4, h5⟩ := h.mem
  exact ⟨⟨va, La, vb, Lb, h1.below hb, h2, h3.below hb, h4, h5⟩, h.wa, h.wb, h.la, h.lb, h.ha, h.hb, h.bel.trans (hb.mono h.bel.size), h.base⟩
theorem two_put {va : Value} {La : List Fl} {vb : Value} {Lb : List Fl} {va' : Value} {La' : List Fl} (h1 : SL B wx sa va La) (h3 : SL B wx sb vb Lb) (h5 : ∀ j, LB sa va La j → ¬ LB sb vb Lb j) (hk : KQ sa wx wy va La va' La') : SL B wy sb vb Lb ∧ ∀ j, LB sa va' La' j → ¬ LB sb vb Lb j := by
  refine ⟨h3.stays (fun j hj => hk.ch.block j (h3.blt hj) (fun q => h5 j q hj)), fun j hj hb => ?_⟩
  rcases hk.nw j hj with z | z
  · exact h5 j z hb
  · have := h3.blt hb
    omega
/-- A call of Put of the script. -/
theorem st_put (h : ST W B ops sa sb σa σb ia ib PA PB wx) (hd : Dif ops) (hi : ia ≤ 200) (hinj : ∀ j, j < ia → σa j ≠ σa ia) {o : Ow} (ho : ops[σa ia]? = some o) (hoa : o.a.size ≤ 100000) (hob : o.b.size ≤ 100000) :
    Calls Tryz.prog 8 #[.pointer (some ⟨sa, 0, none⟩), .string o.a, .string o.b, .int .i64 o.n] wx fun e w' => (∃ x y, e = .returned (.tuple #[x, y])) ∧ ∃ PA', ST W B ops sa sb σa σb (ia + 1) ib PA' PB w' := by
  obtain ⟨va, La, vb, Lb, h1, h2, h3, h4, h5⟩ := h.mem
  have bad : ∀ w', ¬ Gop o → Below wx.heap.size wx w' → ∃ PA', ST W B ops sa sb σa σb (ia + 1) ib PA' PB w' := fun w' hg hb => by
    have h' := h.below hb
    refine ⟨PA, h'.mem, h.wa, h.wb, ⟨by have := h.la.1; omega, fun x hx => by have := h.la.2 x hx; omega⟩, h.lb, fun f k q => ?_, h.hb, h'.bel, h.base⟩
    rw [lay_bad ho hg]
    exact h.ha f k q
  by_cases hf : rfc o.a = 0
  · by_cases hq : 0 ≤ o.n ∧ o.n ≤ 2
    · have hB : B ≤ wx.heap.size := Nat.le_trans h1.ge (Nat.le_of_lt h1.lt)
      have hl1 : La.length ≤ 200 := by have := h.la.1; rw [← h2, List.length_map] at this; omega
      have hl2 : ∀ x ∈ La, x.es.length ≤ 200 := fun x hx => by have := h.la.2 x.p (by rw [← h2]; exact List.mem_map.2 ⟨x, hx, rfl⟩); exact Nat.le_trans this hi
      refine (put_anyq h1 o.a o.b o.n hf (by omega) hq (by omega) (fun x hx => by have := hl2 x hx; omega) (by omega) hB).mono ?_
      rintro e w' ⟨rfl, v', L', g1, g2, g3⟩
      have pk := put_ok h.wa o.a o.b o.n
      rw [h2] at g2
      rw [← g2] at pk
      obtain ⟨k1, k2⟩ := two_put h1 h3 h5 g3
      have kl := g3.kl h1
      refine ⟨⟨_, _, rfl⟩, L'.map Fl.p, ⟨v', L', vb, Lb, g1, rfl, k1, h4, k2⟩, pk.wf, h.wb, ⟨Nat.le_trans pk.len (by have := h.la.1; omega), pk.lens ia h.la.2⟩, h.lb, lay_put hd hinj ho ⟨hf, hq⟩ pk h.ha, h.hb, h.bel.trans ⟨kl.os, kl.tape, kl.output, kl.size, fun j hj => kl.block j (Nat.lt_of_lt_of_le hj h.bel.size) (.inl (Nat.lt_of_lt_of_le hj h.base))⟩, h.base⟩
    · refine (put_71 o.a o.b o.n _ hf hq).mono ?_
      rintro e w' ⟨rfl, hb⟩
      exact ⟨⟨_, _, rfl⟩, bad w' (fun g => hq g.2) hb⟩
  · refine (put_70 o.a o.b o.n _ hf).mono ?_
    rintro e w' ⟨rfl, hb⟩
    exact ⟨⟨_, _, rfl⟩, bad w' (fun g => hf g.1) hb⟩
end
/-! ### Behind the first Finds -/
structure SP (W : World) (B sa sb N : Nat) (PA PB : List Fp) (vy : Value) (R : List En) (wx : World) : Prop where
  mem : ∃ va La vb Lb, SL B wx sa va La ∧ La.map Fl.p = PA ∧ SL B wx sb vb Lb ∧ Lb.map Fl.p = PB ∧ (∀ j, LB sa va La j → ¬ LB sb vb Lb j) ∧ ∀ g, vy.ownBlock = some g → ¬ LB sa va La g
  row : wx.ownsRow W.heap.size 44 2 vy R.length (arow R)
  wa : Wf PA
  wb : Wf PB
  la : PA.length ≤ N ∧ ∀ x ∈ PA, x.2.length ≤ N
  lb : PB.length ≤ N ∧ ∀ x ∈ PB, x.2.length ≤ N
  za : ∀ x ∈ PA, x.1.size ≤ 1000000
  zb : ∀ x ∈ PB, x.1.size ≤ 1000000
  bel : Below W.heap.size W wx
  base : W.heap.size ≤ B
section
variable {W : World} {B sa sb N : Nat} {PA PB : List Fp} {vy : Value} {R : List En} {wx wy : World}
theorem SP.below (h : SP W B sa sb N PA PB vy R wx) (hb : Below wx.heap.size wx wy) : SP W B sa sb N PA PB vy R wy := by
  obtain ⟨va, La, vb, Lb, h1, h2, h3, h4, h5, h6⟩ := h.mem
  exact ⟨⟨va, La, vb, Lb, h1.below hb, h2, h3.below hb, h4, h5, h6⟩, own_below h.row hb, h.wa, h.wb, h.la, h.lb, h.za, h.zb, h.bel.trans (hb.mono h.bel.size), h.base⟩
theorem lens_of {L : List Fl} {P : List Fp} {N : Nat} (hp : L.map Fl.p = P) (hl : P.length ≤ N ∧ ∀ x ∈ P, x.2.length ≤ N) : L.length ≤ N ∧ ∀ x ∈ L, x.es.length ≤ N :=
  ⟨by have := hl.1; rw [← hp, List.length_map] at this; exact this, fun x hx => hl.2 x.p (by rw [← hp]; exact List.mem_map.2 ⟨x, hx, rfl⟩)⟩
theorem SP.moved (h : SP W B sa sb N PA PB vy R wx) {va : Value} {La : List Fl} {vb : Value} {Lb : List Fl} (h1 : SL B wx sa va La) (h3 : SL B wx sb vb Lb) (h4 : Lb.map Fl.p = PB) (h5 : ∀ j, LB sa va La j → ¬ LB sb vb Lb j) (h6 : ∀ g, vy.ownBlock = some g → ¬ LB sa va La g) {va' : Value} {La' : List Fl} (hk : KQ sa wx wy va La va' La') (g1 : SL B wy sa va' La') {N' : Nat} (hN : N ≤ N') (hw : Wf (La'.map Fl.p)) (hla : (La'.map Fl.p).length ≤ N' ∧ ∀ x ∈ La'.map Fl.p, x.2.length ≤ N') (hza : ∀ x ∈ La'.map Fl.p, x.1.size ≤ 1000000) : SP W B sa sb N' (La'.map Fl.p) PB vy R wy := by
  obtain ⟨k1, k2⟩ := two_put h1 h3 h5 hk
  have kl := hk.kl h1
  refine ⟨⟨va', La', vb, Lb, g1, rfl, k1, h4, k2, fun g hg hj => ?_⟩, own_ch h.row hk.ch (fun g hg q => h6 g hg q), hw, h.wb, hla, ⟨by have := h.lb.1; omega, fun x hx => by have := h.lb.2 x hx; omega⟩, hza, h.zb, h.bel.trans ⟨kl.os, kl.tape, kl.output, kl.size, fun j hj => kl.block j (Nat.lt_of_lt_of_le hj h.bel.size) (.inl (Nat.lt_of_lt_of_le hj h.base))⟩, h.base⟩
  rcases hk.nw g hj with z | z
  · exact h6 g hg z
  · obtain ⟨cu, hcu⟩ := own_lt h.row hg
    have := (Array.getElem?_eq_some_iff.1 hcu).1
    omega
theorem sp_put (h : SP W B sa sb N PA PB vy R wx) (hN : N ≤ 800) (f k : ByteArray) (hf : rfc f = 0) (hfs : f.size ≤ 100000) (hks : k.size ≤ 100000) :
    Calls Tryz.prog 8 #[.pointer (some ⟨sa, 0, none⟩), .string f, .string k, .int .i64 2] wx fun e w' => (∃ r, e = .returned (.tuple #[.int .i64 r, .int .i64 0])) ∧ SP W B sa sb (N + 1) (pPut PA f k 2).1 PB vy R w' := by
  obtain ⟨va, La, vb, Lb, h1, h2, h3, h4, h5, h6⟩ := h.mem
  have hB : B ≤ wx.heap.size := Nat.le_trans h1.ge (Nat.le_of_lt h1.lt)
  obtain ⟨l1, l2⟩ := lens_of h2 h.la
  refine (put_anyq h1 f k 2 hf (by omega) (by omega) (by omega) (fun x hx => by have := l2 x hx; omega) (by omega) hB).mono ?_
  rintro e w' ⟨rfl, v', L', g1, g2, g3⟩
  have pk := put_ok h.wa f k 2
  rw [h2] at g2
  refine ⟨⟨_, rfl⟩, ?_⟩
  rw [← g2] at pk ⊢
  refine h.moved h1 h3 h4 h5 h6 g3 g1 (Nat.le_succ _) pk.wf ⟨Nat.le_trans pk.len (by have := h.la.1; omega), pk.lens N h.la.2⟩ (fun x hx => ?_)
  obtain ⟨f', es⟩ := x
  obtain ⟨k', q, hh⟩ := (has_filter pk.wf f').1 (List.mem_map.2 ⟨_, hx, rfl⟩)
  rcases (pk.has f' k' q).1 hh with ⟨z, -, -⟩ | ⟨-, es', z, -⟩
  · simp only [z]
    omega
  · exact h.za (f', es') z
theorem sp_drop {f k : ByteArray} (h : SP W B sa sb (N + 1) (pPut PA f k 2).1 PB vy R wx) (hN : N ≤ 800) (hw : Wf PA) (hno : ∀ o, ¬ Has PA f k o) (hla : PA.length ≤ N ∧ ∀ x ∈ PA, x.2.length ≤ N) (hza : ∀ x ∈ PA, x.1.size ≤ 1000000) :
    Calls Tryz.prog 15 #[.pointer (some ⟨sa, 0, none⟩), .string f, .string k] wx fun e w' => e = .returned (.bool true) ∧ SP W B sa sb (N + 1) PA PB vy R w' := by
  obtain ⟨va, La, vb, Lb, h1, h2, h3, h4, h5, h6⟩ := h.mem
  have hB : B ≤ wx.heap.size := Nat.le_trans h1.ge (Nat.le_of_lt h1.lt)
  obtain ⟨l1, l2⟩ := lens_of h2 h.la
  refine (drop_back h1 h2 hw hno (by omega) (fun x hx => by have := l2 x hx; omega) hB).mono ?_
  rintro e w' ⟨rfl, v', L', g1, g2, g3⟩
  refine ⟨rfl, ?_⟩
  have := h.moved h1 h3 h4 h5 h6 g3 g1 (Nat.le_refl _) (by rw [g2]; exact hw) (by rw [g2]; exact ⟨by omega, fun x hx => by have := hla.2 x hx; omega⟩) (by rw [g2]; exact hza)
  rw [g2] at this
  exact this
theorem sp_drop2 {f k : ByteArray} (h : SP W B sa sb N PA PB vy R wx) (hN : N ≤ 900) (hno : ∀ o, ¬ Has PA f k o) :
    Calls Tryz.prog 15 #[.pointer (some ⟨sa, 0, none⟩), .string f, .string k] wx fun e w' => e = .returned (.bool false) ∧ w' = wx := by
  obtain ⟨va, La, vb, Lb, h1, h2, h3, h4, h5, h6⟩ := h.mem
  obtain ⟨l1, l2⟩ := lens_of h2 h.la
  exact drop_none h1 (by rw [h2]; exact hno) (by omega) (fun x hx => by have := l2 x hx; omega)
theorem sp_find (h : SP W B sa sb N PA PB vy R wx) (hN : N ≤ 900) (t : ByteArray) :
    Calls Tryz.prog 11 #[.pointer (some ⟨sa, 0, none⟩), .string t] wx fun e w' => ∃ v' S, e = .returned v' ∧ FR PA t S ∧ S.length ≤ 900000 ∧ w'.ownsRow wx.heap.size 44 2 v' S.length (arow S) ∧ Below wx.heap.size wx w' := by
  obtain ⟨va, La, vb, Lb, h1, h2, h3, h4, h5, h6⟩ := h.mem
  obtain ⟨l1, l2⟩ := lens_of h2 h.la
  rw [← h2]
  exact sfindR_any h1 (by rw [h2]; exact h.wa) t (by omega) (fun x hx => by have := l2 x hx; omega)
theorem sp_len (h : SP W B sa sb N PA PB vy R wx) : Calls Tryz.prog 13 #[.pointer (some ⟨sa, 0, none⟩)] wx (fun e w' => e = .returned (.int .i64 (PA.length : Int)) ∧ w' = wx) ∧ Calls Tryz.prog 13 #[.pointer (some ⟨sb, 0, none⟩)] wx (fun e w' => e = .returned (.int .i64 (PB.length : Int)) ∧ w' = wx) := by
  obtain ⟨va, La, vb, Lb, h1, h2, h3, h4, h5, h6⟩ := h.mem
  have a := slen_any h1
  have b := slen_any h3
  have ea : PA.length = La.length := by rw [← h2, List.length_map]
  have eb : PB.length = Lb.length := by rw [← h4, List.length_map]
  rw [ea, eb]
  exact ⟨a, b⟩
theorem sp_of (h : SP W B sa sb N PA PB vy R wx) (hN : N ≤ 900) (f : ByteArray) :
    Calls Tryz.prog 14 #[.pointer (some ⟨sa, 0, none⟩), .string f] wx fun r w' => ∃ v' ys, r = .returned v' ∧ (∀ k q, (k, q) ∈ ys ↔ Has PA f k q) ∧ ys.length ≤ 900000 ∧ w'.ownsRow wx.heap.size 44 2 v' ys.length (arow ys) ∧ Below wx.heap.size wx w' := by
  obtain ⟨va, La, vb, Lb, h1, h2, h3, h4, h5, h6⟩ := h.mem
  obtain ⟨l1, l2⟩ := lens_of h2 h.la
  rw [← h2]
  exact of_any h1 (by rw [h2]; exact h.wa) f (by omega) (fun x hx => by have := l2 x hx; omega)
def AllR (P : List Fp) (S : List Rw) : Prop := ∃ L M Q, L.map Fl.p = P ∧ M.Perm L ∧ ByK M ∧ Srs M Q ∧ S = rowsOf Q
theorem allr_same {P Q : List Fp} {S T : List Rw} (hp : Wf P) (hq : Wf Q) (hh : SameH P Q) (h : AllR P S) (k : AllR Q T) : S = T := by
  obtain ⟨L, M, X, rfl, a1, a2, a3, rfl⟩ := h
  obtain ⟨L', M', X', rfl, b1, b2, b3, rfl⟩ := k
  exact all_same hp hq hh a1 a2 a3 b1 b2 b3
theorem rows_one {v : Value} {s : Nat} {L : List Fl} {P : List Fp} (h1 : SL B wx s v L) (h2 : L.map Fl.p = P) (hN : N ≤ 900) (hl : P.length ≤ N ∧ ∀ x ∈ P, x.2.length ≤ N) (hz : ∀ x ∈ P, x.1.size ≤ 1000000) :
    Calls Tryz.prog 16 #[.func (.func 40) #[] #[.pointer (some ⟨wx.heap.size, 0, none⟩)], .int .i64 (-1)] (wx.alloc (.cells #[.pointer (some ⟨s, 0, none⟩)] 25)) fun e w' => ∃ v' S, e = .returned (.tuple #[v', .bool true]) ∧ AllR P S ∧ S.length ≤ 900000 ∧ w'.ownsRow wx.heap.size 55 3 v' S.length (rrow S) ∧ Below wx.heap.size wx w' := by
  obtain ⟨l1, l2⟩ := lens_of h2 hl
  have b1 : Below wx.heap.size wx (wx.alloc (.cells #[.pointer (some ⟨s, 0, none⟩)] 25)) := (Below.refl _ _).alloc (Nat.le_refl _) _
  refine (rows_any (h1.below b1) (heap_alloc_new _ _) (by omega) (fun x hx => by have := l2 x hx; omega) (fun x hx => hz x.p (by rw [← h2]; exact List.mem_map.2 ⟨x, hx, rfl⟩))).mono ?_
  rintro e w' ⟨v', M, Q, rfl, g1, g2, g3, g4, g5⟩
  refine ⟨v', rowsOf Q, rfl, ⟨L, M, Q, h2, g1, g2, g3, rfl⟩, ?_, row_base g4 (fun g hg => ?_), b1.trans (g5.mono b1.size)⟩
  · have e1 := rows_len (g3.lens (m := 900) (fun x hx => by have := l2 x ((g1.mem_iff).1 hx); omega))
    rw [g3.len, g1.length_eq] at e1
    have e2 := Nat.mul_le_mul_right 900 (show L.length ≤ 900 by omega)
    omega
  · have := row_ge g4 hg
    rw [size_alloc] at this
    omega
theorem sp_rows (h : SP W B sa sb N PA PB vy R wx) (hN : N ≤ 900) :
    (Calls Tryz.prog 16 #[.func (.func 40) #[] #[.pointer (some ⟨wx.heap.size, 0, none⟩)], .int .i64 (-1)] (wx.alloc (.cells #[.pointer (some ⟨sa, 0, none⟩)] 25)) fun e w' => ∃ v' S, e = .returned (.tuple #[v', .bool true]) ∧ AllR PA S ∧ S.length ≤ 900000 ∧ w'.ownsRow wx.heap.size 55 3 v' S.length (rrow S) ∧ Below wx.heap.size wx w') ∧
    (Calls Tryz.prog 16 #[.func (.func 40) #[] #[.pointer (some ⟨wx.heap.size, 0, none⟩)], .int .i64 (-1)] (wx.alloc (.cells #[.pointer (some ⟨sb, 0, none⟩)] 25)) fun e w' => ∃ v' S, e = .returned (.tuple #[v', .bool true]) ∧ AllR PB S ∧ S.length ≤ 900000 ∧ w'.ownsRow wx.heap.size 55 3 v' S.length (rrow S) ∧ Below wx.heap.size wx w') := by
  obtain ⟨va, La, vb, Lb, h1, h2, h3, h4, h5, h6⟩ := h.mem
  exact ⟨rows_one h1 h2 hN h.la h.za, rows_one h3 h4 hN h.lb h.zb⟩
end
end Go.Proofs.YtenaliaefbkbcaaGreat.Li
namespace Go.Proofs.YtenaliaefbkbcaaGreat.Li
open Go Go.RowKit
set_option linter.unusedSimpArgs false
set_option linter.unusedVariables false
set_option maxRecDepth 100000 in
set_option maxHeartbeats 2000000 in
theorem same_big {w : World} {ga gb ca cb n : Nat} {xs : List En} (hn : n = xs.length) (hm : n ≤ 900000) (ha : ∀ i (hi : i < xs.length), w.cell? ⟨ga, i * 2, none⟩ = some (.string xs[i].1) ∧ w.cell? ⟨ga, i * 2 + 1, none⟩ = some (.int .i64 xs[i].2)) (hb : ∀ i (hi : i < xs.length), w.cell? ⟨gb, i * 2, none⟩ = some (.string xs[i].1) ∧ w.cell? ⟨gb, i * 2 + 1, none⟩ = some (.int .i64 xs[i].2)) :
    Calls Tryz.prog 12 #[.slice (some ⟨ga, 0, none⟩) n ca, .slice (some ⟨gb, 0, none⟩) n cb] w fun e w' => e = .returned (.bool true) ∧ Below w.heap.size w w' := by
  have HA := hidi (And.intro ha (And.intro hb (And.intro hn hm)))
  clear ha hb hn hm
  go_enter Tryz.func12, Tryz.ntmps12
  go_wp2_with fail
  go_loopg [5] n (fun gk s5 wx => ∃ i : Nat, i + gk = n ∧ s5 = .int .i64 i ∧ Hid (Below w.heap.size w wx))
  case atStart => exact ⟨0, by omega, rfl, Below.refl _ _⟩
  case round =>
    obtain ⟨i, hi, rfl, HI⟩ := hrel
    by_cases hin : i < n
    · have hlt : (i : Int) < (n : Int) := by omega
      have hge : (0 : Int) ≤ (i : Int) := by omega
      obtain ⟨ha, hb, hn, hm⟩ := HA.out
      have hil : i < xs.length := by omega
      have hw1 : IntKind.i64.wrap ((i : Int) + 1) = (i : Int) + 1 := by rw [IntKind.wrap_i64]; omega
      obtain ⟨x, hx⟩ : ∃ x, x = xs[i] := ⟨_, rfl⟩
      have t0 := (ha i hil).1
      have t1 := (ha i hil).2
      have u0 := (hb i hil).1
      have u1 := (hb i hil).2
      rw [← hx] at t0 t1 u0 u1
      have d0 := (HI.out.cell (p := ⟨ga, i * 2, none⟩) (World.block_lt_of_cell? _ _ t0)).trans t0
      have d1 := (HI.out.cell (p := ⟨ga, i * 2 + 1, none⟩) (World.block_lt_of_cell? _ _ t1)).trans t1
      have d2 := (HI.out.cell (p := ⟨gb, i * 2, none⟩) (World.block_lt_of_cell? _ _ u0)).trans u0
      have d3 := (HI.out.cell (p := ⟨gb, i * 2 + 1, none⟩) (World.block_lt_of_cell? _ _ u1)).trans u1
      clear hx ha hb hn hm t0 t1 u0 u1
      obtain ⟨x1, x2⟩ := x
      simp only at d0 d1 d2 d3
      have hqq : (x2 != x2) = false := by simp
      have hxx : (x1.toList == x1.toList) = true := by simp
      go_wp2_with fail
      go_quiet (fail)
      have HB1 := hidi (below_drewN HI.out (m := nq))
      go_wp2_with fail
      go_roundg (n - (i + 1))
      case measure => omega
      case rel => exact ⟨i + 1, by omega, by first | rfl | simp, HB1.out⟩
    · have hlt : ¬ (i : Int) < (n : Int) := by omega
      go_wp2_with fail
      go_ret
      exact ⟨rfl, HI.out⟩
set_option maxRecDepth 100000 in
theorem same_none {w : World} {a b : Option Addr} {ca cb : Nat} : Calls Tryz.prog 12 #[.slice a 0 ca, .slice b 0 cb] w fun e w' => e = .returned (.bool true) ∧ Below w.heap.size w w' := by
  go_enter Tryz.func12, Tryz.ntmps12
  go_wp2_with fail
  go_loopg [5] 0 (fun gk s5 wx => s5 = .int .i64 0 ∧ wx = w)
  case atStart => exact ⟨rfl, rfl⟩
  case round =>
    obtain ⟨rfl, rfl⟩ := hrel
    go_wp2_with fail
    go_ret
    exact ⟨rfl, Below.refl _ _⟩
theorem sameE_any {w : World} {B B' : Nat} {v v' : Value} {R : List En} (h : w.ownsRow B 44 2 v R.length (arow R)) (h' : w.ownsRow B' 44 2 v' R.length (arow R)) (hl : R.length ≤ 900000) :
    Calls Tryz.prog 12 #[v, v'] w fun e w' => e = .returned (.bool true) ∧ Below w.heap.size w w' := by
  by_cases h0 : R.length = 0
  · obtain ⟨a, c, rfl⟩ := own_sl h
    obtain ⟨a', c', rfl⟩ := own_sl h'
    rw [h0]
    exact same_none
  · obtain ⟨g, c, rfl, -, hc⟩ := ecell h (j := 0) (by omega)
    obtain ⟨g', c', rfl, -, hc'⟩ := ecell h' (j := 0) (by omega)
    exact same_big rfl hl (fun i hi => hc i _ (List.getElem?_eq_getElem hi)) (fun i hi => hc' i _ (List.getElem?_eq_getElem hi))
end Go.Proofs.YtenaliaefbkbcaaGreat.Li
