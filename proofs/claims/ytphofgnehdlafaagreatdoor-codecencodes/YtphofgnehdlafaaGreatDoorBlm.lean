import Derived.Test.YtphofgnehdlafaaGreatDoorBlj
namespace Go.Proofs.YtphofgnehdlafaaGreatDoor.Bk
open Go Go.RowKit
set_option linter.unusedSimpArgs false
set_option linter.unusedVariables false
set_option maxRecDepth 100000
set_option maxHeartbeats 4000000
theorem Bq.gw {w0 w wx : World} {bb B : Nat} {S : Nat → Prop} {cs : Array Value} {rv : Nat → Value} {xs : Nat → List Value} {t deep seen : Int} {n i : Nat} {v gv : Value} {L M : List Value} (h : Bq w0 w bb B S cs rv xs t deep seen) (hv : w.ownsRow B 5 1 v n L) (g : Gw w wx B n i v gv L M) (hS : ∀ k, v.ownBlock = some k → S k ∨ w0.heap.size ≤ k) : Bq w0 wx bb B S cs rv xs t deep seen := by
 refine ⟨h.br.keep (g.ch.block _ (lt_of_block h.br.at_) (fun e => ?_)) (fun j hj k e => g.ch.block _ ((h.br.own j hj).lt k e).2 (fun q => ?_)), h.hd, Ch.trans h.ch g.ch (fun j hj q => ?_), h.sb, h.ins⟩
 ·
  obtain ⟨c, hc⟩ := own_blk hv e; exact blk_ne hc h.br.at_ (by decide) rfl
 ·
  obtain ⟨c, hc⟩ := own_blk hv q; obtain ⟨c2, hc2⟩ := own_blk (h.br.own j hj) e; exact blk_ne hc hc2 (Ne.symm (et_ne j).2) rfl
 ·
  rcases hS j q with q | q
  ·
   exact q
  ·
   omega
theorem row_sl {w : World} {B e : Nat} {v : Value} {xs : List Value} (h : w.ownsRow B e 1 v xs.length xs) : ∃ a c, v = .slice a xs.length c := by
 rcases h.2 with ⟨q, h0⟩ | ⟨g, cap, cur, q, _⟩
 ·
  exact ⟨_, _, h0 ▸ q⟩
 ·
  exact ⟨_, _, q⟩
theorem row_cell {w : World} {B e c : Nat} {a : Option Addr} {xs : List Value} (h : w.ownsRow B e 1 (.slice a xs.length c) xs.length xs) {k : Nat} {x : Value} (hk : xs[k]? = some x) : ∃ g, a = some ⟨g, 0, none⟩ ∧ w.cell? ⟨g, k, none⟩ = some x := by
 have hl : k < xs.length := (List.getElem?_eq_some_iff.1 hk).1
 rcases h.2 with ⟨q, h0⟩ | ⟨g, cap, cur, q, _⟩
 ·
  omega
 ·
  injection q with q1 q2 q3
  subst q1
  exact ⟨g, rfl, (h.cellAt k (by omega)).trans hk⟩
theorem BR.nil {w : World} {bb B : Nat} {cs : Array Value} {rv : Nat → Value} {xs : Nat → List Value} (h : BR w bb B cs rv xs) (i : Nat) (hi : i < 8) : BR (w.setCell ⟨bb, 4 + i, none⟩ (.slice none 0 0)) bb B (cs.setIfInBounds (4 + i) (.slice none 0 0)) (upd rv i (.slice none 0 0)) (upd xs i []) := by
 have hcs : 4 + i < cs.size := (Array.getElem?_eq_some_iff.1 (h.fld i hi)).1
 refine ⟨heap_set (i := 4 + i) h.at_ _, fun j hj => ?_, fun j hj => ?_, fun a b ha hb hab k ea eb => ?_⟩
 ·
  by_cases e : j = i
  ·
   subst e; rw [upd_same]; simp [hcs]
  ·
   rw [upd_ne _ _ e, Array.getElem?_setIfInBounds_ne (by omega)]; exact h.fld j hj
 ·
  by_cases e : j = i
  ·
   subst e
   rw [upd_same, upd_same]
   exact ⟨rfl, .inl ⟨rfl, rfl⟩⟩
  ·
   rw [upd_ne _ _ e, upd_ne _ _ e]
   exact ownsRow_setCell_other (h.own j hj) (h.ne j hj) _
 ·
  by_cases e1 : a = i
  ·
   subst e1; rw [upd_same] at ea; cases ea
  ·
   rw [upd_ne _ _ e1] at ea
   by_cases e2 : b = i
   ·
    subst e2; rw [upd_same] at eb; cases eb
   ·
    rw [upd_ne _ _ e2] at eb; exact h.sep a b ha hb hab k ea eb
theorem Bq.nil {w0 w : World} {bb B : Nat} {S : Nat → Prop} {cs : Array Value} {rv : Nat → Value} {xs : Nat → List Value} {t deep seen : Int} (h : Bq w0 w bb B S cs rv xs t deep seen) (i : Nat) (hi : i < 8) : Bq w0 (w.setCell ⟨bb, 4 + i, none⟩ (.slice none 0 0)) bb B S (cs.setIfInBounds (4 + i) (.slice none 0 0)) (upd rv i (.slice none 0 0)) (upd xs i []) t deep seen :=
 ⟨h.br.nil i hi, h.hd.row i hi _, Ch.trans (S' := fun k => k = bb) h.ch (ch_set bb _ _) (fun j _ q => q ▸ h.sb), h.sb, fun j hj k e => by
  by_cases q : j = i
  ·
   subst q; rw [upd_same] at e; cases e
  ·
   rw [upd_ne _ _ q] at e; exact h.ins j hj k e⟩
structure FrL (w w0 : World) (B : Nat) (S : Nat → Prop) (D : Nat → Nat → Prop) (xf xm : List Value) : Prop where
 len : xm.length = xf.length
 each : ∀ (k : Nat) (v : Value), xf[k]? = some v → ∃ n L, Ol w B D v n n L ∧ n ≤ 1900000
 ints : ∀ (k : Nat) (x : Value), xm[k]? = some x → ∃ m, x = .int .i64 m
 sep : Sep xf
 ins : ∀ (k : Nat) (v : Value), xf[k]? = some v → ∀ g, v.ownBlock = some g → S g ∨ w0.heap.size ≤ g
def Aside (w wx : World) (D D' : Nat → Nat → Prop) (xf : List Value) (k : Nat) : Prop :=
 ∀ (g : Nat) (c : Array Value), w.heap[g]? = some (.cells c 5 (0, 0)) → (∀ (i : Nat) (v : Value), i < k → xf[i]? = some v → v.ownBlock ≠ some g) → wx.heap[g]? = w.heap[g]? ∧ ∀ j, D' g j → D g j
structure Sb (S : Nat → Prop) (w0 : World) (D D' : Nat → Nat → Prop) : Prop where
 sub : ∀ g j, D g j → D' g j
 new : ∀ g j, D' g j → D g j ∨ S g ∨ w0.heap.size ≤ g
theorem grow_step {S : Nat → Prop} {w0 w wp wr wx : World} {B n k gc k4 : Nat} {D D' : Nat → Nat → Prop} {v : Value} {ga a4 : Option Addr} {L M xo xt xf : List Value} (hdk : Dk wp D') (hpd : PD wp D' xo xt) (hsub : Sb S w0 D D') (hvS : ∀ g, v.ownBlock = some g → S g ∨ w0.heap.size ≤ g) (hw0 : w0.heap.size ≤ wp.heap.size) (hkp : Keeps D w wp) (hav : Ol wp B D' v n n L) (ha : Aside w wp D D' xf k) (hv : xf[k]? = some v) (hn : n ≤ 1900000) (hs : w.heap.size ≤ wp.heap.size) (gw : Gw wp wr B n 150 v (.slice ga (n + 150) gc) L M) (n4 : Nl wr wx a4 (n + 150) k4 (L ++ M)) (v4 : ∀ (g : Nat) (k : Array Value), wr.heap[g]? = some (.cells k 5 (0, 0)) → wx.heap[g]? = wr.heap[g]?) (hby : ∀ u ∈ L ++ M, Bv u) :
    ∃ D'', Dk wx D'' ∧ PD wx D'' (xo ++ [.slice ga (n + 150) gc]) (xt ++ [.slice a4 (n + 150) k4]) ∧ Sb S w0 D D'' ∧ Keeps D w wx ∧ Aside w wx D D'' xf (k + 1) := by
  have K1 : Keeps D' wp wr := gw_keeps gw hdk hav.lim (Nat.le_refl _)
  have T1 : Dk wr D' := gw_typ gw hdk
  have K2 : Keeps D' wr wx := keeps_five T1 v4
  have T2 : Dk wx D' := dk_five T1 v4
  have O2 : wx.ownsRow B 5 1 (.slice ga (n + 150) gc) (n + 150) (L ++ M) := own_keep gw.own (fun q e => by obtain ⟨c, hc⟩ := own_blk gw.own e; exact v4 q c hc)
  refine ⟨fun g j => D' g j ∨ ((Value.slice ga (n + 150) gc).ownBlock = some g ∧ j < n + 150) ∨ ∃ off, a4 = some ⟨g, off, none⟩, ⟨?_⟩, ?_, ⟨fun g j q => .inl (hsub.sub g j q), ?_⟩, ?_, ?_⟩
  · rintro g j (q | ⟨q, _⟩ | ⟨off, q⟩)
    · exact T2.typ g j q
    · exact own_blk O2 q
    · exact (n4.new g off q).2
  · exact (hpd.keep (K1.trans K2) (fun g j q => Or.inl q)).snoc (by omega) (cl_of_own O2) n4.cl (ind_own O2 (fun g e j hj => .inr (.inl ⟨e, hj⟩))) (fun g off e j hj => .inr (.inr ⟨off, e⟩)) hby
  · rintro g j (q | ⟨q, _⟩ | ⟨off, q⟩)
    · exact hsub.new g j q
    · rcases gw.wh with e | ⟨k', e, hk'⟩
      · rw [e] at q; exact .inr (hvS g q)
      · rw [e] at q; cases q; exact .inr (.inr (by omega))
    · have := (n4.new g off q).1
      have := gw.ch.size
      exact .inr (.inr (by omega))
  · exact hkp.trans (fun g j q => (K1.trans K2) g j (hsub.sub g j q))
  · intro g c hg hne
    have h1 := ha g c hg (fun i u hi hu => hne i u (by omega) hu)
    have hvg : v.ownBlock ≠ some g := hne k v (by omega) hv
    have hlt := lt_of_block hg
    have e1 : wr.heap[g]? = wp.heap[g]? := gw.ch.block g (by omega) hvg
    have e2 : wr.heap[g]? = some (.cells c 5 (0, 0)) := e1.trans (h1.1.trans hg)
    refine ⟨(v4 g c e2).trans (e2.trans hg.symm), ?_⟩
    rintro j (q | ⟨q, _⟩ | ⟨off, q⟩)
    · exact h1.2 j q
    · rcases gw.wh with e | ⟨k', e, hk'⟩
      · rw [e] at q; exact absurd q hvg
      · rw [e] at q; cases q; omega
    · have := (n4.new g off q).1
      have := gw.ch.size
      omega
theorem growBytes_any (bb B : Nat) (S : Nat → Prop) (D : Nat → Nat → Prop) (cs : Array Value) (rv : Nat → Value) (xs : Nat → List Value) (t deep seen : Int) (w0 w : World)
    (hq : Bq w0 w bb B S cs rv xs t deep seen) (hd : Dk w D) (hp : PD w D (xs 0) (xs 1)) (hf : FrL w w0 B S D (xs 4) (xs 7)) (hB : B ≤ w.heap.size) (hl : (xs 0).length + (xs 4).length ≤ 900000) :
    Calls Tryz.prog 188 #[.pointer (some ⟨bb, 0, none⟩)] w fun e w' => e = .returned (.tuple #[]) ∧ ∃ D' cs' rv' xo xt, Bq w0 w' bb B S cs' (upd (upd rv' 4 (.slice none 0 0)) 7 (.slice none 0 0)) (upd (upd (upd (upd xs 0 xo) 1 xt) 4 []) 7 []) t deep seen ∧ Dk w' D' ∧ PD w' D' xo xt ∧ Sb S w0 D D' ∧ Keeps D w w' ∧ Aside w w' D D' (xs 4) (xs 4).length ∧ xo.length = (xs 0).length + (xs 4).length := by
  have H0 : Hid (Bq w0 w bb B S cs rv xs t deep seen) := hq
  have HD : Hid (Dk w D ∧ PD w D (xs 0) (xs 1)) := ⟨hd, hp⟩
  have HF : Hid (FrL w w0 B S D (xs 4) (xs 7)) := hf
  have HB : Hid (B ≤ w.heap.size ∧ (xs 0).length + (xs 4).length ≤ 900000) := ⟨hB, hl⟩
  clear hq hd hp hf hB hl
  go_enter Tryz.func188, Tryz.ntmps188
  go_wp2_with fail
  go_loopg [2] (xs 4).length (fun gg s2 wx => ∃ (k : Nat) (D' : Nat → Nat → Prop) (cs' : Array Value) (rv' : Nat → Value) (xo xt : List Value), s2 = .int .i64 k ∧ k + gg = (xs 4).length ∧ Hid (Bq w0 wx bb B S cs' rv' (upd (upd xs 0 xo) 1 xt) t deep seen) ∧ Hid (Dk wx D' ∧ PD wx D' xo xt ∧ Sb S w0 D D' ∧ Keeps D w wx) ∧ Hid (Aside w wx D D' (xs 4) k) ∧ Hid (xo.length = (xs 0).length + k ∧ w.heap.size ≤ wx.heap.size))
  case atStart =>
    refine ⟨0, D, cs, rv, xs 0, xs 1, rfl, by omega, ?_, ⟨HD.out.1, HD.out.2, ⟨fun _ _ q => q, fun _ _ q => .inl q⟩, fun _ _ _ => rfl⟩, fun g c hg _ => ⟨rfl, fun _ q => q⟩, ⟨by omega, Nat.le_refl _⟩⟩
    have e : upd (upd xs 0 (xs 0)) 1 (xs 1) = xs := by funext j; by_cases h1 : j = 1 <;> by_cases h0 : j = 0 <;> simp [upd, h0, h1] <;> (subst_vars; rfl)
    rw [e]; exact H0
  case round =>
    obtain ⟨k, D', cs', rv', xo, xt, hs2, hk, HQ, HDP, HA, HL⟩ := hrel
    subst hs2
    obtain ⟨a4, k4, e4⟩ := row_sl (HQ.out.br.own 4 (by decide))
    obtain ⟨a7, k7, e7⟩ := row_sl (HQ.out.br.own 7 (by decide))
    have x4 : upd (upd xs 0 xo) 1 xt 4 = xs 4 := by rw [upd_ne _ _ (by decide), upd_ne _ _ (by decide)]
    have x7 : upd (upd xs 0 xo) 1 xt 7 = xs 7 := by rw [upd_ne _ _ (by decide), upd_ne _ _ (by decide)]
    rw [x4] at e4
    rw [x7] at e7
    have o4 : wr.ownsRow B 22 1 (.slice a4 (xs 4).length k4) (xs 4).length (xs 4) := by have := HQ.out.br.own 4 (by decide); rw [x4, e4] at this; exact this
    have o7 : wr.ownsRow B 3 1 (.slice a7 (xs 7).length k7) (xs 7).length (xs 7) := by have := HQ.out.br.own 7 (by decide); rw [x7, e7] at this; exact this
    have c8 : wr.cell? ⟨bb, 8, none⟩ = some (.slice a4 (xs 4).length k4) := by have := (HQ.out.br.cell 4 (by decide)).1; rw [e4] at this; exact this
    have c11 : wr.cell? ⟨bb, 11, none⟩ = some (.slice a7 (xs 7).length k7) := by have := (HQ.out.br.cell 7 (by decide)).1; rw [e7] at this; exact this
    have O47 : Hid (wr.ownsRow B 22 1 (.slice a4 (xs 4).length k4) (xs 4).length (xs 4) ∧ wr.ownsRow B 3 1 (.slice a7 (xs 7).length k7) (xs 7).length (xs 7)) := ⟨o4, o7⟩
    clear o4 o7 x4 x7 e4 e7
    by_cases hlt : k < (xs 4).length
    · have p0 : (k : Int) < ((xs 4).length : Int) := by omega
      obtain ⟨v, hv⟩ : ∃ v, (xs 4)[k]? = some v := ⟨_, List.getElem?_eq_getElem hlt⟩
      obtain ⟨mk, hmk⟩ : ∃ v, (xs 7)[k]? = some v := ⟨_, List.getElem?_eq_getElem (by have := HF.out.len; omega)⟩
      obtain ⟨mark, rfl⟩ := HF.out.ints k mk hmk
      obtain ⟨n, L, hol, hn9⟩ := HF.out.each k v hv
      obtain ⟨g4, ea4, c4⟩ := row_cell O47.out.1 hv
      obtain ⟨g7, ea7, c7⟩ := row_cell O47.out.2 hmk
      have HAV : Hid ((wr.heap.size = wr.heap.size) ∧ Ol wr B D' v n n L) := by
        refine ⟨rfl, hol.keep (fun q e => ?_) (fun g e j q => ?_)⟩
        · obtain ⟨c, hc⟩ := own_blk hol.own e
          exact (HA.out q c hc (fun i u hi hu e' => HF.out.sep i k u v (by omega) hu hv q e' e)).1
        · obtain ⟨c, hc⟩ := own_blk hol.own e
          exact (HA.out g c hc (fun i u hi hu e' => HF.out.sep i k u v (by omega) hu hv g e' e)).2 j q
      have HV : Hid ((xs 4)[k]? = some v ∧ n ≤ 1900000) := ⟨hv, hn9⟩
      obtain ⟨va, vc, hva⟩ := own_sl hol.own
      subst hva
      have hl7 : (xs 7).length = (xs 4).length := HF.out.len
      have p7 : (k : Int) < ((xs 7).length : Int) := by omega
      clear hol hn9 hv hmk
      subst ea4 ea7
      go_wp2_with fail
      go_loopg [4, 5] 150 (fun gg s4 s5 wy => ∃ (i : Nat) (ga : Option Addr) (gc : Nat) (M : List Value), s4 = .slice ga (n + i) gc ∧ s5 = .int .i64 i ∧ i + gg = 150 ∧ Hid (Gw wr wy B n i (.slice va n vc) (.slice ga (n + i) gc) L M) ∧ Hid (∀ u ∈ M, Bv u))
      case atStart => exact ⟨0, va, vc, [], rfl, rfl, by omega, Gw.start HAV.out.2.own, fun u hu => by cases hu⟩
      case round =>
        obtain ⟨i, ga, gc, M, hs4, hs5, hi, GW, HM⟩ := hrel
        subst hs4 hs5
        by_cases hi5 : i < 150
        · have q0 : (i : Int) < 150 := by omega
          obtain ⟨x, hx⟩ : ∃ x : Int, wrap64 (wrap64 (mark + 6) + 5 * (i : Int)) % 256 = x := ⟨_, rfl⟩
          have BX : Hid (Bv (.int .u8 x)) := ⟨x, rfl, by omega, by omega⟩
          have hwi : IntKind.i64.wrap ((i : Int) + 1) = ((i + 1 : Nat) : Int) := by rw [IntKind.wrap_i64]; omega
          have SZ : Hid (B ≤ wr.heap.size ∧ i < 150 ∧ i + gk = 150) := ⟨by have := HB.out.1; have := HL.out.2; have := GW.out.ch.size; omega, hi5, hi⟩
          obtain ⟨wz, hwz⟩ : ∃ W, W = wr.alloc (.cells #[.int .u8 x] 5) := ⟨_, rfl⟩
          have GZ := (show Hid (Gw _ wz B n i (.slice va n vc) (.slice ga (n + i) gc) L M) from by rw [hwz]; exact GW.out.alloc _ HAV.out.2.own)
          have ZZ : Hid (wz.heap[wr.heap.size]? = some (.cells #[.int .u8 x] 5 (0, 0))) := by show _ = _; rw [hwz]; exact heap_alloc_new wr _
          have SZ2 : Hid (B ≤ wz.heap.size) := by show _ ≤ _; rw [hwz, World.size_alloc]; have := SZ.out.1; omega
          go_wp2_with (first | (at_builtin; (try rw [hx]); rw [← hwz]; refine wpList_gpush rfl (.tmp 33) (.tmp 40) rfl GZ.out HAV.out.2.own rfl wr.heap.size (.int .u8 x) rfl ZZ.out rfl (by have := HV.out.2; have := SZ.out; omega) SZ2.out ?_; intro gv' w' gw' hsl; obtain ⟨ga', gc', hg'⟩ := hsl; subst hg'; have GW2 := (show Hid (Gw _ w' B n (i + 1) (.slice va n vc) (.slice ga' (n + i + 1) gc') L (M ++ [.int .u8 x])) from gw'); clear gw') | fail)
          go_roundg (150 - (i + 1))
          all_goals first | (have := SZ.out; omega) | exact ⟨i + 1, ga', gc', M ++ [.int .u8 x], rfl, rfl, by have := SZ.out; omega, GW2, fun u hu => by rcases List.mem_append.1 hu with hu | hu; exact HM.out u hu; simp at hu; subst hu; exact BX.out⟩ | exact ⟨i + 1, ga', gc', M ++ [.int .u8 x], rfl, by simp, by have := SZ.out; omega, GW2, fun u hu => by rcases List.mem_append.1 hu with hu | hu; exact HM.out u hu; simp at hu; subst hu; exact BX.out⟩
        · have hi150 : i = 150 := by omega
          subst hi150
          have SZ : Hid (B ≤ wr.heap.size ∧ w.heap.size ≤ wr.heap.size) := ⟨by have := HB.out.1; have := HL.out.2; have := GW.out.ch.size; omega, by have := HL.out.2; have := GW.out.ch.size; omega⟩
          have GS : Hid (∀ k, (Value.slice va n vc).ownBlock = some k → S k ∨ w0.heap.size ≤ k) := HF.out.ins k _ HV.out.1
          have HQ2 := (show Hid (Bq w0 wr bb B S cs' rv' (upd (upd xs 0 xo) 1 xt) t deep seen) from HQ.out.gw HAV.out.2.own GW.out GS.out)
          have X0 : Hid (upd (upd xs 0 xo) 1 xt 0 = xo ∧ upd (upd xs 0 xo) 1 xt 1 = xt) := ⟨by rw [upd_ne _ _ (by decide), upd_same], upd_same _ _ _⟩
          have c40 := (HQ2.out.br.cell 0 (by decide)).1
          have BA := (show Hid (Bq w0 (wr.alloc (.cells #[.slice ga (n + 150) gc] 22)) bb B S cs' rv' (upd (upd xs 0 xo) 1 xt) t deep seen) from HQ2.out.below ((Below.refl _ _).alloc (Nat.le_refl _) _))
          go_wp2_with (first | (at_builtin; refine wpList_bpush rfl (.tmp 46) (.tmp 48) 33 rfl BA.out.br 0 (by decide) Tryz.underlying33 rfl wr.heap.size (.slice ga (n + 150) gc) rfl (heap_alloc_new wr _) rfl (by rw [X0.out.1]; have := HL.out.1; have := HB.out.2; omega) (by have := SZ.out.1; simp; omega) ?_) | fail)
          intro v2 w2 pu
          have PU2 := (show Hid (Pu _ w2 bb B cs' rv' (upd (upd xs 0 xo) 1 xt) 0 (.slice ga (n + 150) gc) v2) from pu)
          obtain ⟨a2, n2, k2, hv2⟩ := pu.sl
          clear pu
          subst hv2
          have cw1 := (bk_cell PU2.out.bk (HQ2.out.br.fld 0 (by decide))).1
          have cw2 := (bk_cell PU2.out.bk (HQ2.out.br.fld 0 (by decide))).2
          obtain ⟨w3, hw3⟩ : ∃ W, W = w2.setCell ⟨bb, 4, none⟩ (.slice a2 n2 k2) := ⟨_, rfl⟩
          obtain ⟨cs3, hcs3⟩ : ∃ c, c = cs'.setIfInBounds (4 + 0) (.slice a2 n2 k2) := ⟨_, rfl⟩
          obtain ⟨xs3, hxs3⟩ : ∃ c, c = upd (upd (upd xs 0 xo) 1 xt) 0 (xo ++ [.slice ga (n + 150) gc]) := ⟨_, rfl⟩
          have H3 := (show Hid (Bq w0 w3 bb B S cs3 (upd rv' 0 (.slice a2 n2 k2)) xs3 t deep seen) from by
            show Bq _ _ _ _ _ _ _ _ _ _ _
            have h := BA.out.push (by decide) PU2.out
            rw [X0.out.1, ← hxs3] at h
            rw [hw3, hcs3]; exact h)
          have V3 := (show Hid (∀ (g : Nat) (k : Array Value), wr.heap[g]? = some (.cells k 5 (0, 0)) → w3.heap[g]? = wr.heap[g]?) from by
            intro g k hg
            have e2 : (wr.alloc (.cells #[.slice ga (n + 150) gc] 22)).heap[g]? = some (.cells k 5 (0, 0)) := (((Below.refl wr.heap.size wr).alloc (Nat.le_refl _) _).block g (lt_of_block hg)).trans hg
            rw [hw3]; exact (pu_five BA.out.br (by decide) PU2.out g k e2).trans (e2.trans hg.symm))
          have S3 : Hid (wr.heap.size ≤ w3.heap.size) := by have h1 := PU2.out.gr.size; show _ ≤ _; rw [hw3]; simp [World.setCell] at h1 ⊢; omega
          have X3 : Hid (xs3 = upd (upd (upd xs 0 xo) 1 xt) 0 (xo ++ [.slice ga (n + 150) gc])) := hxs3
          clear hcs3 hxs3 c40
          go_upto_region 10 with fail
          rw [← hw3]
          clear hw3 cw1 cw2
          have CL3 := (show Hid (CL w3 ga (n + 150) gc (L ++ M)) from cl_of_own (own_keep GW.out.own (fun q e => by obtain ⟨c, hc⟩ := own_blk GW.out.own e; exact V3.out q c hc)))
          have HM2 : Hid (∀ u ∈ L ++ M, Bv u) := fun u hu => by
            rcases List.mem_append.1 hu with hu | hu
            · exact HAV.out.2.one u hu
            · exact HM.out u hu
          have HR3 : Hid (upd rv' 0 (.slice a2 n2 k2) 1 = rv' 1) := upd_ne _ _ (by decide)
          have HX3 : Hid (xs3 1 = xt) := by show _ = _; rw [X3.out, upd_ne _ _ (by decide), upd_same]
          have c7o : w3.cell? ⟨bb, 5, none⟩ = some (rv' 1) := by have := (H3.out.br.cell 1 (by decide)).1; rw [HR3.out] at this; exact this
          have BA3 : Hid (Below w3.heap.size w3 (w3.alloc (.cells #[] 5)).drew) := ((Below.refl _ _).alloc (Nat.le_refl _) _).drew
          have c7a : (w3.alloc (.cells #[] 5)).drew.cell? ⟨bb, 5, none⟩ = some (rv' 1) := cell_later BA3.out c7o
          have HE : Hid ((w3.alloc (.cells #[] 5)).drew.heap[w3.heap.size]? = some (.cells #[] 5 (0, 0))) := heap_alloc_new w3 _
          have HC3 : Hid (CL (w3.alloc (.cells #[] 5)).drew ga (n + 150) gc (L ++ M)) := CL3.out.below BA3.out
          have BR3a : Hid (Bq w0 (w3.alloc (.cells #[] 5)).drew bb B S cs3 (upd rv' 0 (.slice a2 n2 k2)) xs3 t deep seen) := H3.out.below BA3.out
          have SW : Hid (w0.heap.size ≤ w3.heap.size) := H3.out.ch.size
          have N15 : Hid (n + 150 ≤ 2000000) := by have := HV.out.2; show _ ≤ _; omega
          first | go_region_law (first | (refine step_copy rfl (.tmp 57) (.tmp 58) rfl w3.heap.size rfl HE.out ga (n + 150) gc (L ++ M) rfl HC3.out (fun u hu => (HM2.out u hu).one) N15.out ?_; intro v4 w4 cp; have CP4 : Hid (Cp (w3.alloc (.cells #[] 5)).drew w4 w3.heap.size (n + 150) (L ++ M) v4) := cp; obtain ⟨a4, k4, hv4⟩ : ∃ a c, v4 = .slice a (n + 150) c := (by rcases cp.own.2 with ⟨q1, q2⟩ | ⟨g, cp', _, q1, _⟩; exact ⟨_, _, q2 ▸ q1⟩; exact ⟨_, _, q1⟩); clear cp; subst hv4; have BR4 : Hid (Bq w0 w4 bb B S cs3 (upd rv' 0 (.slice a2 n2 k2)) xs3 t deep seen) := BR3a.out.copy HE.out SW.out CP4.out; have c7b : w4.cell? ⟨bb, 5, none⟩ = some (rv' 1) := (by have := (BR4.out.br.cell 1 (by decide)).1; rw [HR3.out] at this; exact this); have BR4a : Hid (Bq w0 (w4.alloc (.cells #[.slice a4 (n + 150) k4] 22)) bb B S cs3 (upd rv' 0 (.slice a2 n2 k2)) xs3 t deep seen) := BR4.out.below ((Below.refl _ _).alloc (Nat.le_refl _) _); have c7c : (w4.alloc (.cells #[.slice a4 (n + 150) k4] 22)).cell? ⟨bb, 5, none⟩ = some (rv' 1) := (by have := (BR4a.out.br.cell 1 (by decide)).1; rw [HR3.out] at this; exact this)) | (refine step_bpush rfl (.tmp 56) (.tmp 60) 33 rfl BR4a.out.br 1 (by decide) Tryz.underlying33 HR3.out.symm w4.heap.size (.slice a4 (n + 150) k4) rfl (heap_alloc_new w4 _) rfl (by rw [HX3.out]; have := HL.out.1; have := HB.out.2; have := HDP.out.2.1.1; omega) (by have h1 := CP4.out.gr.size; have := SZ.out.1; have := S3.out; simp [World.drew] at h1 ⊢; omega) ?_; intro v5 w5 pu5; have PU5 : Hid (Pu (w4.alloc (.cells #[.slice a4 (n + 150) k4] 22)) w5 bb B cs3 (upd rv' 0 (.slice a2 n2 k2)) xs3 1 (.slice a4 (n + 150) k4) v5) := pu5; obtain ⟨a5, n5, k5, hv5⟩ := pu5.sl; clear pu5; subst hv5; have c7d := (bk_cell PU5.out.bk (BR4a.out.br.fld 1 (by decide))).1; have z7d := (bk_cell PU5.out.bk (BR4a.out.br.fld 1 (by decide))).2; rw [HR3.out] at c7d) | go_simp) | fail
          all_goals
            obtain ⟨wx, hwx⟩ : ∃ W, W = w5.setCell ⟨bb, 5, none⟩ (.slice a5 n5 k5) := ⟨_, rfl⟩
            obtain ⟨DD, hDD⟩ : ∃ DD, Hid (Bq w0 wx bb B S (cs3.setIfInBounds (4 + 1) (.slice a5 n5 k5)) (upd (upd rv' 0 (.slice a2 n2 k2)) 1 (.slice a5 n5 k5)) (upd (upd xs 0 (xo ++ [.slice ga (n + 150) gc])) 1 (xt ++ [.slice a4 (n + 150) k4])) t deep seen) ∧ Hid (Dk wx DD ∧ PD wx DD (xo ++ [.slice ga (n + 150) gc]) (xt ++ [.slice a4 (n + 150) k4]) ∧ Sb S w0 D DD ∧ Keeps D w wx) ∧ Hid (Aside w wx D DD (xs 4) (k + 1)) ∧ Hid ((xo ++ [Value.slice ga (n + 150) gc]).length = (xs 0).length + (k + 1) ∧ w.heap.size ≤ wx.heap.size) := by
              have B5 := BR4a.out.push (by decide) PU5.out
              have ex : upd xs3 1 (xs3 1 ++ [.slice a4 (n + 150) k4]) = upd (upd xs 0 (xo ++ [.slice ga (n + 150) gc])) 1 (xt ++ [.slice a4 (n + 150) k4]) := by
                rw [HX3.out, X3.out]
                funext j
                by_cases h1 : j = 1
                · subst h1; rw [upd_same, upd_same]
                · rw [upd_ne _ _ h1, upd_ne _ _ h1]
                  by_cases h0 : j = 0
                  · subst h0; rw [upd_same, upd_same]
                  · rw [upd_ne _ _ h0, upd_ne _ _ h1, upd_ne _ _ h0, upd_ne _ _ h0]
              rw [ex] at B5
              have fv : ∀ (g : Nat) (k : Array Value), w4.heap[g]? = some (.cells k 5 (0, 0)) → wx.heap[g]? = w4.heap[g]? := fun g k hg => by
                have e2 : (w4.alloc (.cells #[.slice a4 (n + 150) k4] 22)).heap[g]? = some (.cells k 5 (0, 0)) := (((Below.refl w4.heap.size w4).alloc (Nat.le_refl _) _).block g (lt_of_block hg)).trans hg
                rw [hwx]
                exact (pu_five BR4a.out.br (by decide) PU5.out g k e2).trans (e2.trans hg.symm)
              have N4 := (nl_of CP4.out S3.out (Nat.le_trans S3.out BA3.out.size)).keep fv
              have V4 : ∀ (g : Nat) (k : Array Value), wr.heap[g]? = some (.cells k 5 (0, 0)) → wx.heap[g]? = wr.heap[g]? := fun g k hg => by
                have e1 := (BA3.out.block g (lt_of_block ((V3.out g k hg).trans hg))).trans ((V3.out g k hg).trans hg)
                have e2 : w4.heap[g]? = some (.cells k 5 (0, 0)) := (CP4.out.gr.block g (lt_of_block e1) (fun q => by cases q; have := lt_of_block ((V3.out _ k hg).trans hg); omega)).trans e1
                exact (fv g k e2).trans (e2.trans hg.symm)
              obtain ⟨DD, g1, g2, g3, g4, g5⟩ := grow_step HDP.out.1 HDP.out.2.1 HDP.out.2.2.1 GS.out HQ.out.ch.size HDP.out.2.2.2 HAV.out.2 HA.out HV.out.1 HV.out.2 HL.out.2 GW.out N4 V4 HM2.out
              refine ⟨DD, by rw [hwx]; exact B5, ⟨g1, g2, g3, g4⟩, g5, ?_, ?_⟩
              · have := HL.out.1; simp; omega
              · have h1 := CP4.out.gr.size
                have h2 := PU5.out.gr.size
                have := S3.out
                have := SZ.out.2
                have h3 := BA3.out.size
                show w.heap.size ≤ _
                rw [hwx]
                simp [World.setCell, World.drew] at h1 h2 h3 ⊢
                omega
            obtain ⟨R1, R2, R3, R4⟩ := hDD
            have hwk : IntKind.i64.wrap ((k : Int) + 1) = ((k + 1 : Nat) : Int) := by have := HB.out.2; rw [IntKind.wrap_i64]; omega
            have HK : Hid (k < (xs 4).length) := hlt
            subst hwx
            go_wp2_with fail
            go_roundg ((xs 4).length - (k + 1))
            all_goals first | (have := HK.out; omega) | exact ⟨k + 1, DD, _, _, _, _, rfl, by have := HK.out; omega, R1, R2, R3, R4⟩
    · have hk0 : k = (xs 4).length := by omega
      subst hk0
      have p0 : ¬ (((xs 4).length : Nat) : Int) < ((xs 4).length : Int) := by omega
      have z8 := (HQ.out.br.cell 4 (by decide)).2
      have z11 := (HQ.out.br.cell 7 (by decide)).2
      go_wp2_with fail
      go_end0
      have F : ∀ (g : Nat) (k : Array Value), wr.heap[g]? = some (.cells k 5 (0, 0)) → ((wr.setCell ⟨bb, 8, none⟩ (.slice none 0 0)).setCell ⟨bb, 11, none⟩ (.slice none 0 0)).heap[g]? = wr.heap[g]? := fun g k hg => by
        have hne : g ≠ bb := blk_ne hg HQ.out.br.at_ (by decide)
        rw [Below.heap_setCell _ _ _ _ hne, Below.heap_setCell _ _ _ _ hne]
      refine ⟨rfl, D', _, rv', xo, xt, (HQ.out.nil 4 (by decide)).nil 7 (by decide), dk_five HDP.out.1 F, HDP.out.2.1.keep (keeps_five HDP.out.1 F) (fun _ _ q => q), HDP.out.2.2.1, HDP.out.2.2.2.trans (fun g j q => keeps_five HDP.out.1 F g j (HDP.out.2.2.1.sub g j q)), fun g c hg hne => ?_, HL.out.1⟩
      have h := HA.out g c hg hne
      exact ⟨(F g c (h.1.trans hg)).trans h.1, h.2⟩
def O4 (j : Nat) : Prop := j = 2 ∨ j = 3 ∨ j = 5 ∨ j = 6
theorem O4.lt {j : Nat} (h : O4 j) : j < 8 := by unfold O4 at h; omega
structure Ms (w0 w wx : World) (bb B : Nat) (S : Nat → Prop) (rv0 : Nat → Value) (xs0 : Nat → List Value) (cs : Array Value) (rv : Nat → Value) (xs : Nat → List Value) (t deep seen : Int) : Prop where
 bq : Bq w0 wx bb B S cs rv xs t deep seen
 old : ∀ j, O4 j → wx.ownsRow B (et j) 1 (rv0 j) (xs0 j).length (xs0 j)
 olt : ∀ j, O4 j → ∀ k, (rv0 j).ownBlock = some k → k < w.heap.size ∧ (rv0 0).ownBlock ≠ some k ∧ (rv0 1).ownBlock ≠ some k ∧ k ≠ bb
 nw : ∀ i, i < 8 → ∀ k, (rv i).ownBlock = some k → w.heap.size ≤ k ∨ (i = 0 ∧ (rv0 0).ownBlock = some k) ∨ (i = 1 ∧ (rv0 1).ownBlock = some k)
 sz : w.heap.size ≤ wx.heap.size
section
variable {w0 w wx w' : World} {bb B : Nat} {S : Nat → Prop} {rv0 : Nat → Value} {xs0 : Nat → List Value} {cs : Array Value} {rv : Nat → Value} {xs : Nat → List Value} {t deep seen : Int}
theorem Ms.ne (h : Ms w0 w wx bb B S rv0 xs0 cs rv xs t deep seen) {j : Nat} (hj : O4 j) {k : Nat} (e : (rv0 j).ownBlock = some k) (i : Nat) (hi : i < 8) : (rv i).ownBlock ≠ some k := fun q => by
 obtain ⟨h1, h2, h3, h4⟩ := h.olt j hj k e
 rcases h.nw i hi k q with q | ⟨_, q⟩ | ⟨_, q⟩
 ·
  omega
 ·
  exact h2 q
 ·
  exact h3 q
theorem Ms.below (h : Ms w0 w wx bb B S rv0 xs0 cs rv xs t deep seen) (hb : Below wx.heap.size wx w') : Ms w0 w w' bb B S rv0 xs0 cs rv xs t deep seen :=
 ⟨h.bq.below hb, fun j hj => own_keep (h.old j hj) (fun k e => hb.block k ((h.old j hj).lt k e).2), h.olt, h.nw, Nat.le_trans h.sz hb.size⟩
theorem Ms.push (h : Ms w0 w wx bb B S rv0 xs0 cs rv xs t deep seen) {i : Nat} (hi : i < 8) {x v' : Value} (p : Pu wx w' bb B cs rv xs i x v') : Ms w0 w (w'.setCell ⟨bb, 4 + i, none⟩ v') bb B S rv0 xs0 (cs.setIfInBounds (4 + i) v') (upd rv i v') (upd xs i (xs i ++ [x])) t deep seen := by
 refine ⟨h.bq.push hi p, fun j hj => own_keep (h.old j hj) (fun k e => ?_), h.olt, fun j hj k e => ?_, ?_⟩
 ·
  rw [Below.heap_setCell _ _ _ _ (h.olt j hj k e).2.2.2]
  exact p.gr.block k ((h.old j hj).lt k e).2 (fun q => h.ne hj e i hi q.symm)
 ·
  by_cases q : j = i
  ·
   subst q
   rw [upd_same] at e
   rcases p.wh with q | q
   ·
    rw [q] at e; exact h.nw j hj k e
   ·
    rw [q] at e; cases e; exact .inl h.sz
  ·
   rw [upd_ne _ _ q] at e; exact h.nw j hj k e
 ·
  have := h.sz; have h2 := p.gr.size; simp [World.setCell]; omega
theorem Ms.other (h : Ms w0 w wx bb B S rv0 xs0 cs rv xs t deep seen) (k : Nat) (hk : k < 4 ∨ 12 ≤ k) (v : Value) {t' deep' seen' : Int} (hh : Hd (cs.setIfInBounds k v) t' deep' seen') : Ms w0 w (wx.setCell ⟨bb, k, none⟩ v) bb B S rv0 xs0 (cs.setIfInBounds k v) rv xs t' deep' seen' :=
 ⟨h.bq.other k hk v hh, fun j hj => own_keep (h.old j hj) (fun q e => Below.heap_setCell _ _ _ _ (h.olt j hj q e).2.2.2), h.olt, h.nw, by have := h.sz; simpa [World.setCell] using this⟩
theorem Ms.copy (h : Ms w0 w wx bb B S rv0 xs0 cs rv xs t deep seen) {b n : Nat} {L : List Value} {v' : Value} (hb : wx.heap[b]? = some (.cells #[] 5 (0, 0))) (hn : w0.heap.size ≤ b) (p : Cp wx w' b n L v') : Ms w0 w w' bb B S rv0 xs0 cs rv xs t deep seen :=
 ⟨h.bq.copy hb hn p, fun j hj => own_keep (h.old j hj) (fun k e => p.gr.block _ ((h.old j hj).lt k e).2 (fun q => by cases q; obtain ⟨c, hc⟩ := own_blk (h.old j hj) e; exact blk_ne hb hc (Ne.symm (et_ne j).2) rfl)), h.olt, h.nw, Nat.le_trans h.sz p.gr.size⟩
theorem Ms.wr (h : Ms w0 w wx bb B S rv0 xs0 cs rv xs t deep seen) {g : Nat} {c : Array Value} (hg : wx.heap[g]? = some (.cells c 5 (0, 0))) (hs : S g ∨ w0.heap.size ≤ g) (i : Nat) (v : Value) : Ms w0 w (wx.setCell ⟨g, i, none⟩ v) bb B S rv0 xs0 cs rv xs t deep seen := by
 refine ⟨⟨h.bq.br.keep (Below.heap_setCell _ _ _ _ (Ne.symm (blk_ne hg h.bq.br.at_ (by decide)))) (fun j hj k e => Below.heap_setCell _ _ _ _ (fun q => ?_)), h.bq.hd, Ch.trans (S' := fun k => k = g) h.bq.ch (ch_set g _ _) (fun j hj q => ?_), h.bq.sb, h.bq.ins⟩, fun j hj => own_keep (h.old j hj) (fun k e => Below.heap_setCell _ _ _ _ (fun q => ?_)), h.olt, h.nw, by have := h.sz; simpa [World.setCell] using this⟩
 ·
  subst q; obtain ⟨c2, hc2⟩ := own_blk (h.bq.br.own j hj) e; exact blk_ne hg hc2 (Ne.symm (et_ne j).2) rfl
 ·
  subst q; rcases hs with hs | hs
  ·
   exact hs
  ·
   omega
 ·
  subst q; obtain ⟨c2, hc2⟩ := own_blk (h.old j hj) e; exact blk_ne hg hc2 (Ne.symm (et_ne j).2) rfl
end
theorem Ms.start {w0 w : World} {bb B : Nat} {S : Nat → Prop} {cs : Array Value} {rv : Nat → Value} {xs : Nat → List Value} {t deep seen : Int} (h : Bq w0 w bb B S cs rv xs t deep seen) (h4 : rv 4 = .slice none 0 0) (h7 : rv 7 = .slice none 0 0) :
    ∃ cs', Ms w0 w ((((w.setCell ⟨bb, 6, none⟩ (.slice none 0 0)).setCell ⟨bb, 7, none⟩ (.slice none 0 0)).setCell ⟨bb, 9, none⟩ (.slice none 0 0)).setCell ⟨bb, 10, none⟩ (.slice none 0 0)) bb B S rv xs cs' (upd (upd (upd (upd rv 2 (.slice none 0 0)) 3 (.slice none 0 0)) 5 (.slice none 0 0)) 6 (.slice none 0 0)) (upd (upd (upd (upd xs 2 []) 3 []) 5 []) 6 []) t deep seen := by
  have h1 := (((h.nil 2 (by decide)).nil 3 (by decide)).nil 5 (by decide)).nil 6 (by decide)
  refine ⟨_, h1, fun j hj => own_keep (h.br.own j hj.lt) (fun k e => ?_), fun j hj k e => ⟨((h.br.own j hj.lt).lt k e).2, ?_, ?_, ?_⟩, fun i hi k e => ?_, by simp [World.setCell]⟩
  · have hne : k ≠ bb := fun q => h.br.ne j hj.lt (q ▸ e)
    rw [Below.heap_setCell _ _ _ _ hne, Below.heap_setCell _ _ _ _ hne, Below.heap_setCell _ _ _ _ hne, Below.heap_setCell _ _ _ _ hne]
  · exact fun q => h.br.sep j 0 hj.lt (by decide) (by unfold O4 at hj; omega) k e q
  · exact fun q => h.br.sep j 1 hj.lt (by decide) (by unfold O4 at hj; omega) k e q
  · exact fun q => h.br.ne j hj.lt (q ▸ e)
  · by_cases e6 : i = 6
    · subst e6; rw [upd_same] at e; cases e
    rw [upd_ne _ _ e6] at e
    by_cases e5 : i = 5
    · subst e5; rw [upd_same] at e; cases e
    rw [upd_ne _ _ e5] at e
    by_cases e3 : i = 3
    · subst e3; rw [upd_same] at e; cases e
    rw [upd_ne _ _ e3] at e
    by_cases e2 : i = 2
    · subst e2; rw [upd_same] at e; cases e
    rw [upd_ne _ _ e2] at e
    by_cases e4 : i = 4
    · subst e4; rw [h4] at e; cases e
    by_cases e7 : i = 7
    · subst e7; rw [h7] at e; cases e
    by_cases e0 : i = 0
    · subst e0; exact .inr (.inl ⟨rfl, e⟩)
    have e1 : i = 1 := by omega
    subst e1; exact .inr (.inr ⟨rfl, e⟩)
def NB (v u : Value) : Prop := ∀ k, v.ownBlock = some k → u.ownBlock ≠ some k
theorem NB.symm {v u : Value} (h : NB v u) : NB u v := fun k e q => h k q e
def PS (l : List Value) : Prop := l.Pairwise NB
theorem sep_of_ps {l : List Value} (h : PS l) : Sep l := by
 intro i j v u hij hi hj k e
 obtain ⟨h1, e1⟩ := List.getElem?_eq_some_iff.1 hi
 obtain ⟨h2, e2⟩ := List.getElem?_eq_some_iff.1 hj
 rcases Nat.lt_or_gt_of_ne hij with q | q
 ·
  have := List.pairwise_iff_getElem.1 h i j h1 h2 q
  rw [e1, e2] at this
  exact this k e
 ·
  have := List.pairwise_iff_getElem.1 h j i h2 h1 q
  rw [e1, e2] at this
  exact this.symm k e
abbrev Five (w w' : World) : Prop := ∀ (g : Nat) (k : Array Value), w.heap[g]? = some (.cells k 5 (0, 0)) → w'.heap[g]? = w.heap[g]?
structure Mi (w0 wx : World) (B : Nat) (S : Nat → Prop) (D : Nat → Nat → Prop) (xw0 xn0 : List Value) (k : Nat) (xo xt xw xn xf : List Value) : Prop where
 dk : Dk wx D
 pd : PD wx D xo xt
 ps : PS (xw ++ (xf ++ xw0.drop k))
 wl : xw.length = xn.length
 wt : ∀ (i : Nat) (v vn : Value), xw[i]? = some v → xn[i]? = some vn → Wt wx B D v vn
 rt : ∀ (i : Nat) (v vn : Value), k ≤ i → xw0[i]? = some v → xn0[i]? = some vn → Wt wx B D v vn
 fr : ∀ (i : Nat) (v : Value), xf[i]? = some v → ∃ n L, Ol wx B D v n n L ∧ n ≤ 1900000
 dS : ∀ g j, D g j → S g ∨ w0.heap.size ≤ g
 ins : ∀ v, v ∈ xw0 ∨ v ∈ xw ∨ v ∈ xf → ∀ g, v.ownBlock = some g → S g ∨ w0.heap.size ≤ g
theorem Wt.five {w w' : World} {B : Nat} {D : Nat → Nat → Prop} {v vn : Value} (h : Wt w B D v vn) (hd : Dk w D) (hf : Five w w') : Wt w' B D v vn := by
 obtain ⟨n, L, b, c, h1, ho, _⟩ := h.ex
 exact h.keep (fun k e => by obtain ⟨cc, hc⟩ := own_blk ho e; exact hf k cc hc) (keeps_five hd hf) (fun _ _ q => q) (fun _ _ _ q => q)
theorem Mi.five {w0 wx w' : World} {B : Nat} {S : Nat → Prop} {D : Nat → Nat → Prop} {xw0 xn0 : List Value} {k : Nat} {xo xt xw xn xf : List Value} (h : Mi w0 wx B S D xw0 xn0 k xo xt xw xn xf) (hf : Five wx w') : Mi w0 w' B S D xw0 xn0 k xo xt xw xn xf :=
 ⟨dk_five h.dk hf, h.pd.keep (keeps_five h.dk hf) (fun _ _ q => q), h.ps, h.wl, fun i v vn e1 e2 => (h.wt i v vn e1 e2).five h.dk hf, fun i v vn hi e1 e2 => (h.rt i v vn hi e1 e2).five h.dk hf, fun i v e => by
  obtain ⟨n, L, ho, hn⟩ := h.fr i v e
  exact ⟨n, L, ho.keep (fun k e => by obtain ⟨cc, hc⟩ := own_blk ho.own e; exact hf k cc hc) (fun _ _ _ q => q), hn⟩, h.dS, h.ins⟩
theorem drop_at {l : List Value} {k : Nat} {v : Value} (h : l[k]? = some v) : l.drop k = v :: l.drop (k + 1) := by
 obtain ⟨h1, h2⟩ := List.getElem?_eq_some_iff.1 h
 rw [← h2]
 exact List.drop_eq_getElem_cons h1
theorem Mi.wait {w0 wx : World} {B : Nat} {S : Nat → Prop} {D : Nat → Nat → Prop} {xw0 xn0 : List Value} {k : Nat} {xo xt xw xn xf : List Value} {v vn : Value} (h : Mi w0 wx B S D xw0 xn0 k xo xt xw xn xf) (hv : xw0[k]? = some v) (hvn : xn0[k]? = some vn) : Mi w0 wx B S D xw0 xn0 (k + 1) xo xt (xw ++ [v]) (xn ++ [vn]) xf := by
 refine ⟨h.dk, h.pd, ?_, by simp [h.wl], fun i u un e1 e2 => ?_, fun i u un hi => h.rt i u un (by omega), h.fr, h.dS, fun u hu => ?_⟩
 ·
  have hp := h.ps
  rw [drop_at hv] at hp
  have e : (xw ++ [v]) ++ (xf ++ xw0.drop (k + 1)) = xw ++ (v :: (xf ++ xw0.drop (k + 1))) := by simp
  show List.Pairwise NB _
  rw [e]
  exact (List.Perm.pairwise_iff (fun h => NB.symm h) (List.Perm.append_left xw List.perm_middle)).1 hp
 ·
  by_cases q : i < xw.length
  ·
   rw [List.getElem?_append_left q] at e1
   rw [List.getElem?_append_left (by rw [← h.wl]; exact q)] at e2
   exact h.wt i u un e1 e2
  ·
   have hi : i = xw.length := by have := (List.getElem?_eq_some_iff.1 e1).1; simp at this; omega
   subst hi
   rw [List.getElem?_append_right (Nat.le_refl _)] at e1
   rw [List.getElem?_append_right (by rw [h.wl]; exact Nat.le_refl _)] at e2
   simp [h.wl] at e1 e2
   subst e1 e2
   exact h.rt k v vn (Nat.le_refl _) hv hvn
 ·
  refine h.ins u ?_
  rcases hu with q | q | q
  ·
   exact .inl q
  ·
   rcases List.mem_append.1 q with q | q
   ·
    exact .inr (.inl q)
   ·
    simp at q; subst q; exact .inl (List.mem_of_getElem? hv)
  ·
   exact .inr (.inr q)
theorem Mi.fresh {w0 wx wy wz : World} {B n vc k4 : Nat} {S : Nat → Prop} {D : Nat → Nat → Prop} {xw0 xn0 : List Value} {k : Nat} {xo xt xw xn xf L2 : List Value} {va a4 : Option Addr} {vn : Value} (h : Mi w0 wx B S D xw0 xn0 k xo xt xw xn xf) (hv : xw0[k]? = some (.slice va n vc)) (hvn : xn0[k]? = some vn) (hl : xw0.length = xn0.length) (own2 : wy.ownsRow B 5 1 (.slice va n vc) n L2) (hb : ∀ u ∈ L2, Bv u) (hn : n ≤ 1900000) (ch : Ch (fun q => (Value.slice va n vc).ownBlock = some q) wx wy) (n4 : Nl wy wz a4 n k4 L2) (v4 : Five wy wz) (hw0 : w0.heap.size ≤ wy.heap.size) :
    ∃ D', Mi w0 wz B S D' xw0 xn0 (k + 1) (xo ++ [.slice va n vc]) (xt ++ [.slice a4 n k4]) xw xn (xf ++ [.slice va n vc]) ∧ ∀ g j, D g j → D' g j := by
  have W := h.rt k _ _ (Nat.le_refl _) hv hvn
  have K1 : Keeps D wx wy := fun g j q => by
    obtain ⟨c, hc⟩ := h.dk.typ g j q
    unfold World.cell?
    rw [show (⟨g, j, none⟩ : Addr).block = g from rfl, ch.block g (lt_of_block hc) (fun e => W.off g e j q)]
  have T1 : Dk wy D := ⟨fun g j q => by
    obtain ⟨c, hc⟩ := h.dk.typ g j q
    exact ⟨c, (ch.block g (lt_of_block hc) (fun e => W.off g e j q)).trans hc⟩⟩
  have K2 : Keeps D wy wz := keeps_five T1 v4
  have T2 : Dk wz D := dk_five T1 v4
  have O2 : wz.ownsRow B 5 1 (.slice va n vc) n L2 := own_keep own2 (fun q e => by obtain ⟨c, hc⟩ := own_blk own2 e; exact v4 q c hc)
  have hp := h.ps
  rw [drop_at hv] at hp
  obtain ⟨_, p2, p3⟩ := List.pairwise_append.1 hp
  obtain ⟨_, p4, p5⟩ := List.pairwise_append.1 p2
  obtain ⟨p6, _⟩ := List.pairwise_cons.1 p4
  -- what lies in another block stays
  have stay : ∀ (u : Value) (m : Nat) (L : List Value), wx.ownsRow B 5 1 u m L → NB u (.slice va n vc) → ∀ q, u.ownBlock = some q → wz.heap[q]? = wx.heap[q]? ∧ q < wy.heap.size := fun u m L ho hnb q e => by
    obtain ⟨c, hc⟩ := own_blk ho e
    have e1 := ch.block q (lt_of_block hc) (hnb q e)
    exact ⟨(v4 q c (e1.trans hc)).trans e1, lt_of_block (e1.trans hc)⟩
  have hD : ∀ (u : Value) (m : Nat) (L : List Value), wx.ownsRow B 5 1 u m L → NB u (.slice va n vc) → ∀ g, u.ownBlock = some g → ∀ j, (D g j ∨ ((Value.slice va n vc).ownBlock = some g ∧ j < n) ∨ ∃ off, a4 = some ⟨g, off, none⟩) → D g j := fun u m L ho hnb g e j q => by
    rcases q with q | ⟨q, _⟩ | ⟨off, q⟩
    · exact q
    · exact absurd q (hnb g e)
    · have h1 := (n4.new g off q).1
      have := (stay u m L ho hnb g e).2
      omega
  refine ⟨fun g j => D g j ∨ ((Value.slice va n vc).ownBlock = some g ∧ j < n) ∨ ∃ off, a4 = some ⟨g, off, none⟩, ⟨⟨?_⟩, ?_, ?_, h.wl, fun i u un e1 e2 => ?_, fun i u un hi e1 e2 => ?_, fun i u e => ?_, ?_, fun u hu => ?_⟩, fun g j q => .inl q⟩
  · rintro g j (q | ⟨q, _⟩ | ⟨off, q⟩)
    · exact T2.typ g j q
    · exact own_blk O2 q
    · exact (n4.new g off q).2
  · exact (h.pd.keep (K1.trans K2) (fun g j q => Or.inl q)).snoc (by omega) (cl_of_own O2) n4.cl (ind_own O2 (fun g e j hj => .inr (.inl ⟨e, hj⟩))) (fun g off e j hj => .inr (.inr ⟨off, e⟩)) hb
  · show List.Pairwise NB _
    have e : xw ++ (xf ++ [.slice va n vc] ++ xw0.drop (k + 1)) = xw ++ (xf ++ .slice va n vc :: xw0.drop (k + 1)) := by simp
    rw [e]; exact hp
  · have hw := h.wt i u un e1 e2
    obtain ⟨m, L, b, c, h1, ho, _⟩ := hw.ex
    have hnb : NB u (.slice va n vc) := p3 u (List.mem_of_getElem? e1) _ (List.mem_append.2 (.inr (List.mem_cons.2 (.inl rfl))))
    exact hw.keep (fun q e => (stay u m L ho hnb q e).1) (K1.trans K2) (fun g j q => .inl q) (fun g e j q => hD u m L ho hnb g e j q)
  · have hw := h.rt i u un (by omega) e1 e2
    obtain ⟨m, L, b, c, h1, ho, _⟩ := hw.ex
    have hnb : NB u (.slice va n vc) := (p6 u (by
      refine List.mem_of_getElem? (i := i - (k + 1)) ?_
      rw [List.getElem?_drop, show k + 1 + (i - (k + 1)) = i by omega]; exact e1)).symm
    exact hw.keep (fun q e => (stay u m L ho hnb q e).1) (K1.trans K2) (fun g j q => .inl q) (fun g e j q => hD u m L ho hnb g e j q)
  · by_cases q : i < xf.length
    · rw [List.getElem?_append_left q] at e
      obtain ⟨m, L, ho, hm⟩ := h.fr i u e
      have hnb : NB u (.slice va n vc) := p5 u (List.mem_of_getElem? e) _ (List.mem_cons.2 (.inl rfl))
      exact ⟨m, L, ho.keep (fun q e => (stay u m L ho.own hnb q e).1) (fun g e j q => hD u m L ho.own hnb g e j q), hm⟩
    · have hi : i = xf.length := by have := (List.getElem?_eq_some_iff.1 e).1; simp at this; omega
      subst hi
      simp at e
      subst e
      refine ⟨n, L2, ⟨O2, ?_, hb, by omega⟩, hn⟩
      rintro g e j (q | ⟨_, q⟩ | ⟨off, q⟩)
      · exact absurd q (W.off g e j)
      · exact q
      · have h1 := (n4.new g off q).1
        obtain ⟨c, hc⟩ := own_blk own2 e
        have := lt_of_block hc
        omega
  · rintro g j (q | ⟨q, _⟩ | ⟨off, q⟩)
    · exact h.dS g j q
    · exact h.ins _ (.inl (List.mem_of_getElem? hv)) g q
    · have := (n4.new g off q).1
      exact .inr (by omega)
  · refine h.ins u ?_
    rcases hu with q | q | q
    · exact .inl q
    · exact .inr (.inl q)
    · rcases List.mem_append.1 q with q | q
      · exact .inr (.inr q)
      · simp at q; subst q; exact .inl (List.mem_of_getElem? hv)
end Go.Proofs.YtphofgnehdlafaaGreatDoor.Bk
