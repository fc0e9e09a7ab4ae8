import Derived.Test.YtmihpmmkkklpfaaGreatDoorBOb
import Derived.Test.YtmihpmmkkklpfaaGreatDoorBNk
namespace Go.Proofs.YtmihpmmkkklpfaaGreatDoor
open Go Go.RowKit Go.Shelf Go.Maps Go.Sort
set_option linter.unusedSimpArgs false
set_option linter.unusedVariables false
theorem below_drewN {n m : Nat} {a b : World} (h : Below n a b) : Below n a (b.drewN m) := ⟨h.os, h.tape, h.output, h.size, h.block⟩
theorem ch_drewN (S : Nat → Prop) (w : World) (m : Nat) : Ch S w (w.drewN m) := Below.ch (below_drewN (Below.refl _ _))
/-! ### What waits, told -/
theorem mrow_at (L : List Ms) (i : Nat) (hi : i < L.length) (c : Nat) (hc : c < 4) : (mrow L)[i * 4 + c]? = L[i].cs[c]? := by
  induction L generalizing i with
  | nil => simp at hi
  | cons x L ih =>
    have e : mrow (x :: L) = .string x.t :: x.v :: .int .i64 x.q :: .bool x.r :: mrow L := rfl
    cases i with
    | zero =>
      rw [e]
      match c, hc with
      | 0, _ => rfl
      | 1, _ => rfl
      | 2, _ => rfl
      | 3, _ => rfl
    | succ i =>
      have h := ih i (by simpa using hi)
      rw [e, show (i + 1) * 4 + c = (i * 4 + c) + 1 + 1 + 1 + 1 by omega]
      simp only [List.getElem?_cons_succ, List.getElem_cons_succ]
      exact h
theorem mrow_snoc (L : List Ms) (m : Ms) : mrow (L ++ [m]) = mrow L ++ m.cs.toList := by simp [mrow]
theorem mrow_len (L : List Ms) : (mrow L).length = L.length * 4 := by
  induction L with
  | nil => rfl
  | cons x L ih =>
    have e : mrow (x :: L) = .string x.t :: x.v :: .int .i64 x.q :: .bool x.r :: mrow L := rfl
    rw [e]
    simp [ih]
    omega
/-- A row of messages: where each one lies. -/
theorem mrow_cell {w : World} {B k : Nat} {v : Value} {L : List Ms} (h : w.ownsRow B 45 4 v k (mrow L)) {j : Nat} (hj : j < k) : ∃ g c, v = .slice (some ⟨g, 0, none⟩) k c ∧ k ≤ c ∧ B ≤ g ∧ ∃ cur, w.heap[g]? = some (.cells cur 45 (0, 0)) ∧ ∀ i, i < k → ∀ (hl : i < L.length) (x : Nat), x < 4 → cur[i * 4 + x]? = L[i].cs[x]? := by
  rcases h.2 with ⟨_, h2⟩ | ⟨g, cap, cur, h1, h2, h3, h4, h5, h6, h7⟩
  · omega
  · refine ⟨g, cap, h1, h4, h2, cur, h3, fun i hi hl x hx => ?_⟩
    rw [← mrow_at L i hl x hx, ← h7]
    have : i * 4 + x < k * 4 := by omega
    simp [List.getElem?_take, this]
def MsOut (w w' : World) (L : List Ms) (v : Value) : Prop := ∃ L', w'.ownsRow w.heap.size 45 4 v L.length (mrow L') ∧ L'.map Ms.p = L.map Ms.p ∧ (∀ o ∈ L', PB w' o.v o.xs) ∧ Below w.heap.size w w'
structure Ti (w wx : World) (L : List Ms) (s3 : Value) (j : Nat) (L' : List Ms) : Prop where
  own : wx.ownsRow w.heap.size 45 4 s3 j (mrow L')
  is : L'.map Ms.p = (L.take j).map Ms.p
  pay : ∀ o ∈ L', PB wx o.v o.xs
  bel : Below w.heap.size w wx
theorem Ti.arm {w wr w1 : World} {L : List Ms} {lv : Value} {j : Nat} {L' : List Ms} (h : Ti w wr L lv j L') (hj : j < L.length) (hl : j ≤ 1000000) {f : Ms} (hf : f = L[j]) (hb : Below wr.heap.size wr w1) {pv : Value} (hp : PB w1 pv f.xs) :
    ∃ g' cap' w2, (Builtin.append_ #[29, 29] 29 #[lv, .slice (some ⟨w1.heap.size, 0, none⟩) 1 1]).run Tryz.prog (w1.alloc (.cells #[.string f.t, pv, .int .i64 f.q, .bool f.r] 45)) = .ok (.slice (some ⟨g', 0, none⟩) (j + 1) cap') w2 ∧ ∃ L'', Ti w w2 L (.slice (some ⟨g', 0, none⟩) (j + 1) cap') (j + 1) L'' := by
  have ho := own0 (own_below h.own hb)
  obtain ⟨a1, n1, c1, hpv⟩ := hp.sl
  obtain ⟨g', cap', w2, hr, ho2, hc2, hg2⟩ := app_gen (st := 29) (e := 45) (cs := #[.string f.t, pv, .int .i64 f.q, .bool f.r]) Tryz.underlying29 info30 rfl (by omega) (by omega) ho rfl (by rw [hpv]; simp [Value.oneCell']) hl
  have hown1 : w1.ownsRow w.heap.size 45 4 lv j (mrow L') := own_below h.own hb
  have hsz : w.heap.size ≤ w1.heap.size := Nat.le_trans h.bel.size hb.size
  have h3 : ∀ k, lv.ownBlock = some k → w.heap.size ≤ k ∧ ∃ cur, w1.heap[k]? = some (.cells cur 45 (0, 0)) := fun k hk => by
    refine ⟨?_, own_lt hown1 hk⟩
    rcases hown1.2 with ⟨rfl, _⟩ | ⟨g, cap, cur, rfl, q, _⟩
    · simp [Value.ownBlock] at hk
    · simp [Value.ownBlock] at hk
      omega
  have hkb : Kb w1 w2 := Kb.ch hc2 (fun k hk cs fz q => by obtain ⟨cur, e⟩ := (h3 k hk).2; rw [e] at q; simp at q)
  refine ⟨g', cap', w2, hr, L' ++ [⟨f.t, pv, f.q, f.r, f.xs⟩], ⟨?_, ?_, ?_, ?_⟩⟩
  · rw [mrow_snoc]
    refine ⟨ho2.1, ?_⟩
    rcases ho2.2 with q | ⟨g, cap, cur, e, q1, q2⟩
    · exact .inl q
    · refine .inr ⟨g, cap, cur, e, ?_, q2⟩
      simp only [Value.slice.injEq, Option.some.injEq, Addr.mk.injEq] at e
      obtain ⟨⟨rfl, -⟩, -⟩ := e
      rcases hg2 with q | q
      · exact (h3 _ q).1
      · omega
  · rw [List.map_append, h.is, List.take_succ_eq_append_getElem hj, List.map_append, ← hf]
    rfl
  · intro o ho'
    rcases List.mem_append.1 ho' with q | q
    · exact ((h.pay o q).keep (Kb.below hb)).keep hkb
    · simp only [List.mem_singleton] at q
      subst q
      exact hp.keep hkb
  · have hb1 : Below w.heap.size w w1 := h.bel.trans (hb.mono h.bel.size)
    exact ⟨hc2.os.trans hb1.os, hc2.tape.trans hb1.tape, hc2.output.trans hb1.output, Nat.le_trans hb1.size hc2.size, fun k hk => (hc2.block k (by omega) (fun q => by have := (h3 k q).1; omega)).trans (hb1.block k hk)⟩
set_option maxRecDepth 100000 in
set_option maxHeartbeats 4000000 in
theorem told_any {w : World} {wb gone : Nat} {lv : Value} {Z L : List Ms} (c6 : w.cell? ⟨wb, 6, none⟩ = some lv) (c7 : w.cell? ⟨wb, 7, none⟩ = some (.int .i64 gone)) (ho : w.ownsRow 0 45 4 lv (gone + L.length) (mrow (Z ++ L))) (hz : Z.length = gone) (hk : gone + L.length ≤ 1000000) (hp : ∀ m ∈ L, PB w m.v m.xs) :
    Calls Tryz.prog 60 #[.pointer (some ⟨wb, 6, none⟩)] w fun e w' => ∃ v, e = .returned v ∧ MsOut w w' L v := by
  obtain ⟨i0, hi, hz0, hz1, hz2⟩ := info_parts info30
  obtain ⟨n, hn⟩ : ∃ n, n = L.length := ⟨_, rfl⟩
  rw [← hn] at ho hk
  have hwl : wb < w.heap.size := World.block_lt_of_cell? _ _ c6
  obtain ⟨la, lc, hlv⟩ := own_sl ho
  have HLEN := hidi (length_any (w := w) (wb := wb) (k := gone + n) (gone := gone) (lc := lc) (la := la) (by rw [← hlv]; exact c6) c7 hk (by omega))
  have e1 : gone + n - gone = n := by omega
  rw [e1] at HLEN
  have HMK := hidi (fun W : World => run_make_own W W.heap.size 29 45 i0 _ 4 Tryz.underlying29 hi hz0 hz1 .i64 .i64 n (by rw [hz2]; omega) (by unfold maxLen; omega) (Nat.le_refl _))
  obtain ⟨ad, cp, hcp, hsl, had⟩ : ∃ (ad : Option Addr) (cp : Nat), cp = lc - gone ∧ (∀ W : World, (Instr.slice 29 (.slice la (gone + n) lc) (some (.int .i64 gone)) none none).run Tryz.prog W = .ok (.slice ad n cp) W) ∧ (0 < n → ∃ g, ad = some ⟨g, gone * 4, none⟩ ∧ g < w.heap.size ∧ ∀ j (hj : j < L.length) x, x < 4 → w.cell? ⟨g, gone * 4 + j * 4 + x, none⟩ = L[j].cs[x]?) := by
    have hcap : gone + n ≤ lc ∨ (la = none ∧ gone + n = 0 ∧ lc = 0) := by
      rcases ho.2 with ⟨h1, h2⟩ | ⟨g, cap, cur, h1, h2, h3, h4, _⟩
      · rw [h1] at hlv
        simp at hlv
        exact .inr ⟨hlv.1.symm, h2, hlv.2.2.symm⟩
      · rw [h1] at hlv
        simp at hlv
        exact .inl (by omega)
    refine ⟨if lc = gone then la else la.map (·.add (gone * 4)), lc - gone, rfl, fun W => ?_, fun hn0 => ?_⟩
    · rw [run_slice_l W 29 la (gone + n) lc Tryz.underlying29 .i64 (gone : Int) (by omega) (by omega)]
      simp [go_sem, sliced, show Tryz.prog.elem 39 = 30 from by kernel_rfl]
    · obtain ⟨g, c, h1, h2, h3, cur, h4, h5⟩ := mrow_cell ho (j := 0) (by omega)
      rw [hlv] at h1
      simp only [Value.slice.injEq] at h1
      obtain ⟨rfl, -, rfl⟩ := h1
      have hne : ¬ lc = gone := by omega
      refine ⟨g, by rw [if_neg hne]; simp [addr_at], (Array.getElem?_eq_some_iff.1 h4).1, fun j hj x hx => ?_⟩
      have := h5 (gone + j) (by omega) (by simp; omega) x hx
      have e2 : (Z ++ L)[gone + j]'(by simp; omega) = L[j] := by
        rw [List.getElem_append_right (by omega)]
        simp [hz]
      rw [e2] at this
      rw [← this, show gone * 4 + j * 4 + x = (gone + j) * 4 + x by omega]
      simp [World.cell?, h4]
  have HAD := hidi had
  have HP := hidi hp
  have HN := hidi hn
  have HKL := hidi hk
  rw [hlv] at c6
  clear ho hz hp hk hn had hlv hcp hi hz0 hz1 hz2 e1
  go_enter Tryz.func60, Tryz.ntmps60
  go_wp2_with fail
  go_must (go_at_call 74)
  refine HLEN.out.mono ?_
  rintro e w1 ⟨rfl, m1, rfl⟩
  obtain ⟨wm, hmk, hmo, hmg⟩ := HMK.out (w.drewN m1)
  have hb0 : Below w.heap.size w (w.drewN m1) := below_drewN (Below.refl _ _)
  have hbm : Below w.heap.size w wm := hb0.trans ⟨hmg.os, hmg.tape, hmg.output, hmg.size, fun k hk => hmg.block k (by simpa using hk) (fun q => by cases q)⟩
  have d6 := (hbm.cell (p := ⟨wb, 6, none⟩) hwl).trans c6
  have d7 := (hbm.cell (p := ⟨wb, 7, none⟩) hwl).trans c7
  have T0 := hidi (show Ti w wm L (.slice (some ⟨w.heap.size, 0, none⟩) 0 n) 0 [] from ⟨by have h := hmo; simp only [World.heap_drewN] at h; exact h, by simp, by simp, hbm⟩)
  have hmk' : (Instr.makeSlice 29 (.int .i64 0) (.int .i64 (n : Int))).run Tryz.prog (w.drewN m1) = .ok (.slice (some ⟨w.heap.size, 0, none⟩) 0 n) wm := by simpa using hmk
  clear hmo hmg hbm hb0 hmk HMK HLEN
  go_wp2_with fail
  go_quiet (fail)
  obtain ⟨wl, hwl2⟩ : ∃ wl, wl = wm.drewN nq := ⟨_, rfl⟩
  rw [← hwl2]
  have T1 := hidi (show Ti w wl L (.slice (some ⟨w.heap.size, 0, none⟩) 0 n) 0 [] from by
    have h := T0.out
    rw [hwl2]
    exact ⟨own_below h.own (below_drewN (Below.refl _ _)), h.is, fun o ho => by simp at ho, below_drewN h.bel⟩)
  clear hwl2 T0 d6 d7 hmk' c6 c7 hsl
  go_wp2_with fail
  go_loopg [3, 19] n (fun gk s3 s19 wx => ∃ (j : Nat) (L' : List Ms) (lv : Value), j + gk = n ∧ s19 = .int .i64 j ∧ lv = s3 ∧ Hid (Ti w wx L lv j L'))
  case atStart => exact ⟨0, [], _, by omega, rfl, rfl, T1.out⟩
  case round =>
    obtain ⟨j, L', lv, hj, rfl, rfl, HI⟩ := hrel
    by_cases hjn : j < n
    · have hlt : (j : Int) < (n : Int) := by omega
      have hge : (0 : Int) ≤ (j : Int) := by omega
      have hjf : j < L.length := by rw [← HN.out]; exact hjn
      have hw1 : IntKind.i64.wrap ((j : Int) + 1) = (j : Int) + 1 := by rw [IntKind.wrap_i64]; have := HKL.out; omega
      obtain ⟨g, rfl, hg, hcell⟩ := HAD.out (by omega)
      have hpy : PB wr L[j].v L[j].xs := (HP.out _ (List.getElem_mem hjf)).keep (Kb.below HI.out.bel)
      obtain ⟨f, hf⟩ : ∃ f, f = L[j] := ⟨_, rfl⟩
      have hcl : ∀ x, x < 4 → wr.cell? ⟨g, gone * 4 + j * 4 + x, none⟩ = f.cs[x]? := fun x hx => by
        rw [hf]
        exact (HI.out.bel.cell (p := ⟨g, gone * 4 + j * 4 + x, none⟩) hg).trans (hcell j hjf x hx)
      have ARM := hidi (fun (w1 : World) (pv : Value) (hb : Below wr.heap.size wr w1) (hp : PB w1 pv f.xs) => HI.out.arm (w1 := w1) (pv := pv) hjf (show j ≤ 1000000 by have := HKL.out; omega) hf hb hp)
      rw [← hf] at hpy
      obtain ⟨t, pv, q, r, xs⟩ := f
      obtain ⟨pa, pn, pc, rfl⟩ := hpy.sl
      have k0 : wr.cell? ⟨g, gone * 4 + j * 4, none⟩ = some (.string t) := hcl 0 (by omega)
      have k1 : wr.cell? ⟨g, gone * 4 + j * 4 + 1, none⟩ = some (.slice pa pn pc) := hcl 1 (by omega)
      have k2 : wr.cell? ⟨g, gone * 4 + j * 4 + 2, none⟩ = some (.int .i64 q) := hcl 2 (by omega)
      have k3 : wr.cell? ⟨g, gone * 4 + j * 4 + 3, none⟩ = some (.bool r) := hcl 3 (by omega)
      have HPY := hidi hpy
      clear hcl hpy hf hcell hg hjf
      go_wp2_with fail
      go_must (go_at_call 73)
      have B0 : Below wr.heap.size wr (wr.alloc (.cells #[.string t, .slice pa pn pc, .int .i64 q, .bool r] 45)) := (Below.refl _ _).alloc (Nat.le_refl _) _
      refine (apart_any t q r (HPY.out.keep (Kb.below B0))).mono ?_
      rintro e w2 ⟨v1, rfl, hp, hb⟩
      obtain ⟨a1, n1, c1, rfl⟩ := hp.sl
      obtain ⟨g', cap', w3, hr, hst⟩ := ARM.out w2 _ (B0.trans (hb.mono B0.size)) hp
      have HR := hidi hr
      have ST := hidi hst
      clear hr hst hp hb B0 k0 k1 k2 k3 ARM HPY
      unfold mg
      go_wp2_with (at_builtin; refine Lib.wpList_append_run _ rfl (.tmp 23) (.tmp 26) 29 29 rfl _ _ rfl rfl _ _ HR.out ?_)
      go_roundg (n - (j + 1))
      case measure => omega
      case rel =>
        obtain ⟨L', hF⟩ := ST.out
        exact ⟨j + 1, L', _, by omega, by first | rfl | simp, rfl, hF⟩
    · have hlt : ¬ (j : Int) < (n : Int) := by omega
      have hjn' : j = L.length := by rw [← HN.out]; omega
      subst hjn'
      go_wp2_with fail
      go_ret
      exact ⟨lv, rfl, L', HI.out.own, by simpa using HI.out.is, HI.out.pay, HI.out.bel⟩
end Go.Proofs.YtmihpmmkkklpfaaGreatDoor
namespace Go.Proofs.YtmihpmmkkklpfaaGreatDoor
open Go Go.RowKit Go.Shelf Go.Maps Go.Sort
set_option linter.unusedSimpArgs false
set_option linter.unusedVariables false
/-! ### A window in memory -/
structure WI where
  most : Nat
  queue : Nat
  on : Bool
  last : Nat
  la : Nat
  fs : List Fm
  mu : Value
  lv : Value
  Z : List Ms
  L : List Ms
  mt : Value
  R : List Nat
  N : Nat
def WI.cs (i : WI) : Array Value := #[.int .i64 i.most, .int .i64 i.queue, .bool i.on, .int .i64 i.last, .int .i64 i.la, i.mu, i.lv, .int .i64 i.Z.length, i.mt, .int .i64 i.R.length]
def WI.ids (i : WI) : List Nat := i.fs.map (·.id)
def WI.T (i : WI) (j : Nat) : Bool := decide (j ∈ i.ids) || decide (j ∈ i.R)
/-- A message that is forgotten. -/
def Ms.zero (m : Ms) : Prop := m.t = ⟨#[]⟩ ∧ m.q = 0 ∧ m.r = false ∧ m.xs = []
def Sn (q : Int) : Prop := q = 1 ∨ q = 2
structure WS (w : World) (wb : Nat) (i : WI) (c : Nat) : Prop where
  blk : w.heap[wb]? = some (.cells i.cs 101 (0, 0))
  und : MI w i.mu i.fs.length (fun k => (lookF i.fs k).map pt)
  fls : ∀ f ∈ i.fs, FB w f
  tkn : NT w i.mt i.T i.N
  row : w.ownsRow 0 45 4 i.lv (i.Z.length + i.L.length) (mrow (i.Z ++ i.L))
  pay : ∀ m ∈ i.L, PB w m.v m.xs
  half : i.Z.length < i.L.length ∨ i.Z = []
  apt : ∀ j, i.mu = .map (some j) → i.mt ≠ .map (some j)
  nd : (i.ids ++ i.R).Nodup
  rng : ∀ j ∈ i.ids ++ i.R, 1 ≤ j ∧ j ≤ 65535
  srt : i.fs.Pairwise (fun a b => a.tn < b.tn)
  tns : ∀ f ∈ i.fs, f.tn < i.la
  snf : ∀ f ∈ i.fs, (f.rel = true → f.m.zero) ∧ (f.rel = false → Sn f.m.q)
  snl : ∀ m ∈ i.L, Sn m.q
  bm : 1 ≤ i.most ∧ i.most ≤ 65535
  bq : i.queue ≤ 65536
  bf : i.fs.length ≤ i.most
  bl : i.L.length ≤ i.queue
  br : i.R.length ≤ 65535 - i.most
  bs : i.last ≤ 65535
  bc : i.la + i.L.length ≤ c ∧ i.N + i.L.length ≤ c
/-- Its blocks. -/
def WI.U (i : WI) (wb j : Nat) : Prop := j = wb ∨ i.mu = .map (some j) ∨ i.mt = .map (some j) ∨ i.lv.ownBlock = some j ∨ ∃ f ∈ i.fs, f.b = j
/-- A block that no window has. -/
def Other (o : Obj) : Prop := ∃ cs t fz, o = .cells cs t fz ∧ t ≠ 101 ∧ t ≠ 119 ∧ t ≠ 45
theorem WS.other {w : World} {wb : Nat} {i : WI} {c : Nat} (h : WS w wb i c) {j : Nat} {o : Obj} (ho : w.heap[j]? = some o) (hO : Other o) : ¬ i.U wb j := by
  obtain ⟨cs, t, fz, rfl, h1, h2, h3⟩ := hO
  rintro (rfl | q | q | q | ⟨f, hf, rfl⟩)
  · rw [h.blk] at ho; simp at ho; exact h1 ho.2.1.symm
  · obtain ⟨es, cl, e⟩ := h.und.block q; rw [e] at ho; cases ho
  · obtain ⟨es, cl, e⟩ := h.tkn.block q; rw [e] at ho; cases ho
  · obtain ⟨cur, e⟩ := own_lt h.row q; rw [e] at ho; simp at ho; exact h3 ho.2.1.symm
  · rw [(h.fls f hf).blk] at ho; simp at ho; exact h2 ho.2.1.symm
theorem WS.lt {w : World} {wb : Nat} {i : WI} {c : Nat} (h : WS w wb i c) {j : Nat} (hj : i.U wb j) : j < w.heap.size := by
  rcases hj with rfl | q | q | q | ⟨f, hf, rfl⟩
  · exact (Array.getElem?_eq_some_iff.1 h.blk).1
  · exact h.und.lt q
  · obtain ⟨es, cl, e⟩ := h.tkn.block q; exact (Array.getElem?_eq_some_iff.1 e).1
  · obtain ⟨cur, e⟩ := own_lt h.row q; exact (Array.getElem?_eq_some_iff.1 e).1
  · exact (Array.getElem?_eq_some_iff.1 (h.fls f hf).blk).1
theorem WS.kb {w w' : World} {wb : Nat} {i : WI} {c : Nat} (h : WS w wb i c) (hc : Ch (i.U wb) w w') : Kb w w' := Kb.ch hc (fun j hj cs fz q => h.other q ⟨cs, 5, fz, rfl, by decide, by decide, by decide⟩ hj)
theorem WS.keep {w w' : World} {wb : Nat} {i : WI} {c : Nat} (h : WS w wb i c) {S : Nat → Prop} (hc : Ch S w w') (hs : ∀ j, i.U wb j → ¬ S j) (hk : Kb w w') : WS w' wb i c := by
  have hst : ∀ j, i.U wb j → w'.heap[j]? = w.heap[j]? := fun j hj => hc.block j (h.lt hj) (hs j hj)
  exact { h with
    blk := (hst _ (.inl rfl)).trans h.blk
    und := h.und.keep (fun b hb => hst b (.inr (.inl hb)))
    fls := fun f hf => ⟨(hst f.b (.inr (.inr (.inr (.inr ⟨f, hf, rfl⟩))))).trans (h.fls f hf).blk, (h.fls f hf).pay.keep hk⟩
    tkn := h.tkn.keep (fun b hb => hst b (.inr (.inr (.inl hb))))
    row := own_ch h.row hc (fun g hg => hs g (.inr (.inr (.inr (.inl hg)))))
    pay := fun m hm => (h.pay m hm).keep hk }
theorem WS.below {w w' : World} {wb : Nat} {i : WI} {c : Nat} (h : WS w wb i c) (hb : Below w.heap.size w w') : WS w' wb i c := h.keep (Below.ch (S := fun _ => False) hb) (fun _ _ q => q) (Kb.below hb)
theorem WS.more {w : World} {wb : Nat} {i : WI} {c c' : Nat} (h : WS w wb i c) (hc : c ≤ c') : WS w wb i c' := { h with bc := ⟨Nat.le_trans h.bc.1 hc, Nat.le_trans h.bc.2 hc⟩ }
/-- A step of a window. -/
structure St (w w' : World) (wb : Nat) (i i' : WI) (c' : Nat) : Prop where
  ws : WS w' wb i' c'
  ch : Ch (i.U wb) w w'
  bl : ∀ j, i'.U wb j → i.U wb j ∨ w.heap.size ≤ j
theorem St.trans {w w1 w2 : World} {wb : Nat} {i i1 i2 : WI} {c1 c2 : Nat} (h : St w w1 wb i i1 c1) (k : St w1 w2 wb i1 i2 c2) : St w w2 wb i i2 c2 :=
  ⟨k.ws, h.ch.trans k.ch (fun j hj q => (h.bl j q).elim id (fun e => absurd hj (by omega))), fun j hj => (k.bl j hj).elim (h.bl j) (fun e => .inr (Nat.le_trans h.ch.size e))⟩
theorem St.below {w w1 : World} {wb : Nat} {i : WI} {c : Nat} (h : WS w wb i c) (hb : Below w.heap.size w w1) : St w w1 wb i i c := ⟨h.below hb, Below.ch hb, fun j hj => .inl hj⟩
theorem WS.freeN {w : World} {wb : Nat} {i : WI} {c : Nat} (h : WS w wb i c) (hl : i.fs.length + i.R.length < 65535) : ∃ j, 1 ≤ j ∧ j ≤ 65535 ∧ i.T j = false := by
  by_cases hq : ∃ j, 1 ≤ j ∧ j ≤ 65535 ∧ j ∉ i.ids ++ i.R
  · obtain ⟨j, h1, h2, h3⟩ := hq
    refine ⟨j, h1, h2, ?_⟩
    simp only [List.mem_append, not_or] at h3
    simp [WI.T, h3.1, h3.2]
  · exfalso
    have hsub : List.range' 1 65535 ⊆ i.ids ++ i.R := fun j hj => by
      rw [List.mem_range'_1] at hj
      exact Classical.byContradiction fun hn => hq ⟨j, hj.1, by omega, hn⟩
    have := List.Nodup.length_le_of_subset (List.nodup_range' (s := 1) (n := 65535)) hsub
    simp only [List.length_range', List.length_append, WI.ids, List.length_map] at this
    omega
/-- A block that nobody writes. -/
def Far (o : Obj) : Prop := ∃ cs t fz, o = .cells cs t fz ∧ t ≠ 101 ∧ t ≠ 119 ∧ t ≠ 45 ∧ t ≠ 66 ∧ t ≠ 108
theorem Far.other {o : Obj} (h : Far o) : Other o := by
  obtain ⟨cs, t, fz, h1, h2, h3, h4, -⟩ := h
  exact ⟨cs, t, fz, h1, h2, h3, h4⟩
/-- The laid table. -/
structure Gd (w : World) : Prop where
  tab : TabAt 0 Lib.deBruijn64tab w
  oth : ∃ o, w.heap[0]? = some o ∧ Far o
theorem Gd.ch {w w' : World} {wb : Nat} {i : WI} {c : Nat} (g : Gd w) (h : WS w wb i c) (hc : Ch (i.U wb) w w') : Gd w' := by
  obtain ⟨o, ho, hO⟩ := g.oth
  have he : w'.heap[0]? = w.heap[0]? := hc.block 0 (Array.getElem?_eq_some_iff.1 ho).1 (h.other ho hO.other)
  exact ⟨fun j hj => (cell_heap (by exact he)).trans (g.tab j hj), o, he.trans ho, hO⟩
theorem Gd.below {w w' : World} (g : Gd w) (hb : Below w.heap.size w w') : Gd w' := by
  obtain ⟨o, ho, hO⟩ := g.oth
  have he : w'.heap[0]? = w.heap[0]? := hb.block 0 (Array.getElem?_eq_some_iff.1 ho).1
  exact ⟨fun j hj => (cell_heap (by exact he)).trans (g.tab j hj), o, he.trans ho, hO⟩
end Go.Proofs.YtmihpmmkkklpfaaGreatDoor
