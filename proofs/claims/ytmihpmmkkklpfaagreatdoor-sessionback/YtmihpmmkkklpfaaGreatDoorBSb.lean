import Derived.Test.YtmihpmmkkklpfaaGreatDoorBOs
import Derived.ArgAppend
import Derived.Laws.OwnMore
namespace Go.Proofs.YtmihpmmkkklpfaaGreatDoor
open Go Go.RowKit Go.Shelf Go.Maps Go.Sort
set_option linter.unusedSimpArgs false
set_option linter.unusedVariables false
/-! ### Up -/
def resend (f : Fp) : Pp := if f.rel then ⟨6, false, f.id, zMp⟩ else ⟨3, true, f.id, f.m⟩
noncomputable def pUp (p : Pw) : Pw × List Pp := ((pFill { p with on := true }).1, p.fl.map resend ++ (pFill { p with on := true }).2)
theorem frow_at (L : List Fo) (i : Nat) (hi : i < L.length) (c : Nat) (hc : c < 6) : (frow L)[i * 6 + c]? = L[i].cs[c]? := by
  induction L generalizing i with
  | nil => simp at hi
  | cons x L ih =>
    have e : frow (x :: L) = .int .i64 x.id :: .string x.m.t :: x.m.v :: .int .i64 x.m.q :: .bool x.m.r :: .bool x.rel :: frow L := rfl
    cases i with
    | zero =>
      rw [e]
      match c, hc with
      | 0, _ => rfl
      | 1, _ => rfl
      | 2, _ => rfl
      | 3, _ => rfl
      | 4, _ => rfl
      | 5, _ => rfl
    | succ i =>
      have h := ih i (by simpa using hi)
      rw [e, show (i + 1) * 6 + c = (i * 6 + c) + 1 + 1 + 1 + 1 + 1 + 1 by omega]
      simp only [List.getElem?_cons_succ, List.getElem_cons_succ]
      exact h
theorem frow_cell {w : World} {B k : Nat} {v : Value} {L : List Fo} (h : w.ownsRow B 108 6 v k (frow L)) {j : Nat} (hj : j < k) (hl : j < L.length) : ∃ g c, v = .slice (some ⟨g, 0, none⟩) k c ∧ ∀ x, x < 6 → w.cell? ⟨g, j * 6 + x, none⟩ = L[j].cs[x]? := by
  rcases h.2 with ⟨_, h2⟩ | ⟨g, cap, cur, h1, h2, h3, h4, h5, h6, h7⟩
  · omega
  · refine ⟨g, cap, h1, fun x hx => ?_⟩
    rw [← frow_at L j hl x hx, ← h7]
    have : j * 6 + x < k * 6 := by omega
    simp [List.getElem?_take, this, World.cell?, h3]
structure UpI (w1 wx : World) (L : List Fo) (vf lv : Value) (j : Nat) (S : List Pq) : Prop where
  own : wx.ownsRow w1.heap.size 66 25 lv j (prow S)
  is : S.map Pq.p = (L.take j).map (fun o => resend o.p)
  pay : ∀ p ∈ S, PB wx p.m.v p.m.xs
  bel : Below w1.heap.size w1 wx
  row : wx.ownsRow w1.heap.size 108 6 vf L.length (frow L)
  payL : ∀ o ∈ L, PB wx o.m.v o.m.xs
theorem UpI.arm {w1 wr w2 : World} {L : List Fo} {vf lv : Value} {j : Nat} {S : List Pq} (h : UpI w1 wr L vf lv j S) (hj : j < L.length) (hl : j ≤ 1000000) (hb : Below wr.heap.size wr w2) (p : Pq) (hp : PB w2 p.m.v p.m.xs) (he : p.p = resend L[j].p) :
    ∃ g' cap' w3, (Builtin.append_ #[38, 38] 38 #[lv, .slice (some ⟨w2.heap.size, 0, none⟩) 1 1]).run Tryz.prog (w2.alloc (.cells p.cs 66)) = .ok (.slice (some ⟨g', 0, none⟩) (j + 1) cap') w3 ∧ UpI w1 w3 L vf (.slice (some ⟨g', 0, none⟩) (j + 1) cap') (j + 1) (S ++ [p]) := by
  have hown := own_below h.own hb
  obtain ⟨g', cap', w3, k1, k2, k3, k4, k5⟩ := app_pk hown p hp.sl hl
  have hsz : w1.heap.size ≤ w2.heap.size := Nat.le_trans h.bel.size hb.size
  have h3 : ∀ k, lv.ownBlock = some k → w1.heap.size ≤ k := fun k hk => by
    rcases hown.2 with ⟨rfl, _⟩ | ⟨g, cap, cur, rfl, q, _⟩
    · simp [Value.ownBlock] at hk
    · simp [Value.ownBlock] at hk
      omega
  have hkb : Kb wr w3 := (Kb.below hb).trans k5
  refine ⟨g', cap', w3, k1, ⟨?_, ?_, ?_, ?_, ?_, fun o ho => (h.payL o ho).keep hkb⟩⟩
  · refine ⟨k2.1, ?_⟩
    rcases k2.2 with q | ⟨g, cap, cur, e, q1, q2⟩
    · exact .inl q
    · refine .inr ⟨g, cap, cur, e, ?_, q2⟩
      simp only [Value.slice.injEq, Option.some.injEq, Addr.mk.injEq] at e
      obtain ⟨⟨rfl, -⟩, -⟩ := e
      rcases k4 with q | q
      · exact h3 _ q
      · omega
  · rw [List.map_append, h.is, List.take_succ_eq_append_getElem hj, List.map_append]
    simp [he]
  · intro x hx
    rcases List.mem_append.1 hx with q | q
    · exact (h.pay x q).keep hkb
    · simp only [List.mem_singleton] at q
      subst q
      exact hp.keep k5
  · have hb1 : Below w1.heap.size w1 w2 := h.bel.trans (hb.mono h.bel.size)
    exact ⟨k3.os.trans hb1.os, k3.tape.trans hb1.tape, k3.output.trans hb1.output, Nat.le_trans hb1.size k3.size, fun k hk => (k3.block k (by omega) (fun q => by have := h3 k q; omega)).trans (hb1.block k hk)⟩
  · refine own_ch (own_below h.row hb) k3 (fun g hg q => ?_)
    obtain ⟨cur, e⟩ := own_lt hown q
    obtain ⟨cur', e'⟩ := own_lt (own_below h.row hb) hg
    rw [e] at e'
    simp at e'
set_option maxRecDepth 100000 in
set_option maxHeartbeats 4000000 in
theorem up_ws {w : World} {wb : Nat} {i : WI} {c : Nat} (h : WS w wb i c) (g : Gd w) (hc : c ≤ 200000) :
    Calls Tryz.prog 15 #[.pointer (some ⟨wb, 0, none⟩)] w fun e w' => ∃ v, e = .returned v ∧ Out w w' wb i c (pUp i.p).1 (pUp i.p).2 v := by
  obtain ⟨i0, hi, hz0, hz1, hz2⟩ := info_parts info51
  obtain ⟨w1, hw1⟩ : ∃ w1, w1 = w.setCell ⟨wb, 2, none⟩ (.bool true) := ⟨_, rfl⟩
  have hS := (h.set (i' := { i with on := true }) 2 (.bool true) rfl rfl rfl rfl rfl rfl rfl rfl rfl rfl rfl rfl h.bs (Nat.le_refl c)).2
  rw [← hw1] at hS
  have hwl : wb < w.heap.size := h.lt (.inl rfl)
  have c2 : w.cell? ⟨wb, 2, none⟩ = some (.bool i.on) := box_cells h.blk 2 _ rfl
  have f2 := box_frozen h.blk 2
  obtain ⟨n, hn⟩ : ∃ n, n = i.fs.length := ⟨_, rfl⟩
  obtain ⟨mu, hmu⟩ : ∃ mu, mu = i.mu := ⟨_, rfl⟩
  have c5 : w1.cell? ⟨wb, 5, none⟩ = some mu := by rw [hmu]; exact box_cells hS.ws.blk 5 _ rfl
  have hlen : (Builtin.len_ #[94] 3 #[mu]).run Tryz.prog w1 = .ok (.int .i64 (n : Int)) w1 := by rw [hmu, hn]; exact hS.ws.und.len Tryz.underlying94 3
  have hnb : n ≤ 65535 := by have := h.bf; have := h.bm; omega
  obtain ⟨wm, hmk, hmo, hmg⟩ := run_make_own w1 w1.heap.size 38 66 i0 _ 25 Tryz.underlying38 hi hz0 hz1 .i64 .i64 n (by rw [hz2]; omega) (by unfold maxLen; omega) (Nat.le_refl _)
  have hbm : Below w1.heap.size w1 wm := ⟨hmg.os, hmg.tape, hmg.output, hmg.size, fun k hk => hmg.block k hk (fun q => by cases q)⟩
  have F33 := hidi ((hS.ws.below hbm).flights)
  have HN := hidi (And.intro hn hnb)
  have H := hidi (And.intro h (And.intro g (And.intro hc hS)))
  have HM := hidi (And.intro hmo hbm)
  have hs1 : w1.heap.size = w.heap.size := by rw [hw1]; simp
  have HS1 := hidi hs1
  clear h g hc hS hn hmu hnb hmo hmg hbm hi hz0 hz1 hz2
  rw [hs1] at hmk
  clear hs1
  go_enter Tryz.func15, Tryz.ntmps15
  go_upto_region 2 with fail
  rw [← hw1]
  clear hw1 c2 f2
  go_wp2_with fail
  go_must (go_at_call 46)
  refine F33.out.mono ?_
  clear F33
  rintro e w3 ⟨vf, rfl, L, f1, fe, f3, f4⟩
  have hLl : L.length = n := by
    have := congrArg List.length fe
    simp at this
    rw [HN.out.1]
    exact this
  have U0 : UpI w1 w3 L vf (.slice (some ⟨w.heap.size, 0, none⟩) 0 n) 0 [] := by
    refine ⟨by rw [← HS1.out]; exact own_below HM.out.1 f4, by simp, by simp, HM.out.2.trans (f4.mono HM.out.2.size), ?_, f3⟩
    have f1' : w3.ownsRow wm.heap.size 108 6 vf L.length (frow L) := by rw [hLl, HN.out.1]; exact f1
    exact ⟨f1'.1, f1'.2.elim .inl (fun ⟨g, cap, cur, a, b, c⟩ => .inr ⟨g, cap, cur, a, Nat.le_trans HM.out.2.size b, c⟩)⟩
  obtain ⟨va, vc, hvf⟩ := own_sl U0.row
  rw [hLl] at hvf
  subst hvf
  have HU0 := hidi U0
  have HL := hidi (And.intro hLl fe)
  clear U0 f1 f3 f4 fe hLl hmk hlen c5
  go_wp2_with fail
  go_loopg [3, 18] n (fun gk s3 s18 wx => ∃ (j : Nat) (S : List Pq) (lv : Value), j + gk = n ∧ s18 = .int .i64 j ∧ lv = s3 ∧ Hid (UpI w1 wx L (.slice va n vc) lv j S))
  case atStart => exact ⟨0, [], _, by omega, rfl, rfl, HU0.out⟩
  case round =>
    obtain ⟨j, S, lv, hj, rfl, rfl, HI⟩ := hrel
    by_cases hjn : j < n
    · have hlt : (j : Int) < (n : Int) := by omega
      have hge : (0 : Int) ≤ (j : Int) := by omega
      have hjf : j < L.length := by rw [HL.out.1]; exact hjn
      have hw1 : IntKind.i64.wrap ((j : Int) + 1) = (j : Int) + 1 := by rw [IntKind.wrap_i64]; have := HN.out; omega
      obtain ⟨gb, cb, hv, hcell⟩ := frow_cell HI.out.row hjf hjf
      have hva : va = some ⟨gb, 0, none⟩ := by injection hv
      subst hva
      have hpy : PB wr L[j].m.v L[j].m.xs := HI.out.payL _ (List.getElem_mem hjf)
      have ARM := hidi (fun (w2 : World) (hb : Below wr.heap.size wr w2) (p : Pq) (hp : PB w2 p.m.v p.m.xs) (he : p.p = resend L[j].p) => HI.out.arm hjf (show j ≤ 1000000 by have := HN.out; omega) hb p hp he)
      obtain ⟨f, hf⟩ : ∃ f, f = L[j] := ⟨_, rfl⟩
      rw [← hf] at hcell hpy ARM
      clear hf hv hjf
      obtain ⟨id, ⟨t, pv, q, r, xs⟩, rl⟩ := f
      obtain ⟨pa, pn, pc, rfl⟩ := hpy.sl
      have k0 : wr.cell? ⟨gb, j * 6, none⟩ = some (.int .i64 (id : Int)) := hcell 0 (by omega)
      have k1 : wr.cell? ⟨gb, j * 6 + 1, none⟩ = some (.string t) := hcell 1 (by omega)
      have k2 : wr.cell? ⟨gb, j * 6 + 2, none⟩ = some (.slice pa pn pc) := hcell 2 (by omega)
      have k3 : wr.cell? ⟨gb, j * 6 + 3, none⟩ = some (.int .i64 q) := hcell 3 (by omega)
      have k4 : wr.cell? ⟨gb, j * 6 + 4, none⟩ = some (.bool r) := hcell 4 (by omega)
      have k5 : wr.cell? ⟨gb, j * 6 + 5, none⟩ = some (.bool rl) := hcell 5 (by omega)
      have HPY := hidi hpy
      clear hcell hpy
      have B0 : Below wr.heap.size wr (wr.alloc (.cells #[.int .i64 (id : Int), .string t, .slice pa pn pc, .int .i64 q, .bool r, .bool rl] 108)) := (Below.refl _ _).alloc (Nat.le_refl _) _
      have HB0 := hidi B0
      clear B0
      cases rl
      · go_upto_region 8 with fail
        obtain ⟨w2, hw2⟩ : ∃ w2, w2 = wr.alloc (.cells #[.int .i64 (id : Int), .string t, .slice pa pn pc, .int .i64 q, .bool r, .bool false] 108) := ⟨_, rfl⟩
        rw [← hw2]
        have hx := heap_alloc_new wr (.cells #[.int .i64 (id : Int), .string t, .slice pa pn pc, .int .i64 q, .bool r, .bool false] 108)
        have hb2 := HB0.out
        rw [← hw2] at hx hb2
        obtain ⟨g', cap', w4, hr, hU⟩ := ARM.out w2 hb2 ⟨3, true, id, ⟨t, .slice pa pn pc, q, r, xs⟩⟩ (HPY.out.keep (Kb.below hb2)) rfl
        have HR := hidi hr
        have HU := hidi hU
        clear k0 k1 k2 k3 k4 k5 hr hU hw2 hb2 ARM
        have k0 := box_cells hx 0 _ rfl
        have k1 := box_cells hx 1 _ rfl
        have k2 := box_cells hx 2 _ rfl
        have k3 := box_cells hx 3 _ rfl
        have k4 := box_cells hx 4 _ rfl
        clear hx
        go_wp2_with (first
          | (refine wpList_build_to rfl 66 _ rfl (pkc 3 true t (.slice pa pn pc) q r id) (built_dup t pa pn pc q r id) ?_; simp only [pkc])
          | (at_builtin; refine Lib.wpList_append_run _ rfl _ _ 38 38 rfl _ _ rfl rfl _ _ HR.out ?_))
        go_roundg (n - (j + 1))
        case measure => omega
        case rel => exact ⟨j + 1, _, _, by omega, by first | rfl | simp, rfl, HU.out⟩
      · go_wp2_with fail
        go_must (go_at_call 47)
        refine (pubrel_any (id : Int) _).mono ?_
        rintro e w2 ⟨rfl, hb⟩
        obtain ⟨g', cap', w4, hr, hU⟩ := ARM.out w2 (HB0.out.trans (hb.mono HB0.out.size)) ⟨6, false, id, zMs⟩ (.inl ⟨rfl, rfl⟩) rfl
        have HR := hidi hr
        have HU := hidi hU
        clear hr hU hb
        simp only [pkc]
        go_wp2_with (at_builtin; refine Lib.wpList_append_run _ rfl _ _ 38 38 rfl _ _ rfl rfl _ _ HR.out ?_)
        go_roundg (n - (j + 1))
        case measure => omega
        case rel => exact ⟨j + 1, _, _, by omega, by first | rfl | simp, rfl, HU.out⟩
    · have hlt : ¬ (j : Int) < (n : Int) := by omega
      have hjn' : j = n := by omega
      subst hjn'
      have hw := H.out.2.2.2
      have hI := HI.out
      have hwx := hw.ws.below hI.bel
      have FL := hidi (fill_ws (B := w1.heap.size) hwx ((H.out.2.1.ch H.out.1 hw.ch).below hI.bel) H.out.2.2.1 hI.own (by have := HN.out; omega) hI.pay)
      clear hw hI hwx
      go_wp2_with fail
      go_must (go_at_call 48)
      refine FL.out.mono ?_
      clear FL
      rintro e w5 ⟨v, rfl, hF⟩
      have HF := hidi hF
      clear hF
      go_wp2_with fail
      go_ret
      obtain ⟨ir, S1, hI5, e1, e2⟩ := HF.out
      have hI := HI.out
      have hw := H.out.2.2.2
      have hLS : S.length = j := by
        have := congrArg List.length hI.is
        simp at this
        rw [this, HL.out.1]
        omega
      have hs1 := HS1.out
      have hnb : ∀ x, lv.ownBlock = some x → w.heap.size ≤ x := fun x hx => by
        rcases hI.own.2 with ⟨q, _⟩ | ⟨g, cap, cur, q, q1, _⟩
        · rw [q] at hx; simp [Value.ownBlock] at hx
        · rw [q] at hx; simp [Value.ownBlock] at hx; omega
      have st1 := hw.trans (St.below hw.ws hI.bel)
      have hszr : w.heap.size ≤ wr.heap.size := st1.ch.size
      have st : St w w5 wb i ir c := ⟨hI5.ws, st1.ch.trans hI5.ch (fun x hx q => by
        rcases q with q | q
        · exact (st1.bl x q).elim id (fun z => absurd hx (by omega))
        · have := hnb x q; omega), fun x hx => (hI5.bl x hx).elim (st1.bl x) (fun z => .inr (Nat.le_trans hszr z))⟩
      refine ⟨v, rfl, ⟨⟨ir, S ++ S1, st, ?_, hI5.pay, e1, ?_⟩, hI5.gd⟩⟩
      · have ho := hI5.own
        rw [List.length_append, hLS]
        refine ⟨ho.1, ?_⟩
        rcases ho.2 with q | ⟨g, cap, cur, q, q1, q2⟩
        · exact .inl q
        · refine .inr ⟨g, cap, cur, q, ?_, q2⟩
          rcases hI5.nb g (by rw [q]; rfl) with z | z
          · exact hnb g z
          · omega
      · show _ = i.p.fl.map resend ++ _
        rw [List.map_append, hI.is, e2]
        congr 1
        rw [← HL.out.1, List.take_length]
        show L.map (resend ∘ Fo.p) = (i.fs.map Fm.p).map resend
        rw [← List.map_map, HL.out.2]
end Go.Proofs.YtmihpmmkkklpfaaGreatDoor
namespace Go.Proofs.YtmihpmmkkklpfaaGreatDoor
open Go Go.RowKit Go.Shelf Go.Maps Go.Sort
set_option linter.unusedSimpArgs false
set_option linter.unusedVariables false
/-! ### play -/
def ixN (n : Int) (L : Nat) : Nat := (Int.tmod (Int.tmod n L + L) L).toNat
noncomputable def pNine (p : Pw) (a n : Int) : Pw × List Pp := match p.fl[ixN n p.fl.length]? with | some f => pAck p a f.id | none => (p, [])
noncomputable def pPlay (p : Pw) (k : Int) (m : Mp) (a n : Int) : Pw × List Pp :=
  if k = 1 then ((pSend p m).1, (pSend p m).2.1) else if k = 2 then pAck p a n else if k = 3 then pUp p else if k = 4 then ({ p with on := false }, []) else if k = 5 then ((pReserve p).1, []) else if k = 6 then ((pFree p n).1, []) else if k = 9 then pNine p a n else (p, [])
theorem Out.more {w w' : World} {wb : Nat} {i : WI} {c c' : Nat} {P : Pw} {X : List Pp} {v : Value} (h : Out w w' wb i c P X v) (hc : c ≤ c') : Out w w' wb i c' P X v := by
  obtain ⟨i', S, s, r⟩ := h.ex
  exact ⟨⟨i', S, ⟨s.ws.more hc, s.ch, s.bl⟩, r⟩, h.gd⟩
theorem St.more {w w' : World} {wb : Nat} {i i' : WI} {c c' : Nat} (s : St w w' wb i i' c) (hc : c ≤ c') : St w w' wb i i' c' := ⟨s.ws.more hc, s.ch, s.bl⟩
theorem St.out {w w' : World} {wb : Nat} {i i' : WI} {c : Nat} {P : Pw} (s : St w w' wb i i' c) (g : Gd w') (e : i'.p = P) : Out w w' wb i c P [] (.slice none 0 0) := ⟨⟨i', [], s, World.ownsRow_nil _ _ _ _, by simp, e, rfl⟩, g⟩

end Go.Proofs.YtmihpmmkkklpfaaGreatDoor
namespace Go.Proofs.YtmihpmmkkklpfaaGreatDoor
open Go Go.RowKit Go.Shelf Go.Maps Go.Sort
set_option linter.unusedSimpArgs false
set_option linter.unusedVariables false

end Go.Proofs.YtmihpmmkkklpfaaGreatDoor
namespace Go.Proofs.YtmihpmmkkklpfaaGreatDoor
open Go Go.RowKit Go.Shelf Go.Maps Go.Sort
set_option linter.unusedSimpArgs false
set_option linter.unusedVariables false
/-! ### A window among other things -/
/-- What others have stays. -/
def Fr (F : Nat → Prop) (W W' : World) : Prop := Ch (fun j => ¬ F j) W W'
theorem Fr.at {F : Nat → Prop} {W W' : World} (h : Fr F W W') {j : Nat} (hj : F j) (hl : j < W.heap.size) : W'.heap[j]? = W.heap[j]? := h.block j hl (fun q => q hj)
theorem Fr.trans {F : Nat → Prop} {a b c : World} (h : Fr F a b) (k : Fr F b c) : Fr F a c := Ch.trans h k (fun _ _ q => q)
theorem Fr.refl (F : Nat → Prop) (w : World) : Fr F w w := Ch.refl _ _
theorem Fr.mono {F F' : Nat → Prop} {a b : World} (h : Fr F a b) (hf : ∀ j, F' j → F j) : Fr F' a b := Ch.mono h (fun j _ q z => q (hf j z))
theorem Fr.below {F : Nat → Prop} {a b : World} (h : Below a.heap.size a b) : Fr F a b := Below.ch h
/-- A window with its state told purely, F what others have. -/
structure KS (F : Nat → Prop) (W : World) (wb : Nat) (p : Pw) (c : Nat) : Prop where
  ex : ∃ i, WS W wb i c ∧ i.p = p ∧ ∀ j, F j → j < W.heap.size ∧ ¬ i.U wb j
  gd : Gd W
/-- A list of packets. -/
def Lst (W : World) (v : Value) (X : List Pp) : Prop := ∃ S : List Pq, W.ownsRow 0 66 25 v S.length (prow S) ∧ (∀ p ∈ S, PB W p.m.v p.m.xs) ∧ S.map Pq.p = X
theorem KS.st {F : Nat → Prop} {W W' : World} {wb : Nat} {i i' : WI} {c' : Nat} {P : Pw} (hF : ∀ j, F j → j < W.heap.size ∧ ¬ i.U wb j) (s : St W W' wb i i' c') (g : Gd W') (e : i'.p = P) : KS F W' wb P c' ∧ Fr F W W' := by
  refine ⟨⟨⟨i', s.ws, e, fun j hj => ⟨Nat.lt_of_lt_of_le (hF j hj).1 s.ch.size, fun q => ?_⟩⟩, g⟩, s.ch.mono (fun j _ q z => (hF j z).2 q)⟩
  rcases s.bl j q with z | z
  · exact (hF j hj).2 z
  · have := (hF j hj).1; omega
theorem KS.out {F : Nat → Prop} {W W' : World} {wb : Nat} {i : WI} {c' : Nat} {P : Pw} {X : List Pp} {v : Value} (hF : ∀ j, F j → j < W.heap.size ∧ ¬ i.U wb j) (o : Out W W' wb i c' P X v) : KS F W' wb P c' ∧ Fr F W W' ∧ Lst W' v X := by
  obtain ⟨i', S, s, ho, hp, e1, e2⟩ := o.ex
  obtain ⟨k1, k2⟩ := KS.st hF s o.gd e1
  exact ⟨k1, k2, S, own0 ho, hp, e2⟩
theorem KS.below {F : Nat → Prop} {W W' : World} {wb : Nat} {p : Pw} {c : Nat} (h : KS F W wb p c) (hb : Below W.heap.size W W') : KS F W' wb p c := by
  obtain ⟨i, hw, e, hF⟩ := h.ex
  exact (KS.st hF (St.below hw hb) (h.gd.below hb) e).1
theorem KS.more {F : Nat → Prop} {W : World} {wb : Nat} {p : Pw} {c c' : Nat} (h : KS F W wb p c) (hc : c ≤ c') : KS F W wb p c' := by
  obtain ⟨i, hw, e, hF⟩ := h.ex
  exact ⟨⟨i, hw.more hc, e, hF⟩, h.gd⟩
/-- Another block that is none of the window's: a new one, or one of another kind. -/
theorem KS.add {F : Nat → Prop} {W W' : World} {wb : Nat} {p : Pw} {c b : Nat} (h : KS F W wb p c) (hb : Below W.heap.size W W') (hl : W.heap.size ≤ b) (hl' : b < W'.heap.size) : KS (fun j => F j ∨ j = b) W' wb p c := by
  obtain ⟨i, hw, e, hF⟩ := h.ex
  refine ⟨⟨i, hw.below hb, e, fun j hj => ?_⟩, h.gd.below hb⟩
  rcases hj with q | q
  · exact ⟨Nat.lt_of_lt_of_le (hF j q).1 hb.size, (hF j q).2⟩
  · refine ⟨by omega, fun z => ?_⟩
    have := hw.lt z
    omega
theorem KS.addO {F : Nat → Prop} {W : World} {wb : Nat} {p : Pw} {c b : Nat} {o : Obj} (h : KS F W wb p c) (hb : W.heap[b]? = some o) (hO : Other o) : KS (fun j => F j ∨ j = b) W wb p c := by
  obtain ⟨i, hw, e, hF⟩ := h.ex
  refine ⟨⟨i, hw, e, fun j hj => ?_⟩, h.gd⟩
  rcases hj with q | q
  · exact hF j q
  · subst q
    exact ⟨(Array.getElem?_eq_some_iff.1 hb).1, hw.other hb hO⟩
theorem KS.less {F F' : Nat → Prop} {W : World} {wb : Nat} {p : Pw} {c : Nat} (h : KS F W wb p c) (hf : ∀ j, F' j → F j) : KS F' W wb p c := by
  obtain ⟨i, hw, e, hF⟩ := h.ex
  exact ⟨⟨i, hw, e, fun j hj => hF j (hf j hj)⟩, h.gd⟩
/-- What others write is nothing to the window. -/
theorem KS.write {F S : Nat → Prop} {W W' : World} {wb : Nat} {p : Pw} {c : Nat} (h : KS F W wb p c) (hc : Ch S W W') (hs : ∀ j, S j → F j) (h5 : Kb W W') (h0 : ¬ S 0) : KS F W' wb p c := by
  obtain ⟨i, hw, e, hF⟩ := h.ex
  obtain ⟨o, ho, hO⟩ := h.gd.oth
  have he : W'.heap[0]? = W.heap[0]? := hc.block 0 (Array.getElem?_eq_some_iff.1 ho).1 h0
  exact ⟨⟨i, hw.keep hc (fun j hj q => (hF j (hs j q)).2 hj) h5, e, fun j hj => ⟨Nat.lt_of_lt_of_le (hF j hj).1 hc.size, (hF j hj).2⟩⟩, ⟨fun j hj => (cell_heap (by exact he)).trans (h.gd.tab j hj), o, he.trans ho, hO⟩⟩
section
variable {F : Nat → Prop} {W : World} {wb : Nat} {p : Pw} {c : Nat}
theorem ks_new (n q : Int) (w : World) (g : Gd w) : Calls Tryz.prog 33 #[.int .i64 n, .int .i64 q] w fun e w' => e = .returned (.pointer (some ⟨w.heap.size, 0, none⟩)) ∧ KS (fun j => j < w.heap.size) w' w.heap.size ⟨mostOf n, queueOf q, false, 0, [], [], []⟩ 0 ∧ Below w.heap.size w w' := by
  refine (new_any n q w).mono ?_
  rintro e w' ⟨rfl, rfl⟩
  have hb : Below w.heap.size w (w.alloc (.cells (newI (mostOf n) (queueOf q)).cs 101)) := (Below.refl _ _).alloc (Nat.le_refl _) _
  refine ⟨rfl, ⟨⟨newI (mostOf n) (queueOf q), ws_new w _ _ ⟨(mostOf_is n).1, (mostOf_is n).2.1⟩ (queueOf_is q).1, rfl, fun j hj => ⟨by simp; omega, ?_⟩⟩, g.below hb⟩, hb⟩
  rintro (q | q | q | q | ⟨f, hf, _⟩)
  · omega
  · cases q
  · cases q
  · simp [newI, Value.ownBlock] at q
  · cases hf
theorem ks_send (h : KS F W wb p c) (hc : c + 1 ≤ 200000) (t : ByteArray) (v : Value) (q : Int) (r : Bool) (xs : List Int) (hp : PBi W v xs) (ht : t.size ≤ 1000000) : Calls Tryz.prog 49 #[.pointer (some ⟨wb, 0, none⟩), .agg #[.string t, v, .int .i64 q, .bool r]] W fun e w' => ∃ v', e = .returned (.tuple #[v', .bool (pSend p ⟨t, q, r, xs⟩).2.2.1, .int .i64 (pSend p ⟨t, q, r, xs⟩).2.2.2]) ∧ KS F w' wb (pSend p ⟨t, q, r, xs⟩).1 (c + 1) ∧ Fr F W w' ∧ Lst w' v' (pSend p ⟨t, q, r, xs⟩).2.1 := by
  obtain ⟨i, hw, rfl, hF⟩ := h.ex
  refine (send_ws (m := ⟨t, v, q, r, xs⟩) hw h.gd hc hp ht).mono ?_
  rintro e w' ⟨v', rfl, o⟩
  exact ⟨v', rfl, KS.out hF o⟩
theorem ks_ack (h : KS F W wb p c) (hc : c ≤ 200000) (kind id : Int) (hid : okI id) : Calls Tryz.prog 17 #[.pointer (some ⟨wb, 0, none⟩), .int .i64 kind, .int .i64 id] W fun e w' => ∃ v', e = .returned v' ∧ KS F w' wb (pAck p kind id).1 c ∧ Fr F W w' ∧ Lst w' v' (pAck p kind id).2 := by
  obtain ⟨i, hw, rfl, hF⟩ := h.ex
  refine (ack_ws hw h.gd hc kind id hid).mono ?_
  rintro e w' ⟨v', rfl, o⟩
  exact ⟨v', rfl, KS.out hF o⟩
theorem ks_up (h : KS F W wb p c) (hc : c ≤ 200000) : Calls Tryz.prog 15 #[.pointer (some ⟨wb, 0, none⟩)] W fun e w' => ∃ v', e = .returned v' ∧ KS F w' wb (pUp p).1 c ∧ Fr F W w' ∧ Lst w' v' (pUp p).2 := by
  obtain ⟨i, hw, rfl, hF⟩ := h.ex
  refine (up_ws hw h.gd hc).mono ?_
  rintro e w' ⟨v', rfl, o⟩
  exact ⟨v', rfl, KS.out hF o⟩
theorem ks_down (h : KS F W wb p c) : Calls Tryz.prog 11 #[.pointer (some ⟨wb, 0, none⟩)] W fun e w' => e = .returned (.tuple #[]) ∧ KS F w' wb { p with on := false } c ∧ Fr F W w' := by
  obtain ⟨i, hw, rfl, hF⟩ := h.ex
  refine (down_ws hw).mono ?_
  rintro e w' ⟨rfl, s⟩
  exact ⟨rfl, KS.st hF s (s.gd hw h.gd) rfl⟩
theorem ks_online (h : KS F W wb p c) : Calls Tryz.prog 14 #[.pointer (some ⟨wb, 0, none⟩)] W fun e w' => e = .returned (.bool p.on) ∧ w' = W := by
  obtain ⟨i, hw, rfl, hF⟩ := h.ex
  exact online_ws hw
/-- An image, told purely. -/
structure ImP (w w' : World) (p : Pw) (vf vq : Value) : Prop where
  fl : ∃ L, w'.ownsRow w.heap.size 108 6 vf p.fl.length (frow L) ∧ L.map Fo.p = p.fl ∧ ∀ o ∈ L, PB w' o.m.v o.m.xs
  qu : ∃ L', w'.ownsRow w.heap.size 45 4 vq p.wt.length (mrow L') ∧ L'.map Ms.p = p.wt ∧ ∀ o ∈ L', PB w' o.v o.xs
theorem ks_image (h : KS F W wb p c) (hc : c ≤ 200000) : Calls Tryz.prog 35 #[.pointer (some ⟨wb, 0, none⟩)] W fun e w' => ∃ vf vq, e = .returned (.agg #[.int .i64 (p.last : Int), vf, vq]) ∧ ImP W w' p vf vq ∧ Below W.heap.size W w' := by
  obtain ⟨i, hw, rfl, hF⟩ := h.ex
  refine (image_ws hw hc).mono ?_
  rintro e w' ⟨vf, vq, rfl, hI, hb⟩
  refine ⟨vf, vq, rfl, ⟨?_, ?_⟩, hb⟩
  · obtain ⟨L, a, b, d⟩ := hI.fl
    exact ⟨L, by rw [show i.p.fl.length = i.fs.length by simp [WI.p]]; exact a, b, d⟩
  · obtain ⟨L, a, b, d⟩ := hI.qu
    exact ⟨L, by rw [show i.p.wt.length = i.L.length by simp [WI.p]]; exact a, b, d⟩

end
end Go.Proofs.YtmihpmmkkklpfaaGreatDoor
namespace Go.Proofs.YtmihpmmkkklpfaaGreatDoor
open Go Go.RowKit Go.Shelf Go.Maps Go.Sort
set_option linter.unusedSimpArgs false
set_option linter.unusedVariables false
/-! ### The chapter's example, purely -/
theorem abvF_next {T : Nat → Bool} {last : Nat} (hl : last < 65535) (hT : T (last + 1) = false) : abvF T last = last + 1 := by
  refine abvF_is (by omega) ⟨by omega, by omega, hT, fun j h1 h2 hr => ?_⟩
  exfalso
  have e : rank last (last + 1) = 1 := by unfold rank; rw [if_pos (by omega)]; omega
  rw [e] at hr
  unfold rank at hr
  split at hr <;> omega
def mA : Mp := ⟨⟨#[97]⟩, 2, false, []⟩
def mB : Mp := ⟨⟨#[98]⟩, 1, false, []⟩
def q0 : Pw := ⟨1, 1, false, 0, [], [], []⟩
def q1 : Pw := ⟨1, 1, false, 0, [], [mA], []⟩
def q2 : Pw := ⟨1, 1, true, 1, [⟨1, false, mA⟩], [], []⟩
def q3 : Pw := ⟨1, 1, true, 1, [⟨1, false, mA⟩], [mB], []⟩
def q4 : Pw := ⟨1, 1, true, 1, [⟨1, true, zMp⟩], [mB], []⟩
def q5 : Pw := ⟨1, 1, false, 1, [⟨1, true, zMp⟩], [mB], []⟩
def q7 : Pw := ⟨1, 1, true, 2, [⟨2, false, mB⟩], [], []⟩
theorem Lst.nil {W : World} {v : Value} (h : Lst W v []) : ∃ a c, v = .slice a 0 c := by
  obtain ⟨S, ho, -, e⟩ := h
  have : S = [] := by simpa using e
  subst this
  exact own_sl ho
theorem Lst.one {W : World} {v : Value} {x : Pp} (h : Lst W v [x]) : ∃ g c cur, v = .slice (some ⟨g, 0, none⟩) 1 c ∧ W.heap[g]? = some (.cells cur 66 (0, 0)) ∧ cur[0]? = some (.int .i64 x.k) ∧ cur[16]? = some (.bool x.d) ∧ cur[17]? = some (.string x.m.t) ∧ cur[21]? = some (.int .i64 x.id) := by
  obtain ⟨S, ho, -, e⟩ := h
  obtain ⟨p, rfl⟩ : ∃ p, S = [p] := by
    cases S with
    | nil => cases e
    | cons p S => cases S with
      | nil => exact ⟨p, rfl⟩
      | cons q S => simp at e
  have e' : p.p = x := by simpa using e
  subst e'
  rcases ho.2 with ⟨_, h2⟩ | ⟨g, cap, cur, h1, h2, h3, h4, h5, h6, h7⟩
  · simp at h2
  · have hx : ∀ j v, j < 25 → p.cs[j]? = some v → cur[j]? = some v := fun j v hj hv => by
      have := congrArg (fun l => l[j]?) h7
      simp only [List.getElem?_take, List.length_singleton, Nat.one_mul] at this
      rw [if_pos hj] at this
      have h9 : (prow [p])[j]? = p.cs[j]? := by simp [prow]
      rw [h9, hv] at this
      simpa using this
    exact ⟨g, cap, cur, h1, h3, hx 0 _ (by omega) rfl, hx 16 _ (by omega) rfl, hx 17 _ (by omega) rfl, hx 21 _ (by omega) rfl⟩
section
variable {F : Nat → Prop} {W : World} {wb c : Nat}
end
end Go.Proofs.YtmihpmmkkklpfaaGreatDoor
namespace Go.Proofs.YtmihpmmkkklpfaaGreatDoor
open Go Go.RowKit Go.Shelf Go.Maps Go.Sort
set_option linter.unusedSimpArgs false
set_option linter.unusedVariables false
/-! ### What holds purely -/
/-- Nothing waits while there is room. -/
def Full (p : Pw) : Prop := p.on = true → p.wt ≠ [] → p.most ≤ p.fl.length
/-- The bounds and the reserved numbers are the same. -/
structure Sm (p p' : Pw) : Prop where
  m : p'.most = p.most
  q : p'.queue = p.queue
  r : p'.R = p.R
theorem Sm.refl (p : Pw) : Sm p p := ⟨rfl, rfl, rfl⟩
theorem Sm.trans {a b c : Pw} (h : Sm a b) (k : Sm b c) : Sm a c := ⟨k.m.trans h.m, k.q.trans h.q, k.r.trans h.r⟩
theorem fillL_ok : ∀ (wt : List Mp) (p : Pw), Sm p (pFillL wt p).1 ∧ Full (pFillL wt p).1 ∧ (pFillL wt p).1.on = p.on
  | [], p => ⟨⟨rfl, rfl, rfl⟩, fun _ h => absurd rfl h, rfl⟩
  | m :: wt, p => by
    simp only [pFillL]
    split
    · obtain ⟨a, b, c⟩ := fillL_ok wt (pLaunch { p with wt := wt } m).1
      exact ⟨(show Sm p (pLaunch { p with wt := wt } m).1 from ⟨rfl, rfl, rfl⟩).trans a, b, c⟩
    · rename_i h
      refine ⟨⟨rfl, rfl, rfl⟩, fun h1 _ => ?_, rfl⟩
      show p.most ≤ p.fl.length
      exact Nat.le_of_not_lt (fun z => h ⟨h1, z⟩)
theorem KS.facts {F : Nat → Prop} {W : World} {wb : Nat} {p : Pw} {c : Nat} (h : KS F W wb p c) : (p.fl.map (·.id) ++ p.R).Nodup ∧ (∀ j ∈ p.fl.map (·.id) ++ p.R, 1 ≤ j ∧ j ≤ 65535) ∧ p.fl.length ≤ p.most ∧ p.wt.length ≤ p.queue ∧ p.R.length ≤ 65535 - p.most ∧ 1 ≤ p.most ∧ p.most ≤ 65535 ∧ p.queue ≤ 65536 := by
  obtain ⟨i, hw, rfl, hF⟩ := h.ex
  have e : i.p.fl.map (·.id) = i.ids := by show (i.fs.map Fm.p).map _ = _; rw [List.map_map]; rfl
  rw [e]
  refine ⟨hw.nd, hw.rng, ?_, ?_, hw.br, hw.bm.1, hw.bm.2, hw.bq⟩
  · show (i.fs.map Fm.p).length ≤ _; rw [List.length_map]; exact hw.bf
  · show (i.L.map Ms.p).length ≤ _; rw [List.length_map]; exact hw.bl
/-! ### The law's own maps -/
def fR (R : List Nat) (k : Int) : Option Value := if 0 ≤ k ∧ k.toNat ∈ R then some (.int .i64 1) else none
structure HS (w0 W : World) (wb rb : Nat) (p : Pw) (c : Nat) (n q : Int) (Rm : List Nat) : Prop where
  ks : KS (fun j => j < w0.heap.size ∨ j = rb) W wb p c
  mp : MI W (.map (some rb)) Rm.length (fR Rm)
  bel : Below w0.heap.size w0 W
  fu : Full p
  mo : p.most = mostOf n
  qu : p.queue = queueOf q
  rb0 : w0.heap.size ≤ rb
theorem HS.below {w0 W W' : World} {wb rb : Nat} {p : Pw} {c : Nat} {n q : Int} {Rm : List Nat} (h : HS w0 W wb rb p c n q Rm) (hb : Below W.heap.size W W') : HS w0 W' wb rb p c n q Rm :=
  { h with ks := h.ks.below hb, mp := h.mp.keep (fun b e => hb.block b (h.mp.lt e)), bel := h.bel.trans (hb.mono h.bel.size) }
theorem HS.to {w0 W W' : World} {wb rb : Nat} {p p' : Pw} {c c' : Nat} {n q : Int} {Rm : List Nat} (h : HS w0 W wb rb p c n q Rm) (k : KS (fun j => j < w0.heap.size ∨ j = rb) W' wb p' c') (r : Fr (fun j => j < w0.heap.size ∨ j = rb) W W') (hf : Full p') (hm : p'.most = p.most) (hq : p'.queue = p.queue) : HS w0 W' wb rb p' c' n q Rm :=
  { h with
    ks := k
    mp := h.mp.keep (fun b e => by cases e; exact r.at (.inr rfl) (h.mp.lt rfl))
    bel := ⟨r.os.trans h.bel.os, r.tape.trans h.bel.tape, r.output.trans h.bel.output, Nat.le_trans h.bel.size r.size, fun j hj => (r.at (.inl hj) (Nat.lt_of_lt_of_le hj h.bel.size)).trans (h.bel.block j hj)⟩
    fu := hf
    mo := hm.trans h.mo
    qu := hq.trans h.qu }
theorem MI.kb {w w' : World} {b n : Nat} {f : Int → Option Value} (h : MI w (.map (some b)) n f) (hc : Ch (fun j => j = b) w w') : Kb w w' := Kb.ch hc (fun j hj cs fz q => by obtain ⟨es, cl, e⟩ := h.block rfl; rw [hj, e] at q; cases q)
/-- The reserved numbers' map is written. -/
theorem HS.map {w0 W W' : World} {wb rb : Nat} {p : Pw} {c : Nat} {n q : Int} {Rm R' : List Nat} (h : HS w0 W wb rb p c n q Rm) (hc : Ch (fun j => j = rb) W W') (hm : MI W' (.map (some rb)) R'.length (fR R')) : HS w0 W' wb rb p c n q R' := by
  have h0 : ¬ (0 : Nat) = rb := fun e => by
    obtain ⟨o, ho, hO⟩ := h.ks.gd.oth
    obtain ⟨cs, t, fz, rfl, -⟩ := hO
    obtain ⟨es, cl, e'⟩ := h.mp.block rfl
    rw [← e, ho] at e'
    cases e'
  refine { h with ks := h.ks.write hc (fun j hj => .inr hj) (h.mp.kb hc) h0, mp := hm, bel := ⟨hc.os.trans h.bel.os, hc.tape.trans h.bel.tape, hc.output.trans h.bel.output, Nat.le_trans h.bel.size hc.size, fun j hj => (hc.block j (Nat.lt_of_lt_of_le hj h.bel.size) (fun e => ?_)).trans (h.bel.block j hj)⟩ }
  have := h.rb0
  omega

end Go.Proofs.YtmihpmmkkklpfaaGreatDoor
namespace Go.Proofs.YtmihpmmkkklpfaaGreatDoor
open Go Go.RowKit
set_option linter.unusedSimpArgs false
set_option linter.unusedVariables false
/-! ### Each message once, in order: purely -/
/-- The messages of what is sent for the first time. -/
def isNew (x : Pp) : Bool := decide (x.k = 3) && !x.d
def msgsOf (X : List Pp) : List Mp := (X.filter isNew).map (·.m)
/-- What is kept of the order by a call that takes nothing. -/
structure Kp (p p' : Pw) (X : List Pp) : Prop where
  wt : p.wt = msgsOf X ++ p'.wt
  fl : p'.fl.length ≤ p.fl.length + (msgsOf X).length
theorem Kp.same (p : Pw) : Kp p p [] := ⟨by simp [msgsOf], by simp⟩
end Go.Proofs.YtmihpmmkkklpfaaGreatDoor
namespace Go.Proofs.YtmihpmmkkklpfaaGreatDoor
open Go Go.RowKit
set_option linter.unusedSimpArgs false
set_option linter.unusedVariables false
end Go.Proofs.YtmihpmmkkklpfaaGreatDoor
namespace Go.Proofs.YtmihpmmkkklpfaaGreatDoor
open Go Go.RowKit Go.Shelf Go.Maps Go.Sort
set_option linter.unusedSimpArgs false
set_option linter.unusedVariables false
/-! ### What is no window's stays -/
def KO (W W' : World) : Prop := ∀ (b : Nat) (o : Obj), W.heap[b]? = some o → Other o → W'.heap[b]? = some o
theorem KO.refl (W : World) : KO W W := fun _ _ h _ => h
theorem KO.trans {a b c : World} (h : KO a b) (k : KO b c) : KO a c := fun x o q z => k x o (h x o q z) z
theorem KO.below {W W' : World} (h : Below W.heap.size W W') : KO W W' := fun b o q _ => (h.block b (Array.getElem?_eq_some_iff.1 q).1).trans q
theorem KO.kb {W W' : World} (h : KO W W') : Kb W W' := fun b cs fz q => h b _ q ⟨cs, 5, fz, rfl, by decide, by decide, by decide⟩
theorem KO.own {W W' : World} (h : KO W W') {B e s n : Nat} {v : Value} {xs : List Value} (ho : W.ownsRow B e s v n xs) (h1 : e ≠ 101) (h2 : e ≠ 119) (h3 : e ≠ 45) : W'.ownsRow B e s v n xs :=
  ⟨ho.1, ho.2.elim .inl (fun ⟨g, cap, cur, a, b, c, d⟩ => .inr ⟨g, cap, cur, a, b, h g _ c ⟨cur, e, _, rfl, h1, h2, h3⟩, d⟩)⟩
def FX (F : Nat → Prop) (W : World) (j : Nat) : Prop := F j ∨ ∃ o, W.heap[j]? = some o ∧ Other o
theorem KS.addX {F : Nat → Prop} {W : World} {wb : Nat} {p : Pw} {c : Nat} (h : KS F W wb p c) : KS (FX F W) W wb p c := by
  obtain ⟨i, hw, e, hF⟩ := h.ex
  refine ⟨⟨i, hw, e, fun j hj => ?_⟩, h.gd⟩
  rcases hj with q | ⟨o, ho, hO⟩
  · exact hF j q
  · exact ⟨(Array.getElem?_eq_some_iff.1 ho).1, hw.other ho hO⟩
theorem Fr.ko {F : Nat → Prop} {W W' : World} (r : Fr (FX F W) W W') : KO W W' := fun b o q z => (r.at (.inr ⟨o, q, z⟩) (Array.getElem?_eq_some_iff.1 q).1).trans q
theorem fx_inl {F : Nat → Prop} {W : World} : ∀ j, F j → FX F W j := fun _ h => Or.inl h
theorem KS.swapX {F F' S : Nat → Prop} {W W' : World} {wb : Nat} {p : Pw} {c : Nat} (h : KS F W wb p c) (hc : Ch S W W') (hs : ∀ j, S j → FX F W j) (h5 : Kb W W') (h0 : ¬ S 0) (hF' : ∀ j, F' j → F j ∨ (W.heap.size ≤ j ∧ j < W'.heap.size)) : KS F' W' wb p c := by
  obtain ⟨i0, hw0, e0, hF0⟩ := h.addX.ex
  obtain ⟨o, ho, hO⟩ := h.gd.oth
  have he : W'.heap[0]? = W.heap[0]? := hc.block 0 (Array.getElem?_eq_some_iff.1 ho).1 h0
  refine ⟨⟨i0, hw0.keep hc (fun j hj q => (hF0 j (hs j q)).2 hj) h5, e0, fun j hj => ?_⟩, ⟨fun j hj => (cell_heap (by exact he)).trans (h.gd.tab j hj), o, he.trans ho, hO⟩⟩
  rcases hF' j hj with q | ⟨q1, q2⟩
  · exact ⟨Nat.lt_of_lt_of_le (hF0 j (.inl q)).1 hc.size, (hF0 j (.inl q)).2⟩
  · exact ⟨q2, fun z => by have := hw0.lt z; omega⟩
theorem row_ge {w : World} {B e s n : Nat} {v : Value} {xs : List Value} (h : w.ownsRow B e s v n xs) {g : Nat} (hg : v.ownBlock = some g) : B ≤ g := by
  rcases h.2 with ⟨rfl, _⟩ | ⟨g', cap, cur, rfl, q, _⟩
  · simp [Value.ownBlock] at hg
  · simp [Value.ownBlock] at hg
    omega
theorem row_base {w : World} {B B' e s n : Nat} {v : Value} {xs : List Value} (h : w.ownsRow B e s v n xs) (hb : ∀ g, v.ownBlock = some g → B' ≤ g) : w.ownsRow B' e s v n xs :=
  ⟨h.1, h.2.elim .inl (fun ⟨g, cap, cur, a, b, c⟩ => .inr ⟨g, cap, cur, a, hb g (by rw [a]; rfl), c⟩)⟩
/-! Calls of the window: F stays, and so does what is no window's. -/
section
variable {F : Nat → Prop} {W : World} {wb : Nat} {p : Pw} {c : Nat}
theorem kx_send (h : KS F W wb p c) (hc : c + 1 ≤ 200000) (t : ByteArray) (v : Value) (q : Int) (r : Bool) (xs : List Int) (hp : PBi W v xs) (ht : t.size ≤ 1000000) : Calls Tryz.prog 49 #[.pointer (some ⟨wb, 0, none⟩), .agg #[.string t, v, .int .i64 q, .bool r]] W fun e w' => ∃ v', e = .returned (.tuple #[v', .bool (pSend p ⟨t, q, r, xs⟩).2.2.1, .int .i64 (pSend p ⟨t, q, r, xs⟩).2.2.2]) ∧ KS F w' wb (pSend p ⟨t, q, r, xs⟩).1 (c + 1) ∧ Fr F W w' ∧ KO W w' ∧ Lst w' v' (pSend p ⟨t, q, r, xs⟩).2.1 := by
  refine (ks_send h.addX hc t v q r xs hp ht).mono ?_
  rintro e w' ⟨v', rfl, k, r, l⟩
  exact ⟨v', rfl, k.less fx_inl, r.mono fx_inl, r.ko, l⟩
theorem kx_ack (h : KS F W wb p c) (hc : c ≤ 200000) (kind id : Int) (hid : okI id) : Calls Tryz.prog 17 #[.pointer (some ⟨wb, 0, none⟩), .int .i64 kind, .int .i64 id] W fun e w' => ∃ v', e = .returned v' ∧ KS F w' wb (pAck p kind id).1 c ∧ Fr F W w' ∧ KO W w' ∧ Lst w' v' (pAck p kind id).2 := by
  refine (ks_ack h.addX hc kind id hid).mono ?_
  rintro e w' ⟨v', rfl, k, r, l⟩
  exact ⟨v', rfl, k.less fx_inl, r.mono fx_inl, r.ko, l⟩
theorem kx_up (h : KS F W wb p c) (hc : c ≤ 200000) : Calls Tryz.prog 15 #[.pointer (some ⟨wb, 0, none⟩)] W fun e w' => ∃ v', e = .returned v' ∧ KS F w' wb (pUp p).1 c ∧ Fr F W w' ∧ KO W w' ∧ Lst w' v' (pUp p).2 := by
  refine (ks_up h.addX hc).mono ?_
  rintro e w' ⟨v', rfl, k, r, l⟩
  exact ⟨v', rfl, k.less fx_inl, r.mono fx_inl, r.ko, l⟩
theorem kx_down (h : KS F W wb p c) : Calls Tryz.prog 11 #[.pointer (some ⟨wb, 0, none⟩)] W fun e w' => e = .returned (.tuple #[]) ∧ KS F w' wb { p with on := false } c ∧ Fr F W w' ∧ KO W w' := by
  refine (ks_down h.addX).mono ?_
  rintro e w' ⟨rfl, k, r⟩
  exact ⟨rfl, k.less fx_inl, r.mono fx_inl, r.ko⟩
end
end Go.Proofs.YtmihpmmkkklpfaaGreatDoor
