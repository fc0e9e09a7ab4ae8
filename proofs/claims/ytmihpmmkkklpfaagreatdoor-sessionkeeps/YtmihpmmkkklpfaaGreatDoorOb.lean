import Derived.Test.YtmihpmmkkklpfaaGreatDoorOa
namespace Go.Proofs.YtmihpmmkkklpfaaGreatDoor
open Go Go.RowKit Go.Shelf Go.Maps Go.Sort
set_option linter.unusedSimpArgs false
set_option linter.unusedVariables false
structure Fo where
  id : Nat
  m : Ms
  rel : Bool
def Fo.cs (f : Fo) : Array Value := #[.int .i64 f.id, .string f.m.t, f.m.v, .int .i64 f.m.q, .bool f.m.r, .bool f.rel]
def Fo.p (f : Fo) : Fp := ⟨f.id, f.rel, f.m.p⟩
def frow (L : List Fo) : List Value := L.flatMap (fun f => f.cs.toList)
theorem frow_snoc (L : List Fo) (f : Fo) : frow (L ++ [f]) = frow L ++ f.cs.toList := by simp [frow]
theorem info45 : (Tryz.prog.info? 108).map (fun i => (i.zero, i.size, i.bytes)) = some (some (.agg #[.int .i64 0, .string ⟨#[]⟩, .slice none 0 0, .int .i64 0, .bool false, .bool false]), 6, 72) := by kernel_rfl
theorem own_sl {w : World} {B e s n : Nat} {v : Value} {xs : List Value} (h : w.ownsRow B e s v n xs) : ∃ a c, v = .slice a n c := by
  rcases h.2 with ⟨h1, h2⟩ | ⟨g, cap, cur, h1, _⟩
  · subst h2; exact ⟨_, _, h1⟩
  · exact ⟨_, _, h1⟩
theorem own_at {w : World} {B e n : Nat} {v : Value} {xs : List Value} (h : w.ownsRow B e 1 v n xs) {j : Nat} (hj : j < n) : ∃ g c, v = .slice (some ⟨g, 0, none⟩) n c ∧ w.cell? ⟨g, j, none⟩ = xs[j]? := by
  rcases h.2 with ⟨_, h2⟩ | ⟨g, cap, cur, h1, h2, h3, h4, h5, h6, h7⟩
  · omega
  · refine ⟨g, cap, h1, ?_⟩
    have := congrArg (fun l => l[j]?) h7
    simp only [Nat.mul_one, List.getElem?_take, if_pos hj] at this
    rw [← this]
    simp [World.cell?, h3]
theorem awt7 (q : Int) (rel : Bool) : (awt q rel == 7) = rel := by
  unfold awt
  cases rel
  · by_cases h : q = 2 <;> simp [h]
  · simp
/-- The flights, told. -/
def FlOut (w w' : World) (fs : List Fm) (v : Value) : Prop := ∃ L, w'.ownsRow w.heap.size 108 6 v fs.length (frow L) ∧ L.map Fo.p = fs.map Fm.p ∧ (∀ o ∈ L, PB w' o.m.v o.m.xs) ∧ Below w.heap.size w w'
/-- What flights has laid so far. -/
structure Fi (w wx : World) (fs : List Fm) (vs s3 : Value) (j : Nat) (L : List Fo) : Prop where
  own : wx.ownsRow w.heap.size 108 6 s3 j (frow L)
  is : L.map Fo.p = (fs.take j).map Fm.p
  pay : ∀ o ∈ L, PB wx o.m.v o.m.xs
  bel : Below w.heap.size w wx
  row : wx.ownsRow w.heap.size 114 1 vs fs.length (fs.map (fun f => pt f.b))
theorem own_below {w w' : World} {B e s n : Nat} {v : Value} {xs : List Value} (h : w.ownsRow B e s v n xs) (hb : Below w.heap.size w w') : w'.ownsRow B e s v n xs := own_ch h (Below.ch (S := fun _ => False) hb) (fun _ _ q => q)
theorem own0 {w : World} {B e s n : Nat} {v : Value} {xs : List Value} (h : w.ownsRow B e s v n xs) : w.ownsRow 0 e s v n xs := by
  refine ⟨h.1, ?_⟩
  rcases h.2 with q | ⟨g, cap, cur, q, q1, q2⟩
  · exact .inl q
  · exact .inr ⟨g, cap, cur, q, Nat.zero_le _, q2⟩
theorem Fi.step {w wx w1 w2 : World} {fs : List Fm} {vs s3 : Value} {j : Nat} {L : List Fo} (h : Fi w wx fs vs s3 j L) (hj : j < fs.length) (hb : Below wx.heap.size wx w1) {pv : Value} (hp : PB w1 pv fs[j].m.xs) {v' : Value}
    (ho : w2.ownsRow 0 108 6 v' (j + 1) (frow L ++ [.int .i64 fs[j].id, .string fs[j].m.t, pv, .int .i64 fs[j].m.q, .bool fs[j].m.r, .bool fs[j].rel])) (hc : Ch (fun k => s3.ownBlock = some k) w1 w2) (hg : ∃ g, v'.ownBlock = some g ∧ (s3.ownBlock = some g ∨ w1.heap.size ≤ g)) :
    ∃ L', Fi w w2 fs vs v' (j + 1) L' := by
  have hown1 : w1.ownsRow w.heap.size 108 6 s3 j (frow L) := own_below h.own hb
  have hsz : w.heap.size ≤ w1.heap.size := Nat.le_trans h.bel.size hb.size
  have h3 : ∀ k, s3.ownBlock = some k → w.heap.size ≤ k ∧ ∃ cur, w1.heap[k]? = some (.cells cur 108 (0, 0)) := fun k hk => by
    refine ⟨?_, own_lt hown1 hk⟩
    rcases hown1.2 with ⟨rfl, _⟩ | ⟨g, cap, cur, rfl, q, _⟩
    · simp [Value.ownBlock] at hk
    · simp [Value.ownBlock] at hk
      omega
  have hkb : Kb w1 w2 := Kb.ch hc (fun k hk cs fz q => by obtain ⟨cur, e⟩ := (h3 k hk).2; rw [e] at q; simp at q)
  refine ⟨L ++ [⟨fs[j].id, ⟨fs[j].m.t, pv, fs[j].m.q, fs[j].m.r, fs[j].m.xs⟩, fs[j].rel⟩], ⟨?_, ?_, ?_, ?_, ?_⟩⟩
  · rw [frow_snoc]
    refine ⟨ho.1, ?_⟩
    rcases ho.2 with q | ⟨g, cap, cur, e, q1, q2⟩
    · exact .inl q
    · refine .inr ⟨g, cap, cur, e, ?_, q2⟩
      obtain ⟨g', e', q⟩ := hg
      rw [e] at e'
      simp [Value.ownBlock] at e'
      subst e'
      rcases q with q | q
      · exact (h3 _ q).1
      · omega
  · rw [List.map_append, h.is, List.take_succ_eq_append_getElem hj, List.map_append]
    rfl
  · intro o ho'
    rcases List.mem_append.1 ho' with q | q
    · exact ((h.pay o q).keep (Kb.below hb)).keep hkb
    · simp only [List.mem_singleton] at q
      subst q
      exact hp.keep hkb
  · have hb1 : Below w.heap.size w w1 := h.bel.trans (hb.mono h.bel.size)
    exact ⟨hc.os.trans hb1.os, hc.tape.trans hb1.tape, hc.output.trans hb1.output, Nat.le_trans hb1.size hc.size, fun k hk => (hc.block k (by omega) (fun q => by have := (h3 k q).1; omega)).trans (hb1.block k hk)⟩
  · refine own_ch (own_below h.row hb) hc (fun g hg q => ?_)
    obtain ⟨cur, e⟩ := (h3 g q).2
    obtain ⟨cur', e'⟩ := own_lt (own_below h.row hb) hg
    rw [e] at e'
    simp at e'
theorem Fi.arm {w wr w1 : World} {fs : List Fm} {vs lv : Value} {j : Nat} {L : List Fo} (h : Fi w wr fs vs lv j L) (hj : j < fs.length) (hl : j ≤ 1000000) {f : Fm} (hf : f = fs[j]) (hb : Below wr.heap.size wr w1) {pv : Value} (hp : PB w1 pv f.m.xs) :
    ∃ g' cap' w2, (Builtin.append_ #[28, 28] 28 #[lv, .slice (some ⟨w1.heap.size, 0, none⟩) 1 1]).run Tryz.prog (w1.alloc (.cells #[.int .i64 f.id, .string f.m.t, pv, .int .i64 f.m.q, .bool f.m.r, .bool f.rel] 108)) = .ok (.slice (some ⟨g', 0, none⟩) (j + 1) cap') w2 ∧ (∀ (b : Nat) (cs : Array Value), w1.heap[b]? = some (Obj.cells cs 119 (0, 0)) → w2.heap[b]? = some (Obj.cells cs 119 (0, 0))) ∧ ∃ L', Fi w w2 fs vs (.slice (some ⟨g', 0, none⟩) (j + 1) cap') (j + 1) L' := by
  have ho := own0 (own_below h.own hb)
  obtain ⟨a1, n1, c1, hpv⟩ := hp.sl
  obtain ⟨g', cap', w2, hr, ho2, hc2, hg2⟩ := app_gen (st := 28) (e := 108) (cs := #[.int .i64 f.id, .string f.m.t, pv, .int .i64 f.m.q, .bool f.m.r, .bool f.rel]) Tryz.underlying28 info45 rfl (by omega) (by omega) ho rfl (by rw [hpv]; simp [Value.oneCell']) hl
  refine ⟨g', cap', w2, hr, fun b cs hbl => ?_, ?_⟩
  · refine (hc2.block b (Array.getElem?_eq_some_iff.1 hbl).1 (fun q => ?_)).trans hbl
    obtain ⟨cur, e⟩ := own_lt ho q
    rw [hbl] at e
    simp at e
  · subst hf
    exact h.step hj hb hp ho2 hc2 ⟨g', rfl, hg2⟩
set_option maxRecDepth 100000 in
set_option maxHeartbeats 4000000 in
theorem flights_any {w : World} {wb : Nat} {mu : Value} {fs : List Fm} (c5 : w.cell? ⟨wb, 5, none⟩ = some mu) (hM : MI w mu fs.length (fun k => (lookF fs k).map pt)) (hF : ∀ f ∈ fs, FB w f) (hn : (fs.map (·.id)).Nodup) (hid : ∀ f ∈ fs, f.id ≤ 65535) (hs : fs.Pairwise (fun a b => a.tn < b.tn)) (hl : fs.length ≤ 65535) :
    Calls Tryz.prog 46 #[.pointer (some ⟨wb, 0, none⟩)] w fun e w' => ∃ v, e = .returned v ∧ FlOut w w' fs v := by
  obtain ⟨i0, hi, hz0, hz1, hz2⟩ := info_parts info45
  have hbn : (fs.map (·.b)).Nodup := by
    have hinj : ∀ f ∈ fs, ∀ g ∈ fs, f.b = g.b → f.id = g.id := fun f hf g hg e => by
      have h1 := (hF f hf).blk
      have h2 := (hF g hg).blk
      rw [e, h2] at h1
      simp only [Option.some.injEq, Obj.cells.injEq] at h1
      have := congrArg (fun a : Array Value => a[2]?) h1.1
      simp [Fm.cs] at this
      omega
    refine List.pairwise_map.2 (List.Pairwise.imp_of_mem (R := fun a b => a.id ≠ b.id) (fun {a b} ha hb q e => q (hinj a ha b hb e)) (List.pairwise_map.1 hn))
  obtain ⟨n, hnn⟩ : ∃ n, n = fs.length := ⟨_, rfl⟩
  have hlen := hM.len Tryz.underlying94 3
  rw [← hnn] at hlen
  obtain ⟨wm, hmk, hmo, hmg⟩ := run_make_own w w.heap.size 28 108 i0 _ 6 Tryz.underlying28 hi hz0 hz1 .i64 .i64 n (by rw [hz2]; omega) (by unfold maxLen; omega) (Nat.le_refl _)
  have hbm : Below w.heap.size w wm := ⟨hmg.os, hmg.tape, hmg.output, hmg.size, fun k hk => hmg.block k hk (fun q => by cases q)⟩
  have hwl : wb < w.heap.size := World.block_lt_of_cell? _ _ c5
  have c5m := (hbm.cell (p := ⟨wb, 5, none⟩) hwl).trans c5
  have H53 := hidi (mvals_any mu hM.mk wm)
  obtain ⟨tn, htn⟩ : ∃ tn : Nat → Int, ∀ f ∈ fs, tn f.b = f.tn := by
    refine ⟨fun b => ((fs.find? (fun f => decide (f.b = b))).map (fun f => (f.tn : Int))).getD 0, fun f hf => ?_⟩
    cases e : fs.find? (fun g => decide (g.b = f.b)) with
    | none => have := List.find?_eq_none.1 e f hf; simp at this
    | some g =>
      have h1 := List.mem_of_find?_eq_some e
      have h2 : g.b = f.b := by simpa using List.find?_some e
      have h3 := (hF f hf).blk
      have h4 := (hF g h1).blk
      rw [h2, h3] at h4
      simp only [Option.some.injEq, Obj.cells.injEq] at h4
      have := congrArg (fun a : Array Value => a[0]?) h4.1
      simp [Fm.cs] at this
      simp [e]
      omega
  have hba : Below w.heap.size w (wm.alloc (.cells #[mu] 94)) := hbm.alloc hbm.size _
  have H52 := hidi (sortedf_any wm.heap.size n mu (lookF fs) tn (wm.alloc (.cells #[mu] 94)) (by rw [hnn]; exact hM.keep (fun b hb => hba.block b (hM.lt hb))) (by simp) (box_cells (heap_alloc_new wm _) 0 _ rfl) (by omega)
    (fun ps hA => by
      have := List.Nodup.length_le_of_subset hA.1 (l₂ := fs.map (fun f => (f.id : Int))) (fun x hx => by
        obtain ⟨p, hp, rfl⟩ := List.mem_map.1 hx
        obtain ⟨f, hf, e, _⟩ := lookF_some (hA.2.1 p hp).2
        exact List.mem_map.2 ⟨f, hf, e⟩)
      simp at this
      omega)
    (fun k b hk hb => by
      obtain ⟨f, hf, e1, rfl⟩ := lookF_some hb
      have h1 := (hF f hf).blk
      have h2 := (Array.getElem?_eq_some_iff.1 h1).1
      refine ⟨by have := hba.size; omega, ?_⟩
      rw [htn f hf]
      exact (hba.cell (p := ⟨f.b, 0, none⟩) h2).trans (box_cells h1 0 _ rfl)))
  have HO := hidi (And.intro hmo (And.intro hba (And.intro hbm hmg.size)))
  have HF := hidi hF
  have HT := hidi (And.intro hn (And.intro hid (And.intro hbn (And.intro htn hs))))
  have HL := hidi hl
  have HN := hidi hnn
  clear hM hF hn hid hs hl hbn htn hmo hbm hba hmg hnn hi hz0 hz1 hz2
  go_enter Tryz.func46, Tryz.ntmps46
  go_wp2_with fail
  go_must (go_at_call 71)
  refine H53.out.mono ?_
  rintro e w1 ⟨rfl, rfl⟩
  clear hlen hmk c5 c5m
  go_wp2_with fail
  go_must (go_at_call 70)
  refine H52.out.mono ?_
  rintro e w2 ⟨vs, ps, ys, rfl, hA, hp, hT, ho, hb⟩
  have hy : ys = fs.map (·.b) := order_is HT.out.1 HT.out.2.1 HT.out.2.2.1 HT.out.2.2.2.1 HT.out.2.2.2.2 hA hp hT
  subst hy
  have hsz : w.heap.size ≤ (wm.alloc (.cells #[mu] 94)).heap.size := HO.out.2.1.size
  have F0 : Fi w w2 fs vs (.slice (some ⟨w.heap.size, 0, none⟩) 0 n) 0 [] := ⟨own_below (HO.out.1.alloc _) hb, by simp, by simp, HO.out.2.1.trans (hb.mono hsz), by
    have h5 : w2.ownsRow (wm.alloc (.cells #[mu] 94)).heap.size 114 1 vs fs.length (fs.map (fun f => pt f.b)) := by simpa [Function.comp_def] using ho
    refine ⟨h5.1, ?_⟩
    rcases h5.2 with q | ⟨g, cap, cur, e, q1, q2⟩
    · exact .inl q
    · exact .inr ⟨g, cap, cur, e, by omega, q2⟩⟩
  obtain ⟨va, vc, hvs⟩ := own_sl F0.row
  rw [← HN.out] at hvs
  subst hvs
  have HF0 := hidi F0
  clear F0 ho hb hA hp hT hsz H52 H53
  go_wp2_with fail
  go_loopg [3, 19] n (fun gk s3 s19 wx => ∃ (j : Nat) (L : List Fo) (lv : Value), j + gk = n ∧ s19 = .int .i64 j ∧ lv = s3 ∧ Hid (Fi w wx fs (.slice va n vc) lv j L))
  case atStart => exact ⟨0, [], _, by omega, rfl, rfl, HF0.out⟩
  case round =>
    obtain ⟨j, L, lv, hj, rfl, rfl, HI⟩ := hrel
    by_cases hjn : j < n
    · have hlt : (j : Int) < (n : Int) := by omega
      have hge : (0 : Int) ≤ (j : Int) := by omega
      have hjf : j < fs.length := by rw [← HN.out]; exact hjn
      have hw1 : IntKind.i64.wrap ((j : Int) + 1) = (j : Int) + 1 := by rw [IntKind.wrap_i64]; have := HL.out; omega
      obtain ⟨g, c, hv, hcell⟩ := own_at HI.out.row hjf
      have hva : va = some ⟨g, 0, none⟩ := by injection hv
      subst hva
      have hfb := HF.out _ (List.getElem_mem hjf)
      have hpy : PB wr fs[j].m.v fs[j].m.xs := hfb.pay.keep (Kb.below HI.out.bel)
      have hbl := hfb.blk
      have hbs := (Array.getElem?_eq_some_iff.1 hbl).1
      replace hbl : wr.heap[fs[j].b]? = some (.cells fs[j].cs 119 (0, 0)) := (HI.out.bel.block _ hbs).trans hbl
      obtain ⟨f, hf⟩ : ∃ f, f = fs[j] := ⟨_, rfl⟩
      have ARM := hidi (fun (w1 : World) (pv : Value) (hb : Below wr.drew.heap.size wr.drew w1) (hp : PB w1 pv f.m.xs) => HI.out.arm (w1 := w1) (pv := pv) hjf (show j ≤ 1000000 by have := HL.out; omega) hf ((Below.refl wr.heap.size wr).drew.trans hb) hp)
      rw [← hf] at hpy hbl hbs
      have hcell' : wr.cell? ⟨g, j, none⟩ = some (pt f.b) := by rw [hcell, hf]; simp [hjf]
      clear hcell hfb hv hf
      obtain ⟨b, tnn, id, rl, m⟩ := f
      obtain ⟨t, pv, q, r, xs⟩ := m
      obtain ⟨pa, pn, pc, rfl⟩ := hpy.sl
      obtain ⟨kd, hkd⟩ : ∃ kd, kd = awt q rl := ⟨_, rfl⟩
      have hk7 : (kd == 7) = rl := by rw [hkd]; exact awt7 q rl
      simp only [Fm.cs, ← hkd] at hbl
      have k1 := box_cells hbl 1 _ rfl
      have k2 := box_cells hbl 2 _ rfl
      have k3 := box_cells hbl 3 _ rfl
      have k4 := box_cells hbl 4 _ rfl
      have k5 := box_cells hbl 5 _ rfl
      have k6 := box_cells hbl 6 _ rfl
      have hbw : b < wr.heap.size := (Array.getElem?_eq_some_iff.1 hbl).1
      have HBW := hidi (And.intro hbw hbl)
      have HA := hidi (apart_any (w := wr.drew) t q r (hpy.keep (fun _ cs _ h => ⟨cs, h, rfl⟩)))
      have K6 := hidi (fun (W : World) (h : W.heap[b]? = some (.cells #[.int .i64 tnn, .int .i64 kd, .int .i64 id, .string t, .slice pa pn pc, .int .i64 q, .bool r] 119 (0, 0))) => (show W.cell? ⟨b, 1, none⟩ = some (.int .i64 kd) ∧ W.cell? ⟨b, 2, none⟩ = some (.int .i64 (id : Int)) ∧ W.cell? ⟨b, 3, none⟩ = some (.string t) ∧ W.cell? ⟨b, 4, none⟩ = some (.slice pa pn pc) ∧ W.cell? ⟨b, 5, none⟩ = some (.int .i64 q) ∧ W.cell? ⟨b, 6, none⟩ = some (.bool r) from ⟨box_cells h 1 _ rfl, box_cells h 2 _ rfl, box_cells h 3 _ rfl, box_cells h 4 _ rfl, box_cells h 5 _ rfl, box_cells h 6 _ rfl⟩))
      unfold pt at hcell'
      clear hkd hpy hbl hbs hbw hjf
      go_wp2_with fail
      go_region_held_law (fun w' => w'.cell? ⟨b, 1, none⟩ = some (.int .i64 kd) ∧ w'.cell? ⟨b, 2, none⟩ = some (.int .i64 (id : Int)) ∧ w'.cell? ⟨b, 3, none⟩ = some (.string t) ∧ w'.cell? ⟨b, 4, none⟩ = some (.slice pa pn pc) ∧ w'.cell? ⟨b, 5, none⟩ = some (.int .i64 q) ∧ w'.cell? ⟨b, 6, none⟩ = some (.bool r)) (first | go_keep | exact ⟨k1, k2, k3, k4, k5, k6⟩) (first
        | (refine step_app rfl (.tmp 23) (.tmp 41) 28 28 rfl _ _ rfl rfl _ w2 HR.out ?_; clear k1 k2 k3 k4 k5 k6; obtain ⟨k1, k2, k3, k4, k5, k6⟩ := HK2.out)
        | (go_at_call 73; refine HA.out.mono ?_; rintro e w1 ⟨v1, rfl, hp, hb⟩; obtain ⟨a1, n1, c1, rfl⟩ := hp.sl; obtain ⟨g', cap', w2, hr, hk, hst⟩ := ARM.out _ _ hb hp; have HR := hidi hr; have hb1 := later_at (w := wr.drew) HBW.out.2 hb; have HK2 := hidi (K6.out _ (hk _ _ hb1)); have ST := hidi hst; clear k1 k2 k3 k4 k5 k6; obtain ⟨k1, k2, k3, k4, k5, k6⟩ := K6.out _ hb1; clear hr hb1 hk hst hp hb HA; unfold mg))
      go_wp2_with fail
      go_roundg (n - (j + 1))
      case measure => omega
      case rel =>
        obtain ⟨L', hF⟩ := ST.out
        exact ⟨j + 1, L', _, by omega, by first | rfl | simp, rfl, hF⟩
    · have hlt : ¬ (j : Int) < (n : Int) := by omega
      have hjn' : j = fs.length := by rw [← HN.out]; omega
      subst hjn'
      go_wp2_with fail
      go_ret
      exact ⟨lv, rfl, L, HI.out.own, by simpa using HI.out.is, HI.out.pay, HI.out.bel⟩
end Go.Proofs.YtmihpmmkkklpfaaGreatDoor
