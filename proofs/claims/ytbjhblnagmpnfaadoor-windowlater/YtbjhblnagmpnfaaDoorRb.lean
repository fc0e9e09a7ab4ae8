import Derived.Test.YtbjhblnagmpnfaaDoorRa
import Derived.Test.YtbjhblnagmpnfaaDoorQc
namespace Go.Proofs.YtbjhblnagmpnfaaDoor
open Go Go.RowKit Go.Shelf Go.Maps Go.Sort
set_option linter.unusedSimpArgs false
set_option linter.unusedVariables false
/-! ### isZero, isFlight -/
theorem PB.len {w : World} {v : Value} {xs : List Int} (h : PB w v xs) : ∃ a c, v = .slice a xs.length c := by
  rcases h with ⟨rfl, rfl⟩ | ⟨a, n, c, rfl, rfl, -⟩
  · exact ⟨_, _, rfl⟩
  · exact ⟨_, _, rfl⟩
set_option maxRecDepth 100000 in
set_option maxHeartbeats 1000000 in
theorem isZero_any (a : Option Addr) (c : Nat) (w : World) : Calls Tryd.prog 69 #[.agg #[.string ⟨#[]⟩, .slice a 0 c, .int .i64 0, .bool false]] w fun e w' => e = .returned (.bool true) ∧ Below w.heap.size w w' := by
  have B0 : Hid (Below w.heap.size w (w.alloc (.cells #[.string ⟨#[]⟩, .slice a 0 c, .int .i64 0, .bool false] 30))) := (Below.refl _ _).alloc (Nat.le_refl _) _
  have ht : (⟨#[]⟩ : ByteArray).toList = (⟨#[]⟩ : ByteArray).toList := rfl
  go_enter Tryd.func69, Tryd.ntmps69
  go_wp2_with fail
  go_ret
  exact ⟨by simp, B0.out⟩
set_option maxRecDepth 100000 in
set_option maxHeartbeats 1000000 in
theorem isFlight_any {w : World} (id : Int) (m : Ms) (rel : Bool) (hp : PB w m.v m.xs) (hs : (rel = true → m.zero) ∧ (rel = false → Sn m.q)) : Calls Tryd.prog 58 #[.agg #[.int .i64 id, .string m.t, m.v, .int .i64 m.q, .bool m.r, .bool rel]] w fun e w' => e = .returned (.bool true) ∧ Below w.heap.size w w' := by
  obtain ⟨t, v, q, r, xs⟩ := m
  obtain ⟨a, c, hv⟩ := hp.len
  simp only at hv
  subst hv
  have B0 : Hid (Below w.heap.size w (w.alloc (.cells #[.int .i64 id, .string t, .slice a xs.length c, .int .i64 q, .bool r, .bool rel] 45))) := (Below.refl _ _).alloc (Nat.le_refl _) _
  cases rel
  · have hq := hs.2 rfl
    have hq' : decide (q = 1 ∨ q = 2) = true := decide_eq_true hq
    have C := hidi (fun W => sendable_any t a xs.length c q r W)
    rw [hq'] at C
    clear hs hp hq hq'
    go_enter Tryd.func58, Tryd.ntmps58
    go_wp2_with (go_at_call 36; refine (C.out _).mono ?_; rintro e w' ⟨rfl, hb⟩; have HB := hidi (B0.out.trans (hb.mono (by simp))); clear hb)
    go_ret
    exact ⟨rfl, HB.out⟩
  · obtain ⟨z1, z2, z3, z4⟩ := hs.1 rfl
    simp only at z1 z2 z3 z4
    subst z1 z2 z3 z4
    have C := hidi (fun W => isZero_any a c W)
    clear hs hp
    simp only [List.length_nil] at B0 ⊢
    go_enter Tryd.func58, Tryd.ntmps58
    go_wp2_with (go_at_call 69; refine (C.out _).mono ?_; rintro e w' ⟨rfl, hb⟩; have HB := hidi (B0.out.trans (hb.mono (by simp))); clear hb)
    go_ret
    exact ⟨rfl, HB.out⟩
set_option maxRecDepth 100000 in
set_option maxHeartbeats 1000000 in
theorem notSend_any {w : World} (t : ByteArray) (a : Option Addr) (n c : Nat) (q : Int) (r : Bool) (hq : Sn q) : Calls Tryd.prog 60 #[.agg #[.string t, .slice a n c, .int .i64 q, .bool r]] w fun e w' => e = .returned (.bool false) ∧ Below w.heap.size w w' := by
  have B0 : Hid (Below w.heap.size w (w.alloc (.cells #[.string t, .slice a n c, .int .i64 q, .bool r] 30))) := (Below.refl _ _).alloc (Nat.le_refl _) _
  have hq' : decide (q = 1 ∨ q = 2) = true := decide_eq_true hq
  have C := hidi (fun W => sendable_any t a n c q r W)
  rw [hq'] at C
  clear hq hq'
  go_enter Tryd.func60, Tryd.ntmps60
  go_wp2_with (go_at_call 36; refine (C.out _).mono ?_; rintro e w' ⟨rfl, hb⟩; have HB := hidi (B0.out.trans (hb.mono (by simp))); clear hb)
  go_ret
  exact ⟨rfl, HB.out⟩
/-! ### No message of a queue is bad -/
theorem mrow_cells {w : World} {B k : Nat} {v : Value} {L : List Ms} (h : w.ownsRow B 30 4 v k (mrow L)) {j : Nat} (hj : j < k) (hl : j < L.length) : ∃ g c, v = .slice (some ⟨g, 0, none⟩) k c ∧ k ≤ c ∧ ∀ x, x < 4 → w.cell? ⟨g, j * 4 + x, none⟩ = L[j].cs[x]? := by
  obtain ⟨g, c, h1, h2, h3, cur, h4, h5⟩ := mrow_cell h hj
  refine ⟨g, c, h1, h2, fun x hx => ?_⟩
  rw [← h5 j hj hl x hx]
  simp [World.cell?, h4]
set_option maxRecDepth 100000 in
set_option maxHeartbeats 1000000 in
theorem indexF_any {w : World} {B n : Nat} {v : Value} {L : List Ms} (h : w.ownsRow B 30 4 v n (mrow L)) (hn : n = L.length) (hm : n ≤ 1000000) (hp : ∀ m ∈ L, PB w m.v m.xs) (hs : ∀ m ∈ L, Sn m.q) : Calls Tryd.prog 70 #[v, .func (.func 60) #[] #[]] w fun e w' => e = .returned (.int .i64 (-1)) ∧ Below w.heap.size w w' := by
  obtain ⟨a, c, rfl⟩ := own_sl h
  have H := hidi (And.intro h (And.intro hn (And.intro hp (And.intro hs hm))))
  clear h hn hp hs hm
  go_enter Tryd.func70, Tryd.ntmps70
  go_wp2_with fail
  go_loopg [8] n (fun gk s8 wx => ∃ j : Nat, j + gk = n ∧ s8 = .int .i64 j ∧ Hid (Below w.heap.size w wx))
  case atStart => exact ⟨0, by omega, rfl, Below.refl _ _⟩
  case round =>
    obtain ⟨j, hj, rfl, HI⟩ := hrel
    by_cases hjn : j < n
    · have hlt : (j : Int) < (n : Int) := by omega
      have hge : (0 : Int) ≤ (j : Int) := by omega
      have hw1 : IntKind.i64.wrap ((j : Int) + 1) = (j : Int) + 1 := by rw [IntKind.wrap_i64]; have := H.out.2.2.2.2; omega
      have hjl : j < L.length := by rw [← H.out.2.1]; exact hjn
      obtain ⟨g, c', hv, hle, hcell⟩ := mrow_cells (own_below H.out.1 HI.out) hjn hjl
      simp only [Value.slice.injEq, true_and] at hv
      obtain ⟨rfl, rfl⟩ := hv
      have hpy := (H.out.2.2.1 _ (List.getElem_mem hjl)).keep (Kb.below HI.out)
      have hsn := H.out.2.2.2.1 _ (List.getElem_mem hjl)
      obtain ⟨f, hf⟩ : ∃ f, f = L[j] := ⟨_, rfl⟩
      rw [← hf] at hcell hpy hsn
      clear hf
      obtain ⟨t, pv, q, r, xs⟩ := f
      obtain ⟨pa, pn, pc, hpv⟩ := hpy.sl
      simp only at hpv
      subst hpv
      have k0 : wr.cell? ⟨g, j * 4, none⟩ = some (.string t) := hcell 0 (by omega)
      have k1 : wr.cell? ⟨g, j * 4 + 1, none⟩ = some (.slice pa pn pc) := hcell 1 (by omega)
      have k2 : wr.cell? ⟨g, j * 4 + 2, none⟩ = some (.int .i64 q) := hcell 2 (by omega)
      have k3 : wr.cell? ⟨g, j * 4 + 3, none⟩ = some (.bool r) := hcell 3 (by omega)
      have C := hidi (notSend_any (w := wr) t pa pn pc q r hsn)
      clear hcell hpy hsn hjl hle
      go_wp2_with (go_at_call 60; refine C.out.mono ?_; rintro e w1 ⟨rfl, hb⟩; have HB := hidi (HI.out.trans (hb.mono HI.out.size)); clear hb)
      go_roundg (n - (j + 1))
      case measure => omega
      case rel => exact ⟨j + 1, by omega, by first | rfl | simp, HB.out⟩
    · have hlt : ¬ (j : Int) < (n : Int) := by omega
      go_wp2_with fail
      go_ret
      exact ⟨rfl, HI.out⟩
set_option maxRecDepth 100000 in
set_option maxHeartbeats 1000000 in
theorem containsF_any {w : World} {B n : Nat} {v : Value} {L : List Ms} (h : w.ownsRow B 30 4 v n (mrow L)) (hn : n = L.length) (hm : n ≤ 1000000) (hp : ∀ m ∈ L, PB w m.v m.xs) (hs : ∀ m ∈ L, Sn m.q) : Calls Tryd.prog 59 #[v, .func (.func 60) #[] #[]] w fun e w' => e = .returned (.bool false) ∧ Below w.heap.size w w' := by
  obtain ⟨a, c, hv⟩ := own_sl h
  have C := hidi (indexF_any h hn hm hp hs)
  subst hv
  clear h hn hm hp hs
  go_enter Tryd.func59, Tryd.ntmps59
  go_wp2_with (go_at_call 70; refine C.out.mono ?_; rintro e w1 ⟨rfl, hb⟩; have HB := hidi hb; clear hb)
  go_ret
  exact ⟨rfl, HB.out⟩
/-! ### isForm -/
/-- The image of a window in memory. -/
structure Imo (w : World) (p : Pw) (L : List Fo) (L' : List Ms) (vf vq : Value) : Prop where
  fl : w.ownsRow 0 45 6 vf L.length (frow L)
  fp : ∀ o ∈ L, PB w o.m.v o.m.xs
  qu : w.ownsRow 0 30 4 vq L'.length (mrow L')
  qp : ∀ o ∈ L', PB w o.v o.xs
  ef : L.map Fo.p = p.fl
  eq : L'.map Ms.p = p.wt
theorem ImP.imo {w w' : World} {p : Pw} {vf vq : Value} (h : ImP w w' p vf vq) : ∃ L L', Imo w' p L L' vf vq := by
  obtain ⟨L, a1, a2, a3⟩ := h.fl
  obtain ⟨L', b1, b2, b3⟩ := h.qu
  have e1 : L.length = p.fl.length := by rw [← a2, List.length_map]
  have e2 : L'.length = p.wt.length := by rw [← b2, List.length_map]
  exact ⟨L, L', by rw [e1]; exact own0 a1, a3, by rw [e2]; exact own0 b1, b3, a2, b2⟩
theorem Imo.below {w w' : World} {p : Pw} {L : List Fo} {L' : List Ms} {vf vq : Value} (h : Imo w p L L' vf vq) (hb : Below w.heap.size w w') : Imo w' p L L' vf vq :=
  ⟨own_below h.fl hb, fun o ho => (h.fp o ho).keep (Kb.below hb), own_below h.qu hb, fun o ho => (h.qp o ho).keep (Kb.below hb), h.ef, h.eq⟩
theorem Fo.fine {p : Pw} {L : List Fo} (h : ImOk p) (e : L.map Fo.p = p.fl) {o : Fo} (ho : o ∈ L) : (1 ≤ o.id ∧ o.id ≤ 65535) ∧ ((o.rel = true → o.m.zero) ∧ (o.rel = false → Sn o.m.q)) ∧ o.m.t.size ≤ 1000000 := by
  have hm : o.p ∈ p.fl := by rw [← e]; exact List.mem_map.2 ⟨o, ho, rfl⟩
  refine ⟨h.rg _ hm, ⟨fun hr => ?_, (h.sf _ hm).2⟩, h.fi.ft _ hm⟩
  have z := (h.sf _ hm).1 hr
  have z' : o.m.p = zMp := z
  unfold Ms.p zMp at z'
  simp only [Mp.mk.injEq] at z'
  exact z'
theorem seen_step {ids : List Nat} (id : Nat) : setT (fun x => decide (x ∈ ids)) id true = fun x => decide (x ∈ ids ++ [id]) := by
  funext x
  unfold setT
  by_cases e : x = id
  · subst e; simp
  · simp [e]
/-- The numbers that were seen. -/
structure Sn2 (w wx : World) (nb j : Nat) (L : List Fo) : Prop where
  ex : ∃ mv N, NT wx mv (fun x => decide (x ∈ (L.take j).map (·.id))) N ∧ wx.heap[nb]? = some (.cells #[mv] 73 (0, 0)) ∧ N ≤ j ∧ (∀ g, mv = .map (some g) → w.heap.size ≤ g)
  bel : Below w.heap.size w wx
  ge : w.heap.size ≤ nb
theorem Sn2.below {w wx wy : World} {nb j : Nat} {L : List Fo} (h : Sn2 w wx nb j L) (hb : Below wx.heap.size wx wy) : Sn2 w wy nb j L := by
  obtain ⟨mv, N, h1, h2, h3, h4⟩ := h.ex
  refine ⟨⟨mv, N, h1.keep (fun b q => hb.block b ?_), later_at h2 hb, h3, h4⟩, h.bel.trans (hb.mono h.bel.size), h.ge⟩
  obtain ⟨es, cl, e⟩ := h1.block q
  exact (Array.getElem?_eq_some_iff.1 e).1
theorem Sn2.has {w wx : World} {nb j : Nat} {L : List Fo} (h : Sn2 w wx nb j L) (hj : j < L.length) (hd : (L.map (·.id)).Nodup) (hr : L[j].id ≤ 65535) : Calls Tryd.prog 31 #[.pointer (some ⟨nb, 0, none⟩), .int .i64 (L[j].id : Int)] wx fun e w' => e = .returned (.bool false) ∧ Below wx.heap.size wx w' := by
  obtain ⟨mv, N, h1, h2, h3, h4⟩ := h.ex
  refine (has_any h1 (box_cells h2 0 _ rfl) (L[j].id : Int) (okI_nat _ (by omega))).mono ?_
  rintro e w' ⟨rfl, m, rfl⟩
  refine ⟨?_, below_drewN (Below.refl _ _)⟩
  have hn : L[j].id ∉ (L.take j).map (·.id) := by
    intro q
    obtain ⟨x, hx, e⟩ := List.mem_map.1 q
    obtain ⟨k, hk, rfl⟩ := List.getElem_of_mem hx
    have hk' : k < j := by rw [List.length_take] at hk; omega
    refine List.pairwise_iff_getElem.1 hd k j (by rw [List.length_map]; omega) (by rw [List.length_map]; exact hj) hk' ?_
    rw [List.getElem_map, List.getElem_map, ← e, List.getElem_take]
  rw [Int.toNat_natCast, decide_eq_false hn, Bool.and_false]
theorem Sn2.put {w wx : World} {nb j : Nat} {L : List Fo} (h : Sn2 w wx nb j L) (hj : j < L.length) (hl : L.length ≤ 100000) (hr : L[j].id ≤ 65535) : Calls Tryd.prog 30 #[.pointer (some ⟨nb, 0, none⟩), .int .i64 (L[j].id : Int)] wx fun e w' => e = .returned (.tuple #[]) ∧ Sn2 w w' nb (j + 1) L := by
  obtain ⟨mv, N, h1, h2, h3, h4⟩ := h.ex
  refine (put_any h1 h2 (i := 0) rfl L[j].id hr (by omega)).mono ?_
  rintro e w' ⟨rfl, mb, k1, k2, k3, k4⟩
  have hge := h.ge
  have hbl : ∀ b, Of2 nb mv b → w.heap.size ≤ b := fun b q => by
    rcases q with q | q
    · omega
    · exact h4 b q
  refine ⟨rfl, ⟨⟨_, N + 1, ?_, k3, by omega, ?_⟩, ?_, h.ge⟩⟩
  · rw [seen_step] at k2
    rw [List.take_succ_eq_append_getElem hj, List.map_append]
    exact k2
  · intro g e
    simp at e
    subst e
    rcases k1 with q | ⟨q, q2⟩
    · exact h4 _ q
    · have := h.bel.size; omega
  · exact ⟨k4.os.trans h.bel.os, k4.tape.trans h.bel.tape, k4.output.trans h.bel.output, Nat.le_trans h.bel.size k4.size, fun k hk => (k4.block k (Nat.lt_of_lt_of_le hk h.bel.size) (fun q => by have := hbl k q; omega)).trans (h.bel.block k hk)⟩
set_option maxRecDepth 100000 in
set_option maxHeartbeats 4000000 in
theorem isForm_any {w : World} {p : Pw} {L : List Fo} {L' : List Ms} {vf vq : Value} (h : Imo w p L L' vf vq) (hk : ImOk p) : Calls Tryd.prog 43 #[.agg #[.int .i64 (p.last : Int), vf, vq]] w fun e w' => e = .returned (.bool true) ∧ Below w.heap.size w w' := by
  obtain ⟨fa, fc, rfl⟩ := own_sl h.fl
  obtain ⟨qa, qc, hvq⟩ := own_sl h.qu
  subst hvq
  have eL : L.length = p.fl.length := by rw [← h.ef, List.length_map]
  have eL' : L'.length = p.wt.length := by rw [← h.eq, List.length_map]
  have hids : (L.map (·.id)).Nodup := by
    have : L.map (·.id) = (L.map Fo.p).map (·.id) := by rw [List.map_map]; rfl
    rw [this, h.ef]
    exact hk.nd
  have H := hidi (And.intro h (And.intro hk (And.intro (show L.length + L'.length ≤ 100000 by have := hk.lt; omega) hids)))
  obtain ⟨ls, hls⟩ : ∃ ls : Nat, ls = p.last := ⟨_, rfl⟩
  have hl1 : ¬ ((ls : Int) < 0) := by omega
  have hl2 : ¬ (65535 < (ls : Int)) := by have := hk.ls; omega
  have hl3 : decide ((ls : Int) < 0) = false := decide_eq_false hl1
  have hl4 : decide ((65535 : Int) < (ls : Int)) = false := decide_eq_false hl2
  rw [← hls]
  clear hls h hk eL eL' hids
  obtain ⟨n, hn⟩ : ∃ n, n = L.length := ⟨_, rfl⟩
  obtain ⟨n', hn'⟩ : ∃ n', n' = L'.length := ⟨_, rfl⟩
  rw [← hn, ← hn']
  have HN := hidi (And.intro hn hn')
  clear hn hn'
  obtain ⟨w1, hw1⟩ : ∃ w1, w1 = w.alloc (.cells #[.int .i64 (ls : Int), .slice fa n fc, .slice qa n' qc] 41) := ⟨_, rfl⟩
  obtain ⟨w2, hw2⟩ : ∃ w2, w2 = w1.alloc (.cells #[.map none] 73) := ⟨_, rfl⟩
  obtain ⟨q1, q2, q3⟩ := two_alloc w (.cells #[.int .i64 (ls : Int), .slice fa n fc, .slice qa n' qc] 41) (.cells #[.map none] 73)
  have b2 := two_below w (.cells #[.int .i64 (ls : Int), .slice fa n fc, .slice qa n' qc] 41) (.cells #[.map none] 73)
  rw [← hw1, ← hw2] at q1 q2 q3 b2
  have hs1 : w1.heap.size = w.heap.size + 1 := by rw [hw1]; simp
  have a1 : w1.heap[w.heap.size]? = some (.cells #[.int .i64 (ls : Int), .slice fa n fc, .slice qa n' qc] 41 (0, 0)) := by rw [hw1]; exact heap_alloc_new _ _
  have c0 := box_cells a1 0 _ rfl
  have b12 : Below w1.heap.size w1 w2 := by rw [hw2]; exact (Below.refl _ _).alloc (Nat.le_refl _) _
  have b1 : Below w.heap.size w w1 := by rw [hw1]; exact (Below.refl _ _).alloc (Nat.le_refl _) _
  have S0 := hidi (show Sn2 w1 w2 w1.heap.size 0 L from ⟨⟨.map none, 0, by simpa using NT.nil w2, by rw [hs1]; exact q2, Nat.le_refl _, by intro g e; cases e⟩, b12, Nat.le_refl _⟩)
  have A1 := hidi (And.intro a1 b1)
  have c1 := box_cells q1 1 _ rfl
  obtain ⟨bx, hbx⟩ : ∃ bx, bx = w.heap.size := ⟨_, rfl⟩
  obtain ⟨nb, hnb⟩ : ∃ nb, nb = w1.heap.size := ⟨_, rfl⟩
  rw [← hnb] at S0
  rw [← hbx] at c0 c1
  clear q1 q2 b2 a1 q3 hs1 b12 b1
  go_enter Tryd.func43, Tryd.ntmps43
  go_upto_region 1 with fail
  rw [← hw1, ← hbx]
  have HBX := hidi hbx
  clear hw1 hbx
  go_upto_region 4 with fail
  rw [← hw2, ← hnb]
  clear hw2 c0 hnb
  go_wp2_with fail
  clear c1
  have A1' := hidi (show w1.heap[bx]? = some (.cells #[.int .i64 (ls : Int), .slice fa n fc, .slice qa n' qc] 41 (0, 0)) by rw [HBX.out]; exact A1.out.1)
  clear HBX
  go_loopg [17] n (fun gk s17 wx => ∃ j : Nat, j + gk = n ∧ s17 = .int .i64 j ∧ Hid (Sn2 w1 wx nb j L))
  case atStart => exact ⟨0, by omega, rfl, S0.out⟩
  case round =>
    obtain ⟨j, hj, rfl, HI⟩ := hrel
    clear S0
    by_cases hjn : j < n
    · have hlt : (j : Int) < (n : Int) := by omega
      have hge : (0 : Int) ≤ (j : Int) := by omega
      have hjl : j < L.length := by rw [← HN.out.1]; exact hjn
      have hw1 : IntKind.i64.wrap ((j : Int) + 1) = (j : Int) + 1 := by rw [IntKind.wrap_i64]; have := H.out.2.2.1; omega
      have hbw : Below w.heap.size w wr := A1.out.2.trans (HI.out.bel.mono A1.out.2.size)
      have hrow := own_below H.out.1.fl hbw
      rw [← HN.out.1] at hrow
      obtain ⟨g, c', hv, hcell⟩ := frow_cell hrow hjn hjl
      simp only [Value.slice.injEq, true_and] at hv
      obtain ⟨rfl, rfl⟩ := hv
      have hpy := (H.out.1.fp _ (List.getElem_mem hjl)).keep (Kb.below hbw)
      obtain ⟨hrg, hsn, -⟩ := Fo.fine H.out.2.1 H.out.1.ef (List.getElem_mem hjl)
      have HAS := hidi (fun (wx : World) (h : Sn2 w1 wx nb j L) => h.has hjl H.out.2.2.2 hrg.2)
      have PUT := hidi (fun (wx : World) (h : Sn2 w1 wx nb j L) => h.put hjl (by have := H.out.2.2.1; omega) hrg.2)
      obtain ⟨f, hf⟩ : ∃ f, f = L[j] := ⟨_, rfl⟩
      rw [← hf] at hcell hpy hsn hrg HAS PUT
      clear hf hrow
      obtain ⟨id, ⟨t, pv, q, r, xs⟩, rel⟩ := f
      obtain ⟨pa, pn, pc, hpv⟩ := hpy.sl
      simp only at hpv hrg HAS PUT
      subst hpv
      have k0 : wr.cell? ⟨g, j * 6, none⟩ = some (.int .i64 (id : Int)) := hcell 0 (by omega)
      have k1 : wr.cell? ⟨g, j * 6 + 1, none⟩ = some (.string t) := hcell 1 (by omega)
      have k2 : wr.cell? ⟨g, j * 6 + 2, none⟩ = some (.slice pa pn pc) := hcell 2 (by omega)
      have k3 : wr.cell? ⟨g, j * 6 + 3, none⟩ = some (.int .i64 q) := hcell 3 (by omega)
      have k4 : wr.cell? ⟨g, j * 6 + 4, none⟩ = some (.bool r) := hcell 4 (by omega)
      have k5 : wr.cell? ⟨g, j * 6 + 5, none⟩ = some (.bool rel) := hcell 5 (by omega)
      obtain ⟨w3, hw3⟩ : ∃ w3, w3 = wr.alloc (.cells #[.int .i64 (id : Int), .string t, .slice pa pn pc, .int .i64 q, .bool r, .bool rel] 45) := ⟨_, rfl⟩
      have a3 := heap_alloc_new wr (.cells #[.int .i64 (id : Int), .string t, .slice pa pn pc, .int .i64 q, .bool r, .bool rel] 45)
      have b3 : Below wr.heap.size wr (wr.alloc (.cells #[.int .i64 (id : Int), .string t, .slice pa pn pc, .int .i64 q, .bool r, .bool rel] 45)) := (Below.refl _ _).alloc (Nat.le_refl _) _
      rw [← hw3] at a3 b3
      have S3 := hidi (HI.out.below b3)
      obtain ⟨ob, hob⟩ : ∃ ob, ob = wr.heap.size := ⟨_, rfl⟩
      rw [← hob] at a3
      have e0 := box_cells a3 0 _ rfl
      have ISID := hidi (show ∀ W, Calls Tryd.prog 51 #[.int .i64 (id : Int)] W fun e w' => e = .returned (.bool true) ∧ w' = W from fun W => by
        have := isID_any (id : Int) W
        rw [show decide (1 ≤ (id : Int) ∧ (id : Int) ≤ 65535) = true from decide_eq_true (by omega)] at this
        exact this)
      have A3 := hidi a3
      have HP := hidi (And.intro (hpy.keep (Kb.below b3)) hsn)
      clear hcell hpy hsn hrg b3 a3 hbw hjl HI
      go_upto_region 7 with fail
      rw [← hw3, ← hob]
      clear hw3 hob k0 k1 k2 k3 k4 k5
      go_wp2_with (first
        | (go_at_call 51; refine (ISID.out _).mono ?_; rintro e w' ⟨rfl, rfl⟩)
        | (go_at_call 31; refine (HAS.out _ S3.out).mono ?_; rintro e w4 ⟨rfl, hb4⟩; have S4 := hidi (S3.out.below hb4); have a4 := later_at A3.out hb4; have d0 := box_cells a4 0 _ rfl; have d1 := box_cells a4 1 _ rfl; have d2 := box_cells a4 2 _ rfl; have d3 := box_cells a4 3 _ rfl; have d4 := box_cells a4 4 _ rfl; have d5 := box_cells a4 5 _ rfl; have A4 := hidi a4; have HP4 := hidi (isFlight_any (w := w4) (id : Int) ⟨t, .slice pa pn pc, q, r, xs⟩ rel (HP.out.1.keep (Kb.below hb4)) HP.out.2); clear hb4 a4)
        | (go_at_call 58; refine HP4.out.mono ?_; clear HP4 d0 d1 d2 d3 d4 d5; rintro e w5 ⟨rfl, hb5⟩; have S5 := hidi (S4.out.below hb5); have f0 := box_cells (later_at A4.out hb5) 0 _ rfl; clear hb5)
        | (go_at_call 30; refine (PUT.out _ S5.out).mono ?_; rintro e w6 ⟨rfl, hs6⟩; have S6 := hidi hs6; clear hs6))
      go_roundg (n - (j + 1))
      case measure => omega
      case rel => exact ⟨j + 1, by omega, by first | rfl | simp, S6.out⟩
    · have hlt : ¬ (j : Int) < (n : Int) := by omega
      have hbw : Below w.heap.size w wr := A1.out.2.trans (HI.out.bel.mono A1.out.2.size)
      have c2 := box_cells ((HI.out.bel.block bx (Array.getElem?_eq_some_iff.1 A1'.out).1).trans A1'.out) 2 _ rfl
      have hq := H.out.1.below hbw
      have CF := hidi (containsF_any hq.qu rfl (by have := H.out.2.2.1; omega) hq.qp (fun m hm => by
        have hmm : m.p ∈ p.wt := by rw [← hq.eq]; exact List.mem_map.2 ⟨m, hm, rfl⟩
        exact H.out.2.1.sl _ hmm))
      rw [← HN.out.2] at CF
      have HB := hidi hbw
      clear hbw hq
      go_wp2_with (go_at_call 59; refine CF.out.mono ?_; rintro e w3 ⟨rfl, hb3⟩; have HB3 := hidi (HB.out.trans (hb3.mono HB.out.size)); clear hb3)
      go_ret
      exact ⟨rfl, HB3.out⟩
end Go.Proofs.YtbjhblnagmpnfaaDoor
