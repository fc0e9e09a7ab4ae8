import Derived.Test.YtipagdhoeocjeaaGreatNw
import Derived.Test.YtipagdhoeocjeaaGreatNk
namespace Go.Proofs.YtipagdhoeocjeaaGreat.Li
open Go Go.RowKit Go.Shelf
set_option linter.unusedSimpArgs false
set_option linter.unusedVariables false
/-- Are two messages the same? -/
def eqM (a b : Msg) : Bool := decide (a.t = b.t) && decide (a.q = b.q) && decide (a.r = b.r) && decide (a.xs = b.xs)
theorem eqM_iff (a b : Msg) : eqM a b = true ↔ a = b := by
  obtain ⟨t1, x1, q1, r1⟩ := a
  obtain ⟨t2, x2, q2, r2⟩ := b
  unfold eqM
  simp only [Bool.and_eq_true, decide_eq_true_eq, Msg.mk.injEq]
  constructor
  · rintro ⟨⟨⟨a, b⟩, c⟩, d⟩; exact ⟨a, d, b, c⟩
  · rintro ⟨a, d, b, c⟩; exact ⟨⟨⟨a, b⟩, c⟩, d⟩
set_option maxRecDepth 100000 in
set_option maxHeartbeats 4000000 in
theorem smsg_any {w : World} {v1 v2 : Value} {m1 m2 : Msg} (h1 : PR w v1 m1.xs) (h2 : PR w v2 m2.xs) :
    Calls Tryz.prog 33 #[m1.val v1, m2.val v2] w fun e w' => e = .returned (.bool (eqM m1 m2)) ∧ Below w.heap.size w w' := by
  obtain ⟨a1, c1, rfl, -⟩ := h1.sl
  obtain ⟨a2, c2, rfl, -⟩ := h2.sl
  obtain ⟨n1, hn1⟩ : ∃ n, n = m1.xs.length := ⟨_, rfl⟩
  obtain ⟨n2, hn2⟩ : ∃ n, n = m2.xs.length := ⟨_, rfl⟩
  rw [← hn1] at h1 ⊢
  rw [← hn2] at h2 ⊢
  obtain ⟨t1, x1, q1, r1⟩ := m1
  obtain ⟨t2, x2, q2, r2⟩ := m2
  have SB := hidi (fun (w1 : World) (hb : Below w.heap.size w w1) => sbytes_any (h1.below hb) (h2.below hb))
  obtain ⟨bx, hbx⟩ : ∃ bx, bx = decide (x1 = x2) := ⟨_, rfl⟩
  simp only at SB
  rw [← hbx] at SB
  have BA := hidi (show Below w.heap.size w ((w.alloc (.cells #[.string t1, .slice a1 n1 c1, .int .i64 q1, .bool r1] 30)).alloc (.cells #[.string t2, .slice a2 n2 c2, .int .i64 q2, .bool r2] 30)) from ((Below.refl _ _).alloc (Nat.le_refl _) _).alloc (by rw [size_alloc]; omega) _)
  have EQ : Hid (eqM ⟨t1, x1, q1, r1⟩ ⟨t2, x2, q2, r2⟩ = (decide (t1 = t2) && decide (q1 = q2) && decide (r1 = r2) && bx)) := by
    show _ = _
    rw [hbx]
    rfl
  obtain ⟨res, hres⟩ : ∃ res, res = eqM ⟨t1, x1, q1, r1⟩ ⟨t2, x2, q2, r2⟩ := ⟨_, rfl⟩
  rw [← hres] at EQ ⊢
  unfold Msg.val Msg.cs
  clear h1 h2 hn1 hn2 hbx hres
  by_cases ht : t1 = t2
  · have e1 : (t1.toList == t2.toList) = true := by rw [teq]; exact decide_eq_true ht
    by_cases hq : q1 = q2
    · have e2 : (q1 == q2) = true := by simp [hq]
      by_cases hr : r1 = r2
      · have e3 : (r1 == r2) = true := by simp [hr]
        have FIN := hidi (show res = bx from by rw [EQ.out]; simp [ht, hq, hr])
        clear ht hq hr EQ
        go_enter Tryz.func33, Tryz.ntmps33
        go_wp2_with (go_at_call 55; refine (SB.out _ BA.out).mono ?_; rintro e w2 ⟨rfl, hb⟩; have B2 := hidi (BA.out.trans (hb.mono BA.out.size)); clear hb SB)
        go_ret
        exact ⟨by rw [FIN.out]; rfl, B2.out⟩
      · have e3 : (r1 == r2) = false := by rw [beq_eq_false_iff_ne]; exact hr
        have FIN := hidi (show res = false from by rw [EQ.out]; simp [hr])
        clear ht hq hr EQ SB
        go_enter Tryz.func33, Tryz.ntmps33
        go_wp2_with fail
        go_ret
        exact ⟨by rw [FIN.out]; rfl, BA.out⟩
    · have e2 : (q1 == q2) = false := by rw [beq_eq_false_iff_ne]; exact hq
      have FIN := hidi (show res = false from by rw [EQ.out]; simp [hq])
      clear ht hq EQ SB
      go_enter Tryz.func33, Tryz.ntmps33
      go_wp2_with fail
      go_ret
      exact ⟨by rw [FIN.out]; rfl, BA.out⟩
  · have e1 : (t1.toList == t2.toList) = false := by rw [teq]; exact decide_eq_false ht
    have FIN := hidi (show res = false from by rw [EQ.out]; simp [ht])
    clear ht EQ SB
    go_enter Tryz.func33, Tryz.ntmps33
    go_wp2_with fail
    go_ret
    exact ⟨by rw [FIN.out]; rfl, BA.out⟩
/-- The messages of a list. -/
def mm (l : List Ml) : List Msg := l.map (·.1)
theorem mm_get {l : List Ml} {k : Nat} {s : Ml} (h : l[k]? = some s) : (mm l)[k]? = some s.1 := by unfold mm; rw [List.getElem?_map, h]; rfl
theorem mm_len (l : List Ml) : (mm l).length = l.length := List.length_map _
set_option maxRecDepth 100000 in
set_option maxHeartbeats 4000000 in
theorem smsgs_any {w : World} {v1 v2 : Value} {L1 L2 : List Ml} (h1 : MsIn w v1 L1) (h2 : MsIn w v2 L2) (hl : L1.length ≤ 1000000) :
    Calls Tryz.prog 14 #[v1, v2] w fun e w' => ∃ b, e = .returned (.bool b) ∧ (b = true ↔ mm L1 = mm L2) ∧ Below w.heap.size w w' := by
  obtain ⟨a1, n1, c1, rfl, hn1, hc1, k1⟩ := h1.ex
  obtain ⟨a2, n2, c2, rfl, hn2, hc2, k2⟩ := h2.ex
  by_cases hn : n1 = n2
  · subst hn
    have q : (((n1 : Nat) : Int) != (n1 : Int)) = false := by simp
    have HN := hidi (And.intro hn1 (And.intro hn2 hl))
    have K1 := hidi k1
    have K2 := hidi k2
    have P1 := hidi (fun s (hs : s ∈ L1) => h1.pr s hs)
    have P2 := hidi (fun s (hs : s ∈ L2) => h2.pr s hs)
    clear h1 h2 k1 k2 hn1 hn2 hl
    go_enter Tryz.func14, Tryz.ntmps14
    go_wp2_with fail
    go_loopg [5] n1 (fun gg s5 wx => ∃ k : Nat, k ≤ n1 ∧ gg = n1 - k ∧ s5 = .int .i64 k ∧ Hid (Below w.heap.size w wx ∧ ∀ i, i < k → (mm L1)[i]? = (mm L2)[i]?))
    case atStart => exact ⟨0, Nat.zero_le _, rfl, rfl, Below.refl _ _, fun i hi => absurd hi (Nat.not_lt_zero i)⟩
    case round =>
      obtain ⟨k, hk, rfl, rfl, Z⟩ := hrel
      by_cases hlt : k < n1
      · have hlt' : (k : Int) < n1 := by omega
        obtain ⟨s, hs⟩ : ∃ s, L1[k]? = some s := ⟨_, List.getElem?_eq_getElem (by have := HN.out.1; omega)⟩
        obtain ⟨t, ht⟩ : ∃ t, L2[k]? = some t := ⟨_, List.getElem?_eq_getElem (by have := HN.out.2.1; omega)⟩
        obtain ⟨g1, o1, rfl, hg1, q1⟩ := K1.out (fun e => by subst e; simp at hs)
        obtain ⟨g2, o2, rfl, hg2, q2⟩ := K2.out (fun e => by subst e; simp at ht)
        obtain ⟨x1, x2, x3, x4⟩ := q1 k s hs
        obtain ⟨y1, y2, y3, y4⟩ := q2 k t ht
        have ps := P1.out s (List.mem_of_getElem? hs)
        have pt := P2.out t (List.mem_of_getElem? ht)
        obtain ⟨m, sv⟩ := s
        obtain ⟨u, tv⟩ := t
        obtain ⟨pa, pc, hpv, -⟩ := ps.sl
        have hpv : sv = .slice pa m.xs.length pc := hpv
        obtain ⟨ra, rc, hrv, -⟩ := pt.sl
        have hrv : tv = .slice ra u.xs.length rc := hrv
        obtain ⟨px, hpx⟩ : ∃ px, px = m.xs.length := ⟨_, rfl⟩
        obtain ⟨rx, hrx⟩ : ∃ rx, rx = u.xs.length := ⟨_, rfl⟩
        rw [← hpx] at hpv
        rw [← hrx] at hrv
        subst hpv hrv
        have X1 : wr.cell? ⟨g1, o1 + k * 4, none⟩ = some (.string m.t) := by rw [Z.out.1.cell (by exact hg1)]; exact x1
        have X2 : wr.cell? ⟨g1, o1 + k * 4 + 1, none⟩ = some (.slice pa px pc) := by rw [Z.out.1.cell (by exact hg1)]; exact x2
        have X3 : wr.cell? ⟨g1, o1 + k * 4 + 2, none⟩ = some (.int .i64 m.q) := by rw [Z.out.1.cell (by exact hg1)]; exact x3
        have X4 : wr.cell? ⟨g1, o1 + k * 4 + 3, none⟩ = some (.bool m.r) := by rw [Z.out.1.cell (by exact hg1)]; exact x4
        have Y1 : wr.cell? ⟨g2, o2 + k * 4, none⟩ = some (.string u.t) := by rw [Z.out.1.cell (by exact hg2)]; exact y1
        have Y2 : wr.cell? ⟨g2, o2 + k * 4 + 1, none⟩ = some (.slice ra rx rc) := by rw [Z.out.1.cell (by exact hg2)]; exact y2
        have Y3 : wr.cell? ⟨g2, o2 + k * 4 + 2, none⟩ = some (.int .i64 u.q) := by rw [Z.out.1.cell (by exact hg2)]; exact y3
        have Y4 : wr.cell? ⟨g2, o2 + k * 4 + 3, none⟩ = some (.bool u.r) := by rw [Z.out.1.cell (by exact hg2)]; exact y4
        have hw : IntKind.i64.wrap ((k : Int) + 1) = (k : Int) + 1 := by rw [IntKind.wrap_i64]; have := HN.out; omega
        have SM := hidi (fun (w1 : World) (hb : Below wr.heap.size wr w1) => smsg_any (m1 := m) (m2 := u) (ps.below (Z.out.1.trans (hb.mono Z.out.1.size))) (pt.below (Z.out.1.trans (hb.mono Z.out.1.size))))
        have G1 := hidi (mm_get hs)
        have G2 := hidi (mm_get ht)
        have EI := hidi (eqM_iff m u)
        obtain ⟨b, hb⟩ : ∃ b, b = eqM m u := ⟨_, rfl⟩
        rw [← hb] at SM EI
        unfold Msg.val Msg.cs at SM
        clear hs ht q1 q2 x1 x2 x3 x4 y1 y2 y3 y4 ps pt hpx hrx hg1 hg2 hb
        go_upto_region 6 with fail
        have D1 := hidi ((Below.refl wr.heap.size wr).drew)
        have CC := hidi (SM.out _ D1.out)
        cases b with
        | true =>
          have NX := hidi (show ∀ i, i < k + 1 → (mm L1)[i]? = (mm L2)[i]? from fun i hi => by
            by_cases c : i = k
            · rw [c, G1.out, G2.out, EI.out.1 rfl]
            · exact Z.out.2 i (by omega))
          clear G1 G2 EI SM
          go_region_with (go_at_call 33; refine CC.out.mono ?_; rintro e w2 ⟨rfl, hb⟩; have B2 := hidi (Z.out.1.trans ((D1.out.trans (hb.mono D1.out.size)).mono Z.out.1.size)); clear hb CC)
          all_goals go_wp2_with fail
          all_goals go_roundg (n1 - (k + 1))
          all_goals first
            | omega
            | exact ⟨k + 1, by omega, rfl, by simp, B2.out, NX.out⟩
        | false =>
          have FIN := hidi (show ¬ mm L1 = mm L2 from fun c => by
            have h := G1.out
            rw [c, G2.out] at h
            injection h with h
            have := EI.out.2 h.symm
            cases this)
          clear G1 G2 EI SM
          go_region_with (go_at_call 33; refine CC.out.mono ?_; rintro e w2 ⟨rfl, hb⟩; have B2 := hidi (Z.out.1.trans ((D1.out.trans (hb.mono D1.out.size)).mono Z.out.1.size)); clear hb CC)
          all_goals go_wp2_with fail
          all_goals go_ret
          all_goals exact ⟨false, rfl, ⟨(fun c => by cases c), fun c => (FIN.out c).elim⟩, B2.out⟩
      · have hlt' : ¬ (k : Int) < n1 := by omega
        have FIN := hidi (show mm L1 = mm L2 from by
          apply List.ext_getElem?
          intro i
          by_cases c : i < k
          · exact Z.out.2 i c
          · rw [List.getElem?_eq_none (by rw [mm_len]; have := HN.out; omega), List.getElem?_eq_none (by rw [mm_len]; have := HN.out; omega)])
        go_wp2_with fail
        go_ret
        exact .inr ⟨rfl, FIN.out, Z.out.1⟩
  · have q : (((n1 : Nat) : Int) != (n2 : Int)) = true := by simp; omega
    have FIN := hidi (show ¬ mm L1 = mm L2 from fun c => hn (by rw [hn1, hn2, ← mm_len, c, mm_len]))
    clear h1 h2 k1 k2 hn1 hn2 hn
    go_enter Tryz.func14, Tryz.ntmps14
    go_wp2_with fail
    go_ret
    exact ⟨false, rfl, ⟨(fun c => by cases c), fun c => (FIN.out c).elim⟩, Below.refl _ _⟩
end Go.Proofs.YtipagdhoeocjeaaGreat.Li
namespace Go.Proofs.YtipagdhoeocjeaaGreat.Li
open Go Go.RowKit Go.Shelf
set_option linter.unusedSimpArgs false
set_option linter.unusedVariables false
theorem levels_inj {a b : ByteArray} (h : levels a = levels b) : a = b := by
  have h1 := levels_split a
  rw [h, levels_split b] at h1
  exact un_inj (split_inj h1.symm)
theorem hid_iff (t : ByteArray) : hidB (levels t) = true ↔ atB t 0 = 36 := by
  obtain ⟨x, rs, hl, _⟩ := levels_head t
  rw [hl]
  show Lib.hasPrefix (unB x) [36] = true ↔ _
  have h1 := levels_split t
  rw [hl, List.map_cons] at h1
  rw [atB_un]
  cases hu : unB t with
  | nil =>
    rw [hu] at h1
    rw [show split ([] : List UInt8) = [[]] from rfl] at h1
    injection h1 with h1 _
    rw [h1]
    simp [Lib.hasPrefix]
  | cons a l =>
    rw [hu] at h1
    by_cases c : a = 47
    · subst c
      rw [split_slash] at h1
      injection h1 with h1 _
      rw [h1]
      simp [Lib.hasPrefix]
    · obtain ⟨hh, tt, es⟩ := split_some l
      rw [split_plain a l hh tt c es] at h1
      injection h1 with h1 _
      rw [h1]
      have : Lib.hasPrefix (a :: hh) [36] = true ↔ a = 36 := by
        constructor
        · intro h
          simp [Lib.hasPrefix, List.isPrefixOf] at h
          first | exact h | exact h.symm
        · intro h
          simp [Lib.hasPrefix, List.isPrefixOf, h]
      rw [this]
      simp
      constructor
      · intro e; rw [e]; rfl
      · intro e; exact UInt8.toNat_inj.1 e
/-- Match, and what Find finds. -/
theorem mch_iff (f : ByteArray) {t : ByteArray} (ht : tcode t = 0) : mch f t = true ↔ FindS f (levels t) := by
  unfold mch FindS mtb
  rw [levels_split, levels_split, hid_iff]
  simp only [Bool.and_eq_true, decide_eq_true_eq, Bool.not_eq_true']
  constructor
  · rintro ⟨⟨⟨a, _⟩, b⟩, c⟩
    refine ⟨a, fun d => ?_, c⟩
    rw [Bool.and_eq_false_iff] at b
    rcases b with b | b
    · exact of_decide_eq_false b d.1
    · rw [d.2] at b; cases b
  · rintro ⟨a, b, c⟩
    refine ⟨⟨⟨a, ht⟩, ?_⟩, c⟩
    rw [Bool.and_eq_false_iff]
    by_cases d : atB t 0 = 36
    · right
      cases e : hd0 (split (unB f)) with
      | false => rfl
      | true => exact (b ⟨d, e⟩).elim
    · exact .inl (decide_eq_false d)
theorem cmp_of {a b : ByteArray} (h : ltV (levels a) (levels b)) : cmpL (unB a) (unB b) = -1 := by
  unfold ltV at h
  rwa [levels_split, levels_split, cmpV_split] at h
/-- Is a message of this topic and of a right quality? -/
def sameT (z y : Msg) : Bool := decide (y.t = z.t) && decide (0 ≤ y.q) && decide (y.q ≤ 2)
/-- Is it the last one of its topic? -/
def lastB (z : Msg) (r : List Msg) : Bool := r.all (fun y => !sameT z y)
def goodB (f : ByteArray) (z : Msg) (r : List Msg) : Bool := decide (Rig z) && lastB z r && mch f z.t
/-- Those that must be found. -/
def goods (f : ByteArray) : List Msg → List Msg
  | [] => []
  | z :: r => if goodB f z r then z :: goods f r else goods f r
def heldR : List Msg → List ByteArray → Msg → Prop
  | [], _, _ => False
  | m :: r, F, z => (Rig m ∧ lastB m r = true ∧ z = m ∧ F = levels m.t) ∨ heldR r F z
theorem last_iff {z : Msg} {r : List Msg} (hz : Rig z) : lastB z r = true ↔ ∀ y ∈ r, Rig y → levels y.t ≠ levels z.t := by
  unfold lastB
  rw [List.all_eq_true]
  constructor
  · intro h y hy ry e
    have := h y hy
    have e := levels_inj e
    unfold sameT at this
    simp [e, ry.2.1, ry.2.2] at this
  · intro h y hy
    cases c : sameT z y with
    | false => rfl
    | true =>
      unfold sameT at c
      simp only [Bool.and_eq_true, decide_eq_true_eq] at c
      obtain ⟨⟨c1, c2⟩, c3⟩ := c
      exact (h y hy ⟨by rw [c1]; exact hz.1, c2, c3⟩ (by rw [c1])).elim
theorem fold_iff (F : List ByteArray) (z : Msg) : ∀ (l : List Msg) (E : HeldM), (l.foldl stepM E) F z ↔ heldR l F z ∨ (E F z ∧ ∀ y ∈ l, Rig y → levels y.t ≠ F)
  | [], E => by
    constructor
    · intro h; exact .inr ⟨h, fun y hy => by cases hy⟩
    · rintro (h | h)
      · exact h.elim
      · exact h.1
  | m :: l, E => by
    rw [List.foldl_cons, fold_iff F z l (stepM E m)]
    rw [show heldR (m :: l) F z = ((Rig m ∧ lastB m l = true ∧ z = m ∧ F = levels m.t) ∨ heldR l F z) from rfl]
    unfold stepM
    by_cases hm : Rig m
    · rw [if_pos hm]
      constructor
      · rintro (h | ⟨⟨h1, h2⟩ | ⟨h1, h2⟩, h3⟩)
        · exact .inl (.inr h)
        · refine .inl (.inl ⟨hm, (last_iff hm).2 (fun y hy ry => by rw [← h1]; exact h3 y hy ry), h2, h1⟩)
        · refine .inr ⟨h2, fun y hy ry => ?_⟩
          rcases List.mem_cons.1 hy with rfl | hy
          · exact fun e => h1 e.symm
          · exact h3 y hy ry
      · rintro ((⟨_, h2, h3, h4⟩ | h) | ⟨h1, h2⟩)
        · refine .inr ⟨.inl ⟨h4, h3⟩, fun y hy ry => by rw [h4]; exact (last_iff hm).1 h2 y hy ry⟩
        · exact .inl h
        · exact .inr ⟨.inr ⟨fun e => h2 m List.mem_cons_self hm e.symm, h1⟩, fun y hy => h2 y (List.mem_cons_of_mem _ hy)⟩
    · rw [if_neg hm]
      constructor
      · rintro (h | ⟨h1, h2⟩)
        · exact .inl (.inr h)
        · refine .inr ⟨h1, fun y hy ry => ?_⟩
          rcases List.mem_cons.1 hy with rfl | hy
          · exact (hm ry).elim
          · exact h2 y hy ry
      · rintro ((⟨h1, _⟩ | h) | ⟨h1, h2⟩)
        · exact (hm h1).elim
        · exact .inl h
        · exact .inr ⟨h1, fun y hy => h2 y (List.mem_cons_of_mem _ hy)⟩
theorem hold_iff (l : List Msg) (F : List ByteArray) (z : Msg) : holdM l F z ↔ heldR l F z := by
  unfold holdM
  rw [fold_iff]
  exact ⟨fun h => h.elim id (fun h => h.1.elim), .inl⟩
theorem held_mem : ∀ {l : List Msg} {F : List ByteArray} {z : Msg}, heldR l F z → z ∈ l ∧ Rig z ∧ F = levels z.t
  | [], _, _, h => h.elim
  | m :: r, F, z, h => by
    rcases h with ⟨h1, h2, rfl, h4⟩ | h
    · exact ⟨List.mem_cons_self, h1, h4⟩
    · obtain ⟨a, b, c⟩ := held_mem h
      exact ⟨List.mem_cons_of_mem _ a, b, c⟩
theorem mem_goods (f : ByteArray) (z : Msg) : ∀ (l : List Msg), z ∈ goods f l ↔ heldR l (levels z.t) z ∧ mch f z.t = true
  | [] => by simp [goods, heldR]
  | m :: r => by
    have ih := mem_goods f z r
    rw [show heldR (m :: r) (levels z.t) z = ((Rig m ∧ lastB m r = true ∧ z = m ∧ levels z.t = levels m.t) ∨ heldR r (levels z.t) z) from rfl]
    unfold goods
    have key : goodB f m r = true ↔ Rig m ∧ lastB m r = true ∧ mch f m.t = true := by
      unfold goodB
      simp only [Bool.and_eq_true, decide_eq_true_eq, and_assoc]
    by_cases c : goodB f m r = true
    · rw [if_pos c, List.mem_cons, ih]
      obtain ⟨k1, k2, k3⟩ := key.1 c
      constructor
      · rintro (rfl | ⟨h1, h2⟩)
        · exact ⟨.inl ⟨k1, k2, rfl, rfl⟩, k3⟩
        · exact ⟨.inr h1, h2⟩
      · rintro ⟨⟨_, _, rfl, _⟩ | h1, h2⟩
        · exact .inl rfl
        · exact .inr ⟨h1, h2⟩
    · rw [if_neg c, ih]
      constructor
      · rintro ⟨h1, h2⟩; exact ⟨.inr h1, h2⟩
      · rintro ⟨⟨a, b, rfl, _⟩ | h1, h2⟩
        · exact (c (key.2 ⟨a, b, h2⟩)).elim
        · exact ⟨h1, h2⟩
theorem goods_nodup (f : ByteArray) : ∀ (l : List Msg), (goods f l).Nodup
  | [] => List.nodup_nil
  | m :: r => by
    unfold goods
    split
    · rename_i c
      refine List.nodup_cons.2 ⟨fun h => ?_, goods_nodup f r⟩
      have h1 := ((mem_goods f m r).1 h).1
      obtain ⟨a, b, _⟩ := held_mem h1
      unfold goodB at c
      simp only [Bool.and_eq_true, decide_eq_true_eq] at c
      exact (last_iff b).1 c.1.2 m a b rfl
    · exact goods_nodup f r
/-- What was found is what must be. -/
theorem found_iff {f : ByteArray} {T : List Fn} {l X : List Msg} (hT : ∀ F z, HasM T F z ↔ holdM l F z) (al : All T (FindS f) X) (z : Msg) : z ∈ X ↔ z ∈ goods f l := by
  rw [al.mem, mem_goods, hT, hold_iff]
  constructor
  · rintro ⟨a, b⟩
    exact ⟨b, (mch_iff f (held_mem b).2.1.1).2 a⟩
  · rintro ⟨b, a⟩
    exact ⟨(mch_iff f (held_mem b).2.1.1).1 a, b⟩
theorem found_len {f : ByteArray} {T : List Fn} {l X : List Msg} (hT : ∀ F z, HasM T F z ↔ holdM l F z) (al : All T (FindS f) X) : (goods f l).length = X.length := by
  haveI : DecidableEq Msg := fun a b => Classical.propDecidable (a = b)
  have nX : X.Nodup := al.srt.ord.imp (fun {a b} c e => by rw [e] at c; exact ltV_irr _ c)
  have h1 := nodup_le _ _ nX (fun z hz => (found_iff hT al z).1 hz)
  have h2 := nodup_le _ _ (goods_nodup f l) (fun z hz => (found_iff hT al z).2 hz)
  omega
/-- How many must be found in what is left, a step on. -/
theorem goods_step {f : ByteArray} {l : List Msg} {i : Nat} {z : Msg} (h : l[i]? = some z) : (goods f (l.drop i)).length = (goods f (l.drop (i + 1))).length + (if goodB f z (l.drop (i + 1)) then 1 else 0) := by
  have : l.drop i = z :: l.drop (i + 1) := by
    obtain ⟨hi, e⟩ := List.getElem?_eq_some_iff.1 h
    rw [← e]
    exact List.drop_eq_getElem_cons hi
  rw [this]
  show (if goodB f z (l.drop (i + 1)) then z :: goods f (l.drop (i + 1)) else goods f (l.drop (i + 1))).length = _
  split
  · rfl
  · rfl
theorem good_mem {f : ByteArray} : ∀ {l : List Msg} {i : Nat} {z : Msg}, l[i]? = some z → goodB f z (l.drop (i + 1)) = true → z ∈ goods f l
  | [], i, z, h, _ => by simp at h
  | m :: l, 0, z, h, g => by
    simp at h
    subst h
    unfold goods
    rw [if_pos (by simpa using g)]
    exact List.mem_cons_self
  | m :: l, i + 1, z, h, g => by
    have := good_mem (l := l) (i := i) (z := z) (by simpa using h) (by simpa using g)
    unfold goods
    split
    · exact List.mem_cons_of_mem _ this
    · exact this
end Go.Proofs.YtipagdhoeocjeaaGreat.Li
namespace Go.Proofs.YtipagdhoeocjeaaGreat.Li
open Go Go.RowKit Go.Shelf
set_option linter.unusedSimpArgs false
set_option linter.unusedVariables false
theorem mrw_get : ∀ {X : List Ml} {k : Nat} {s : Ml} (j : Nat), X[k]? = some s → j < 4 → (mrw X)[k * 4 + j]? = (mlc s)[j]?
  | [], k, s, j, h, _ => by simp at h
  | x :: X, 0, s, j, h, hj => by
    simp at h
    subst h
    show (mlc x ++ mrw X)[0 * 4 + j]? = _
    rw [Nat.zero_mul, Nat.zero_add, List.getElem?_append_left (by simp [mlc]; omega)]
  | x :: X, k + 1, s, j, h, hj => by
    show (mlc x ++ mrw X)[(k + 1) * 4 + j]? = _
    rw [List.getElem?_append_right (by simp [mlc]; omega), show (k + 1) * 4 + j - (mlc x).length = k * 4 + j by simp [mlc]; omega]
    exact mrw_get j (by simpa using h) hj
/-- What was found, as a list of messages in memory. -/
theorem gv_in {w₀ W : World} {tb r : Nat} {nf nn : Int} {T : List Fn} {S : List ByteArray → Prop} {v : Value} {X : List Ml} (h : Tw w₀ tb r nf nn T) (g : Gv w₀ T S v X W) : MsIn W v X := by
  refine ⟨?_, fun s hs => (g.pl s hs).pr ?_⟩
  · have ho := g.ro
    rcases ho.2 with ⟨rfl, h0⟩ | ⟨gb, cap, cur, rfl, hb, hg, hnc, hm, hcs, htk⟩
    · exact ⟨none, _, 0, rfl, h0.symm, by omega, fun hne => absurd (List.eq_nil_of_length_eq_zero h0) hne⟩
    · refine ⟨_, _, cap, rfl, rfl, hnc, fun hne => ⟨gb, 0, rfl, block_lt hg, fun k s hk => ?_⟩⟩
      have hlt : k < X.length := (List.getElem?_eq_some_iff.1 hk).1
      have c0 := ho.cellAt (k * 4 + 0) (by omega)
      have c1 := ho.cellAt (k * 4 + 1) (by omega)
      have c2 := ho.cellAt (k * 4 + 2) (by omega)
      have c3 := ho.cellAt (k * 4 + 3) (by omega)
      rw [mrw_get _ hk (by omega)] at c0 c1 c2 c3
      rw [Nat.zero_add, ← Nat.add_zero (k * 4), c0, Nat.add_zero, c1, c2, c3]
      exact ⟨rfl, rfl, rfl, rfl⟩
  · obtain ⟨f, hf, e, e2⟩ := ((g.al.mem s.1).1 (List.mem_map_of_mem hs)).2
    have := (h.msk f hf _ e2).2.2.2.1
    unfold maxLen
    omega
/-- One of a list. -/
theorem MsIn.sub {w : World} {g o n cap : Nat} {l : List Ml} (h : MsIn w (.slice (some ⟨g, o, none⟩) n cap) l) {k : Nat} {s : Ml} (hs : l[k]? = some s) : MsIn w (.slice (some ⟨g, o + k * 4, none⟩) 1 (cap - k)) [s] := by
  obtain ⟨a, n', cap', e, h2, h3, h4⟩ := h.ex
  injection e with e1 e2 e3
  subst e1 e2 e3
  have hk := (List.getElem?_eq_some_iff.1 hs).1
  obtain ⟨g', o', e, hg, hc⟩ := h4 (fun e => by subst e; simp at hk)
  injection e with e
  injection e with e1 e2
  subst e1 e2
  refine ⟨⟨_, 1, cap - k, rfl, rfl, by omega, fun _ => ⟨g, o + k * 4, rfl, hg, fun j t hj => ?_⟩⟩, fun t ht => ?_⟩
  · cases j with
    | zero =>
      simp at hj
      subst hj
      simpa using hc k s hs
    | succ j => simp at hj
  · rw [List.mem_singleton] at ht
    subst ht
    exact h.pr t (List.mem_of_getElem? hs)
set_option maxRecDepth 100000 in
set_option maxHeartbeats 1000000 in
theorem find19_any {w : World} (tb : Nat) (f : ByteArray) : Calls Tryz.prog 19 #[ptr tb, .string f] w fun e w' => ∃ a b, e = .returned (.func (.func 36) #[] #[ptr a, ptr b]) ∧ w'.heap[a]? = some (.cells #[ptr tb] 25 (0, 0)) ∧ w'.heap[b]? = some (.cells #[.string f] 9 (0, 0)) ∧ Below w.heap.size w w' := by
  obtain ⟨w1, hw1⟩ : ∃ w1, w1 = w.alloc (.cells #[ptr tb] 25) := ⟨_, rfl⟩
  obtain ⟨w2, hw2⟩ : ∃ w2, w2 = w1.alloc (.cells #[.string f] 9) := ⟨_, rfl⟩
  have y1 : w2.heap[w.heap.size]? = some (.cells #[ptr tb] 25 (0, 0)) := by rw [hw2, heap_alloc_old _ _ (by rw [hw1, size_alloc]; omega), hw1, heap_alloc_new]
  have y2 : w2.heap[w.heap.size + 1]? = some (.cells #[.string f] 9 (0, 0)) := by rw [hw2, show w.heap.size + 1 = w1.heap.size by rw [hw1, size_alloc], heap_alloc_new]
  have bb : Below w.heap.size w w2 := by
    rw [hw2, hw1]
    exact ((Below.refl _ _).alloc (Nat.le_refl _) _).alloc (by rw [size_alloc]; omega) _
  have Y := hidi (And.intro y1 (And.intro y2 bb))
  rw [hw2, hw1] at Y
  clear y1 y2 bb hw2 hw1
  unfold ptr at *
  go_enter Tryz.func19, Tryz.ntmps19
  go_wp2_with fail
  go_ret
  exact ⟨_, _, rfl, Y.out⟩
set_option maxRecDepth 100000 in
set_option maxHeartbeats 1000000 in
theorem all13_any {w : World} (tb : Nat) : Calls Tryz.prog 13 #[ptr tb] w fun e w' => ∃ a, e = .returned (.func (.func 31) #[] #[ptr a]) ∧ w'.heap[a]? = some (.cells #[ptr tb] 25 (0, 0)) ∧ Below w.heap.size w w' := by
  have Y := hidi (And.intro (heap_alloc_new w (.cells #[ptr tb] 25)) ((Below.refl w.heap.size w).alloc (Nat.le_refl _) (.cells #[ptr tb] 25)))
  unfold ptr at *
  go_enter Tryz.func13, Tryz.ntmps13
  go_wp2_with fail
  go_ret
  exact ⟨_, rfl, Y.out⟩
theorem tw_of {w w' : World} {tb r P : Nat} {nf : Int} {T : List Fn} (h : TS w tb r P nf T) (hP : P ≤ 60) (hb : Below w.heap.size w w') : Tw w' tb r nf (T.length : Int) T :=
  ⟨h.tm.below hb, h.msk, by have := h.cnt; have := h.nP; omega⟩
/-- A step of the question whether it is the last. -/
theorem last_step {z : Msg} {l : List Msg} {k : Nat} {y : Msg} (h : l[k]? = some y) : lastB z (l.drop k) = (!sameT z y && lastB z (l.drop (k + 1))) := by
  have : l.drop k = y :: l.drop (k + 1) := by
    obtain ⟨hi, e⟩ := List.getElem?_eq_some_iff.1 h
    rw [← e]
    exact List.drop_eq_getElem_cons hi
  rw [this]
  rfl
theorem last_end {z : Msg} {l : List Msg} {k : Nat} (h : l.length ≤ k) : lastB z (l.drop k) = true := by
  rw [List.drop_eq_nil_of_le h]
  rfl
end Go.Proofs.YtipagdhoeocjeaaGreat.Li
namespace Go.Proofs.YtipagdhoeocjeaaGreat.Li
open Go Go.RowKit Go.Shelf
set_option linter.unusedSimpArgs false
set_option linter.unusedVariables false
theorem four {l : List Ml} {W : World} {g o n cap : Nat} (h : MsIn W (.slice (some ⟨g, o, none⟩) n cap) l) {k : Nat} {s : Ml} (hs : l[k]? = some s) : ∀ w', Below W.heap.size W w' → w'.cell? ⟨g, o + k * 4, none⟩ = some (.string s.1.t) ∧ w'.cell? ⟨g, o + k * 4 + 1, none⟩ = some s.2 ∧ w'.cell? ⟨g, o + k * 4 + 2, none⟩ = some (.int .i64 s.1.q) ∧ w'.cell? ⟨g, o + k * 4 + 3, none⟩ = some (.bool s.1.r) := fun w' hb => by
  obtain ⟨a, n', cap', e, h2, h3, h4⟩ := h.ex
  injection e with e1 e2 e3
  subst e1 e2 e3
  obtain ⟨g', o', e, hg, hc⟩ := h4 (fun e => by subst e; simp at hs)
  injection e with e
  injection e with e1 e2
  subst e1 e2
  rw [hb.cell hg, hb.cell hg, hb.cell hg, hb.cell hg]
  exact hc k s hs
theorem MsIn.at_ {l : List Ml} {W : World} {a : Option Addr} {n cap : Nat} (h : MsIn W (.slice a n cap) l) {k : Nat} {s : Ml} (hs : l[k]? = some s) : ∃ g o, a = some ⟨g, o, none⟩ := by
  obtain ⟨a', n', cap', e, h2, h3, h4⟩ := h.ex
  injection e with e1 e2 e3
  subst e1 e2 e3
  obtain ⟨g', o', e, hg, hc⟩ := h4 (fun e => by subst e; simp at hs)
  exact ⟨g', o', e⟩
theorem MsIn.lens {l : List Ml} {W : World} {a : Option Addr} {n cap : Nat} (h : MsIn W (.slice a n cap) l) : n = l.length ∧ n ≤ cap := by
  obtain ⟨a', n', cap', e, h2, h3, h4⟩ := h.ex
  injection e with e1 e2 e3
  subst e1 e2 e3
  exact ⟨h2, h3⟩
/-- What the law stands on when its loops begin. -/
structure LW (W : World) (f : ByteArray) (v1 v2 : Value) (l X : List Ml) : Prop where
  a : MsIn W v1 l
  b : MsIn W v2 X
  iff_ : ∀ z, z ∈ mm X ↔ z ∈ goods f (mm l)
  len : (goods f (mm l)).length = X.length
  ord : ∀ k x y, (mm X)[k]? = some x → (mm X)[k + 1]? = some y → cmpL (unB x.t) (unB y.t) = -1
  sz : ∀ z ∈ mm X, z.t.size ≤ 1000000
  n60 : l.length ≤ 60
  m60 : X.length ≤ 60
theorem lw_of {w₀ W : World} {tb r : Nat} {nf nn : Int} {T : List Fn} {f : ByteArray} {v1 v2 : Value} {l X : List Ml} (h : Tw w₀ tb r nf nn T) (hT : ∀ F z, HasM T F z ↔ holdM (mm l) F z) (a : MsIn W v1 l) (g : Gv w₀ T (FindS f) v2 X W) (n60 : l.length ≤ 60) : LW W f v1 v2 l X := by
  have al : All T (FindS f) (mm X) := g.al
  have hl := found_len hT al
  rw [mm_len] at hl
  refine ⟨a, gv_in h g, found_iff hT al, hl, fun k x y hx hy => cmp_of ?_, fun z hz => ?_, n60, ?_⟩
  · have p := al.srt.ord
    obtain ⟨h1, e1⟩ := List.getElem?_eq_some_iff.1 hx
    obtain ⟨h2, e2⟩ := List.getElem?_eq_some_iff.1 hy
    have := List.pairwise_iff_getElem.1 p k (k + 1) h1 h2 (Nat.lt_succ_self k)
    rw [e1, e2] at this
    exact this
  · obtain ⟨f, hf, e, e2⟩ := ((al.mem z).1 hz).2
    have := (h.msk f hf _ e2).2.2.2.2
    omega
  · rw [← hl]
    have : ∀ (M : List Msg), (goods f M).length ≤ M.length := fun M => by
      induction M with
      | nil => exact Nat.le_refl _
      | cons m r ih =>
        unfold goods
        split
        · simp; omega
        · simp; omega
    have := this (mm l)
    rw [mm_len] at this
    omega
end Go.Proofs.YtipagdhoeocjeaaGreat.Li
namespace Go.Proofs.YtipagdhoeocjeaaGreat
open Go Go.RowKit
set_option linter.unusedSimpArgs false
set_option linter.unusedVariables false

/-! ### Texts in topic's order -/
def cmpB (a b : ByteArray) : Int := cmpL (unB a) (unB b)
theorem cmpB_flip (a b : ByteArray) : cmpB b a = - cmpB a b := cmpL_flip _ _
theorem cmpB_zero {a b : ByteArray} (h : cmpB a b = 0) : a = b := by
  have := (cmpL_zero _ _).1 h
  rw [← mk_un a, ← mk_un b, this]
theorem cmpB_trans {a b c : ByteArray} (h : cmpB a b ≤ 0) (k : cmpB b c ≤ 0) : cmpB a c ≤ 0 := cmpL_trans _ _ _ h k
/-- In order. -/
theorem cmpB_self (a : ByteArray) : cmpB a a = 0 := by have := cmpB_flip a a; omega
/-! ### topic.Compare: it draws, and does nothing else to the world -/
def Dr (w w' : World) : Prop := ∃ q, w' = w.drewN q
theorem Dr.refl (w : World) : Dr w w := ⟨0, rfl⟩
theorem dr_drewN {w w' : World} (h : Dr w w') (n : Nat) : Dr w (w'.drewN n) := by
  obtain ⟨q, rfl⟩ := h
  exact ⟨q + n, by simp [World.drewN, Nat.add_assoc]⟩
set_option maxRecDepth 100000 in
set_option maxHeartbeats 1000000 in
theorem compare_le_dr (a b : ByteArray) (ha : a.size ≤ 1000000) (hb : b.size ≤ 1000000) (hm : ¬ b.size < a.size) (w : World) : Calls Tryz.prog 22 #[.string a, .string b] w fun e w' => e = .returned (.int .i64 (cmpL (unB a) (unB b))) ∧ Dr w w' := by
  have HA : Hid (a.size ≤ 1000000) := ha
  have HB : Hid (b.size ≤ 1000000) := hb
  obtain ⟨x, hx⟩ : ∃ x, x = cmpL (unB a) (unB b) := ⟨_, rfl⟩
  rw [← hx]
  have HX : Hid (x = cmpL (unB a) (unB b)) := hx
  have HM : Hid (a.size ≤ a.size ∧ a.size ≤ b.size ∧ a.size = min a.size b.size) := ⟨by omega, by omega, by omega⟩
  clear hx ha hb
  go_enter Tryz.func22, Tryz.ntmps22
  go_wp2_with fail
  clear hm
  go_loopg [11] a.size (fun g s11 wx => ∃ k : Nat, k ≤ a.size ∧ g = a.size - k ∧ s11 = .int .i64 k ∧ Hid (Dr w wx) ∧ Hid (∀ i, i < k → (unB a)[i]? = (unB b)[i]?))
  case atStart => exact ⟨0, Nat.zero_le _, rfl, rfl, Dr.refl _, fun i hi => absurd hi (Nat.not_lt_zero i)⟩
  case round =>
    obtain ⟨k, hk, rfl, rfl, B, HE⟩ := hrel
    by_cases hlt : k < a.size
    · have hlt' : (k : Int) < a.size := by omega
      have la : k < a.size := by have := HM.out; omega
      have lb : k < b.size := by have := HM.out; omega
      have la' : (k : Int) < a.size := by omega
      have lb' : (k : Int) < b.size := by omega
      have hw : IntKind.i64.wrap ((k : Int) + 1) = (k : Int) + 1 := by rw [IntKind.wrap_i64]; have := HA.out; omega
      obtain ⟨p, hp⟩ : ∃ p, a[k]'la = p := ⟨_, rfl⟩
      obtain ⟨q, hq⟩ : ∃ q, b[k]'lb = q := ⟨_, rfl⟩
      have HP : Hid ((unB a)[k]? = some p) := by show _ = _; rw [un_get a k la, hp]
      have HQ : Hid ((unB b)[k]? = some q) := by show _ = _; rw [un_get b k lb, hq]
      by_cases hpq : p = q
      · subst hpq
        have HE2 : Hid (∀ i, i < k + 1 → (unB a)[i]? = (unB b)[i]?) := fun i hi => by
          by_cases e : i = k
          · subst e; rw [HP.out, HQ.out]
          · exact HE.out i (by omega)
        have hne : ((p.toNat : Int) != (p.toNat : Int)) = false := by simp
        go_wp2
        go_quiet (fail)
        have hb1 : Dr w (wr.drewN nq) := dr_drewN B.out nq
        have B1 : Hid (Dr w (wr.drewN nq)) := hb1
        clear hb1
        go_wp2
        go_roundg (a.size - (k + 1))
        case measure => omega
        case rel => exact ⟨k + 1, by omega, by omega, by first | rfl | simp, B1, HE2⟩
      · have hne : ((p.toNat : Int) != (q.toNat : Int)) = true := by
          have : ¬ p.toNat = q.toNat := fun e => hpq (UInt8.toNat_inj.1 e)
          simp; omega
        have HR : Hid (x = sg (rk p) (rk q)) := by show _ = _; rw [HX.out]; exact cmpL_part _ _ k p q HE.out HP.out HQ.out hpq
        clear hpq
        go_wp2
        go_quiet (fail)
        obtain ⟨w1, hw1⟩ : ∃ w1, w1 = wr.drewN nq := ⟨_, rfl⟩
        have hb1 : Dr w (wr.drewN nq) := dr_drewN B.out nq
        rw [← hw1] at hb1 ⊢
        have B1 : Hid (Dr w w1) := hb1
        clear hw1 hb1 B
        go_wp2
        go_quiet (first | (go_at_call 43; exact Calls.quiet_of_same (rank_any _ _)) | (go_at_call 42; exact Calls.quiet_of_same (cmpInt_any _ _ _)))
        have hb2 : Dr w (w1.drewN nq) := dr_drewN B1.out nq
        have B2 : Hid (Dr w (w1.drewN nq)) := hb2
        clear hb2
        go_wp2
        go_ret
        exact ⟨by rw [HR.out]; rfl, B2.out⟩
    · obtain rfl : k = a.size := by omega
      have hlt' : ¬ (a.size : Int) < a.size := by omega
      have HR : Hid (x = sg a.size b.size) := by
        show _ = _
        have h1 := HM.out
        rw [HX.out, cmpL_len _ _ (fun i hi => HE.out i (by rw [un_size, un_size] at hi; omega)), un_size, un_size]
      go_wp2_with (go_at_call 42; refine (cmpInt_any _ _ _).mono ?_; rintro e w' ⟨rfl, hee⟩; obtain rfl := hee.symm; clear hee)
      go_ret
      exact ⟨by rw [HR.out]; rfl, B.out⟩
set_option maxRecDepth 100000 in
set_option maxHeartbeats 1000000 in
theorem compare_gt_dr (a b : ByteArray) (ha : a.size ≤ 1000000) (hb : b.size ≤ 1000000) (hm : b.size < a.size) (w : World) : Calls Tryz.prog 22 #[.string a, .string b] w fun e w' => e = .returned (.int .i64 (cmpL (unB a) (unB b))) ∧ Dr w w' := by
  have HA : Hid (a.size ≤ 1000000) := ha
  have HB : Hid (b.size ≤ 1000000) := hb
  obtain ⟨x, hx⟩ : ∃ x, x = cmpL (unB a) (unB b) := ⟨_, rfl⟩
  rw [← hx]
  have HX : Hid (x = cmpL (unB a) (unB b)) := hx
  have HM : Hid (b.size ≤ a.size ∧ b.size ≤ b.size ∧ b.size = min a.size b.size) := ⟨by omega, by omega, by omega⟩
  clear hx ha hb
  go_enter Tryz.func22, Tryz.ntmps22
  go_wp2_with fail
  clear hm
  go_loopg [11] b.size (fun g s11 wx => ∃ k : Nat, k ≤ b.size ∧ g = b.size - k ∧ s11 = .int .i64 k ∧ Hid (Dr w wx) ∧ Hid (∀ i, i < k → (unB a)[i]? = (unB b)[i]?))
  case atStart => exact ⟨0, Nat.zero_le _, rfl, rfl, Dr.refl _, fun i hi => absurd hi (Nat.not_lt_zero i)⟩
  case round =>
    obtain ⟨k, hk, rfl, rfl, B, HE⟩ := hrel
    by_cases hlt : k < b.size
    · have hlt' : (k : Int) < b.size := by omega
      have la : k < a.size := by have := HM.out; omega
      have lb : k < b.size := by have := HM.out; omega
      have la' : (k : Int) < a.size := by omega
      have lb' : (k : Int) < b.size := by omega
      have hw : IntKind.i64.wrap ((k : Int) + 1) = (k : Int) + 1 := by rw [IntKind.wrap_i64]; have := HA.out; omega
      obtain ⟨p, hp⟩ : ∃ p, a[k]'la = p := ⟨_, rfl⟩
      obtain ⟨q, hq⟩ : ∃ q, b[k]'lb = q := ⟨_, rfl⟩
      have HP : Hid ((unB a)[k]? = some p) := by show _ = _; rw [un_get a k la, hp]
      have HQ : Hid ((unB b)[k]? = some q) := by show _ = _; rw [un_get b k lb, hq]
      by_cases hpq : p = q
      · subst hpq
        have HE2 : Hid (∀ i, i < k + 1 → (unB a)[i]? = (unB b)[i]?) := fun i hi => by
          by_cases e : i = k
          · subst e; rw [HP.out, HQ.out]
          · exact HE.out i (by omega)
        have hne : ((p.toNat : Int) != (p.toNat : Int)) = false := by simp
        go_wp2
        go_quiet (fail)
        have hb1 : Dr w (wr.drewN nq) := dr_drewN B.out nq
        have B1 : Hid (Dr w (wr.drewN nq)) := hb1
        clear hb1
        go_wp2
        go_roundg (b.size - (k + 1))
        case measure => omega
        case rel => exact ⟨k + 1, by omega, by omega, by first | rfl | simp, B1, HE2⟩
      · have hne : ((p.toNat : Int) != (q.toNat : Int)) = true := by
          have : ¬ p.toNat = q.toNat := fun e => hpq (UInt8.toNat_inj.1 e)
          simp; omega
        have HR : Hid (x = sg (rk p) (rk q)) := by show _ = _; rw [HX.out]; exact cmpL_part _ _ k p q HE.out HP.out HQ.out hpq
        clear hpq
        go_wp2
        go_quiet (fail)
        obtain ⟨w1, hw1⟩ : ∃ w1, w1 = wr.drewN nq := ⟨_, rfl⟩
        have hb1 : Dr w (wr.drewN nq) := dr_drewN B.out nq
        rw [← hw1] at hb1 ⊢
        have B1 : Hid (Dr w w1) := hb1
        clear hw1 hb1 B
        go_wp2
        go_quiet (first | (go_at_call 43; exact Calls.quiet_of_same (rank_any _ _)) | (go_at_call 42; exact Calls.quiet_of_same (cmpInt_any _ _ _)))
        have hb2 : Dr w (w1.drewN nq) := dr_drewN B1.out nq
        have B2 : Hid (Dr w (w1.drewN nq)) := hb2
        clear hb2
        go_wp2
        go_ret
        exact ⟨by rw [HR.out]; rfl, B2.out⟩
    · obtain rfl : k = b.size := by omega
      have hlt' : ¬ (b.size : Int) < b.size := by omega
      have HR : Hid (x = sg a.size b.size) := by
        show _ = _
        have h1 := HM.out
        rw [HX.out, cmpL_len _ _ (fun i hi => HE.out i (by rw [un_size, un_size] at hi; omega)), un_size, un_size]
      go_wp2_with (go_at_call 42; refine (cmpInt_any _ _ _).mono ?_; rintro e w' ⟨rfl, hee⟩; obtain rfl := hee.symm; clear hee)
      go_ret
      exact ⟨by rw [HR.out]; rfl, B.out⟩

theorem compare_dr (a b : ByteArray) (ha : a.size ≤ 1000000) (hb : b.size ≤ 1000000) (w : World) : Calls Tryz.prog 22 #[.string a, .string b] w fun e w' => e = .returned (.int .i64 (cmpL (unB a) (unB b))) ∧ Dr w w' := by
  by_cases h : b.size < a.size
  · exact compare_gt_dr a b ha hb h w
  · exact compare_le_dr a b ha hb h w
end Go.Proofs.YtipagdhoeocjeaaGreat
namespace Go.Proofs.YtipagdhoeocjeaaGreat.Li
open Go Go.RowKit
set_option linter.unusedSimpArgs false
set_option linter.unusedVariables false
/-- What an operation yields that only moves. -/
def pureVal (a : Act) (o : Oper) : Option Value :=
  match o.op with
  | .move x => some (a.eval x)
  | .assign x => some (a.eval x)
  | .pick c x y => match a.eval c with
    | .bool true => some (a.eval x)
    | .bool false => some (a.eval y)
    | _ => none
  | _ => none
theorem pureVal_run {P : Program} {a : Act} {o : Oper} {v : Value} (h : pureVal a o = some v) (w : World) : (execOp a.eval o).run P w = .ok (.value v) w := by
  unfold pureVal at h
  split at h
  · rename_i x hx
    cases h
    simp [execOp, hx]
  · rename_i x hx
    cases h
    simp [execOp, hx]
  · rename_i c x y hx
    split at h
    · rename_i hc
      cases h
      simp [execOp, hx, hc, asBool]
    · rename_i hc
      cases h
      simp [execOp, hx, hc, asBool]
    · cases h
  · cases h
theorem held_call {P : Program} {ops : Array Oper} {Q : Exit → Act → World → Prop} {o : Oper} {a : Act} {w : World} {K : Act → World → Prop} {E : Prop} (hw : Region.wanted o (yielded ops a.tmps) = true) (f : FuncId) (args : Array Value)
    (hr : (execOp a.eval o).run P w = .ok (.enter f args) w) {R : Value → World → Prop} (hc : Calls P f args w fun e w' => ∃ v, e = .returned v ∧ R v w') (hK : ∀ v w', R v w' → K (a.put o.dst v) w') :
    if Region.wanted o (yielded ops a.tmps) = true then Oper.wp P o a w K Q else E := by
  rw [if_pos hw]
  unfold Oper.wp
  rw [hr]
  simp only [Oper.upon]
  exact hc.mono fun e w' ⟨v, he, hv⟩ => by subst he; exact hK v w' hv
end Go.Proofs.YtipagdhoeocjeaaGreat.Li
