import Derived.Test.YtipagdhoeocjeaaGreatCgm
import Derived.Test.YtipagdhoeocjeaaGreatCbm
import Derived.Laws.IdiomStrings
namespace Go.Proofs.YtipagdhoeocjeaaGreat.Li
open Go Go.RowKit
set_option linter.unusedSimpArgs false
set_option linter.unusedVariables false
theorem getD_ext {xs ys : List Int} (hl : xs.length = ys.length) (h : ∀ i, i < xs.length → xs.getD i 0 = ys.getD i 0) : xs = ys := by
  apply List.ext_getElem hl
  intro i h1 h2
  have := h i h1
  rw [List.getD_eq_getElem?_getD, List.getD_eq_getElem?_getD, List.getElem?_eq_getElem h1, List.getElem?_eq_getElem h2] at this
  exact this
theorem PR.cells {w : World} {v : Value} {xs : List Int} (h : PR w v xs) : ∃ a c, v = .slice a xs.length c ∧ xs.length ≤ maxLen ∧ (0 < xs.length → ∃ b, a = some b ∧ ∀ w', Below w.heap.size w w' → ∀ i, i < xs.length → w'.cell? (b.add i) = some (.int .u8 (xs.getD i 0))) := by
  rcases h with ⟨rfl, rfl⟩ | ⟨a, n, c, rfl, rfl, h3, h4⟩
  · exact ⟨_, _, rfl, by unfold maxLen; simp, fun c => by simp at c⟩
  · exact ⟨_, _, rfl, h3, fun _ => ⟨a, rfl, fun w' hb i hi => (cell_heap (hb.block _ (World.block_lt_of_cell? _ _ (h4 i hi)))).trans (h4 i hi)⟩⟩
set_option maxRecDepth 100000 in
set_option maxHeartbeats 4000000 in
theorem sbytes_any {w : World} {v1 v2 : Value} {xs ys : List Int} (h1 : PR w v1 xs) (h2 : PR w v2 ys) :
    Calls Tryz.prog 55 #[v1, v2] w fun e w' => e = .returned (.bool (decide (xs = ys))) ∧ Below w.heap.size w w' := by
  obtain ⟨a1, c1, rfl, m1, k1⟩ := h1.cells
  obtain ⟨a2, c2, rfl, m2, k2⟩ := h2.cells
  obtain ⟨res, hres⟩ : ∃ res, res = decide (xs = ys) := ⟨_, rfl⟩
  rw [← hres]
  obtain ⟨n1, hn1⟩ : ∃ n, n = xs.length := ⟨_, rfl⟩
  obtain ⟨n2, hn2⟩ : ∃ n, n = ys.length := ⟨_, rfl⟩
  rw [← hn1, ← hn2]
  by_cases hn : n1 = n2
  · subst hn
    have q : (((n1 : Nat) : Int) != (n1 : Int)) = false := by simp
    have HN := hidi (And.intro hn1 (And.intro hn2 (show n1 ≤ maxLen from by rw [hn1]; exact m1)))
    have K1 := hidi k1
    have K2 := hidi k2
    have HR := hidi hres
    clear h1 h2 m1 m2 k1 k2 hn1 hn2 hres
    go_enter Tryz.func55, Tryz.ntmps55
    go_wp2_with fail
    go_loopg [5] n1 (fun gg s5 wx => ∃ k : Nat, k ≤ n1 ∧ gg = n1 - k ∧ s5 = .int .i64 k ∧ Hid (Below w.heap.size w wx ∧ ∀ i, i < k → xs.getD i 0 = ys.getD i 0))
    case atStart => exact ⟨0, Nat.zero_le _, rfl, rfl, Below.refl _ _, fun i hi => absurd hi (Nat.not_lt_zero i)⟩
    case round =>
      obtain ⟨k, hk, rfl, rfl, Z⟩ := hrel
      by_cases hlt : k < n1
      · have hlt' : (k : Int) < n1 := by omega
        obtain ⟨b1, rfl, q1⟩ := K1.out (by have := HN.out; omega)
        obtain ⟨b2, rfl, q2⟩ := K2.out (by have := HN.out; omega)
        obtain ⟨x, hx⟩ : ∃ x, x = xs.getD k 0 := ⟨_, rfl⟩
        obtain ⟨y, hy⟩ : ∃ y, y = ys.getD k 0 := ⟨_, rfl⟩
        have y1 : wr.cell? (b1.add k) = some (.int .u8 x) := by rw [hx]; exact q1 wr Z.out.1 k (by have := HN.out; omega)
        have y2 : wr.cell? (b2.add k) = some (.int .u8 y) := by rw [hy]; exact q2 wr Z.out.1 k (by have := HN.out; omega)
        have hw : IntKind.i64.wrap ((k : Int) + 1) = (k : Int) + 1 := by rw [IntKind.wrap_i64]; have := HN.out.2.2; unfold maxLen at this; omega
        by_cases he : x = y
        · have q : (x != y) = false := by simp [he]
          have NX := hidi (show ∀ i, i < k + 1 → xs.getD i 0 = ys.getD i 0 from fun i hi => by
            by_cases c : i = k
            · rw [c, ← hx, ← hy, he]
            · exact Z.out.2 i (by omega))
          clear hx hy he q1 q2
          go_wp2_with fail
          go_quiet (fail)
          go_wp2_with fail
          go_roundg (n1 - (k + 1))
          case measure => omega
          case rel => exact ⟨k + 1, by omega, rfl, by simp, below_drewN Z.out.1, NX.out⟩
        · have q : (x != y) = true := by simp [he]
          have FIN := hidi (show res = false from by
            rw [HR.out]
            exact decide_eq_false (fun c => he (by rw [hx, hy, c])))
          clear hx hy he q1 q2
          go_wp2_with fail
          go_quiet (fail)
          go_wp2_with fail
          go_ret
          exact ⟨by rw [FIN.out]; rfl, below_drewN Z.out.1⟩
      · have hlt' : ¬ (k : Int) < n1 := by omega
        have FIN := hidi (show res = true from by
          rw [HR.out]
          exact decide_eq_true (getD_ext (by have := HN.out; omega) (fun i hi => Z.out.2 i (by have := HN.out; omega))))
        go_wp2_with fail
        go_ret
        exact ⟨by rw [FIN.out]; rfl, Z.out.1⟩
  · have q : (((n1 : Nat) : Int) != (n2 : Int)) = true := by simp; omega
    have FIN := hidi (show res = false from by
      rw [hres]
      exact decide_eq_false (fun c => hn (by rw [hn1, hn2, c])))
    clear h1 h2 m1 m2 k1 k2 hn1 hn2 hres hn
    go_enter Tryz.func55, Tryz.ntmps55
    go_wp2_with fail
    go_ret
    exact ⟨by rw [FIN.out]; rfl, Below.refl _ _⟩
end Go.Proofs.YtipagdhoeocjeaaGreat.Li
namespace Go.Proofs.YtipagdhoeocjeaaGreat.Li
open Go Go.RowKit Go.Shelf
set_option linter.unusedSimpArgs false
set_option linter.unusedVariables false
/-- Are two messages the same? -/
def eqM (a b : Msg) : Bool := decide (a.t = b.t) && decide (a.q = b.q) && decide (a.r = b.r) && decide (a.xs = b.xs)
theorem eqM_iff (a b : Msg) : eqM a b = true ↔ a = b := by
  obtain ⟨t1, x1, q1, r1⟩ := a
  obtain ⟨t2, x2, q2, r2⟩ := b
  unfold eqM
  simp only [Bool.and_eq_true, decide_eq_true_eq, Msg.mk.injEq]
  constructor
  · rintro ⟨⟨⟨a, b⟩, c⟩, d⟩; exact ⟨a, d, b, c⟩
  · rintro ⟨a, d, b, c⟩; exact ⟨⟨⟨a, b⟩, c⟩, d⟩
set_option maxRecDepth 100000 in
set_option maxHeartbeats 4000000 in
theorem smsg_any {w : World} {v1 v2 : Value} {m1 m2 : Msg} (h1 : PR w v1 m1.xs) (h2 : PR w v2 m2.xs) :
    Calls Tryz.prog 33 #[m1.val v1, m2.val v2] w fun e w' => e = .returned (.bool (eqM m1 m2)) ∧ Below w.heap.size w w' := by
  obtain ⟨a1, c1, rfl, -⟩ := h1.sl
  obtain ⟨a2, c2, rfl, -⟩ := h2.sl
  obtain ⟨n1, hn1⟩ : ∃ n, n = m1.xs.length := ⟨_, rfl⟩
  obtain ⟨n2, hn2⟩ : ∃ n, n = m2.xs.length := ⟨_, rfl⟩
  rw [← hn1] at h1 ⊢
  rw [← hn2] at h2 ⊢
  obtain ⟨t1, x1, q1, r1⟩ := m1
  obtain ⟨t2, x2, q2, r2⟩ := m2
  have SB := hidi (fun (w1 : World) (hb : Below w.heap.size w w1) => sbytes_any (h1.below hb) (h2.below hb))
  obtain ⟨bx, hbx⟩ : ∃ bx, bx = decide (x1 = x2) := ⟨_, rfl⟩
  simp only at SB
  rw [← hbx] at SB
  have BA := hidi (show Below w.heap.size w ((w.alloc (.cells #[.string t1, .slice a1 n1 c1, .int .i64 q1, .bool r1] 30)).alloc (.cells #[.string t2, .slice a2 n2 c2, .int .i64 q2, .bool r2] 30)) from ((Below.refl _ _).alloc (Nat.le_refl _) _).alloc (by rw [size_alloc]; omega) _)
  have EQ : Hid (eqM ⟨t1, x1, q1, r1⟩ ⟨t2, x2, q2, r2⟩ = (decide (t1 = t2) && decide (q1 = q2) && decide (r1 = r2) && bx)) := by
    show _ = _
    rw [hbx]
    rfl
  obtain ⟨res, hres⟩ : ∃ res, res = eqM ⟨t1, x1, q1, r1⟩ ⟨t2, x2, q2, r2⟩ := ⟨_, rfl⟩
  rw [← hres] at EQ ⊢
  unfold Msg.val Msg.cs
  clear h1 h2 hn1 hn2 hbx hres
  by_cases ht : t1 = t2
  · have e1 : (t1.toList == t2.toList) = true := by rw [teq]; exact decide_eq_true ht
    by_cases hq : q1 = q2
    · have e2 : (q1 == q2) = true := by simp [hq]
      by_cases hr : r1 = r2
      · have e3 : (r1 == r2) = true := by simp [hr]
        have FIN := hidi (show res = bx from by rw [EQ.out]; simp [ht, hq, hr])
        clear ht hq hr EQ
        go_enter Tryz.func33, Tryz.ntmps33
        go_wp2_with (go_at_call 55; refine (SB.out _ BA.out).mono ?_; rintro e w2 ⟨rfl, hb⟩; have B2 := hidi (BA.out.trans (hb.mono BA.out.size)); clear hb SB)
        go_ret
        exact ⟨by rw [FIN.out]; rfl, B2.out⟩
      · have e3 : (r1 == r2) = false := by rw [beq_eq_false_iff_ne]; exact hr
        have FIN := hidi (show res = false from by rw [EQ.out]; simp [hr])
        clear ht hq hr EQ SB
        go_enter Tryz.func33, Tryz.ntmps33
        go_wp2_with fail
        go_ret
        exact ⟨by rw [FIN.out]; rfl, BA.out⟩
    · have e2 : (q1 == q2) = false := by rw [beq_eq_false_iff_ne]; exact hq
      have FIN := hidi (show res = false from by rw [EQ.out]; simp [hq])
      clear ht hq EQ SB
      go_enter Tryz.func33, Tryz.ntmps33
      go_wp2_with fail
      go_ret
      exact ⟨by rw [FIN.out]; rfl, BA.out⟩
  · have e1 : (t1.toList == t2.toList) = false := by rw [teq]; exact decide_eq_false ht
    have FIN := hidi (show res = false from by rw [EQ.out]; simp [ht])
    clear ht EQ SB
    go_enter Tryz.func33, Tryz.ntmps33
    go_wp2_with fail
    go_ret
    exact ⟨by rw [FIN.out]; rfl, BA.out⟩
/-- The messages of a list. -/
def mm (l : List Ml) : List Msg := l.map (·.1)
theorem mm_get {l : List Ml} {k : Nat} {s : Ml} (h : l[k]? = some s) : (mm l)[k]? = some s.1 := by unfold mm; rw [List.getElem?_map, h]; rfl
theorem mm_len (l : List Ml) : (mm l).length = l.length := List.length_map _
set_option maxRecDepth 100000 in
set_option maxHeartbeats 4000000 in
theorem smsgs_any {w : World} {v1 v2 : Value} {L1 L2 : List Ml} (h1 : MsIn w v1 L1) (h2 : MsIn w v2 L2) (hl : L1.length ≤ 1000000) :
    Calls Tryz.prog 14 #[v1, v2] w fun e w' => ∃ b, e = .returned (.bool b) ∧ (b = true ↔ mm L1 = mm L2) ∧ Below w.heap.size w w' := by
  obtain ⟨a1, n1, c1, rfl, hn1, hc1, k1⟩ := h1.ex
  obtain ⟨a2, n2, c2, rfl, hn2, hc2, k2⟩ := h2.ex
  by_cases hn : n1 = n2
  · subst hn
    have q : (((n1 : Nat) : Int) != (n1 : Int)) = false := by simp
    have HN := hidi (And.intro hn1 (And.intro hn2 hl))
    have K1 := hidi k1
    have K2 := hidi k2
    have P1 := hidi (fun s (hs : s ∈ L1) => h1.pr s hs)
    have P2 := hidi (fun s (hs : s ∈ L2) => h2.pr s hs)
    clear h1 h2 k1 k2 hn1 hn2 hl
    go_enter Tryz.func14, Tryz.ntmps14
    go_wp2_with fail
    go_loopg [5] n1 (fun gg s5 wx => ∃ k : Nat, k ≤ n1 ∧ gg = n1 - k ∧ s5 = .int .i64 k ∧ Hid (Below w.heap.size w wx ∧ ∀ i, i < k → (mm L1)[i]? = (mm L2)[i]?))
    case atStart => exact ⟨0, Nat.zero_le _, rfl, rfl, Below.refl _ _, fun i hi => absurd hi (Nat.not_lt_zero i)⟩
    case round =>
      obtain ⟨k, hk, rfl, rfl, Z⟩ := hrel
      by_cases hlt : k < n1
      · have hlt' : (k : Int) < n1 := by omega
        obtain ⟨s, hs⟩ : ∃ s, L1[k]? = some s := ⟨_, List.getElem?_eq_getElem (by have := HN.out.1; omega)⟩
        obtain ⟨t, ht⟩ : ∃ t, L2[k]? = some t := ⟨_, List.getElem?_eq_getElem (by have := HN.out.2.1; omega)⟩
        obtain ⟨g1, o1, rfl, hg1, q1⟩ := K1.out (fun e => by subst e; simp at hs)
        obtain ⟨g2, o2, rfl, hg2, q2⟩ := K2.out (fun e => by subst e; simp at ht)
        obtain ⟨x1, x2, x3, x4⟩ := q1 k s hs
        obtain ⟨y1, y2, y3, y4⟩ := q2 k t ht
        have ps := P1.out s (List.mem_of_getElem? hs)
        have pt := P2.out t (List.mem_of_getElem? ht)
        obtain ⟨m, sv⟩ := s
        obtain ⟨u, tv⟩ := t
        obtain ⟨pa, pc, hpv, -⟩ := ps.sl
        have hpv : sv = .slice pa m.xs.length pc := hpv
        obtain ⟨ra, rc, hrv, -⟩ := pt.sl
        have hrv : tv = .slice ra u.xs.length rc := hrv
        obtain ⟨px, hpx⟩ : ∃ px, px = m.xs.length := ⟨_, rfl⟩
        obtain ⟨rx, hrx⟩ : ∃ rx, rx = u.xs.length := ⟨_, rfl⟩
        rw [← hpx] at hpv
        rw [← hrx] at hrv
        subst hpv hrv
        have X1 : wr.cell? ⟨g1, o1 + k * 4, none⟩ = some (.string m.t) := by rw [Z.out.1.cell (by exact hg1)]; exact x1
        have X2 : wr.cell? ⟨g1, o1 + k * 4 + 1, none⟩ = some (.slice pa px pc) := by rw [Z.out.1.cell (by exact hg1)]; exact x2
        have X3 : wr.cell? ⟨g1, o1 + k * 4 + 2, none⟩ = some (.int .i64 m.q) := by rw [Z.out.1.cell (by exact hg1)]; exact x3
        have X4 : wr.cell? ⟨g1, o1 + k * 4 + 3, none⟩ = some (.bool m.r) := by rw [Z.out.1.cell (by exact hg1)]; exact x4
        have Y1 : wr.cell? ⟨g2, o2 + k * 4, none⟩ = some (.string u.t) := by rw [Z.out.1.cell (by exact hg2)]; exact y1
        have Y2 : wr.cell? ⟨g2, o2 + k * 4 + 1, none⟩ = some (.slice ra rx rc) := by rw [Z.out.1.cell (by exact hg2)]; exact y2
        have Y3 : wr.cell? ⟨g2, o2 + k * 4 + 2, none⟩ = some (.int .i64 u.q) := by rw [Z.out.1.cell (by exact hg2)]; exact y3
        have Y4 : wr.cell? ⟨g2, o2 + k * 4 + 3, none⟩ = some (.bool u.r) := by rw [Z.out.1.cell (by exact hg2)]; exact y4
        have hw : IntKind.i64.wrap ((k : Int) + 1) = (k : Int) + 1 := by rw [IntKind.wrap_i64]; have := HN.out; omega
        have SM := hidi (fun (w1 : World) (hb : Below wr.heap.size wr w1) => smsg_any (m1 := m) (m2 := u) (ps.below (Z.out.1.trans (hb.mono Z.out.1.size))) (pt.below (Z.out.1.trans (hb.mono Z.out.1.size))))
        have G1 := hidi (mm_get hs)
        have G2 := hidi (mm_get ht)
        have EI := hidi (eqM_iff m u)
        obtain ⟨b, hb⟩ : ∃ b, b = eqM m u := ⟨_, rfl⟩
        rw [← hb] at SM EI
        unfold Msg.val Msg.cs at SM
        clear hs ht q1 q2 x1 x2 x3 x4 y1 y2 y3 y4 ps pt hpx hrx hg1 hg2 hb
        go_upto_region 6 with fail
        have D1 := hidi ((Below.refl wr.heap.size wr).drew)
        have CC := hidi (SM.out _ D1.out)
        cases b with
        | true =>
          have NX := hidi (show ∀ i, i < k + 1 → (mm L1)[i]? = (mm L2)[i]? from fun i hi => by
            by_cases c : i = k
            · rw [c, G1.out, G2.out, EI.out.1 rfl]
            · exact Z.out.2 i (by omega))
          clear G1 G2 EI SM
          go_region_with (go_at_call 33; refine CC.out.mono ?_; rintro e w2 ⟨rfl, hb⟩; have B2 := hidi (Z.out.1.trans ((D1.out.trans (hb.mono D1.out.size)).mono Z.out.1.size)); clear hb CC)
          all_goals go_wp2_with fail
          all_goals go_roundg (n1 - (k + 1))
          all_goals first
            | omega
            | exact ⟨k + 1, by omega, rfl, by simp, B2.out, NX.out⟩
        | false =>
          have FIN := hidi (show ¬ mm L1 = mm L2 from fun c => by
            have h := G1.out
            rw [c, G2.out] at h
            injection h with h
            have := EI.out.2 h.symm
            cases this)
          clear G1 G2 EI SM
          go_region_with (go_at_call 33; refine CC.out.mono ?_; rintro e w2 ⟨rfl, hb⟩; have B2 := hidi (Z.out.1.trans ((D1.out.trans (hb.mono D1.out.size)).mono Z.out.1.size)); clear hb CC)
          all_goals go_wp2_with fail
          all_goals go_ret
          all_goals exact ⟨false, rfl, ⟨(fun c => by cases c), fun c => (FIN.out c).elim⟩, B2.out⟩
      · have hlt' : ¬ (k : Int) < n1 := by omega
        have FIN := hidi (show mm L1 = mm L2 from by
          apply List.ext_getElem?
          intro i
          by_cases c : i < k
          · exact Z.out.2 i c
          · rw [List.getElem?_eq_none (by rw [mm_len]; have := HN.out; omega), List.getElem?_eq_none (by rw [mm_len]; have := HN.out; omega)])
        go_wp2_with fail
        go_ret
        exact .inr ⟨rfl, FIN.out, Z.out.1⟩
  · have q : (((n1 : Nat) : Int) != (n2 : Int)) = true := by simp; omega
    have FIN := hidi (show ¬ mm L1 = mm L2 from fun c => hn (by rw [hn1, hn2, ← mm_len, c, mm_len]))
    clear h1 h2 k1 k2 hn1 hn2 hn
    go_enter Tryz.func14, Tryz.ntmps14
    go_wp2_with fail
    go_ret
    exact ⟨false, rfl, ⟨(fun c => by cases c), fun c => (FIN.out c).elim⟩, Below.refl _ _⟩
end Go.Proofs.YtipagdhoeocjeaaGreat.Li
namespace Go.Proofs.YtipagdhoeocjeaaGreat.Li
open Go Go.RowKit Go.Shelf
set_option linter.unusedSimpArgs false
set_option linter.unusedVariables false
theorem levels_inj {a b : ByteArray} (h : levels a = levels b) : a = b := by
  have h1 := levels_split a
  rw [h, levels_split b] at h1
  exact un_inj (split_inj h1.symm)
theorem hid_iff (t : ByteArray) : hidB (levels t) = true ↔ atB t 0 = 36 := by
  obtain ⟨x, rs, hl, _⟩ := levels_head t
  rw [hl]
  show Lib.hasPrefix (unB x) [36] = true ↔ _
  have h1 := levels_split t
  rw [hl, List.map_cons] at h1
  rw [atB_un]
  cases hu : unB t with
  | nil =>
    rw [hu] at h1
    rw [show split ([] : List UInt8) = [[]] from rfl] at h1
    injection h1 with h1 _
    rw [h1]
    simp [Lib.hasPrefix]
  | cons a l =>
    rw [hu] at h1
    by_cases c : a = 47
    · subst c
      rw [split_slash] at h1
      injection h1 with h1 _
      rw [h1]
      simp [Lib.hasPrefix]
    · obtain ⟨hh, tt, es⟩ := split_some l
      rw [split_plain a l hh tt c es] at h1
      injection h1 with h1 _
      rw [h1]
      have : Lib.hasPrefix (a :: hh) [36] = true ↔ a = 36 := by
        constructor
        · intro h
          simp [Lib.hasPrefix, List.isPrefixOf] at h
          first | exact h | exact h.symm
        · intro h
          simp [Lib.hasPrefix, List.isPrefixOf, h]
      rw [this]
      simp
      constructor
      · intro e; rw [e]; rfl
      · intro e; exact UInt8.toNat_inj.1 e
/-- Match, and what Find finds. -/
theorem mch_iff (f : ByteArray) {t : ByteArray} (ht : tcode t = 0) : mch f t = true ↔ FindS f (levels t) := by
  unfold mch FindS mtb
  rw [levels_split, levels_split, hid_iff]
  simp only [Bool.and_eq_true, decide_eq_true_eq, Bool.not_eq_true']
  constructor
  · rintro ⟨⟨⟨a, _⟩, b⟩, c⟩
    refine ⟨a, fun d => ?_, c⟩
    rw [Bool.and_eq_false_iff] at b
    rcases b with b | b
    · exact of_decide_eq_false b d.1
    · rw [d.2] at b; cases b
  · rintro ⟨a, b, c⟩
    refine ⟨⟨⟨a, ht⟩, ?_⟩, c⟩
    rw [Bool.and_eq_false_iff]
    by_cases d : atB t 0 = 36
    · right
      cases e : hd0 (split (unB f)) with
      | false => rfl
      | true => exact (b ⟨d, e⟩).elim
    · exact .inl (decide_eq_false d)
theorem cmp_of {a b : ByteArray} (h : ltV (levels a) (levels b)) : cmpL (unB a) (unB b) = -1 := by
  unfold ltV at h
  rwa [levels_split, levels_split, cmpV_split] at h
/-- Is a message of this topic and of a right quality? -/
def sameT (z y : Msg) : Bool := decide (y.t = z.t) && decide (0 ≤ y.q) && decide (y.q ≤ 2)
/-- Is it the last one of its topic? -/
def lastB (z : Msg) (r : List Msg) : Bool := r.all (fun y => !sameT z y)
def goodB (f : ByteArray) (z : Msg) (r : List Msg) : Bool := decide (Rig z) && lastB z r && mch f z.t
/-- Those that must be found. -/
def goods (f : ByteArray) : List Msg → List Msg
  | [] => []
  | z :: r => if goodB f z r then z :: goods f r else goods f r
def heldR : List Msg → List ByteArray → Msg → Prop
  | [], _, _ => False
  | m :: r, F, z => (Rig m ∧ lastB m r = true ∧ z = m ∧ F = levels m.t) ∨ heldR r F z
theorem last_iff {z : Msg} {r : List Msg} (hz : Rig z) : lastB z r = true ↔ ∀ y ∈ r, Rig y → levels y.t ≠ levels z.t := by
  unfold lastB
  rw [List.all_eq_true]
  constructor
  · intro h y hy ry e
    have := h y hy
    have e := levels_inj e
    unfold sameT at this
    simp [e, ry.2.1, ry.2.2] at this
  · intro h y hy
    cases c : sameT z y with
    | false => rfl
    | true =>
      unfold sameT at c
      simp only [Bool.and_eq_true, decide_eq_true_eq] at c
      obtain ⟨⟨c1, c2⟩, c3⟩ := c
      exact (h y hy ⟨by rw [c1]; exact hz.1, c2, c3⟩ (by rw [c1])).elim
theorem fold_iff (F : List ByteArray) (z : Msg) : ∀ (l : List Msg) (E : HeldM), (l.foldl stepM E) F z ↔ heldR l F z ∨ (E F z ∧ ∀ y ∈ l, Rig y → levels y.t ≠ F)
  | [], E => by
    constructor
    · intro h; exact .inr ⟨h, fun y hy => by cases hy⟩
    · rintro (h | h)
      · exact h.elim
      · exact h.1
  | m :: l, E => by
    rw [List.foldl_cons, fold_iff F z l (stepM E m)]
    rw [show heldR (m :: l) F z = ((Rig m ∧ lastB m l = true ∧ z = m ∧ F = levels m.t) ∨ heldR l F z) from rfl]
    unfold stepM
    by_cases hm : Rig m
    · rw [if_pos hm]
      constructor
      · rintro (h | ⟨⟨h1, h2⟩ | ⟨h1, h2⟩, h3⟩)
        · exact .inl (.inr h)
        · refine .inl (.inl ⟨hm, (last_iff hm).2 (fun y hy ry => by rw [← h1]; exact h3 y hy ry), h2, h1⟩)
        · refine .inr ⟨h2, fun y hy ry => ?_⟩
          rcases List.mem_cons.1 hy with rfl | hy
          · exact fun e => h1 e.symm
          · exact h3 y hy ry
      · rintro ((⟨_, h2, h3, h4⟩ | h) | ⟨h1, h2⟩)
        · refine .inr ⟨.inl ⟨h4, h3⟩, fun y hy ry => by rw [h4]; exact (last_iff hm).1 h2 y hy ry⟩
        · exact .inl h
        · exact .inr ⟨.inr ⟨fun e => h2 m List.mem_cons_self hm e.symm, h1⟩, fun y hy => h2 y (List.mem_cons_of_mem _ hy)⟩
    · rw [if_neg hm]
      constructor
      · rintro (h | ⟨h1, h2⟩)
        · exact .inl (.inr h)
        · refine .inr ⟨h1, fun y hy ry => ?_⟩
          rcases List.mem_cons.1 hy with rfl | hy
          · exact (hm ry).elim
          · exact h2 y hy ry
      · rintro ((⟨h1, _⟩ | h) | ⟨h1, h2⟩)
        · exact (hm h1).elim
        · exact .inl h
        · exact .inr ⟨h1, fun y hy => h2 y (List.mem_cons_of_mem _ hy)⟩
theorem hold_iff (l : List Msg) (F : List ByteArray) (z : Msg) : holdM l F z ↔ heldR l F z := by
  unfold holdM
  rw [fold_iff]
  exact ⟨fun h => h.elim id (fun h => h.1.elim), .inl⟩
theorem held_mem : ∀ {l : List Msg} {F : List ByteArray} {z : Msg}, heldR l F z → z ∈ l ∧ Rig z ∧ F = levels z.t
  | [], _, _, h => h.elim
  | m :: r, F, z, h => by
    rcases h with ⟨h1, h2, rfl, h4⟩ | h
    · exact ⟨List.mem_cons_self, h1, h4⟩
    · obtain ⟨a, b, c⟩ := held_mem h
      exact ⟨List.mem_cons_of_mem _ a, b, c⟩
theorem mem_goods (f : ByteArray) (z : Msg) : ∀ (l : List Msg), z ∈ goods f l ↔ heldR l (levels z.t) z ∧ mch f z.t = true
  | [] => by simp [goods, heldR]
  | m :: r => by
    have ih := mem_goods f z r
    rw [show heldR (m :: r) (levels z.t) z = ((Rig m ∧ lastB m r = true ∧ z = m ∧ levels z.t = levels m.t) ∨ heldR r (levels z.t) z) from rfl]
    unfold goods
    have key : goodB f m r = true ↔ Rig m ∧ lastB m r = true ∧ mch f m.t = true := by
      unfold goodB
      simp only [Bool.and_eq_true, decide_eq_true_eq, and_assoc]
    by_cases c : goodB f m r = true
    · rw [if_pos c, List.mem_cons, ih]
      obtain ⟨k1, k2, k3⟩ := key.1 c
      constructor
      · rintro (rfl | ⟨h1, h2⟩)
        · exact ⟨.inl ⟨k1, k2, rfl, rfl⟩, k3⟩
        · exact ⟨.inr h1, h2⟩
      · rintro ⟨⟨_, _, rfl, _⟩ | h1, h2⟩
        · exact .inl rfl
        · exact .inr ⟨h1, h2⟩
    · rw [if_neg c, ih]
      constructor
      · rintro ⟨h1, h2⟩; exact ⟨.inr h1, h2⟩
      · rintro ⟨⟨a, b, rfl, _⟩ | h1, h2⟩
        · exact (c (key.2 ⟨a, b, h2⟩)).elim
        · exact ⟨h1, h2⟩
theorem goods_nodup (f : ByteArray) : ∀ (l : List Msg), (goods f l).Nodup
  | [] => List.nodup_nil
  | m :: r => by
    unfold goods
    split
    · rename_i c
      refine List.nodup_cons.2 ⟨fun h => ?_, goods_nodup f r⟩
      have h1 := ((mem_goods f m r).1 h).1
      obtain ⟨a, b, _⟩ := held_mem h1
      unfold goodB at c
      simp only [Bool.and_eq_true, decide_eq_true_eq] at c
      exact (last_iff b).1 c.1.2 m a b rfl
    · exact goods_nodup f r
/-- What was found is what must be. -/
theorem found_iff {f : ByteArray} {T : List Fn} {l X : List Msg} (hT : ∀ F z, HasM T F z ↔ holdM l F z) (al : All T (FindS f) X) (z : Msg) : z ∈ X ↔ z ∈ goods f l := by
  rw [al.mem, mem_goods, hT, hold_iff]
  constructor
  · rintro ⟨a, b⟩
    exact ⟨b, (mch_iff f (held_mem b).2.1.1).2 a⟩
  · rintro ⟨b, a⟩
    exact ⟨(mch_iff f (held_mem b).2.1.1).1 a, b⟩
theorem found_len {f : ByteArray} {T : List Fn} {l X : List Msg} (hT : ∀ F z, HasM T F z ↔ holdM l F z) (al : All T (FindS f) X) : (goods f l).length = X.length := by
  haveI : DecidableEq Msg := fun a b => Classical.propDecidable (a = b)
  have nX : X.Nodup := al.srt.ord.imp (fun {a b} c e => by rw [e] at c; exact ltV_irr _ c)
  have h1 := nodup_le _ _ nX (fun z hz => (found_iff hT al z).1 hz)
  have h2 := nodup_le _ _ (goods_nodup f l) (fun z hz => (found_iff hT al z).2 hz)
  omega
/-- How many must be found in what is left, a step on. -/
theorem goods_step {f : ByteArray} {l : List Msg} {i : Nat} {z : Msg} (h : l[i]? = some z) : (goods f (l.drop i)).length = (goods f (l.drop (i + 1))).length + (if goodB f z (l.drop (i + 1)) then 1 else 0) := by
  have : l.drop i = z :: l.drop (i + 1) := by
    obtain ⟨hi, e⟩ := List.getElem?_eq_some_iff.1 h
    rw [← e]
    exact List.drop_eq_getElem_cons hi
  rw [this]
  show (if goodB f z (l.drop (i + 1)) then z :: goods f (l.drop (i + 1)) else goods f (l.drop (i + 1))).length = _
  split
  · rfl
  · rfl
theorem good_mem {f : ByteArray} : ∀ {l : List Msg} {i : Nat} {z : Msg}, l[i]? = some z → goodB f z (l.drop (i + 1)) = true → z ∈ goods f l
  | [], i, z, h, _ => by simp at h
  | m :: l, 0, z, h, g => by
    simp at h
    subst h
    unfold goods
    rw [if_pos (by simpa using g)]
    exact List.mem_cons_self
  | m :: l, i + 1, z, h, g => by
    have := good_mem (l := l) (i := i) (z := z) (by simpa using h) (by simpa using g)
    unfold goods
    split
    · exact List.mem_cons_of_mem _ this
    · exact this
end Go.Proofs.YtipagdhoeocjeaaGreat.Li
namespace Go.Proofs.YtipagdhoeocjeaaGreat.Li
open Go Go.RowKit Go.Shelf
set_option linter.unusedSimpArgs false
set_option linter.unusedVariables false
theorem mrw_get : ∀ {X : List Ml} {k : Nat} {s : Ml} (j : Nat), X[k]? = some s → j < 4 → (mrw X)[k * 4 + j]? = (mlc s)[j]?
  | [], k, s, j, h, _ => by simp at h
  | x :: X, 0, s, j, h, hj => by
    simp at h
    subst h
    show (mlc x ++ mrw X)[0 * 4 + j]? = _
    rw [Nat.zero_mul, Nat.zero_add, List.getElem?_append_left (by simp [mlc]; omega)]
  | x :: X, k + 1, s, j, h, hj => by
    show (mlc x ++ mrw X)[(k + 1) * 4 + j]? = _
    rw [List.getElem?_append_right (by simp [mlc]; omega), show (k + 1) * 4 + j - (mlc x).length = k * 4 + j by simp [mlc]; omega]
    exact mrw_get j (by simpa using h) hj
/-- What was found, as a list of messages in memory. -/
theorem gv_in {w₀ W : World} {tb r : Nat} {nf nn : Int} {T : List Fn} {S : List ByteArray → Prop} {v : Value} {X : List Ml} (h : Tw w₀ tb r nf nn T) (g : Gv w₀ T S v X W) : MsIn W v X := by
  refine ⟨?_, fun s hs => (g.pl s hs).pr ?_⟩
  · have ho := g.ro
    rcases ho.2 with ⟨rfl, h0⟩ | ⟨gb, cap, cur, rfl, hb, hg, hnc, hm, hcs, htk⟩
    · exact ⟨none, _, 0, rfl, h0.symm, by omega, fun hne => absurd (List.eq_nil_of_length_eq_zero h0) hne⟩
    · refine ⟨_, _, cap, rfl, rfl, hnc, fun hne => ⟨gb, 0, rfl, block_lt hg, fun k s hk => ?_⟩⟩
      have hlt : k < X.length := (List.getElem?_eq_some_iff.1 hk).1
      have c0 := ho.cellAt (k * 4 + 0) (by omega)
      have c1 := ho.cellAt (k * 4 + 1) (by omega)
      have c2 := ho.cellAt (k * 4 + 2) (by omega)
      have c3 := ho.cellAt (k * 4 + 3) (by omega)
      rw [mrw_get _ hk (by omega)] at c0 c1 c2 c3
      rw [Nat.zero_add, ← Nat.add_zero (k * 4), c0, Nat.add_zero, c1, c2, c3]
      exact ⟨rfl, rfl, rfl, rfl⟩
  · obtain ⟨f, hf, e, e2⟩ := ((g.al.mem s.1).1 (List.mem_map_of_mem hs)).2
    have := (h.msk f hf _ e2).2.2.2.1
    unfold maxLen
    omega
/-- One of a list. -/
theorem MsIn.sub {w : World} {g o n cap : Nat} {l : List Ml} (h : MsIn w (.slice (some ⟨g, o, none⟩) n cap) l) {k : Nat} {s : Ml} (hs : l[k]? = some s) : MsIn w (.slice (some ⟨g, o + k * 4, none⟩) 1 (cap - k)) [s] := by
  obtain ⟨a, n', cap', e, h2, h3, h4⟩ := h.ex
  injection e with e1 e2 e3
  subst e1 e2 e3
  have hk := (List.getElem?_eq_some_iff.1 hs).1
  obtain ⟨g', o', e, hg, hc⟩ := h4 (fun e => by subst e; simp at hk)
  injection e with e
  injection e with e1 e2
  subst e1 e2
  refine ⟨⟨_, 1, cap - k, rfl, rfl, by omega, fun _ => ⟨g, o + k * 4, rfl, hg, fun j t hj => ?_⟩⟩, fun t ht => ?_⟩
  · cases j with
    | zero =>
      simp at hj
      subst hj
      simpa using hc k s hs
    | succ j => simp at hj
  · rw [List.mem_singleton] at ht
    subst ht
    exact h.pr t (List.mem_of_getElem? hs)
set_option maxRecDepth 100000 in
set_option maxHeartbeats 1000000 in
theorem find19_any {w : World} (tb : Nat) (f : ByteArray) : Calls Tryz.prog 19 #[ptr tb, .string f] w fun e w' => ∃ a b, e = .returned (.func (.func 36) #[] #[ptr a, ptr b]) ∧ w'.heap[a]? = some (.cells #[ptr tb] 25 (0, 0)) ∧ w'.heap[b]? = some (.cells #[.string f] 9 (0, 0)) ∧ Below w.heap.size w w' := by
  obtain ⟨w1, hw1⟩ : ∃ w1, w1 = w.alloc (.cells #[ptr tb] 25) := ⟨_, rfl⟩
  obtain ⟨w2, hw2⟩ : ∃ w2, w2 = w1.alloc (.cells #[.string f] 9) := ⟨_, rfl⟩
  have y1 : w2.heap[w.heap.size]? = some (.cells #[ptr tb] 25 (0, 0)) := by rw [hw2, heap_alloc_old _ _ (by rw [hw1, size_alloc]; omega), hw1, heap_alloc_new]
  have y2 : w2.heap[w.heap.size + 1]? = some (.cells #[.string f] 9 (0, 0)) := by rw [hw2, show w.heap.size + 1 = w1.heap.size by rw [hw1, size_alloc], heap_alloc_new]
  have bb : Below w.heap.size w w2 := by
    rw [hw2, hw1]
    exact ((Below.refl _ _).alloc (Nat.le_refl _) _).alloc (by rw [size_alloc]; omega) _
  have Y := hidi (And.intro y1 (And.intro y2 bb))
  rw [hw2, hw1] at Y
  clear y1 y2 bb hw2 hw1
  unfold ptr at *
  go_enter Tryz.func19, Tryz.ntmps19
  go_wp2_with fail
  go_ret
  exact ⟨_, _, rfl, Y.out⟩
set_option maxRecDepth 100000 in
set_option maxHeartbeats 1000000 in
theorem all13_any {w : World} (tb : Nat) : Calls Tryz.prog 13 #[ptr tb] w fun e w' => ∃ a, e = .returned (.func (.func 31) #[] #[ptr a]) ∧ w'.heap[a]? = some (.cells #[ptr tb] 25 (0, 0)) ∧ Below w.heap.size w w' := by
  have Y := hidi (And.intro (heap_alloc_new w (.cells #[ptr tb] 25)) ((Below.refl w.heap.size w).alloc (Nat.le_refl _) (.cells #[ptr tb] 25)))
  unfold ptr at *
  go_enter Tryz.func13, Tryz.ntmps13
  go_wp2_with fail
  go_ret
  exact ⟨_, rfl, Y.out⟩
theorem tw_of {w w' : World} {tb r P : Nat} {nf : Int} {T : List Fn} (h : TS w tb r P nf T) (hP : P ≤ 60) (hb : Below w.heap.size w w') : Tw w' tb r nf (T.length : Int) T :=
  ⟨h.tm.below hb, h.msk, by have := h.cnt; have := h.nP; omega⟩
/-- A step of the question whether it is the last. -/
theorem last_step {z : Msg} {l : List Msg} {k : Nat} {y : Msg} (h : l[k]? = some y) : lastB z (l.drop k) = (!sameT z y && lastB z (l.drop (k + 1))) := by
  have : l.drop k = y :: l.drop (k + 1) := by
    obtain ⟨hi, e⟩ := List.getElem?_eq_some_iff.1 h
    rw [← e]
    exact List.drop_eq_getElem_cons hi
  rw [this]
  rfl
theorem last_end {z : Msg} {l : List Msg} {k : Nat} (h : l.length ≤ k) : lastB z (l.drop k) = true := by
  rw [List.drop_eq_nil_of_le h]
  rfl
end Go.Proofs.YtipagdhoeocjeaaGreat.Li
namespace Go.Proofs.YtipagdhoeocjeaaGreat.Li
open Go Go.RowKit Go.Shelf
set_option linter.unusedSimpArgs false
set_option linter.unusedVariables false
/-- A message that the law makes: a topic, its own bytes, quality 1. -/
def ofM (t : ByteArray) : Msg := ⟨t, t.data.toList.map (fun b => (b.toNat : Int)), 1, false⟩
theorem ofM_len (t : ByteArray) : (ofM t).xs.length = t.size := by unfold ofM; simp
theorem bytes_get (t : ByteArray) (c i : Nat) (hi : i < t.size) : (bytesRow t c)[i]? = some (.int .u8 ((ofM t).xs.getD i 0)) := by
  have h1 : i < t.data.size := hi
  have h2 : i < t.data.toList.length := by simpa using h1
  unfold bytesRow ofM
  rw [List.getD_eq_getElem?_getD, List.getElem?_map, List.getElem?_eq_getElem h2]
  simp [Array.getElem?_append, h1]
  rw [if_pos hi]
  simp [h1]
  exact ⟨_, Array.getElem?_eq_getElem h1, rfl⟩
/-- A payload in a block of its own. -/
structure OfR (w w' : World) (v : Value) (xs : List Int) : Prop where
  pr : PR w' v xs
  own : ∃ g c, v = .slice (some ⟨g, 0, none⟩) xs.length c ∧ w.heap.size ≤ g
  be : Below w.heap.size w w'
theorem OfR.at_ {w w' w2 : World} {v : Value} {xs : List Int} (h : OfR w w' v xs) (he : ∀ g, w.heap.size ≤ g → g < w'.heap.size → w2.heap[g]? = w'.heap[g]?) : PR w2 v xs := by
  obtain ⟨g, c, rfl, hg⟩ := h.own
  rcases h.pr with ⟨e, -⟩ | ⟨a, n, c', e, h2, h3, h4⟩
  · cases e
  · cases e
    refine .inr ⟨_, _, _, rfl, h2, h3, fun i hi => ?_⟩
    have := h4 i hi
    rw [plain_add] at this ⊢
    exact (cell_heap (he g hg (World.block_lt_of_cell? _ _ this))).trans this
theorem OfR.below {w w' w2 : World} {v : Value} {xs : List Int} (h : OfR w w' v xs) (hb : Below w'.heap.size w' w2) : OfR w w2 v xs := ⟨h.pr.below hb, h.own, h.be.trans (hb.mono h.be.size)⟩
set_option maxRecDepth 100000 in
set_option maxHeartbeats 2000000 in
theorem of_any (t : ByteArray) (ht : t.size ≤ 1000) (w : World) : Calls Tryz.prog 24 #[.string t] w fun e w' => ∃ v, e = .returned ((ofM t).val v) ∧ OfR w w' v (ofM t).xs := by
  have hcv := fun (w : World) => run_bytes_of_string (P := Tryz.prog) w 9 28 5 t Tryz.underlying9 Tryz.underlying28 Tryz.underlying5
  go_enter Tryz.func24, Tryz.ntmps24
  go_wp2_with fail
  obtain ⟨cp, hcp⟩ : ∃ cp, cp = grownCap (w.alloc (.cells #[.string ⟨#[]⟩, .slice none 0 0, .int .i64 0, .bool false] 30)) t.size 0 5 := ⟨_, rfl⟩
  rw [← hcp]
  obtain ⟨w1, hw1⟩ : ∃ w1, w1 = w.alloc (.cells #[.string t, .slice (some ⟨w.heap.size + 1, 0, none⟩) t.size cp, .int .i64 1, .bool false] 30) := ⟨_, rfl⟩
  have y0 : w1.heap[w.heap.size]? = some (.cells #[.string t, .slice (some ⟨w.heap.size + 1, 0, none⟩) t.size cp, .int .i64 1, .bool false] 30 (0, 0)) := by rw [hw1, heap_alloc_new]
  have s1 : w1.heap.size = w.heap.size + 1 := by rw [hw1, size_alloc]
  have b1 : Below w.heap.size w w1 := by rw [hw1]; exact (Below.refl _ _).alloc (Nat.le_refl _) _
  refine bodyPost_ret (results_cell_row rfl _ _ _ _ _ _ _ rfl (later_at y0 ?_) Tryz.underlying30 rfl (by kernel_rfl)) rfl ⟨_, by unfold Msg.val Msg.cs ofM; rfl, ?_, ⟨w.heap.size + 1, cp, by rw [ofM_len], Nat.le_succ _⟩, ?_⟩
  · rw [← hw1]
    exact ((Below.refl _ _).drew).alloc (Nat.le_refl _) _
  · rw [← hw1]
    refine .inr ⟨⟨w.heap.size + 1, 0, none⟩, t.size, cp, rfl, ofM_len t, by unfold maxLen; omega, fun i hi => ?_⟩
    rw [plain_add, Nat.zero_add]
    have hn := heap_alloc_new w1.drew (.cells (bytesRow t cp) 5 ((bytesRow t cp).size, (bytesRow t cp).size + 1))
    rw [show w1.drew.heap.size = w.heap.size + 1 from s1] at hn
    exact box_cells hn i _ (bytes_get t cp i hi)
  · rw [← hw1]
    exact b1.trans ((((Below.refl w1.heap.size w1).drew).alloc (Nat.le_refl _) _).mono b1.size)
end Go.Proofs.YtipagdhoeocjeaaGreat.Li
namespace Go.Proofs.YtipagdhoeocjeaaGreat.Li
open Go Go.RowKit Go.Shelf
set_option linter.unusedSimpArgs false
set_option linter.unusedVariables false
theorem four {l : List Ml} {W : World} {g o n cap : Nat} (h : MsIn W (.slice (some ⟨g, o, none⟩) n cap) l) {k : Nat} {s : Ml} (hs : l[k]? = some s) : ∀ w', Below W.heap.size W w' → w'.cell? ⟨g, o + k * 4, none⟩ = some (.string s.1.t) ∧ w'.cell? ⟨g, o + k * 4 + 1, none⟩ = some s.2 ∧ w'.cell? ⟨g, o + k * 4 + 2, none⟩ = some (.int .i64 s.1.q) ∧ w'.cell? ⟨g, o + k * 4 + 3, none⟩ = some (.bool s.1.r) := fun w' hb => by
  obtain ⟨a, n', cap', e, h2, h3, h4⟩ := h.ex
  injection e with e1 e2 e3
  subst e1 e2 e3
  obtain ⟨g', o', e, hg, hc⟩ := h4 (fun e => by subst e; simp at hs)
  injection e with e
  injection e with e1 e2
  subst e1 e2
  rw [hb.cell hg, hb.cell hg, hb.cell hg, hb.cell hg]
  exact hc k s hs
theorem MsIn.at_ {l : List Ml} {W : World} {a : Option Addr} {n cap : Nat} (h : MsIn W (.slice a n cap) l) {k : Nat} {s : Ml} (hs : l[k]? = some s) : ∃ g o, a = some ⟨g, o, none⟩ := by
  obtain ⟨a', n', cap', e, h2, h3, h4⟩ := h.ex
  injection e with e1 e2 e3
  subst e1 e2 e3
  obtain ⟨g', o', e, hg, hc⟩ := h4 (fun e => by subst e; simp at hs)
  exact ⟨g', o', e⟩
theorem MsIn.lens {l : List Ml} {W : World} {a : Option Addr} {n cap : Nat} (h : MsIn W (.slice a n cap) l) : n = l.length ∧ n ≤ cap := by
  obtain ⟨a', n', cap', e, h2, h3, h4⟩ := h.ex
  injection e with e1 e2 e3
  subst e1 e2 e3
  exact ⟨h2, h3⟩
/-- What the law stands on when its loops begin. -/
structure LW (W : World) (f : ByteArray) (v1 v2 : Value) (l X : List Ml) : Prop where
  a : MsIn W v1 l
  b : MsIn W v2 X
  iff_ : ∀ z, z ∈ mm X ↔ z ∈ goods f (mm l)
  len : (goods f (mm l)).length = X.length
  ord : ∀ k x y, (mm X)[k]? = some x → (mm X)[k + 1]? = some y → cmpL (unB x.t) (unB y.t) = -1
  sz : ∀ z ∈ mm X, z.t.size ≤ 1000000
  n60 : l.length ≤ 60
  m60 : X.length ≤ 60
theorem lw_of {w₀ W : World} {tb r : Nat} {nf nn : Int} {T : List Fn} {f : ByteArray} {v1 v2 : Value} {l X : List Ml} (h : Tw w₀ tb r nf nn T) (hT : ∀ F z, HasM T F z ↔ holdM (mm l) F z) (a : MsIn W v1 l) (g : Gv w₀ T (FindS f) v2 X W) (n60 : l.length ≤ 60) : LW W f v1 v2 l X := by
  have al : All T (FindS f) (mm X) := g.al
  have hl := found_len hT al
  rw [mm_len] at hl
  refine ⟨a, gv_in h g, found_iff hT al, hl, fun k x y hx hy => cmp_of ?_, fun z hz => ?_, n60, ?_⟩
  · have p := al.srt.ord
    obtain ⟨h1, e1⟩ := List.getElem?_eq_some_iff.1 hx
    obtain ⟨h2, e2⟩ := List.getElem?_eq_some_iff.1 hy
    have := List.pairwise_iff_getElem.1 p k (k + 1) h1 h2 (Nat.lt_succ_self k)
    rw [e1, e2] at this
    exact this
  · obtain ⟨f, hf, e, e2⟩ := ((al.mem z).1 hz).2
    have := (h.msk f hf _ e2).2.2.2.2
    omega
  · rw [← hl]
    have : ∀ (M : List Msg), (goods f M).length ≤ M.length := fun M => by
      induction M with
      | nil => exact Nat.le_refl _
      | cons m r ih =>
        unfold goods
        split
        · simp; omega
        · simp; omega
    have := this (mm l)
    rw [mm_len] at this
    omega
end Go.Proofs.YtipagdhoeocjeaaGreat.Li
namespace Go.Proofs.YtipagdhoeocjeaaGreat.Li
open Go Go.RowKit Go.Shelf
set_option linter.unusedSimpArgs false
set_option linter.unusedVariables false
/-! ### the chapter's example -/
def fA : ByteArray := ⟨#[97]⟩
def fB : ByteArray := ⟨#[98]⟩
def fAB : ByteArray := ⟨#[97, 47, 98]⟩
def fD : ByteArray := ⟨#[36, 97]⟩
def fH : ByteArray := ⟨#[35]⟩
def L4 : List Msg := [ofM fB, ofM fAB, ofM fD, ofM fA]
theorem lv_a : levels fA = [fA] := by decide +kernel
theorem lv_b : levels fB = [fB] := by decide +kernel
theorem lv_ab : levels fAB = [fA, fB] := by decide +kernel
theorem lv_d : levels fD = [fD] := by decide +kernel
theorem goods_h : goods fH L4 = [ofM fB, ofM fAB, ofM fA] := by kernel_rfl
theorem goods_d : goods fD L4 = [ofM fD] := by kernel_rfl
theorem held4 (z : Msg) : holdM L4 (levels z.t) z ↔ z ∈ L4 := by
  rw [hold_iff]
  constructor
  · exact fun h => (held_mem h).1
  · intro h
    have : z ∈ goods fH L4 ∨ z ∈ goods fD L4 := by
      rw [goods_h, goods_d]
      simp only [L4, List.mem_cons, List.not_mem_nil, or_false] at h ⊢
      rcases h with h | h | h | h <;> simp [h]
    rcases this with c | c
    · exact ((mem_goods _ _ _).1 c).1
    · exact ((mem_goods _ _ _).1 c).1
instance (A B : List ByteArray) : Decidable (ltV A B) := by unfold ltV; infer_instance
variable {T : List Fn}
theorem srt4 (hT : ∀ F z, HasM T F z ↔ holdM L4 F z) {Y : List Msg} (hY : ∀ m ∈ Y, m ∈ L4) (o : Y.Pairwise (fun a b => ltV (levels a.t) (levels b.t))) : Srt T Y :=
  ⟨o, fun m hm => (hT _ _).2 ((held4 m).2 (hY m hm))⟩
theorem found4 (hT : ∀ F z, HasM T F z ↔ holdM L4 F z) {X : List Msg} (al : All T (FindS fH) X) : X = [ofM fA, ofM fAB, ofM fB] :=
  srt_eq al.srt (srt4 hT (fun m hm => by
    simp only [L4, List.mem_cons, List.not_mem_nil, or_false] at hm ⊢
    rcases hm with h | h | h <;> simp [h]) (by decide +kernel)) (fun m => by
    rw [found_iff hT al, goods_h]
    simp only [List.mem_cons, List.not_mem_nil, or_false]
    constructor <;> (rintro (h | h | h) <;> simp [h]))
theorem all4 (hT : ∀ F z, HasM T F z ↔ holdM L4 F z) {X : List Msg} (al : All T (fun _ => True) X) : X = [ofM fD, ofM fA, ofM fAB, ofM fB] :=
  srt_eq al.srt (srt4 hT (fun m hm => by
    simp only [L4, List.mem_cons, List.not_mem_nil, or_false] at hm ⊢
    rcases hm with h | h | h | h <;> simp [h]) (by decide +kernel)) (fun m => by
    rw [al.mem, hT, held4]
    simp only [L4, List.mem_cons, List.not_mem_nil, or_false, true_and]
    constructor <;> (rintro (h | h | h | h) <;> simp [h]))
/-- What filters have in common, two and two. -/
def lcpsF (D : List (List ByteArray)) : List (List ByteArray) := [] :: D.flatMap fun F => D.map fun G => lcp F G
variable {w w0 w1 w4 : World} {tb r : Nat} {nf nn : Int}
theorem at_iff (h : TM w tb r nf nn T) (fx : FormX T []) {D : List (List ByteArray)} (hD : ∀ F, (∃ z, HasM T F z) ↔ F ∈ D) (A : List ByteArray) : (∃ f ∈ T, f.s.A = A) ↔ A ∈ lcpsF D := by
  rw [nodes_iff h fx A]
  unfold lcpsF
  rw [List.mem_cons, List.mem_flatMap]
  have hs : ∀ f ∈ T, f.ms.isSome = true → f.s.A ∈ D := fun f hf e => by
    obtain ⟨z, hz⟩ := Option.isSome_iff_exists.1 e
    exact (hD _).1 ⟨z, f, hf, rfl, hz⟩
  refine or_congr Iff.rfl ⟨?_, ?_⟩
  · rintro ⟨f, hf, g, hg, f0, g0, rfl⟩
    exact ⟨_, hs f hf f0, List.mem_map.2 ⟨_, hs g hg g0, rfl⟩⟩
  · rintro ⟨F, hF, q⟩
    obtain ⟨G, hG, q⟩ := List.mem_map.1 q
    obtain ⟨z, f, hf, f1, f0⟩ := (hD F).2 hF
    obtain ⟨z', g, hg, g1, g0⟩ := (hD G).2 hG
    exact ⟨f, hf, g, hg, by rw [f0]; rfl, by rw [g0]; rfl, by rw [f1, g1, q]⟩
def memL (X Y : List (List ByteArray)) : Bool := Y.all fun A => X.any fun B => decide (B = A)
theorem memL_iff {X Y : List (List ByteArray)} (h : memL X Y = true) : ∀ A ∈ Y, A ∈ X := fun A hA => by
  unfold memL at h
  have := List.all_eq_true.1 h A hA
  rw [List.any_eq_true] at this
  obtain ⟨B, hB, q⟩ := this
  rw [← of_decide_eq_true q]
  exact hB
theorem nodes_of (h : TM w tb r nf (T.length : Int) T) (fx : FormX T []) {D X : List (List ByteArray)} (hD : ∀ F, (∃ z, HasM T F z) ↔ F ∈ D) (hn : X.Nodup) (h1 : memL (lcpsF D) X = true) (h2 : memL X (lcpsF D) = true) (n : Int) (hl : (X.length : Int) = n) :
    Calls Tryz.prog 17 #[ptr tb] w fun e w' => e = .returned (.int .i64 n) ∧ w' = w := by
  have := nodes_len h hn (fun A => ⟨fun q => (at_iff h fx hD A).2 (memL_iff h1 A q), fun q => memL_iff h2 A ((at_iff h fx hD A).1 q)⟩)
  have q := nodes_any h
  rw [this, hl] at q
  exact q
theorem held_lv (F : List ByteArray) : (∃ z, holdM L4 F z) ↔ F ∈ [[fB], [fA, fB], [fD], [fA]] := by
  constructor
  · rintro ⟨z, h⟩
    rw [hold_iff] at h
    obtain ⟨hz, _, rfl⟩ := held_mem h
    simp only [L4, List.mem_cons, List.not_mem_nil, or_false] at hz
    rcases hz with rfl | rfl | rfl | rfl
    · show levels fB ∈ _; rw [lv_b]; simp
    · show levels fAB ∈ _; rw [lv_ab]; simp
    · show levels fD ∈ _; rw [lv_d]; simp
    · show levels fA ∈ _; rw [lv_a]; simp
  · intro h
    simp only [List.mem_cons, List.not_mem_nil, or_false] at h
    rcases h with rfl | rfl | rfl | rfl
    · exact ⟨ofM fB, by rw [← lv_b]; exact (held4 (ofM fB)).2 (by simp [L4])⟩
    · exact ⟨ofM fAB, by rw [← lv_ab]; exact (held4 (ofM fAB)).2 (by simp [L4])⟩
    · exact ⟨ofM fD, by rw [← lv_d]; exact (held4 (ofM fD)).2 (by simp [L4])⟩
    · exact ⟨ofM fA, by rw [← lv_a]; exact (held4 (ofM fA)).2 (by simp [L4])⟩
theorem form_of (f : ∀ f ∈ T, f.s.A = [] ∨ f.ms.isSome = true ∨ Fork T f.s.A) : FormX T [] := fun g hg => by
  rcases f g hg with c | c | c
  · exact .inl c
  · exact .inr (.inl c)
  · exact .inr (.inr (.inl c))
/-- Five nodes. -/
theorem five (h : LdR w w4 tb r 4 (holdM L4)) (hb : Below w4.heap.size w4 w1) : Calls Tryz.prog 17 #[ptr tb] w1 fun e w' => e = .returned (.int .i64 5) ∧ w' = w1 := by
  obtain ⟨⟨T, nf, t1, t2, t3⟩, be⟩ := h
  have t := t1.below hb
  exact nodes_of t.tm (form_of t.frm) (D := [[fB], [fA, fB], [fD], [fA]]) (X := [[], [fB], [fA, fB], [fD], [fA]]) (fun F => by rw [← held_lv]; exact exists_congr (t2 F)) (by decide +kernel) (by decide +kernel) (by decide +kernel) 5 rfl
/-- A trie of which one went. -/
structure DK (w w' : World) (tb r : Nat) : Prop where
  ex : ∃ T nf, TM w' tb r nf (T.length : Int) T ∧ FormX T [] ∧ ∀ F, (∃ z, HasM T F z) ↔ F ∈ [[fB], [fA, fB], [fD]]
  be : Below w.heap.size w w'
theorem dropk (h : LdR w w4 tb r 4 (holdM L4)) (hb : Below w4.heap.size w4 w1) : Calls Tryz.prog 29 #[ptr tb, .string fA] w1 fun e w' => e = .returned (.bool true) ∧ DK w w' tb r := by
  obtain ⟨⟨T, nf, t1, t2, t3⟩, be⟩ := h
  have t := t1.below hb
  have h0 : HasM T (levels fA) (ofM fA) := (t2 _ _).2 ((held4 (ofM fA)).2 (by simp [L4]))
  have hc := t.cnt
  have hp := t.nP
  refine (drop_yes t.tm ⟨form_of t.frm, t.cn, by omega⟩ (by decide +kernel) h0).mono ?_
  rintro e w' ⟨rfl, ⟨T', tm, qs⟩, ch⟩
  have b1 := be.trans (hb.mono be.size)
  refine ⟨rfl, ⟨T', nf - 1, tm, qs.frm, fun F => ?_⟩, ⟨ch.os.trans b1.os, ch.tape.trans b1.tape, ch.output.trans b1.output, Nat.le_trans b1.size ch.size, fun k hk => (ch.block k (Nat.lt_of_lt_of_le hk b1.size) (fun c => by have := t3 k c; omega)).trans (b1.block k hk)⟩⟩
  have e1 : (∃ z, HasM T' F z) ↔ (∃ z, holdM L4 F z) ∧ ¬ F = levels fA := by
    constructor
    · rintro ⟨z, hz⟩
      have := (qs.has F z).1 hz
      exact ⟨⟨z, (t2 F z).1 this.1⟩, this.2⟩
    · rintro ⟨⟨z, hz⟩, hn⟩
      exact ⟨z, (qs.has F z).2 ⟨(t2 F z).2 hz, hn⟩⟩
  rw [e1, held_lv, lv_a]
  simp only [List.mem_cons, List.not_mem_nil, or_false]
  constructor
  · rintro ⟨h | h | h | h, hn⟩
    · exact .inl h
    · exact .inr (.inl h)
    · exact .inr (.inr h)
    · exact absurd h hn
  · rintro (h | h | h)
    · exact ⟨.inl h, by rw [h]; decide +kernel⟩
    · exact ⟨.inr (.inl h), by rw [h]; decide +kernel⟩
    · exact ⟨.inr (.inr (.inl h)), by rw [h]; decide +kernel⟩
theorem fournodes (h : DK w w1 tb r) : Calls Tryz.prog 17 #[ptr tb] w1 fun e w' => e = .returned (.int .i64 4) ∧ w' = w1 := by
  obtain ⟨⟨T, nf, tm, fx, hD⟩, be⟩ := h
  exact nodes_of tm fx (X := [[], [fB], [fA, fB], [fD]]) hD (by decide +kernel) (by decide +kernel) (by decide +kernel) 4 rfl
set_option maxRecDepth 100000 in
set_option maxHeartbeats 4000000 in
theorem dropk11 (h : LdR w w4 tb r 4 (holdM L4)) (hb : Below w4.heap.size w4 w1) : Calls Tryz.prog 11 #[ptr tb, .string fA] w1 fun e w' => e = .returned (.bool true) ∧ DK w w' tb r := by
  have D := hidi (dropk h hb)
  unfold ptr fA at *
  clear h hb
  go_enter Tryz.func11, Tryz.ntmps11
  go_wp2_with (go_at_call 29; refine D.out.mono ?_; rintro e w' ⟨rfl, dk⟩; have END := hidi dk; clear dk D)
  go_ret
  exact ⟨rfl, END.out⟩
end Go.Proofs.YtipagdhoeocjeaaGreat.Li
namespace Go.Proofs.YtipagdhoeocjeaaGreat.Li
open Go Go.RowKit Go.Shelf
set_option linter.unusedSimpArgs false
set_option linter.unusedVariables false
/-! ### two tries that stand alike -/
structure Twin (T U : List Fn) : Prop where
  nd : ∀ f ∈ T, ∃ g ∈ U, f.s.A = g.s.A
  nd' : ∀ g ∈ U, ∃ f ∈ T, f.s.A = g.s.A
  m : ∀ f ∈ T, ∀ g ∈ U, f.s.A = g.s.A → f.s.m = g.s.m
  ms : ∀ f ∈ T, ∀ g ∈ U, f.s.A = g.s.A → f.ms = g.ms
  invT : Inv (T.map Fn.s)
  inv : Inv (U.map Fn.s)
  sameT : ∀ a ∈ T, ∀ b ∈ T, a.s.A = b.s.A → a = b
  sameU : ∀ a ∈ U, ∀ b ∈ U, a.s.A = b.s.A → a = b
theorem ks_uniq {L L' : List ByteArray} (h : L.Pairwise fun a b => ltL (unB a) (unB b) = true) (h' : L'.Pairwise fun a b => ltL (unB a) (unB b) = true) (e : ∀ x, x ∈ L ↔ x ∈ L') : L = L' := by
  have asym : ∀ {a b : ByteArray}, ltL (unB a) (unB b) = true → ltL (unB b) (unB a) = true → False := fun {a b} h1 h2 => by
    have := ltL_trans _ _ _ h1 h2
    rw [ltL_irr] at this
    cases this
  induction L generalizing L' with
  | nil =>
    cases L' with
    | nil => rfl
    | cons a l => have := (e a).2 List.mem_cons_self; cases this
  | cons a l ih =>
    cases L' with
    | nil => have := (e a).1 List.mem_cons_self; cases this
    | cons b l' =>
      obtain ⟨h1, h2⟩ := List.pairwise_cons.1 h
      obtain ⟨h3, h4⟩ := List.pairwise_cons.1 h'
      have ab : a = b := by
        rcases List.mem_cons.1 ((e a).1 List.mem_cons_self) with q | q
        · exact q
        · rcases List.mem_cons.1 ((e b).2 List.mem_cons_self) with q' | q'
          · exact q'.symm
          · exact (asym (h3 a q) (h1 b q')).elim
      subst ab
      congr 1
      refine ih h2 h4 (fun x => ⟨fun hx => ?_, fun hx => ?_⟩)
      · rcases List.mem_cons.1 ((e x).1 (List.mem_cons_of_mem _ hx)) with q | q
        · subst q; exact (asym (h1 x hx) (h1 x hx)).elim
        · exact q
      · rcases List.mem_cons.1 ((e x).2 (List.mem_cons_of_mem _ hx)) with q | q
        · subst q; exact (asym (h3 x hx) (h3 x hx)).elim
        · exact q
theorem Twin.kid {T U : List Fn} (tw : Twin T U) {f g q q' : Fn} (hf : f ∈ T) (hg : g ∈ U) (e : f.s.A = g.s.A) (hq : q ∈ T) (hq' : q' ∈ U) (e' : q.s.A = q'.s.A) : Kid f.s q.s ↔ Kid g.s q'.s := by
  have m := tw.m q hq q' hq' e'
  have t : q.s.top = q'.s.top := by unfold Nd.top; rw [e', m]
  unfold Kid
  rw [m, t, e, e']
theorem Twin.fl {T U : List Fn} (tw : Twin T U) {q q' : Fn} (hq : q ∈ T) (hq' : q' ∈ U) (e' : q.s.A = q'.s.A) : Li.fl q = Li.fl q' := by
  have m := tw.m q hq q' hq' e'
  unfold Li.fl Nd.edge Nd.top
  rw [e', m]
theorem Twin.kids {T U : List Fn} (tw : Twin T U) {f g : Fn} (hf : f ∈ T) (hg : g ∈ U) (e : f.s.A = g.s.A) {K K' : List Fn} (ks : KidsOrd T f K) (ks' : KidsOrd U g K') :
    K'.length = K.length ∧ ∀ (i : Nat) (q q' : Fn), K[i]? = some q → K'[i]? = some q' → q ∈ T ∧ q' ∈ U ∧ q.s.A = q'.s.A := by
  have LL : K'.map Li.fl = K.map Li.fl := ks_uniq (List.pairwise_map.2 ks'.ord) (List.pairwise_map.2 ks.ord) (fun x => by
    rw [List.mem_map, List.mem_map]
    constructor
    · rintro ⟨q', hq', rfl⟩
      obtain ⟨u', k'⟩ := (ks'.all q').1 hq'
      obtain ⟨q, hq, e'⟩ := tw.nd' q' u'
      exact ⟨q, (ks.all q).2 ⟨hq, (tw.kid hf hg e hq u' e').2 k'⟩, tw.fl hq u' e'⟩
    · rintro ⟨q, hq, rfl⟩
      obtain ⟨u, k⟩ := (ks.all q).1 hq
      obtain ⟨q', hq', e'⟩ := tw.nd q u
      exact ⟨q', (ks'.all q').2 ⟨hq', (tw.kid hf hg e u hq' e').1 k⟩, (tw.fl u hq' e').symm⟩)
  refine ⟨by have := congrArg List.length LL; simpa using this, fun i q q' hq hq' => ?_⟩
  obtain ⟨r2, k2⟩ := (ks.all q).1 (List.mem_of_getElem? hq)
  obtain ⟨r2', k2'⟩ := (ks'.all q').1 (List.mem_of_getElem? hq')
  have fe : Li.fl q' = Li.fl q := by
    have := congrArg (fun l => l[i]?) LL
    simp only [List.getElem?_map, hq, hq', Option.map_some] at this
    injection this
  obtain ⟨q2, hq2, e2⟩ := tw.nd q r2
  have kq2 := (tw.kid hf hg e r2 hq2 e2).1 k2
  have a1 := fl_at tw.inv hq2 kq2.1
  have a2 := fl_at tw.inv r2' k2'.1
  rw [fe, tw.fl r2 hq2 e2] at a2
  have := tw.inv.atk (d := g.s) (a := q2.s) (b := q'.s) ⟨List.mem_map_of_mem hq2, kq2, a1⟩ ⟨List.mem_map_of_mem r2', k2', a2⟩
  exact ⟨r2, r2', by rw [e2, this]⟩
theorem own_max {w : World} {B e s n : Nat} {v : Value} {xs : List Value} (h : w.ownsRow B e s v n xs) : n ≤ 9223372036854775807 := by
  rcases h.2 with ⟨_, q⟩ | ⟨g, cap, cur, _, _, _, a, b, _⟩
  · omega
  · unfold maxLen at b; omega
/-- SAMESHAPE of what stands alike. -/
theorem sameShape_any {T U : List Fn} (tw : Twin T U) (bd : ∀ f ∈ T, f.s.m ≤ 65536) {w : World} {V : Nat → Prop} {f : Fn} {u : V3} (h : ShAt w V T f u) : f ∈ T → ∀ (w2 : World), Below w.heap.size w w2 → VC 0 w V → ∀ (V' : Nat → Prop) (g : Fn) (u' : V3), g ∈ U → f.s.A = g.s.A → VC 0 w2 V' → ShAt w2 V' U g u' →
    Calls Tryz.prog 15 #[agg3 u, agg3 u'] w2 fun e w' => e = .returned (.bool true) ∧ Below w2.heap.size w2 w' := by
  induction h with
  | mk f u K vs lv lV hr ks len kd kV sub ih =>
    intro hf w2 hb vc V' g u' hg e vc' sh'
    cases sh' with
    | mk _ _ K' vs' lv' lV' hr' ks' len' kd' kV' sub' =>
      obtain ⟨LL, kk⟩ := tw.kids hf hg e ks ks'
      have mm := tw.m f hf g hg e
      have edge : g.s.edge = f.s.edge := by unfold Nd.edge Nd.top; rw [e, mm]
      have vl : vs'.length = vs.length := by rw [len', len, LL]
      obtain ⟨u1, u2, u3⟩ := u
      obtain ⟨p1, p2, p3⟩ := u'
      simp only at lv kd lv' kd' lV kV lV' kV' hr hr'
      obtain ⟨k1, c1, rfl⟩ := own_sl kd
      obtain ⟨k2, c2, rfl⟩ := own_sl kd'
      have b1 := bd f hf
      rw [← mm, edge] at lv'
      rw [← tw.ms f hf g hg e, ← hr] at hr'
      subst hr'
      obtain ⟨hh, hhh⟩ : ∃ hh, hh = f.ms.isSome := ⟨_, rfl⟩
      rw [← hhh] at hr
      subst hr
      have kd2 := own_below kd hb
      rw [vl] at kd'
      obtain ⟨a1, d1, q1⟩ := own_sl lv
      obtain ⟨a2, d2, q2⟩ := own_sl lv'
      unfold agg3
      simp only [vl]
      refine sameShape_walk (vs := vs) (us := vs') ⟨_, _, _, q1⟩ ⟨_, _, _, q2⟩ (fun w' hb' => sameT_any (own_below (own_below lv hb) hb') (own_below lv' hb') (by omega)) kd2 kd' rfl vl.symm (own_max kd) (fun i v p hv hp w' hb' => ?_)
      obtain ⟨q, hq⟩ : ∃ q, K[i]? = some q := ⟨_, List.getElem?_eq_getElem (by have := (List.getElem?_eq_some_iff.1 hv).1; omega)⟩
      obtain ⟨q', hq'⟩ : ∃ q', K'[i]? = some q' := ⟨_, List.getElem?_eq_getElem (by have := (List.getElem?_eq_some_iff.1 hp).1; omega)⟩
      obtain ⟨m1, m2, m3⟩ := kk i q q' hq hq'
      have blk : ∀ k, V' k → w'.heap[k]? = w2.heap[k]? := fun k hk => hb'.block k (vc'.lt hk)
      exact ih i q v hq hv m1 w' (hb.trans (hb'.mono hb.size)) vc V' q' p m2 m3 (vc'.keep blk) ((sub' i q' p hq' hp).keep blk (fun _ e => e))
variable {w w' : World} {tb r tb' r' : Nat} {nf nf' nn nn' : Int} {T U : List Fn}
theorem ne_has (h : TM w tb r nf nn T) (F : List ByteArray) : (∃ f ∈ T, f.s.A = F ∧ f.ms.isSome = true) ↔ ∃ z, HasM T F z := by
  constructor
  · rintro ⟨f, hf, rfl, h0⟩
    obtain ⟨z, hz⟩ := Option.isSome_iff_exists.1 h0
    exact ⟨z, f, hf, rfl, hz⟩
  · rintro ⟨z, f, hf, e1, e2⟩
    exact ⟨f, hf, e1, by rw [e2]; rfl⟩
theorem nodes_has (h : TM w tb r nf nn T) (fx : FormX T []) (A : List ByteArray) : (∃ f ∈ T, f.s.A = A) ↔ A = [] ∨ ∃ F G, (∃ z, HasM T F z) ∧ (∃ z, HasM T G z) ∧ A = lcp F G := by
  rw [nodes_iff h fx A]
  refine or_congr Iff.rfl ⟨?_, ?_⟩
  · rintro ⟨f, hf, g, hg, f0, g0, rfl⟩
    exact ⟨_, _, (ne_has h _).1 ⟨f, hf, rfl, f0⟩, (ne_has h _).1 ⟨g, hg, rfl, g0⟩, rfl⟩
  · rintro ⟨F, G, a, b, rfl⟩
    obtain ⟨f, hf, rfl, f0⟩ := (ne_has h F).2 a
    obtain ⟨g, hg, rfl, g0⟩ := (ne_has h G).2 b
    exact ⟨f, hf, g, hg, f0, g0, rfl⟩
theorem top_le {T U : List Fn} (iT : Inv (T.map Fn.s)) (iU : Inv (U.map Fn.s)) (nd : ∀ g ∈ U, ∃ f ∈ T, f.s.A = g.s.A) {f g : Fn} (hf : f ∈ T) (hg : g ∈ U) (e : f.s.A = g.s.A) (fm : 0 < f.s.m) (gm : 0 < g.s.m) : g.s.top ≤ f.s.top := by
  obtain ⟨d, hd, kd⟩ := iT.par f.s (List.mem_map_of_mem hf) fm
  obtain ⟨d', hd', kd'⟩ := iU.par g.s (List.mem_map_of_mem hg) gm
  obtain ⟨q', hq', rfl⟩ := List.mem_map.1 hd'
  obtain ⟨q, hq, eq⟩ := nd q' hq'
  refine Classical.byContradiction fun c => ?_
  have t1 := kd.2.1
  have t2 := kd'.2.1
  have p1 : d.A <+: f.s.A := kd.goes
  have p2 : q.s.A <+: f.s.A := by rw [eq, e]; exact kd'.goes
  have lt := kd'.lt (iU.le g.s (List.mem_map_of_mem hg)).1
  have p3 : d.A <+: q.s.A := prefix_le p1 p2 (by rw [eq]; omega)
  obtain ⟨x, hx, kx, px⟩ := iT.way q.s.A.length q.s (List.mem_map_of_mem hq) (Nat.le_refl _) d hd p3 (by rw [eq]; omega)
  have := iT.kid hx (List.mem_map_of_mem hf) kx kd (L := f.s.A) (.inl (px.trans p2)) (.inl (List.prefix_refl _))
  rw [this] at px
  have := px.length_le
  rw [e, eq] at this
  omega
/-- Two tries that hold the same stand alike. -/
theorem twin_of (hT : TM w tb r nf nn T) (hU : TM w' tb' r' nf' nn' U) (fT : FormX T []) (fU : FormX U []) (e : ∀ F z, HasM T F z ↔ HasM U F z) : Twin T U := by
  have ex : ∀ F, (∃ z, HasM T F z) ↔ ∃ z, HasM U F z := fun F => exists_congr (e F)
  have nd : ∀ A, (∃ f ∈ T, f.s.A = A) ↔ ∃ g ∈ U, g.s.A = A := fun A => by
    rw [nodes_has hT fT A, nodes_has hU fU A]
    refine or_congr Iff.rfl ⟨fun ⟨F, G, a, b, c⟩ => ⟨F, G, (ex F).1 a, (ex G).1 b, c⟩, fun ⟨F, G, a, b, c⟩ => ⟨F, G, (ex F).2 a, (ex G).2 b, c⟩⟩
  have n1 : ∀ f ∈ T, ∃ g ∈ U, g.s.A = f.s.A := fun f hf => (nd _).1 ⟨f, hf, rfl⟩
  have n2 : ∀ g ∈ U, ∃ f ∈ T, f.s.A = g.s.A := fun g hg => (nd _).2 ⟨g, hg, rfl⟩
  refine ⟨fun f hf => by obtain ⟨g, hg, q⟩ := n1 f hf; exact ⟨g, hg, q.symm⟩, n2, fun f hf g hg q => ?_, fun f hf g hg q => ?_, hT.inv, hU.inv, fun a ha b hb q => hT.same ha hb q, fun a ha b hb q => hU.same ha hb q⟩
  · obtain ⟨l1, l2⟩ := hT.inv.le f.s (List.mem_map_of_mem hf)
    obtain ⟨l3, l4⟩ := hU.inv.le g.s (List.mem_map_of_mem hg)
    by_cases c : f.s.A = []
    · rw [l2.1 c, l4.1 (q ▸ c)]
    · have fm : 0 < f.s.m := Nat.pos_of_ne_zero (fun z => c (l2.2 z))
      have gm : 0 < g.s.m := Nat.pos_of_ne_zero (fun z => c (q.trans (l4.2 z)))
      have a := top_le hT.inv hU.inv n2 hf hg q fm gm
      have b := top_le hU.inv hT.inv n1 hg hf q.symm gm fm
      have : f.s.top = g.s.top := by omega
      unfold Nd.top at this
      rw [q] at this l1
      omega
  · have k : ∀ z, f.ms = some z ↔ g.ms = some z := fun z => by
      constructor
      · intro h
        obtain ⟨g', hg', a, b⟩ := (e f.s.A z).1 ⟨f, hf, rfl, h⟩
        obtain rfl := hU.same hg' hg (a.trans q)
        exact b
      · intro h
        obtain ⟨f', hf', a, b⟩ := (e g.s.A z).2 ⟨g, hg, rfl, h⟩
        obtain rfl := hT.same hf' hf (a.trans q.symm)
        exact b
    cases h : f.ms with
    | some z => exact ((k z).1 h).symm
    | none =>
      cases h' : g.ms with
      | none => rfl
      | some z => rw [(k z).2 h'] at h; cases h
theorem twin_len (hT : TM w tb r nf nn T) (hU : TM w' tb' r' nf' nn' U) (tw : Twin T U) : T.length = U.length := by
  have nd : (U.map (fun f => f.s.A)).Nodup := by
    have := hU.inv.dis
    rw [List.pairwise_map] at this
    exact List.pairwise_map.2 this
  have := nodes_len hT nd (fun A => by
    rw [List.mem_map]
    constructor
    · rintro ⟨g, hg, rfl⟩
      exact tw.nd' g hg
    · rintro ⟨f, hf, rfl⟩
      obtain ⟨g, hg, q⟩ := tw.nd f hf
      exact ⟨g, hg, q.symm⟩)
  simpa using this
end Go.Proofs.YtipagdhoeocjeaaGreat.Li
