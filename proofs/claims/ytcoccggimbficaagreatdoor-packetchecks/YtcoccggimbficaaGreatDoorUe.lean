import Derived.Test.YtcoccggimbficaaGreatDoorUc
namespace Go.Proofs.YtcoccggimbficaaGreatDoor
open Go Go.RowKit Go.Sort
set_option linter.unusedSimpArgs false
set_option linter.unusedVariables false

theorem Tryz.infoIe : (Tryz.prog.info? 3).map (fun i => (i.zero, i.size, i.bytes)) = some (some (.int .i64 0), 1, 8) := by kernel_rfl
theorem Tryz.infoIt : (Tryz.prog.info? 26).map (fun i => (i.zero, i.size, i.bytes)) = some (some (.slice none 0 0), 1, 24) := by kernel_rfl
theorem Tryz.infoIn : (Tryz.prog.info? 3).map (fun i => (i.zero, i.size, i.bytes)) = some (some (.int .i64 0), 1, 8) := by kernel_rfl

set_option maxRecDepth 100000 in
set_option maxHeartbeats 4000000 in
theorem layI (R base m : Nat) (cs : Array Value) (vb va : Value) (xsb xsa : List Value) (s : Sl) (xs : List Value) (w : World) (hm : s.n ≤ 1000000) (hm1 : m ≤ 1000) (hl : xs.length = s.n * 1) (h1 : ∀ u ∈ xs, u.oneCell' = true) (hc : Src w s xs)
    (hR : w.heap[R]? = some (.cells cs 47 (0, 0))) (hb : cs[2]? = some vb) (ha : cs[3]? = some va) (hbase : base ≤ R) (hob : w.ownsRow base 26 1 vb m xsb) (hoa : w.ownsRow base 3 1 va m xsa) :
    Calls Tryz.prog 83 #[.pointer (some ⟨R, 0, none⟩), .slice s.a s.n s.c, .int .i64 40] w fun e w' => ∃ g cp cur vb' va', e = .returned (.slice (some ⟨g, 0, none⟩) s.n (s.n + 40)) ∧
      w.heap.size ≤ g ∧ w'.heap[g]? = some (.cells cur 3 (0, 0)) ∧ cur.size = cp * 1 ∧ s.n + 40 ≤ cp ∧ cur.toList.take ((s.n + 40) * 1) = xs ++ mI 40 ∧
      w'.heap[R]? = some (.cells ((cs.setIfInBounds 2 vb').setIfInBounds 3 va') 47 (0, 0)) ∧ w'.ownsRow base 26 1 vb' (m + 1) (xsb ++ [.slice (some ⟨g, 0, none⟩) (s.n + 40) cp]) ∧ w'.ownsRow base 3 1 va' (m + 1) (xsa ++ [.int .i64 s.n]) ∧
      Below base w w' ∧ Frm w w' R vb va ∧ w.heap.size ≤ w'.heap.size := by
  obtain ⟨sa, len, sc⟩ := s
  simp only at hm hl ⊢
  have HR : Hid (w.heap[R]? = some (.cells cs 47 (0, 0)) ∧ cs[2]? = some vb ∧ cs[3]? = some va ∧ base ≤ R ∧ w.ownsRow base 26 1 vb m xsb ∧ w.ownsRow base 3 1 va m xsa) := ⟨hR, hb, ha, hbase, hob, hoa⟩
  have KB : Hid (∀ k, vb.ownBlock = some k → k < w.heap.size) := fun k hk => (hob.lt k hk).2
  have KA : Hid (∀ k, va.ownBlock = some k → k < w.heap.size) := fun k hk => (hoa.lt k hk).2
  have HL : Hid (xs.length = len * 1 ∧ (∀ u ∈ xs, u.oneCell' = true) ∧ Src w ⟨sa, len, sc⟩ xs) := ⟨hl, h1, hc⟩
  clear hR hb ha hbase hob hoa hl h1 hc
  obtain ⟨j0, hj, hj0, hj1, hj2⟩ := info_parts Tryz.infoIt
  obtain ⟨l0, hl, hl0, hl1, hl2⟩ := info_parts Tryz.infoIn
  obtain ⟨i0, hi, hz0, hz1, hz2⟩ := info_parts Tryz.infoIe
  have OWN0 : Hid ((w.alloc (.cells #[] 3)).ownsRow w.heap.size 3 1 (.slice (some ⟨w.heap.size, 0, none⟩) 0 0) 0 []) := World.ownsRow_made w #[] 0 (Nat.le_refl _) (by decide) (by decide)
  go_enter Tryz.func83, Tryz.ntmps83
  go_wp2_with (at_builtin; refine append_any rfl (.tmp 10) (.tmp 11) 26 rfl w.heap.size 3 i0 (.int .i64 0) 1 8 Tryz.underlying26 hi hz0 hz1 hz2 rfl (by decide) _ _ _ rfl OWN0.out sa len sc xs rfl HL.out.1 ?c1 HL.out.2.1 ?c3 ?c4 ?c5 ?c6 ?_)
  case c1 => exact HL.out.2.2.below (below1 _ _)
  case c3 => unfold maxLen; omega
  case c4 => omega
  case c5 => simp
  case c6 => show (Value.slice (some ⟨w.heap.size, 0, none⟩) 0 0) ≠ _; simp
  intro v1 w1 hown1 hgrow1 hnil1
  have hb1 : Below w.heap.size w w1 := ((Below.refl w.heap.size w).alloc (Nat.le_refl _) _).grown hgrow1 (by simp) (by intro k hk; simp [Value.ownBlock] at hk; omega)
  have HS : Hid (w1.ownsRow w.heap.size 3 1 v1 (len + 0) (xs ++ mI 0) ∧ Below w.heap.size w w1 ∧ v1 ≠ .slice none 0 0) := ⟨by simpa [mI] using hown1, hb1, hnil1⟩
  clear hown1 hgrow1 hnil1 hb1
  go_wp2
  go_loopw [7, 8] (fun v i wr => ∃ k : Nat, k ≤ 40 ∧ i = .int .i64 k ∧ wr.ownsRow w.heap.size 3 1 v (len + k) (xs ++ mI k) ∧ Below w.heap.size w wr ∧ v ≠ .slice none 0 0) (fun _ i _ => 40 - (intOf i).toNat)
  case atStart => exact ⟨0, by omega, rfl, HS.out⟩
  case round =>
    obtain ⟨k, hk, rfl, hown, hbel, hnn⟩ := hrel
    have HO : Hid (wr.ownsRow w.heap.size 3 1 u7 (len + k) (xs ++ mI k)) := hown
    have HB : Hid (Below w.heap.size w wr) := hbel
    have HN : Hid (u7 ≠ .slice none 0 0) := hnn
    clear hown hbel hnn
    by_cases hlt : k < 40
    · have HL0 : Hid (∀ w, Calls Tryz.prog 106 #[.int .i64 k] w fun e w' => e = .returned (.int .i64 (lotI k)) ∧ w' = w) := fun w => lot_any k (by omega) w
      go_wp2_with (first | (go_at_call 106; refine (HL0.out _).mono ?_; rintro e w' ⟨rfl, rfl⟩) | (at_builtin; refine wpList_append_own _ rfl (.tmp 18) (.tmp 21) 26 rfl w.heap.size 3 i0 (.int .i64 0) 1 8 Tryz.underlying26 hi hz0 hz1 hz2 rfl (by decide) _ _ _ rfl (HO.out.alloc _) ⟨_, 0, none⟩ 1 1 [.int .i64 (lotI k)] rfl rfl ?d1 ?d2 ?d3 ?d4 ?d5 ?_))
      case d1 => exact cell_one_new _ _ _
      case d2 => intro u hu; simp at hu; subst hu; rfl
      case d3 => unfold maxLen; omega
      case d4 => omega
      case d5 => have := HB.out.size; simp; omega
      intro v2 w2 hown2 hgrow2 hnil2
      have hb2 := (HB.out.alloc HB.out.size _).grown hgrow2 (by have := HB.out.size; simp; omega) (by intro q hq; exact (HO.out.lt _ hq).1)
      have HS2 : Hid (w2.ownsRow w.heap.size 3 1 v2 (len + (k + 1)) (xs ++ mI (k + 1)) ∧ Below w.heap.size w w2 ∧ v2 ≠ .slice none 0 0) := ⟨by rw [mI_succ]; exact hown2, hb2, hnil2⟩
      clear hown2 hgrow2 hnil2 hb2
      go_wp2
      go_roundw
      case rel => exact ⟨k + 1, by omega, by go_num, HS2.out⟩
      case measure => simp [intOf]; omega
    · obtain rfl : k = 40 := by omega
      obtain ⟨hlen, h | ⟨g, cp, cur, rfl, hg, hh, h1, h2, h3, h4⟩⟩ := HO.out
      · exact absurd h.1 HN.out
      obtain ⟨hR, hb, ha, hbase, hob, hoa⟩ := HR.out
      have hRlt : R < w.heap.size := lt_of_block hR
      have OB : Hid (wr.ownsRow base 26 1 vb m xsb) := own_below hob HB.out
      have OA : Hid (wr.ownsRow base 3 1 va m xsa) := own_below hoa HB.out
      have hR' : wr.heap[R]? = some (.cells cs 47 (0, 0)) := (HB.out.block R hRlt).trans hR
      have cR0 : wr.cell? ⟨R, 2, none⟩ = some vb := by simp [World.cell?, hR', hb]
      have HG : Hid (w.heap.size ≤ g ∧ wr.heap[g]? = some (.cells cur 3 (0, 0)) ∧ len + 40 ≤ cp ∧ cur.size = cp * 1 ∧ cur.toList.take ((len + 40) * 1) = xs ++ mI 40 ∧ R < w.heap.size ∧ wr.heap[R]? = some (.cells cs 47 (0, 0))) := ⟨hg, hh, h1, h3, h4, hRlt, hR'⟩
      clear hR hb ha hbase hob hoa hg hh h2 h3 h4 hlen hR'
      have hbs : base ≤ wr.heap.size := by have := HB.out.size; have := HR.out.2.2.2.1; have := HG.out.2.2.2.2.2.1; omega
      go_wp2_with (at_builtin; refine wpList_append_own _ rfl (.tmp 27) (.tmp 29) 33 rfl base 26 j0 (.slice none 0 0) 1 24 Tryz.underlying33 hj hj0 hj1 hj2 rfl (by decide) _ _ _ rfl (OB.out.alloc _) ⟨_, 0, none⟩ 1 1 [.slice (some ⟨g, 0, none⟩) (len + 40) cp] rfl rfl ?f1 ?f2 ?f3 ?f4 ?f5 ?_)
      case f1 => exact cell_one_new _ _ _
      case f2 => intro u hu; simp at hu; subst hu; rfl
      case f3 => unfold maxLen; omega
      case f4 => omega
      case f5 => simp; omega
      intro v3 w3 hown3 hgrow3 hnil3
      obtain ⟨gv, cv, rfl⟩ := own_shape hown3 hnil3
      clear hnil3
      have L := lay_end (i := 2) (by decide) (by decide) HB.out HG.out.2.2.2.2.2.1 HR.out.2.2.2.1 HG.out.2.2.2.2.2.2 OB.out OA.out KB.out HG.out.1 HG.out.2.1 hown3 hgrow3
      have f3 : w3.frozen? ⟨R, 2, none⟩ = false := by simp [World.frozen?, L.1]
      have g3 : w3.cell? ⟨R, 2, none⟩ = some vb := by simp [World.cell?, L.1, HR.out.2.1]
      have k3 : w3.cell? ⟨R, 3, none⟩ = some va := by simp [World.cell?, L.1, HR.out.2.2.1]
      have HX : Hid (w3.ownsRow base 26 1 (.slice (some ⟨gv, 0, none⟩) (m + 1) cv) (m + 1) (xsb ++ [.slice (some ⟨g, 0, none⟩) (len + 40) cp])) := hown3
      have hws3 : Hid (w.heap.size ≤ w3.heap.size) := Nat.le_trans HB.out.size (Nat.le_trans (by simp) hgrow3.size)
      clear hown3 hgrow3
      obtain ⟨l1, l2, l3, l4, l5, l6, l7⟩ := L
      have HLL : Hid (w3.heap[R]? = some (.cells cs 47 (0, 0)) ∧ w3.ownsRow base 3 1 va m xsa ∧ w3.heap[g]? = some (.cells cur 3 (0, 0)) ∧ Below base w w3 ∧ (w3.setCell ⟨R, 2, none⟩ (.slice (some ⟨gv, 0, none⟩) (m + 1) cv)).ownsRow base 3 1 va m xsa) := ⟨l1, l2, l3, l4, l5⟩
      have HF : Hid (Frm w w3 R vb va) := l7
      clear l1 l2 l3 l4 l5 l7
      go_wp2_with (at_builtin; refine wpList_append_own _ rfl (.tmp 37) (.tmp 40) 26 rfl base 3 l0 (.int .i64 0) 1 8 Tryz.underlying26 hl hl0 hl1 hl2 rfl (by decide) _ _ _ rfl (HLL.out.2.2.2.2.alloc _) ⟨_, 0, none⟩ 1 1 [.int .i64 len] rfl rfl ?q1 ?q2 ?q3 ?q4 ?q5 ?_)
      case q1 => exact one_new_set _ _ _ _ _
      case q2 => intro u hu; simp at hu; subst hu; rfl
      case q3 => unfold maxLen; omega
      case q4 => omega
      case q5 => simp; omega
      intro v5 w5 hown5 hgrow5 hnil5
      obtain ⟨ga, ca, rfl⟩ := own_shape hown5 hnil5
      clear hnil5
      have M := lay_end2 (by decide) (by decide) HLL.out.1 HLL.out.2.1 HLL.out.2.2.1 HLL.out.2.2.2.1 HR.out.2.2.2.1 hws3.out KA.out HG.out.1 HG.out.2.2.2.2.2.1 HF.out HX.out hown5 hgrow5
      have f5 : w5.frozen? ⟨R, 3, none⟩ = false := by simp [World.frozen?, M.1]
      have g5 : w5.cell? ⟨R, 3, none⟩ = some va := by have h := HR.out.2.2.1; simp [World.cell?, M.1, h]
      obtain ⟨_, m2, m3, m4, m5, m6, m7, m8⟩ := M
      have HM : Hid (w.heap.size ≤ g ∧ (w5.setCell ⟨R, 3, none⟩ (.slice (some ⟨ga, 0, none⟩) (m + 1) ca)).heap[g]? = some (.cells cur 3 (0, 0)) ∧ cur.size = cp * 1 ∧ len + 40 ≤ cp ∧ cur.toList.take ((len + 40) * 1) = xs ++ mI 40 ∧
        (w5.setCell ⟨R, 3, none⟩ (.slice (some ⟨ga, 0, none⟩) (m + 1) ca)).heap[R]? = some (.cells ((cs.setIfInBounds 2 (.slice (some ⟨gv, 0, none⟩) (m + 1) cv)).setIfInBounds 3 (.slice (some ⟨ga, 0, none⟩) (m + 1) ca)) 47 (0, 0)) ∧
        (w5.setCell ⟨R, 3, none⟩ (.slice (some ⟨ga, 0, none⟩) (m + 1) ca)).ownsRow base 26 1 (.slice (some ⟨gv, 0, none⟩) (m + 1) cv) (m + 1) (xsb ++ [.slice (some ⟨g, 0, none⟩) (len + 40) cp]) ∧ (w5.setCell ⟨R, 3, none⟩ (.slice (some ⟨ga, 0, none⟩) (m + 1) ca)).ownsRow base 3 1 (.slice (some ⟨ga, 0, none⟩) (m + 1) ca) (m + 1) (xsa ++ [.int .i64 len]) ∧
        Below base w (w5.setCell ⟨R, 3, none⟩ (.slice (some ⟨ga, 0, none⟩) (m + 1) ca)) ∧ Frm w (w5.setCell ⟨R, 3, none⟩ (.slice (some ⟨ga, 0, none⟩) (m + 1) ca)) R vb va ∧ w.heap.size ≤ (w5.setCell ⟨R, 3, none⟩ (.slice (some ⟨ga, 0, none⟩) (m + 1) ca)).heap.size) := ⟨HG.out.1, m5, HG.out.2.2.2.1, h1, HG.out.2.2.2.2.1, m2, m3, m4, m6, m7, m8⟩
      clear hown5 hgrow5 m2 m3 m4 m5 m6 m7 m8
      go_wp2
      go_ret
      exact ⟨g, cp, cur, _, _, rfl, HM.out⟩
end Go.Proofs.YtcoccggimbficaaGreatDoor
namespace Go.Proofs.YtcoccggimbficaaGreatDoor
open Go Go.RowKit Go.Sort
set_option linter.unusedSimpArgs false
set_option linter.unusedVariables false

theorem Tryz.infoSe : (Tryz.prog.info? 9).map (fun i => (i.zero, i.size, i.bytes)) = some (some (.string ⟨#[]⟩), 1, 16) := by kernel_rfl
theorem Tryz.infoSt : (Tryz.prog.info? 27).map (fun i => (i.zero, i.size, i.bytes)) = some (some (.slice none 0 0), 1, 24) := by kernel_rfl
theorem Tryz.infoSn : (Tryz.prog.info? 3).map (fun i => (i.zero, i.size, i.bytes)) = some (some (.int .i64 0), 1, 8) := by kernel_rfl

set_option maxRecDepth 100000 in
set_option maxHeartbeats 4000000 in
theorem layS (R base m : Nat) (cs : Array Value) (vb va : Value) (xsb xsa : List Value) (s : Sl) (xs : List Value) (w : World) (hm : s.n ≤ 1000000) (hm1 : m ≤ 1000) (hl : xs.length = s.n * 1) (h1 : ∀ u ∈ xs, u.oneCell' = true) (hc : Src w s xs)
    (hR : w.heap[R]? = some (.cells cs 47 (0, 0))) (hb : cs[4]? = some vb) (ha : cs[5]? = some va) (hbase : base ≤ R) (hob : w.ownsRow base 27 1 vb m xsb) (hoa : w.ownsRow base 3 1 va m xsa) :
    Calls Tryz.prog 84 #[.pointer (some ⟨R, 0, none⟩), .slice s.a s.n s.c, .int .i64 40] w fun e w' => ∃ g cp cur vb' va', e = .returned (.slice (some ⟨g, 0, none⟩) s.n (s.n + 40)) ∧
      w.heap.size ≤ g ∧ w'.heap[g]? = some (.cells cur 9 (0, 0)) ∧ cur.size = cp * 1 ∧ s.n + 40 ≤ cp ∧ cur.toList.take ((s.n + 40) * 1) = xs ++ mS 40 ∧
      w'.heap[R]? = some (.cells ((cs.setIfInBounds 4 vb').setIfInBounds 5 va') 47 (0, 0)) ∧ w'.ownsRow base 27 1 vb' (m + 1) (xsb ++ [.slice (some ⟨g, 0, none⟩) (s.n + 40) cp]) ∧ w'.ownsRow base 3 1 va' (m + 1) (xsa ++ [.int .i64 s.n]) ∧
      Below base w w' ∧ Frm w w' R vb va ∧ w.heap.size ≤ w'.heap.size := by
  obtain ⟨sa, len, sc⟩ := s
  simp only at hm hl ⊢
  have HR : Hid (w.heap[R]? = some (.cells cs 47 (0, 0)) ∧ cs[4]? = some vb ∧ cs[5]? = some va ∧ base ≤ R ∧ w.ownsRow base 27 1 vb m xsb ∧ w.ownsRow base 3 1 va m xsa) := ⟨hR, hb, ha, hbase, hob, hoa⟩
  have KB : Hid (∀ k, vb.ownBlock = some k → k < w.heap.size) := fun k hk => (hob.lt k hk).2
  have KA : Hid (∀ k, va.ownBlock = some k → k < w.heap.size) := fun k hk => (hoa.lt k hk).2
  have HL : Hid (xs.length = len * 1 ∧ (∀ u ∈ xs, u.oneCell' = true) ∧ Src w ⟨sa, len, sc⟩ xs) := ⟨hl, h1, hc⟩
  clear hR hb ha hbase hob hoa hl h1 hc
  obtain ⟨j0, hj, hj0, hj1, hj2⟩ := info_parts Tryz.infoSt
  obtain ⟨l0, hl, hl0, hl1, hl2⟩ := info_parts Tryz.infoSn
  obtain ⟨i0, hi, hz0, hz1, hz2⟩ := info_parts Tryz.infoSe
  have OWN0 : Hid ((w.alloc (.cells #[] 9)).ownsRow w.heap.size 9 1 (.slice (some ⟨w.heap.size, 0, none⟩) 0 0) 0 []) := World.ownsRow_made w #[] 0 (Nat.le_refl _) (by decide) (by decide)
  go_enter Tryz.func84, Tryz.ntmps84
  go_wp2_with (at_builtin; refine append_any rfl (.tmp 10) (.tmp 11) 27 rfl w.heap.size 9 i0 (.string ⟨#[]⟩) 1 16 Tryz.underlying27 hi hz0 hz1 hz2 rfl (by decide) _ _ _ rfl OWN0.out sa len sc xs rfl HL.out.1 ?c1 HL.out.2.1 ?c3 ?c4 ?c5 ?c6 ?_)
  case c1 => exact HL.out.2.2.below (below1 _ _)
  case c3 => unfold maxLen; omega
  case c4 => omega
  case c5 => simp
  case c6 => show (Value.slice (some ⟨w.heap.size, 0, none⟩) 0 0) ≠ _; simp
  intro v1 w1 hown1 hgrow1 hnil1
  have hb1 : Below w.heap.size w w1 := ((Below.refl w.heap.size w).alloc (Nat.le_refl _) _).grown hgrow1 (by simp) (by intro k hk; simp [Value.ownBlock] at hk; omega)
  have HS : Hid (w1.ownsRow w.heap.size 9 1 v1 (len + 0) (xs ++ mS 0) ∧ Below w.heap.size w w1 ∧ v1 ≠ .slice none 0 0) := ⟨by simpa [mS] using hown1, hb1, hnil1⟩
  clear hown1 hgrow1 hnil1 hb1
  go_wp2
  go_loopw [7, 8] (fun v i wr => ∃ k : Nat, k ≤ 40 ∧ i = .int .i64 k ∧ wr.ownsRow w.heap.size 9 1 v (len + k) (xs ++ mS k) ∧ Below w.heap.size w wr ∧ v ≠ .slice none 0 0) (fun _ i _ => 40 - (intOf i).toNat)
  case atStart => exact ⟨0, by omega, rfl, HS.out⟩
  case round =>
    obtain ⟨k, hk, rfl, hown, hbel, hnn⟩ := hrel
    have HO : Hid (wr.ownsRow w.heap.size 9 1 u7 (len + k) (xs ++ mS k)) := hown
    have HB : Hid (Below w.heap.size w wr) := hbel
    have HN : Hid (u7 ≠ .slice none 0 0) := hnn
    clear hown hbel hnn
    by_cases hlt : k < 40
    · have HL0 : Hid (∀ w, Calls Tryz.prog 107 #[.int .i64 k] w fun e w' => e = .returned (.string (wordB k)) ∧ w' = w) := fun w => word_any k (by omega) w
      go_wp2_with (first | (go_at_call 107; refine (HL0.out _).mono ?_; rintro e w' ⟨rfl, rfl⟩) | (at_builtin; refine wpList_append_own _ rfl (.tmp 18) (.tmp 21) 27 rfl w.heap.size 9 i0 (.string ⟨#[]⟩) 1 16 Tryz.underlying27 hi hz0 hz1 hz2 rfl (by decide) _ _ _ rfl (HO.out.alloc _) ⟨_, 0, none⟩ 1 1 [.string (wordB k)] rfl rfl ?d1 ?d2 ?d3 ?d4 ?d5 ?_))
      case d1 => exact cell_one_new _ _ _
      case d2 => intro u hu; simp at hu; subst hu; rfl
      case d3 => unfold maxLen; omega
      case d4 => omega
      case d5 => have := HB.out.size; simp; omega
      intro v2 w2 hown2 hgrow2 hnil2
      have hb2 := (HB.out.alloc HB.out.size _).grown hgrow2 (by have := HB.out.size; simp; omega) (by intro q hq; exact (HO.out.lt _ hq).1)
      have HS2 : Hid (w2.ownsRow w.heap.size 9 1 v2 (len + (k + 1)) (xs ++ mS (k + 1)) ∧ Below w.heap.size w w2 ∧ v2 ≠ .slice none 0 0) := ⟨by rw [mS_succ]; exact hown2, hb2, hnil2⟩
      clear hown2 hgrow2 hnil2 hb2
      go_wp2
      go_roundw
      case rel => exact ⟨k + 1, by omega, by go_num, HS2.out⟩
      case measure => simp [intOf]; omega
    · obtain rfl : k = 40 := by omega
      obtain ⟨hlen, h | ⟨g, cp, cur, rfl, hg, hh, h1, h2, h3, h4⟩⟩ := HO.out
      · exact absurd h.1 HN.out
      obtain ⟨hR, hb, ha, hbase, hob, hoa⟩ := HR.out
      have hRlt : R < w.heap.size := lt_of_block hR
      have OB : Hid (wr.ownsRow base 27 1 vb m xsb) := own_below hob HB.out
      have OA : Hid (wr.ownsRow base 3 1 va m xsa) := own_below hoa HB.out
      have hR' : wr.heap[R]? = some (.cells cs 47 (0, 0)) := (HB.out.block R hRlt).trans hR
      have cR0 : wr.cell? ⟨R, 4, none⟩ = some vb := by simp [World.cell?, hR', hb]
      have HG : Hid (w.heap.size ≤ g ∧ wr.heap[g]? = some (.cells cur 9 (0, 0)) ∧ len + 40 ≤ cp ∧ cur.size = cp * 1 ∧ cur.toList.take ((len + 40) * 1) = xs ++ mS 40 ∧ R < w.heap.size ∧ wr.heap[R]? = some (.cells cs 47 (0, 0))) := ⟨hg, hh, h1, h3, h4, hRlt, hR'⟩
      clear hR hb ha hbase hob hoa hg hh h2 h3 h4 hlen hR'
      have hbs : base ≤ wr.heap.size := by have := HB.out.size; have := HR.out.2.2.2.1; have := HG.out.2.2.2.2.2.1; omega
      go_wp2_with (at_builtin; refine wpList_append_own _ rfl (.tmp 27) (.tmp 29) 34 rfl base 27 j0 (.slice none 0 0) 1 24 Tryz.underlying34 hj hj0 hj1 hj2 rfl (by decide) _ _ _ rfl (OB.out.alloc _) ⟨_, 0, none⟩ 1 1 [.slice (some ⟨g, 0, none⟩) (len + 40) cp] rfl rfl ?f1 ?f2 ?f3 ?f4 ?f5 ?_)
      case f1 => exact cell_one_new _ _ _
      case f2 => intro u hu; simp at hu; subst hu; rfl
      case f3 => unfold maxLen; omega
      case f4 => omega
      case f5 => simp; omega
      intro v3 w3 hown3 hgrow3 hnil3
      obtain ⟨gv, cv, rfl⟩ := own_shape hown3 hnil3
      clear hnil3
      have L := lay_end (i := 4) (by decide) (by decide) HB.out HG.out.2.2.2.2.2.1 HR.out.2.2.2.1 HG.out.2.2.2.2.2.2 OB.out OA.out KB.out HG.out.1 HG.out.2.1 hown3 hgrow3
      have f3 : w3.frozen? ⟨R, 4, none⟩ = false := by simp [World.frozen?, L.1]
      have g3 : w3.cell? ⟨R, 4, none⟩ = some vb := by simp [World.cell?, L.1, HR.out.2.1]
      have k3 : w3.cell? ⟨R, 5, none⟩ = some va := by simp [World.cell?, L.1, HR.out.2.2.1]
      have HX : Hid (w3.ownsRow base 27 1 (.slice (some ⟨gv, 0, none⟩) (m + 1) cv) (m + 1) (xsb ++ [.slice (some ⟨g, 0, none⟩) (len + 40) cp])) := hown3
      have hws3 : Hid (w.heap.size ≤ w3.heap.size) := Nat.le_trans HB.out.size (Nat.le_trans (by simp) hgrow3.size)
      clear hown3 hgrow3
      obtain ⟨l1, l2, l3, l4, l5, l6, l7⟩ := L
      have HLL : Hid (w3.heap[R]? = some (.cells cs 47 (0, 0)) ∧ w3.ownsRow base 3 1 va m xsa ∧ w3.heap[g]? = some (.cells cur 9 (0, 0)) ∧ Below base w w3 ∧ (w3.setCell ⟨R, 4, none⟩ (.slice (some ⟨gv, 0, none⟩) (m + 1) cv)).ownsRow base 3 1 va m xsa) := ⟨l1, l2, l3, l4, l5⟩
      have HF : Hid (Frm w w3 R vb va) := l7
      clear l1 l2 l3 l4 l5 l7
      go_wp2_with (at_builtin; refine wpList_append_own _ rfl (.tmp 37) (.tmp 40) 26 rfl base 3 l0 (.int .i64 0) 1 8 Tryz.underlying26 hl hl0 hl1 hl2 rfl (by decide) _ _ _ rfl (HLL.out.2.2.2.2.alloc _) ⟨_, 0, none⟩ 1 1 [.int .i64 len] rfl rfl ?q1 ?q2 ?q3 ?q4 ?q5 ?_)
      case q1 => exact one_new_set _ _ _ _ _
      case q2 => intro u hu; simp at hu; subst hu; rfl
      case q3 => unfold maxLen; omega
      case q4 => omega
      case q5 => simp; omega
      intro v5 w5 hown5 hgrow5 hnil5
      obtain ⟨ga, ca, rfl⟩ := own_shape hown5 hnil5
      clear hnil5
      have M := lay_end2 (by decide) (by decide) HLL.out.1 HLL.out.2.1 HLL.out.2.2.1 HLL.out.2.2.2.1 HR.out.2.2.2.1 hws3.out KA.out HG.out.1 HG.out.2.2.2.2.2.1 HF.out HX.out hown5 hgrow5
      have f5 : w5.frozen? ⟨R, 5, none⟩ = false := by simp [World.frozen?, M.1]
      have g5 : w5.cell? ⟨R, 5, none⟩ = some va := by have h := HR.out.2.2.1; simp [World.cell?, M.1, h]
      obtain ⟨_, m2, m3, m4, m5, m6, m7, m8⟩ := M
      have HM : Hid (w.heap.size ≤ g ∧ (w5.setCell ⟨R, 5, none⟩ (.slice (some ⟨ga, 0, none⟩) (m + 1) ca)).heap[g]? = some (.cells cur 9 (0, 0)) ∧ cur.size = cp * 1 ∧ len + 40 ≤ cp ∧ cur.toList.take ((len + 40) * 1) = xs ++ mS 40 ∧
        (w5.setCell ⟨R, 5, none⟩ (.slice (some ⟨ga, 0, none⟩) (m + 1) ca)).heap[R]? = some (.cells ((cs.setIfInBounds 4 (.slice (some ⟨gv, 0, none⟩) (m + 1) cv)).setIfInBounds 5 (.slice (some ⟨ga, 0, none⟩) (m + 1) ca)) 47 (0, 0)) ∧
        (w5.setCell ⟨R, 5, none⟩ (.slice (some ⟨ga, 0, none⟩) (m + 1) ca)).ownsRow base 27 1 (.slice (some ⟨gv, 0, none⟩) (m + 1) cv) (m + 1) (xsb ++ [.slice (some ⟨g, 0, none⟩) (len + 40) cp]) ∧ (w5.setCell ⟨R, 5, none⟩ (.slice (some ⟨ga, 0, none⟩) (m + 1) ca)).ownsRow base 3 1 (.slice (some ⟨ga, 0, none⟩) (m + 1) ca) (m + 1) (xsa ++ [.int .i64 len]) ∧
        Below base w (w5.setCell ⟨R, 5, none⟩ (.slice (some ⟨ga, 0, none⟩) (m + 1) ca)) ∧ Frm w (w5.setCell ⟨R, 5, none⟩ (.slice (some ⟨ga, 0, none⟩) (m + 1) ca)) R vb va ∧ w.heap.size ≤ (w5.setCell ⟨R, 5, none⟩ (.slice (some ⟨ga, 0, none⟩) (m + 1) ca)).heap.size) := ⟨HG.out.1, m5, HG.out.2.2.2.1, h1, HG.out.2.2.2.2.1, m2, m3, m4, m6, m7, m8⟩
      clear hown5 hgrow5 m2 m3 m4 m5 m6 m7 m8
      go_wp2
      go_ret
      exact ⟨g, cp, cur, _, _, rfl, HM.out⟩
end Go.Proofs.YtcoccggimbficaaGreatDoor
