import Derived.Test.YtdibmmagnkjapaaGreatDoorRTa
namespace Go.Proofs.YtdibmmagnkjapaaGreatDoor.Rm
open Go Go.RowKit
set_option linter.unusedSimpArgs false
set_option linter.unusedVariables false

set_option maxRecDepth 100000 in
set_option maxHeartbeats 2000000 in
theorem lay_any (R base m : Nat) (cs : Array Value) (vb va : Value) (xsb xsa : List Value) (ao : Option Addr) (len cap : Nat) (z : Nat → ByteArray) (w : World) (hm : len ≤ 140000) (hm1 : m ≤ 1000) (hc : Came w ao len cap z)
    (hR : w.heap[R]? = some (.cells cs 59 (0, 0))) (hb : cs[4]? = some vb) (ha : cs[5]? = some va) (hbase : base ≤ R) (hob : w.ownsRow base 22 1 vb m xsb) (hoa : w.ownsRow base 3 1 va m xsa) :
    Calls Tryz.prog 50 #[.pointer (some ⟨R, 0, none⟩), .slice ao len cap, .int .i64 40] w fun e w' => ∃ g cp cur vb' va', e = .returned (.slice (some ⟨g, 0, none⟩) len (len + 40)) ∧
      w.heap.size ≤ g ∧ w'.heap[g]? = some (.cells cur 9 (0, 0)) ∧ cur.size = cp ∧ len + 40 ≤ cp ∧ cur.toList.take (len + 40) = cellsOf z len ++ cellsOf mark 40 ∧
      w'.heap[R]? = some (.cells ((cs.setIfInBounds 4 vb').setIfInBounds 5 va') 59 (0, 0)) ∧ w'.ownsRow base 22 1 vb' (m + 1) (xsb ++ [.slice (some ⟨g, 0, none⟩) (len + 40) cp]) ∧ w'.ownsRow base 3 1 va' (m + 1) (xsa ++ [.int .i64 len]) ∧
      BelF base w w' := by
  have HR : Hid (w.heap[R]? = some (.cells cs 59 (0, 0)) ∧ cs[4]? = some vb ∧ cs[5]? = some va ∧ base ≤ R ∧ w.ownsRow base 22 1 vb m xsb ∧ w.ownsRow base 3 1 va m xsa) := ⟨hR, hb, ha, hbase, hob, hoa⟩
  clear hR hb ha hbase hob hoa
  obtain ⟨j0, hj, hj0, hj1, hj2⟩ := info_parts Tryz.info22
  obtain ⟨l0, hl, hl0, hl1, hl2⟩ := info_parts Tryz.info3
  obtain ⟨hcap, hz, hc⟩ := hc
  obtain ⟨i0, hi, hz0, hz1, hz2⟩ := info_parts Tryz.info9
  have own0 : (w.alloc (.cells #[] 9)).ownsRow w.heap.size 9 1 (.slice (some ⟨w.heap.size, 0, none⟩) 0 0) 0 [] := World.ownsRow_made w #[] 0 (Nat.le_refl _) (by decide) (by decide)
  have OWN0 : Hid ((w.alloc (.cells #[] 9)).ownsRow w.heap.size 9 1 (.slice (some ⟨w.heap.size, 0, none⟩) 0 0) 0 []) := own0
  clear own0
  rcases hc with ⟨rfl, rfl, rfl⟩ | ⟨ad, rfl, hcell⟩
  · have HS : Hid ((w.alloc (.cells #[] 9)).ownsRow w.heap.size 9 1 (.slice (some ⟨w.heap.size, 0, none⟩) 0 0) (0 + 0) (cellsOf z 0 ++ cellsOf mark 0) ∧ Below w.heap.size w (w.alloc (.cells #[] 9)) ∧ (Value.slice (some ⟨w.heap.size, 0, none⟩) 0 0) ≠ .slice none 0 0) := ⟨OWN0.out, (Below.refl _ _).alloc (Nat.le_refl _) _, by simp⟩
    go_enter Tryz.func50, Tryz.ntmps50
    go_wp2_with (at_builtin; refine wpList_append_own_none rfl (.tmp 10) (.tmp 11) 22 rfl w.heap.size 9 i0 1 Tryz.underlying22 hi _ 0 [] rfl OWN0.out rfl ?_)
    go_loopw [7, 8] (fun v i wr => ∃ k : Nat, k ≤ 40 ∧ i = .int .i64 k ∧ wr.ownsRow w.heap.size 9 1 v (0 + k) (cellsOf z 0 ++ cellsOf mark k) ∧ Below w.heap.size w wr ∧ v ≠ .slice none 0 0) (fun _ i _ => 40 - (intOf i).toNat)
    case atStart => exact ⟨0, by omega, rfl, HS.out⟩
    case round =>
      obtain ⟨k, hk, rfl, hown, hbel, hnn⟩ := hrel
      have HO : Hid (wr.ownsRow w.heap.size 9 1 u7 (0 + k) (cellsOf z 0 ++ cellsOf mark k)) := hown
      have HB : Hid (Below w.heap.size w wr) := hbel
      have HN : Hid (u7 ≠ .slice none 0 0) := hnn
      clear hown hbel hnn
      by_cases hlt : k < 40
      · by_cases hp : k % 2 = 0
        · have HM : Hid (mark k = ⟨#[60, 111, 110, 101, 62]⟩) := by show mark k = ⟨#[60, 111, 110, 101, 62]⟩; simp [mark, hp]
          have HL : Hid (∀ w, Calls Tryz.prog 98 #[.int .i64 k] w fun e w' => e = .returned (.string ⟨#[60, 111, 110, 101, 62]⟩) ∧ w' = w) := fun w => by have h := lot_any k (by omega) w; rw [if_pos hp] at h; exact h
          clear hp
          go_wp2_with (first | (go_at_call 98; refine (HL.out _).mono ?_; rintro e w' ⟨rfl, rfl⟩) | (at_builtin; refine wpList_append_own _ rfl (.tmp 18) (.tmp 21) 22 rfl w.heap.size 9 i0 (.string ⟨#[]⟩) 1 16 Tryz.underlying22 hi hz0 hz1 hz2 rfl (by decide) _ _ _ rfl (HO.out.alloc _) ⟨_, 0, none⟩ 1 1 [.string ⟨#[60, 111, 110, 101, 62]⟩] rfl rfl ?d1 ?d2 ?d3 ?d4 ?d5 ?_))
          case d1 => exact cell_one_new _ _ _
          case d2 => intro u hu; simp at hu; subst hu; rfl
          case d3 => unfold maxLen; omega
          case d4 => omega
          case d5 => have := HB.out.size; simp; omega
          intro v2 w2 hown2 hgrow2 hnil2
          have hb2 := (HB.out.alloc HB.out.size _).grown hgrow2 (by have := HB.out.size; simp; omega) (by intro q hq; exact (HO.out.lt _ hq).1)
          have HS2 : Hid (w2.ownsRow w.heap.size 9 1 v2 (0 + (k + 1)) (cellsOf z 0 ++ cellsOf mark (k + 1)) ∧ Below w.heap.size w w2 ∧ v2 ≠ .slice none 0 0) := ⟨by rw [cellsOf_succ, HM.out]; first | exact hown2 | (rw [Nat.zero_add]; exact hown2), hb2, hnil2⟩
          clear hown2 hgrow2 hnil2 hb2
          go_wp2
          go_roundw
          case rel => exact ⟨k + 1, by omega, by go_num, HS2.out⟩
          case measure => simp [intOf]; omega
        · have HM : Hid (mark k = ⟨#[60, 116, 119, 111, 62]⟩) := by show mark k = ⟨#[60, 116, 119, 111, 62]⟩; simp [mark, hp]
          have HL : Hid (∀ w, Calls Tryz.prog 98 #[.int .i64 k] w fun e w' => e = .returned (.string ⟨#[60, 116, 119, 111, 62]⟩) ∧ w' = w) := fun w => by have h := lot_any k (by omega) w; rw [if_neg hp] at h; exact h
          clear hp
          go_wp2_with (first | (go_at_call 98; refine (HL.out _).mono ?_; rintro e w' ⟨rfl, rfl⟩) | (at_builtin; refine wpList_append_own _ rfl (.tmp 18) (.tmp 21) 22 rfl w.heap.size 9 i0 (.string ⟨#[]⟩) 1 16 Tryz.underlying22 hi hz0 hz1 hz2 rfl (by decide) _ _ _ rfl (HO.out.alloc _) ⟨_, 0, none⟩ 1 1 [.string ⟨#[60, 116, 119, 111, 62]⟩] rfl rfl ?d1 ?d2 ?d3 ?d4 ?d5 ?_))
          case d1 => exact cell_one_new _ _ _
          case d2 => intro u hu; simp at hu; subst hu; rfl
          case d3 => unfold maxLen; omega
          case d4 => omega
          case d5 => have := HB.out.size; simp; omega
          intro v2 w2 hown2 hgrow2 hnil2
          have hb2 := (HB.out.alloc HB.out.size _).grown hgrow2 (by have := HB.out.size; simp; omega) (by intro q hq; exact (HO.out.lt _ hq).1)
          have HS2 : Hid (w2.ownsRow w.heap.size 9 1 v2 (0 + (k + 1)) (cellsOf z 0 ++ cellsOf mark (k + 1)) ∧ Below w.heap.size w w2 ∧ v2 ≠ .slice none 0 0) := ⟨by rw [cellsOf_succ, HM.out]; first | exact hown2 | (rw [Nat.zero_add]; exact hown2), hb2, hnil2⟩
          clear hown2 hgrow2 hnil2 hb2
          go_wp2
          go_roundw
          case rel => exact ⟨k + 1, by omega, by go_num, HS2.out⟩
          case measure => simp [intOf]; omega
      · obtain rfl : k = 40 := by omega
        obtain ⟨h0, h | ⟨g, cp, cur, rfl, hg, hh, h1, h2, h3, h4⟩⟩ := HO.out
        · exact absurd h.1 HN.out
        obtain ⟨hR, hb, ha, hbase, hob, hoa⟩ := HR.out
        have hRlt : R < w.heap.size := lt_of_block hR
        have gr : w.grownBy wr none := ⟨HB.out.os, HB.out.tape, HB.out.output, HB.out.size, fun k hk _ => HB.out.block k hk⟩
        have OB : Hid (wr.ownsRow base 22 1 vb m xsb) := hob.kept gr (by cases vb.ownBlock <;> simp)
        have OA : Hid (wr.ownsRow base 3 1 va m xsa) := hoa.kept gr (by cases va.ownBlock <;> simp)
        have hR' : wr.heap[R]? = some (.cells cs 59 (0, 0)) := (HB.out.block R hRlt).trans hR
        have cR0 : wr.cell? ⟨R, 4, none⟩ = some vb := by simp [World.cell?, hR', hb]
        have HG : Hid (w.heap.size ≤ g ∧ wr.heap[g]? = some (.cells cur 9 (0, 0)) ∧ 0 + 40 ≤ cp ∧ cur.size = cp * 1 ∧ cur.toList.take ((0 + 40) * 1) = cellsOf z 0 ++ cellsOf mark 40 ∧ R < w.heap.size ∧ wr.heap[R]? = some (.cells cs 59 (0, 0))) := ⟨hg, hh, h1, h3, h4, hRlt, hR'⟩
        clear hR hb ha hbase hob hoa hg hh h2 h3 h4 gr h0 hR'
        have hbs : base ≤ wr.heap.size := by have := HB.out.size; have := HR.out.2.2.2.1; have := HG.out.2.2.2.2.2.1; omega
        go_wp2_with (at_builtin; refine wpList_append_own _ rfl (.tmp 27) (.tmp 29) 28 rfl base 22 j0 (.slice none 0 0) 1 24 Tryz.underlying28 hj hj0 hj1 hj2 rfl (by decide) _ _ _ rfl (OB.out.alloc _) ⟨_, 0, none⟩ 1 1 [.slice (some ⟨g, 0, none⟩) (0 + 40) cp] rfl rfl ?e1 ?e2 ?e3 ?e4 ?e5 ?_)
        case e1 => exact cell_one_new _ _ _
        case e2 => intro u hu; simp at hu; subst hu; rfl
        case e3 => unfold maxLen; omega
        case e4 => omega
        case e5 => simp; omega
        intro v3 w3 hown3 hgrow3 hnil3
        obtain ⟨gv, cv, rfl⟩ := own_shape hown3 hnil3
        clear hnil3
        have L := lay_end HB.out HG.out.2.2.2.2.2.1 HR.out.2.2.2.1 HG.out.2.2.2.2.2.2 OB.out OA.out HG.out.1 HG.out.2.1 hown3 hgrow3
        have f3 : w3.frozen? ⟨R, 4, none⟩ = false := by simp [World.frozen?, L.1]
        have g3 : w3.cell? ⟨R, 4, none⟩ = some vb := by simp [World.cell?, L.1, HR.out.2.1]
        have k3 : w3.cell? ⟨R, 5, none⟩ = some va := by simp [World.cell?, L.1, HR.out.2.2.1]
        have HL3 := L
        have HX : Hid (w3.ownsRow base 22 1 (.slice (some ⟨gv, 0, none⟩) (m + 1) cv) (m + 1) (xsb ++ [.slice (some ⟨g, 0, none⟩) (0 + 40) cp])) := hown3
        clear hown3 hgrow3 L
        obtain ⟨l1, l2, l3, l4, l5, l6⟩ := HL3
        have HLL : Hid (w3.heap[R]? = some (.cells cs 59 (0, 0)) ∧ w3.ownsRow base 3 1 va m xsa ∧ w3.heap[g]? = some (.cells cur 9 (0, 0)) ∧ BelF base w w3 ∧ (w3.setCell ⟨R, 4, none⟩ (.slice (some ⟨gv, 0, none⟩) (m + 1) cv)).ownsRow base 3 1 va m xsa) := ⟨l1, l2, l3, l4, l5⟩
        clear l1 l2 l3 l4 l5
        go_wp2_with (at_builtin; refine wpList_append_own _ rfl (.tmp 37) (.tmp 40) 26 rfl base 3 l0 (.int .i64 0) 1 8 Tryz.underlying26 hl hl0 hl1 hl2 rfl (by decide) _ _ _ rfl (HLL.out.2.2.2.2.alloc _) ⟨_, 0, none⟩ 1 1 [.int .i64 0] rfl rfl ?p1 ?p2 ?p3 ?p4 ?p5 ?_)
        case p1 => exact one_new_set _ _ _ _ _
        case p2 => intro u hu; simp at hu; subst hu; rfl
        case p3 => unfold maxLen; omega
        case p4 => omega
        case p5 => simp; omega
        intro v5 w5 hown5 hgrow5 hnil5
        obtain ⟨ga, ca, rfl⟩ := own_shape hown5 hnil5
        clear hnil5
        have M := lay_end2 HLL.out.1 HLL.out.2.1 HLL.out.2.2.1 HLL.out.2.2.2.1 HR.out.2.2.2.1 HX.out hown5 hgrow5
        have f5 : w5.frozen? ⟨R, 5, none⟩ = false := by simp [World.frozen?, M.1]
        have g5 : w5.cell? ⟨R, 5, none⟩ = some va := by have h := HR.out.2.2.1; simp [World.cell?, M.1, h]
        obtain ⟨_, m2, m3, m4, m5, m6⟩ := M
        have HM : Hid (w.heap.size ≤ g ∧ (w5.setCell ⟨R, 5, none⟩ (.slice (some ⟨ga, 0, none⟩) (m + 1) ca)).heap[g]? = some (.cells cur 9 (0, 0)) ∧ cur.size = cp ∧ 0 + 40 ≤ cp ∧ cur.toList.take (0 + 40) = cellsOf z 0 ++ cellsOf mark 40 ∧
          (w5.setCell ⟨R, 5, none⟩ (.slice (some ⟨ga, 0, none⟩) (m + 1) ca)).heap[R]? = some (.cells ((cs.setIfInBounds 4 (.slice (some ⟨gv, 0, none⟩) (m + 1) cv)).setIfInBounds 5 (.slice (some ⟨ga, 0, none⟩) (m + 1) ca)) 59 (0, 0)) ∧
          (w5.setCell ⟨R, 5, none⟩ (.slice (some ⟨ga, 0, none⟩) (m + 1) ca)).ownsRow base 22 1 (.slice (some ⟨gv, 0, none⟩) (m + 1) cv) (m + 1) (xsb ++ [.slice (some ⟨g, 0, none⟩) (0 + 40) cp]) ∧ (w5.setCell ⟨R, 5, none⟩ (.slice (some ⟨ga, 0, none⟩) (m + 1) ca)).ownsRow base 3 1 (.slice (some ⟨ga, 0, none⟩) (m + 1) ca) (m + 1) (xsa ++ [.int .i64 0]) ∧
          BelF base w (w5.setCell ⟨R, 5, none⟩ (.slice (some ⟨ga, 0, none⟩) (m + 1) ca))) := ⟨HG.out.1, m5, (Nat.mul_one cp) ▸ HG.out.2.2.2.1, h1, (Nat.mul_one (0 + 40)) ▸ HG.out.2.2.2.2.1, m2, m3, m4, m6⟩
        clear hown5 hgrow5 m2 m3 m4 m5 m6
        go_wp2
        go_ret
        exact ⟨g, cp, cur, _, _, rfl, HM.out⟩
  · have HC : Hid (∀ i, i < len → w.cell? (ad.add i) = some (.string (z i))) := hcell
    clear hcell
    go_enter Tryz.func50, Tryz.ntmps50
    go_wp2_with (at_builtin; refine wpList_append_own _ rfl (.tmp 10) (.tmp 11) 22 rfl w.heap.size 9 i0 (.string ⟨#[]⟩) 1 16 Tryz.underlying22 hi hz0 hz1 hz2 rfl (by decide) _ _ _ rfl OWN0.out ad len cap (cellsOf z len) rfl ?c0 ?c1 ?c2 ?c3 ?c4 ?c5 ?_)
    case c0 => simp [cellsOf]
    case c1 =>
      intro j u hj
      obtain ⟨h1, rfl⟩ := cellsOf_get z len j u hj
      exact cell_later ((Below.refl _ _).alloc (Nat.le_refl _) _) (HC.out j h1)
    case c2 => exact fun u hu => cellsOf_one z len u hu
    case c3 => unfold maxLen; omega
    case c4 => omega
    case c5 => simp
    intro v1 w1 hown1 hgrow1 hnil1
    have hb1 : Below w.heap.size w w1 := ((Below.refl w.heap.size w).alloc (Nat.le_refl _) _).grown hgrow1 (by simp) (by intro k hk; simp [Value.ownBlock] at hk; omega)
    have HS : Hid (w1.ownsRow w.heap.size 9 1 v1 (len + 0) (cellsOf z len ++ cellsOf mark 0) ∧ Below w.heap.size w w1 ∧ v1 ≠ .slice none 0 0) := ⟨by simpa [cellsOf] using hown1, hb1, hnil1⟩
    clear hown1 hgrow1 hnil1 hb1
    go_wp2
    go_loopw [7, 8] (fun v i wr => ∃ k : Nat, k ≤ 40 ∧ i = .int .i64 k ∧ wr.ownsRow w.heap.size 9 1 v (len + k) (cellsOf z len ++ cellsOf mark k) ∧ Below w.heap.size w wr ∧ v ≠ .slice none 0 0) (fun _ i _ => 40 - (intOf i).toNat)
    case atStart => exact ⟨0, by omega, rfl, HS.out⟩
    case round =>
      obtain ⟨k, hk, rfl, hown, hbel, hnn⟩ := hrel
      have HO : Hid (wr.ownsRow w.heap.size 9 1 u7 (len + k) (cellsOf z len ++ cellsOf mark k)) := hown
      have HB : Hid (Below w.heap.size w wr) := hbel
      have HN : Hid (u7 ≠ .slice none 0 0) := hnn
      clear hown hbel hnn
      by_cases hlt : k < 40
      · by_cases hp : k % 2 = 0
        · have HM : Hid (mark k = ⟨#[60, 111, 110, 101, 62]⟩) := by show mark k = ⟨#[60, 111, 110, 101, 62]⟩; simp [mark, hp]
          have HL : Hid (∀ w, Calls Tryz.prog 98 #[.int .i64 k] w fun e w' => e = .returned (.string ⟨#[60, 111, 110, 101, 62]⟩) ∧ w' = w) := fun w => by have h := lot_any k (by omega) w; rw [if_pos hp] at h; exact h
          clear hp
          go_wp2_with (first | (go_at_call 98; refine (HL.out _).mono ?_; rintro e w' ⟨rfl, rfl⟩) | (at_builtin; refine wpList_append_own _ rfl (.tmp 18) (.tmp 21) 22 rfl w.heap.size 9 i0 (.string ⟨#[]⟩) 1 16 Tryz.underlying22 hi hz0 hz1 hz2 rfl (by decide) _ _ _ rfl (HO.out.alloc _) ⟨_, 0, none⟩ 1 1 [.string ⟨#[60, 111, 110, 101, 62]⟩] rfl rfl ?d1 ?d2 ?d3 ?d4 ?d5 ?_))
          case d1 => exact cell_one_new _ _ _
          case d2 => intro u hu; simp at hu; subst hu; rfl
          case d3 => unfold maxLen; omega
          case d4 => omega
          case d5 => have := HB.out.size; simp; omega
          intro v2 w2 hown2 hgrow2 hnil2
          have hb2 := (HB.out.alloc HB.out.size _).grown hgrow2 (by have := HB.out.size; simp; omega) (by intro q hq; exact (HO.out.lt _ hq).1)
          have HS2 : Hid (w2.ownsRow w.heap.size 9 1 v2 (len + (k + 1)) (cellsOf z len ++ cellsOf mark (k + 1)) ∧ Below w.heap.size w w2 ∧ v2 ≠ .slice none 0 0) := ⟨by rw [cellsOf_succ, HM.out]; first | exact hown2 | (rw [Nat.zero_add]; exact hown2), hb2, hnil2⟩
          clear hown2 hgrow2 hnil2 hb2
          go_wp2
          go_roundw
          case rel => exact ⟨k + 1, by omega, by go_num, HS2.out⟩
          case measure => simp [intOf]; omega
        · have HM : Hid (mark k = ⟨#[60, 116, 119, 111, 62]⟩) := by show mark k = ⟨#[60, 116, 119, 111, 62]⟩; simp [mark, hp]
          have HL : Hid (∀ w, Calls Tryz.prog 98 #[.int .i64 k] w fun e w' => e = .returned (.string ⟨#[60, 116, 119, 111, 62]⟩) ∧ w' = w) := fun w => by have h := lot_any k (by omega) w; rw [if_neg hp] at h; exact h
          clear hp
          go_wp2_with (first | (go_at_call 98; refine (HL.out _).mono ?_; rintro e w' ⟨rfl, rfl⟩) | (at_builtin; refine wpList_append_own _ rfl (.tmp 18) (.tmp 21) 22 rfl w.heap.size 9 i0 (.string ⟨#[]⟩) 1 16 Tryz.underlying22 hi hz0 hz1 hz2 rfl (by decide) _ _ _ rfl (HO.out.alloc _) ⟨_, 0, none⟩ 1 1 [.string ⟨#[60, 116, 119, 111, 62]⟩] rfl rfl ?d1 ?d2 ?d3 ?d4 ?d5 ?_))
          case d1 => exact cell_one_new _ _ _
          case d2 => intro u hu; simp at hu; subst hu; rfl
          case d3 => unfold maxLen; omega
          case d4 => omega
          case d5 => have := HB.out.size; simp; omega
          intro v2 w2 hown2 hgrow2 hnil2
          have hb2 := (HB.out.alloc HB.out.size _).grown hgrow2 (by have := HB.out.size; simp; omega) (by intro q hq; exact (HO.out.lt _ hq).1)
          have HS2 : Hid (w2.ownsRow w.heap.size 9 1 v2 (len + (k + 1)) (cellsOf z len ++ cellsOf mark (k + 1)) ∧ Below w.heap.size w w2 ∧ v2 ≠ .slice none 0 0) := ⟨by rw [cellsOf_succ, HM.out]; first | exact hown2 | (rw [Nat.zero_add]; exact hown2), hb2, hnil2⟩
          clear hown2 hgrow2 hnil2 hb2
          go_wp2
          go_roundw
          case rel => exact ⟨k + 1, by omega, by go_num, HS2.out⟩
          case measure => simp [intOf]; omega
      · obtain rfl : k = 40 := by omega
        obtain ⟨hlen, h | ⟨g, cp, cur, rfl, hg, hh, h1, h2, h3, h4⟩⟩ := HO.out
        · exact absurd h.1 HN.out
        obtain ⟨hR, hb, ha, hbase, hob, hoa⟩ := HR.out
        have hRlt : R < w.heap.size := lt_of_block hR
        have gr : w.grownBy wr none := ⟨HB.out.os, HB.out.tape, HB.out.output, HB.out.size, fun k hk _ => HB.out.block k hk⟩
        have OB : Hid (wr.ownsRow base 22 1 vb m xsb) := hob.kept gr (by cases vb.ownBlock <;> simp)
        have OA : Hid (wr.ownsRow base 3 1 va m xsa) := hoa.kept gr (by cases va.ownBlock <;> simp)
        have hR' : wr.heap[R]? = some (.cells cs 59 (0, 0)) := (HB.out.block R hRlt).trans hR
        have cR0 : wr.cell? ⟨R, 4, none⟩ = some vb := by simp [World.cell?, hR', hb]
        have HG : Hid (w.heap.size ≤ g ∧ wr.heap[g]? = some (.cells cur 9 (0, 0)) ∧ len + 40 ≤ cp ∧ cur.size = cp * 1 ∧ cur.toList.take ((len + 40) * 1) = cellsOf z len ++ cellsOf mark 40 ∧ R < w.heap.size ∧ wr.heap[R]? = some (.cells cs 59 (0, 0))) := ⟨hg, hh, h1, h3, h4, hRlt, hR'⟩
        clear hR hb ha hbase hob hoa hg hh h2 h3 h4 gr hlen hR'
        have hbs : base ≤ wr.heap.size := by have := HB.out.size; have := HR.out.2.2.2.1; have := HG.out.2.2.2.2.2.1; omega
        go_wp2_with (at_builtin; refine wpList_append_own _ rfl (.tmp 27) (.tmp 29) 28 rfl base 22 j0 (.slice none 0 0) 1 24 Tryz.underlying28 hj hj0 hj1 hj2 rfl (by decide) _ _ _ rfl (OB.out.alloc _) ⟨_, 0, none⟩ 1 1 [.slice (some ⟨g, 0, none⟩) (len + 40) cp] rfl rfl ?f1 ?f2 ?f3 ?f4 ?f5 ?_)
        case f1 => exact cell_one_new _ _ _
        case f2 => intro u hu; simp at hu; subst hu; rfl
        case f3 => unfold maxLen; omega
        case f4 => omega
        case f5 => simp; omega
        intro v3 w3 hown3 hgrow3 hnil3
        obtain ⟨gv, cv, rfl⟩ := own_shape hown3 hnil3
        clear hnil3
        have L := lay_end HB.out HG.out.2.2.2.2.2.1 HR.out.2.2.2.1 HG.out.2.2.2.2.2.2 OB.out OA.out HG.out.1 HG.out.2.1 hown3 hgrow3
        have f3 : w3.frozen? ⟨R, 4, none⟩ = false := by simp [World.frozen?, L.1]
        have g3 : w3.cell? ⟨R, 4, none⟩ = some vb := by simp [World.cell?, L.1, HR.out.2.1]
        have k3 : w3.cell? ⟨R, 5, none⟩ = some va := by simp [World.cell?, L.1, HR.out.2.2.1]
        have HL3 := L
        have HX : Hid (w3.ownsRow base 22 1 (.slice (some ⟨gv, 0, none⟩) (m + 1) cv) (m + 1) (xsb ++ [.slice (some ⟨g, 0, none⟩) (len + 40) cp])) := hown3
        clear hown3 hgrow3 L
        obtain ⟨l1, l2, l3, l4, l5, l6⟩ := HL3
        have HLL : Hid (w3.heap[R]? = some (.cells cs 59 (0, 0)) ∧ w3.ownsRow base 3 1 va m xsa ∧ w3.heap[g]? = some (.cells cur 9 (0, 0)) ∧ BelF base w w3 ∧ (w3.setCell ⟨R, 4, none⟩ (.slice (some ⟨gv, 0, none⟩) (m + 1) cv)).ownsRow base 3 1 va m xsa) := ⟨l1, l2, l3, l4, l5⟩
        clear l1 l2 l3 l4 l5
        go_wp2_with (at_builtin; refine wpList_append_own _ rfl (.tmp 37) (.tmp 40) 26 rfl base 3 l0 (.int .i64 0) 1 8 Tryz.underlying26 hl hl0 hl1 hl2 rfl (by decide) _ _ _ rfl (HLL.out.2.2.2.2.alloc _) ⟨_, 0, none⟩ 1 1 [.int .i64 len] rfl rfl ?q1 ?q2 ?q3 ?q4 ?q5 ?_)
        case q1 => exact one_new_set _ _ _ _ _
        case q2 => intro u hu; simp at hu; subst hu; rfl
        case q3 => unfold maxLen; omega
        case q4 => omega
        case q5 => simp; omega
        intro v5 w5 hown5 hgrow5 hnil5
        obtain ⟨ga, ca, rfl⟩ := own_shape hown5 hnil5
        clear hnil5
        have M := lay_end2 HLL.out.1 HLL.out.2.1 HLL.out.2.2.1 HLL.out.2.2.2.1 HR.out.2.2.2.1 HX.out hown5 hgrow5
        have f5 : w5.frozen? ⟨R, 5, none⟩ = false := by simp [World.frozen?, M.1]
        have g5 : w5.cell? ⟨R, 5, none⟩ = some va := by have h := HR.out.2.2.1; simp [World.cell?, M.1, h]
        obtain ⟨_, m2, m3, m4, m5, m6⟩ := M
        have HM : Hid (w.heap.size ≤ g ∧ (w5.setCell ⟨R, 5, none⟩ (.slice (some ⟨ga, 0, none⟩) (m + 1) ca)).heap[g]? = some (.cells cur 9 (0, 0)) ∧ cur.size = cp ∧ len + 40 ≤ cp ∧ cur.toList.take (len + 40) = cellsOf z len ++ cellsOf mark 40 ∧
          (w5.setCell ⟨R, 5, none⟩ (.slice (some ⟨ga, 0, none⟩) (m + 1) ca)).heap[R]? = some (.cells ((cs.setIfInBounds 4 (.slice (some ⟨gv, 0, none⟩) (m + 1) cv)).setIfInBounds 5 (.slice (some ⟨ga, 0, none⟩) (m + 1) ca)) 59 (0, 0)) ∧
          (w5.setCell ⟨R, 5, none⟩ (.slice (some ⟨ga, 0, none⟩) (m + 1) ca)).ownsRow base 22 1 (.slice (some ⟨gv, 0, none⟩) (m + 1) cv) (m + 1) (xsb ++ [.slice (some ⟨g, 0, none⟩) (len + 40) cp]) ∧ (w5.setCell ⟨R, 5, none⟩ (.slice (some ⟨ga, 0, none⟩) (m + 1) ca)).ownsRow base 3 1 (.slice (some ⟨ga, 0, none⟩) (m + 1) ca) (m + 1) (xsa ++ [.int .i64 len]) ∧
          BelF base w (w5.setCell ⟨R, 5, none⟩ (.slice (some ⟨ga, 0, none⟩) (m + 1) ca))) := ⟨HG.out.1, m5, (Nat.mul_one cp) ▸ HG.out.2.2.2.1, h1, (Nat.mul_one (len + 40)) ▸ HG.out.2.2.2.2.1, m2, m3, m4, m6⟩
        clear hown5 hgrow5 m2 m3 m4 m5 m6
        go_wp2
        go_ret
        exact ⟨g, cp, cur, _, _, rfl, HM.out⟩

end Go.Proofs.YtdibmmagnkjapaaGreatDoor.Rm
namespace Go.Proofs.YtdibmmagnkjapaaGreatDoor.Rm
open Go Go.RowKit
set_option linter.unusedSimpArgs false
set_option linter.unusedVariables false

set_option maxHeartbeats 400000 in
theorem holdBytes (R : Nat) (w : World) (h : w.cell? ⟨R, 0, none⟩ = some (.slice none 0 0)) :
    Calls Tryz.prog 55 #[.pointer (some ⟨R, 0, none⟩)] w fun e w' => e = .returned (.bool true) ∧ w' = w := by
  go_enter Tryz.func55, Tryz.ntmps55
  go_wp2
  go_loop [3] (fun i => i = .int .i64 0) (fun _ => 0)
  case atStart => rfl
  case round =>
    subst hrel
    go_wp2
    go_ret
    exact ⟨rfl, rfl⟩
set_option maxHeartbeats 400000 in
theorem holdInts (R : Nat) (w : World) (h : w.cell? ⟨R, 2, none⟩ = some (.slice none 0 0)) :
    Calls Tryz.prog 56 #[.pointer (some ⟨R, 0, none⟩)] w fun e w' => e = .returned (.bool true) ∧ w' = w := by
  go_enter Tryz.func56, Tryz.ntmps56
  go_wp2
  go_loop [3] (fun i => i = .int .i64 0) (fun _ => 0)
  case atStart => rfl
  case round =>
    subst hrel
    go_wp2
    go_ret
    exact ⟨rfl, rfl⟩
set_option maxHeartbeats 400000 in
theorem holdAsks (R : Nat) (w : World) (h : w.cell? ⟨R, 6, none⟩ = some (.slice none 0 0)) :
    Calls Tryz.prog 58 #[.pointer (some ⟨R, 0, none⟩)] w fun e w' => e = .returned (.bool true) ∧ w' = w := by
  go_enter Tryz.func58, Tryz.ntmps58
  go_wp2
  go_loop [3] (fun i => i = .int .i64 0) (fun _ => 0)
  case atStart => rfl
  case round =>
    subst hrel
    go_wp2
    go_ret
    exact ⟨rfl, rfl⟩
set_option maxHeartbeats 400000 in
theorem holdUsers (R : Nat) (w : World) (h : w.cell? ⟨R, 8, none⟩ = some (.slice none 0 0)) :
    Calls Tryz.prog 59 #[.pointer (some ⟨R, 0, none⟩)] w fun e w' => e = .returned (.bool true) ∧ w' = w := by
  go_enter Tryz.func59, Tryz.ntmps59
  go_wp2
  go_loop [3] (fun i => i = .int .i64 0) (fun _ => 0)
  case atStart => rfl
  case round =>
    subst hrel
    go_wp2
    go_ret
    exact ⟨rfl, rfl⟩
set_option maxHeartbeats 400000 in
theorem holdWhos (R : Nat) (w : World) (h : w.cell? ⟨R, 10, none⟩ = some (.slice none 0 0)) :
    Calls Tryz.prog 60 #[.pointer (some ⟨R, 0, none⟩)] w fun e w' => e = .returned (.bool true) ∧ w' = w := by
  go_enter Tryz.func60, Tryz.ntmps60
  go_wp2
  go_loop [3] (fun i => i = .int .i64 0) (fun _ => 0)
  case atStart => rfl
  case round =>
    subst hrel
    go_wp2
    go_ret
    exact ⟨rfl, rfl⟩
set_option maxHeartbeats 400000 in
theorem holdChunks (R : Nat) (w : World) (h : w.cell? ⟨R, 12, none⟩ = some (.slice none 0 0)) :
    Calls Tryz.prog 61 #[.pointer (some ⟨R, 0, none⟩)] w fun e w' => e = .returned (.bool true) ∧ w' = w := by
  go_enter Tryz.func61, Tryz.ntmps61
  go_wp2
  go_loop [3] (fun i => i = .int .i64 0) (fun _ => 0)
  case atStart => rfl
  case round =>
    subst hrel
    go_wp2
    go_ret
    exact ⟨rfl, rfl⟩
set_option maxHeartbeats 400000 in
theorem holdMessages (R : Nat) (w : World) (h : w.cell? ⟨R, 14, none⟩ = some (.slice none 0 0)) :
    Calls Tryz.prog 62 #[.pointer (some ⟨R, 0, none⟩)] w fun e w' => e = .returned (.bool true) ∧ w' = w := by
  go_enter Tryz.func62, Tryz.ntmps62
  go_wp2
  go_loop [3] (fun i => i = .int .i64 0) (fun _ => 0)
  case atStart => rfl
  case round =>
    subst hrel
    go_wp2
    go_ret
    exact ⟨rfl, rfl⟩
set_option maxHeartbeats 400000 in
theorem holdFlights (R : Nat) (w : World) (h : w.cell? ⟨R, 16, none⟩ = some (.slice none 0 0)) :
    Calls Tryz.prog 63 #[.pointer (some ⟨R, 0, none⟩)] w fun e w' => e = .returned (.bool true) ∧ w' = w := by
  go_enter Tryz.func63, Tryz.ntmps63
  go_wp2
  go_loop [3] (fun i => i = .int .i64 0) (fun _ => 0)
  case atStart => rfl
  case round =>
    subst hrel
    go_wp2
    go_ret
    exact ⟨rfl, rfl⟩
set_option maxHeartbeats 400000 in
theorem holdPackets (R : Nat) (w : World) (h : w.cell? ⟨R, 18, none⟩ = some (.slice none 0 0)) :
    Calls Tryz.prog 64 #[.pointer (some ⟨R, 0, none⟩)] w fun e w' => e = .returned (.bool true) ∧ w' = w := by
  go_enter Tryz.func64, Tryz.ntmps64
  go_wp2
  go_loop [3] (fun i => i = .int .i64 0) (fun _ => 0)
  case atStart => rfl
  case round =>
    subst hrel
    go_wp2
    go_ret
    exact ⟨rfl, rfl⟩
set_option maxHeartbeats 400000 in
theorem holdInputs (R : Nat) (w : World) (h : w.cell? ⟨R, 20, none⟩ = some (.slice none 0 0)) :
    Calls Tryz.prog 65 #[.pointer (some ⟨R, 0, none⟩)] w fun e w' => e = .returned (.bool true) ∧ w' = w := by
  go_enter Tryz.func65, Tryz.ntmps65
  go_wp2
  go_loop [3] (fun i => i = .int .i64 0) (fun _ => 0)
  case atStart => rfl
  case round =>
    subst hrel
    go_wp2
    go_ret
    exact ⟨rfl, rfl⟩
set_option maxHeartbeats 400000 in
theorem holdEvents (R : Nat) (w : World) (h : w.cell? ⟨R, 22, none⟩ = some (.slice none 0 0)) :
    Calls Tryz.prog 66 #[.pointer (some ⟨R, 0, none⟩)] w fun e w' => e = .returned (.bool true) ∧ w' = w := by
  go_enter Tryz.func66, Tryz.ntmps66
  go_wp2
  go_loop [3] (fun i => i = .int .i64 0) (fun _ => 0)
  case atStart => rfl
  case round =>
    subst hrel
    go_wp2
    go_ret
    exact ⟨rfl, rfl⟩
set_option maxHeartbeats 400000 in
theorem holdSessions (R : Nat) (w : World) (h : w.cell? ⟨R, 24, none⟩ = some (.slice none 0 0)) :
    Calls Tryz.prog 67 #[.pointer (some ⟨R, 0, none⟩)] w fun e w' => e = .returned (.bool true) ∧ w' = w := by
  go_enter Tryz.func67, Tryz.ntmps67
  go_wp2
  go_loop [3] (fun i => i = .int .i64 0) (fun _ => 0)
  case atStart => rfl
  case round =>
    subst hrel
    go_wp2
    go_ret
    exact ⟨rfl, rfl⟩
set_option maxHeartbeats 400000 in
theorem holdSteps (R : Nat) (w : World) (h : w.cell? ⟨R, 26, none⟩ = some (.slice none 0 0)) :
    Calls Tryz.prog 68 #[.pointer (some ⟨R, 0, none⟩)] w fun e w' => e = .returned (.bool true) ∧ w' = w := by
  go_enter Tryz.func68, Tryz.ntmps68
  go_wp2
  go_loop [3] (fun i => i = .int .i64 0) (fun _ => 0)
  case atStart => rfl
  case round =>
    subst hrel
    go_wp2
    go_ret
    exact ⟨rfl, rfl⟩
theorem hold_bytes (R m gb cb ga ca : Nat) (G N C : Nat → Nat) (w : World) (hm : m ≤ 1000) (hN : ∀ i, N i ≤ 140000 ∧ N i + 40 ≤ C i)
    (cR0 : w.cell? ⟨R, 4, none⟩ = some (.slice (some ⟨gb, 0, none⟩) m cb)) (cR1 : w.cell? ⟨R, 5, none⟩ = some (.slice (some ⟨ga, 0, none⟩) m ca))
    (hb : ∀ i, i < m → w.cell? ⟨gb, i, none⟩ = some (.slice (some ⟨G i, 0, none⟩) (N i + 40) (C i))) (ha : ∀ i, i < m → w.cell? ⟨ga, i, none⟩ = some (.int .i64 (N i)))
    (hk : ∀ i, i < m → ∀ k, k < 40 → w.cell? ⟨G i, N i + k, none⟩ = some (.string (mark k))) :
    Calls Tryz.prog 57 #[.pointer (some ⟨R, 0, none⟩)] w fun e w' => e = .returned (.bool true) ∧ w' = w := by
  have HB : Hid (∀ i, i < m → w.cell? ⟨gb, i, none⟩ = some (.slice (some ⟨G i, 0, none⟩) (N i + 40) (C i))) := hb
  have HA : Hid (∀ i, i < m → w.cell? ⟨ga, i, none⟩ = some (.int .i64 (N i))) := ha
  have HK : Hid (∀ i, i < m → ∀ k, k < 40 → w.cell? ⟨G i, N i + k, none⟩ = some (.string (mark k))) := hk
  have HN : Hid (∀ i, N i ≤ 140000 ∧ N i + 40 ≤ C i) := hN
  clear hb ha hk hN
  go_enter Tryz.func57, Tryz.ntmps57
  go_wp2
  go_loop [3, 4, 5, 6] (fun i _ _ _ => ∃ j : Nat, j ≤ m ∧ i = .int .i64 j) (fun i _ _ _ => m - (intOf i).toNat)
  case atStart => exact ⟨0, by omega, rfl⟩
  case round =>
    obtain ⟨j, hj, rfl⟩ := hrel
    by_cases hlt : j < m
    · have b1 := HB.out j hlt
      have a1 := HA.out j hlt
      have k1 := HK.out j hlt
      have n1 := HN.out j
      obtain ⟨Gj, hG⟩ : ∃ x, G j = x := ⟨_, rfl⟩
      obtain ⟨Nj, hNj⟩ : ∃ x, N j = x := ⟨_, rfl⟩
      obtain ⟨Cj, hC⟩ : ∃ x, C j = x := ⟨_, rfl⟩
      rw [hG, hNj, hC] at b1
      rw [hNj] at a1
      rw [hG, hNj] at k1
      rw [hNj, hC] at n1
      clear hG hNj hC
      have K1 : Hid (∀ k, k < 40 → w.cell? ⟨Gj, Nj + k, none⟩ = some (.string (mark k))) := k1
      clear k1
      go_wp2
      go_loop [5, 6] (fun x _ => ∃ k : Nat, k ≤ 40 ∧ x = .int .i64 ((Nj + k : Nat) : Int)) (fun x _ => Nj + 40 - (intOf x).toNat)
      case atStart => exact ⟨0, by omega, rfl⟩
      case round =>
        obtain ⟨k, hk, rfl⟩ := hrel
        by_cases hkl : k < 40
        · have ck := K1.out k hkl
          by_cases hp : k % 2 = 0
          · have em : mark k = ⟨#[60, 111, 110, 101, 62]⟩ := by simp [mark, hp]
            rw [em] at ck
            have HL : Hid (∀ w, Calls Tryz.prog 98 #[.int .i64 k] w fun e w' => e = .returned (.string ⟨#[60, 111, 110, 101, 62]⟩) ∧ w' = w) := fun w => by have h := lot_any k (by omega) w; rw [if_pos hp] at h; exact h
            clear hp em
            have es : (Nj : Int) + (k : Int) - (Nj : Int) = (k : Int) := by omega
            go_wp2_with (go_at_call 98; refine (HL.out _).mono ?_; rintro e w' ⟨rfl, rfl⟩)
            go_round
            case rel => exact ⟨k + 1, by omega, by go_num⟩
            case measure => simp [intOf]; omega
          · have em : mark k = ⟨#[60, 116, 119, 111, 62]⟩ := by simp [mark, hp]
            rw [em] at ck
            have HL : Hid (∀ w, Calls Tryz.prog 98 #[.int .i64 k] w fun e w' => e = .returned (.string ⟨#[60, 116, 119, 111, 62]⟩) ∧ w' = w) := fun w => by have h := lot_any k (by omega) w; rw [if_neg hp] at h; exact h
            clear hp em
            have es : (Nj : Int) + (k : Int) - (Nj : Int) = (k : Int) := by omega
            go_wp2_with (go_at_call 98; refine (HL.out _).mono ?_; rintro e w' ⟨rfl, rfl⟩)
            go_round
            case rel => exact ⟨k + 1, by omega, by go_num⟩
            case measure => simp [intOf]; omega
        · obtain rfl : k = 40 := by omega
          go_wp2
          go_round
          case rel => exact ⟨j + 1, by omega, by go_num⟩
          case measure => simp [intOf]; omega
    · obtain rfl : j = m := by omega
      go_wp2
      go_ret
      exact ⟨rfl, rfl⟩
end Go.Proofs.YtdibmmagnkjapaaGreatDoor.Rm
