import Derived.Test.YtkjeneklkdekoaaDoorBsix
import Derived.Deep.RegionWith
namespace Go.Proofs.YtkjeneklkdekoaaDoor
open Go Go.RowKit
set_option linter.unusedSimpArgs false
set_option linter.unusedVariables false
set_option maxRecDepth 100000 in
set_option maxHeartbeats 4000000 in
theorem back_low (n : Int) (hn : n < 0) (s : ByteArray) (ad : Option Addr) (ld kd : Nat) (zd : Nat → Int) (am : Option Addr) (lm km : Nat) (zm : Nat → Int) (w : World) (hg : GlobalAt w) (hd : Came w ad ld kd zd) (hm : Came w am lm km zm) (h1 : s.size ≤ 140000) (h2 : ld ≤ 140000) (h3 : lm ≤ 140000) (K : Nat) (hK : kn (0 : Int) = K) :
    Calls Tryd.prog 3 #[.int .i64 n, .string s, .slice ad ld kd, .slice am lm km] w fun e w' => e = .returned (.bool true) ∧ Below w.heap.size w w' := by
  have K0 : Hid (Calls Tryd.prog 6 #[] w fun e w' => e = .returned (.bool true) ∧ Below w.heap.size w w') := known_any w hg
  have MORE : Hid (∀ w', Below w.heap.size w w' → Came w' am lm km zm) := fun w' hb => came_below (B := 0) hm hb
  have DD : Hid (∀ w', Below w.heap.size w w' → Came w' ad ld kd zd) := fun w' hb => came_below (B := 0) hd hb
  have DZ : Hid (∀ i, 0 ≤ zd i ∧ zd i ≤ 255) := hd.2.1
  have hKb := kn_bd (0 : Int)
  rw [hK] at hKb
  obtain ⟨hK1, hK4⟩ := hKb
  have PL : Hid (∀ w', Calls Tryd.prog 11 #[.slice none 0 0, .int .i64 n] w' fun e w'' => ∃ g cp, e = .returned (.slice (some ⟨g, 0, none⟩) K cp) ∧ Came w'' (some ⟨g, 0, none⟩) K cp (glZ (0 : Int)) ∧ Below w'.heap.size w' w'') := fun w' => put_length n (0 : Int) (by omega) K hK w'
  have RL : Hid (∀ w' rb g cp, Rd w' rb g (K + lm) cp (cat (glZ (0 : Int)) K zm) → Calls Tryd.prog 16 #[.pointer (some ⟨rb, 0, none⟩)] w' fun e w'' => e = .returned (.int .i64 (0 : Int)) ∧ RdAt w'' rb (.slice (some ⟨g, 0, none⟩) (K + lm) cp) K 0 0 ∧ w'.grownBy w'' (some rb)) := fun w' rb g cp h => rd_length rb g cp lm (0 : Int) (by omega) (by omega) K hK zm w' h (by omega)
  have i1 : ¬ (140000 : Int) < s.size := by omega
  have i2 : ¬ (140000 : Int) < ld := by omega
  have i3 : ¬ (140000 : Int) < lm := by omega
  have k1 : ¬ (K : Int) < 1 := by omega
  have k2 : ¬ (4 : Int) < K := by omega
  have n1 : n ≤ 0 := by omega
  have n2 : ¬ 0 < n := by omega
  have n3 : ¬ 0 ≤ n := by omega
  clear hK hd hm hg
  go_enter Tryd.func3, Tryd.ntmps3
  go_wp2_with (go_at_call 6; refine K0.out.mono ?_; rintro e w1 ⟨rfl, hb⟩; have B1 : Hid (Below w.heap.size w w1) := hb; clear hb)
  go_must (go_at_call 9)
  refine (put_number n _).mono ?_
  rintro e w2 ⟨x1, xc1, rfl, hc, hb⟩
  have B2 : Hid (Below w.heap.size w w2) := B1.out.trans (hb.mono B1.out.size)
  have C2 : Hid (Came w2 (some ⟨x1, 0, none⟩) (2) xc1 (numZ n)) := hc
  clear hc
  clear hb
  go_wp2_with fail
  go_must (go_at_call 8)
  refine (join_z x1 (2) xc1 am lm km _ zm _ C2.out (MORE.out _ B2.out) (by omega) (by omega) (by omega)).mono ?_
  rintro e w3 ⟨x2, xc2, rfl, hc, hb⟩
  have B3 : Hid (Below w.heap.size w w3) := B2.out.trans (hb.mono B2.out.size)
  have C3 : Hid (Came w3 (some ⟨x2, 0, none⟩) (2 + lm) xc2 (cat (numZ n) (2) zm)) := hc
  clear hc
  clear hb
  go_wp2_with fail
  go_must (go_at_call 7)
  refine (read_z x2 (2 + lm) xc2 _ _ C3.out (by omega)).mono ?_
  rintro e w4 ⟨xr, xg, xc, rfl, hr, q1, q2, hb⟩
  have B4 : Hid (Below w.heap.size w w4) := B3.out.trans (hb.mono B3.out.size)
  have X4 : Hid (Rd w4 xr xg (2 + lm) xc (cat (numZ n) (2) zm)) := hr
  have xL : w3.heap.size ≤ xr ∧ w3.heap.size ≤ xg := ⟨q2, q1⟩
  have xM : Hid (w.heap.size ≤ xr) := Nat.le_trans B3.out.size q2
  clear xL hr q1 q2
  clear hb
  go_wp2_with fail
  go_must (go_at_call 10)
  refine (put_long n _).mono ?_
  rintro e w5 ⟨y1, yc1, rfl, hc, hb⟩
  have B5 : Hid (Below w.heap.size w w5) := B4.out.trans (hb.mono B4.out.size)
  have X5 : Hid (Rd w5 xr xg (2 + lm) xc (cat (numZ n) (2) zm)) := X4.out.below hb
  have C5 : Hid (Came w5 (some ⟨y1, 0, none⟩) (4) yc1 (lngZ n)) := hc
  clear hc
  clear hb
  go_wp2_with fail
  go_must (go_at_call 8)
  refine (join_z y1 (4) yc1 am lm km _ zm _ C5.out (MORE.out _ B5.out) (by omega) (by omega) (by omega)).mono ?_
  rintro e w6 ⟨y2, yc2, rfl, hc, hb⟩
  have B6 : Hid (Below w.heap.size w w6) := B5.out.trans (hb.mono B5.out.size)
  have X6 : Hid (Rd w6 xr xg (2 + lm) xc (cat (numZ n) (2) zm)) := X5.out.below hb
  have C6 : Hid (Came w6 (some ⟨y2, 0, none⟩) (4 + lm) yc2 (cat (lngZ n) (4) zm)) := hc
  clear hc
  clear hb
  go_wp2_with fail
  go_must (go_at_call 7)
  refine (read_z y2 (4 + lm) yc2 _ _ C6.out (by omega)).mono ?_
  rintro e w7 ⟨yr, yg, yc, rfl, hr, q1, q2, hb⟩
  have B7 : Hid (Below w.heap.size w w7) := B6.out.trans (hb.mono B6.out.size)
  have X7 : Hid (Rd w7 xr xg (2 + lm) xc (cat (numZ n) (2) zm)) := X6.out.below hb
  have Y7 : Hid (Rd w7 yr yg (4 + lm) yc (cat (lngZ n) (4) zm)) := hr
  have yL : w6.heap.size ≤ yr ∧ w6.heap.size ≤ yg := ⟨q2, q1⟩
  have yM : Hid (w.heap.size ≤ yr) := Nat.le_trans B6.out.size q2
  have yx : Hid (yr ≠ xr ∧ yg ≠ xr) := ⟨fun h => by have := X6.out.lt; omega, fun h => by have := X6.out.lt; omega⟩
  clear yL hr q1 q2
  clear hb
  go_wp2_with fail
  go_must (go_at_call 11)
  refine (PL.out _).mono ?_
  rintro e w8 ⟨z1, zc1, rfl, hc, hb⟩
  have B8 : Hid (Below w.heap.size w w8) := B7.out.trans (hb.mono B7.out.size)
  have X8 : Hid (Rd w8 xr xg (2 + lm) xc (cat (numZ n) (2) zm)) := X7.out.below hb
  have Y8 : Hid (Rd w8 yr yg (4 + lm) yc (cat (lngZ n) (4) zm)) := Y7.out.below hb
  have C8 : Hid (Came w8 (some ⟨z1, 0, none⟩) (K) zc1 (glZ (0 : Int))) := hc
  clear hc
  clear hb
  go_wp2_with fail
  go_must (go_at_call 8)
  refine (join_z z1 (K) zc1 am lm km _ zm _ C8.out (MORE.out _ B8.out) (by omega) (by omega) (by omega)).mono ?_
  rintro e w9 ⟨z2, zc2, rfl, hc, hb⟩
  have B9 : Hid (Below w.heap.size w w9) := B8.out.trans (hb.mono B8.out.size)
  have X9 : Hid (Rd w9 xr xg (2 + lm) xc (cat (numZ n) (2) zm)) := X8.out.below hb
  have Y9 : Hid (Rd w9 yr yg (4 + lm) yc (cat (lngZ n) (4) zm)) := Y8.out.below hb
  have C9 : Hid (Came w9 (some ⟨z2, 0, none⟩) (K + lm) zc2 (cat (glZ (0 : Int)) (K) zm)) := hc
  clear hc
  clear hb
  go_wp2_with fail
  go_must (go_at_call 7)
  refine (read_z z2 (K + lm) zc2 _ _ C9.out (by omega)).mono ?_
  rintro e w10 ⟨zr, zg, zc, rfl, hr, q1, q2, hb⟩
  have B10 : Hid (Below w.heap.size w w10) := B9.out.trans (hb.mono B9.out.size)
  have X10 : Hid (Rd w10 xr xg (2 + lm) xc (cat (numZ n) (2) zm)) := X9.out.below hb
  have Y10 : Hid (Rd w10 yr yg (4 + lm) yc (cat (lngZ n) (4) zm)) := Y9.out.below hb
  have Z10 : Hid (Rd w10 zr zg (K + lm) zc (cat (glZ (0 : Int)) (K) zm)) := hr
  have zL : w9.heap.size ≤ zr ∧ w9.heap.size ≤ zg := ⟨q2, q1⟩
  have zM : Hid (w.heap.size ≤ zr) := Nat.le_trans B9.out.size q2
  have zx : Hid (zr ≠ xr ∧ zg ≠ xr) := ⟨fun h => by have := X9.out.lt; omega, fun h => by have := X9.out.lt; omega⟩
  have zy : Hid (zr ≠ yr ∧ zg ≠ yr) := ⟨fun h => by have := Y9.out.lt; omega, fun h => by have := Y9.out.lt; omega⟩
  clear zL hr q1 q2
  clear hb
  go_wp2_with fail
  go_must (go_at_call 12)
  refine (rd_number xr xg xc lm n zm _ X10.out (by omega)).mono ?_
  rintro e w11 ⟨rfl, hrr, hgr⟩
  have B11 : Hid (Below w.heap.size w w11) := B10.out.trans (below_of_gb hgr xM.out B10.out.size)
  have Y11 : Hid (Rd w11 yr yg (4 + lm) yc (cat (lngZ n) (4) zm)) := Y10.out.grown hgr yx.out.1 yx.out.2
  have Z11 : Hid (Rd w11 zr zg (K + lm) zc (cat (glZ (0 : Int)) (K) zm)) := Z10.out.grown hgr zx.out.1 zx.out.2
  have XA : Hid (RdAt w11 xr (.slice (some ⟨xg, 0, none⟩) (2 + lm) xc) 2 0 0) := hrr
  clear hrr
  clear hgr
  go_wp2_with fail
  go_must (go_at_call 13)
  refine (mod_small n _).mono ?_
  rintro e wsame ⟨rfl, he⟩
  obtain rfl := he.symm
  clear he
  go_wp2_with fail
  go_must (go_at_call 14)
  refine (at_any xr _ 2 0 0 _ XA.out).mono ?_
  rintro e wsame ⟨rfl, he⟩
  obtain rfl := he.symm
  clear he
  go_wp2_with fail
  go_must (go_at_call 15)
  refine (rd_long yr yg yc lm n zm _ Y11.out (by omega)).mono ?_
  rintro e w12 ⟨rfl, hrr, hgr⟩
  have B12 : Hid (Below w.heap.size w w12) := B11.out.trans (below_of_gb hgr yM.out B11.out.size)
  have Z12 : Hid (Rd w12 zr zg (K + lm) zc (cat (glZ (0 : Int)) (K) zm)) := Z11.out.grown hgr zy.out.1 zy.out.2
  have YA : Hid (RdAt w12 yr (.slice (some ⟨yg, 0, none⟩) (4 + lm) yc) 4 0 0) := hrr
  clear hrr
  clear hgr
  go_wp2_with fail
  go_must (go_at_call 13)
  refine (mod_large n _).mono ?_
  rintro e wsame ⟨rfl, he⟩
  obtain rfl := he.symm
  clear he
  go_wp2_with fail
  go_must (go_at_call 14)
  refine (at_any yr _ 4 0 0 _ YA.out).mono ?_
  rintro e wsame ⟨rfl, he⟩
  obtain rfl := he.symm
  clear he
  go_wp2_with fail
  go_must (go_at_call 16)
  refine (RL.out _ zr zg zc Z12.out).mono ?_
  rintro e w13 ⟨rfl, hrr, hgr⟩
  have B13 : Hid (Below w.heap.size w w13) := B12.out.trans (below_of_gb hgr zM.out B12.out.size)
  have ZA13 : Hid (RdAt w13 zr (.slice (some ⟨zg, 0, none⟩) (K + lm) zc) K 0 0) := hrr
  clear hrr
  clear hgr
  go_wp2_with fail
  go_must (go_at_call 17)
  refine (err_nil zr _ K 0 _ ZA13.out).mono ?_
  rintro e wsame ⟨rfl, he⟩
  obtain rfl := he.symm
  clear he
  go_wp2_with fail
  go_must (go_at_call 14)
  refine (at_any zr _ K 0 0 _ ZA13.out).mono ?_
  rintro e wsame ⟨rfl, he⟩
  obtain rfl := he.symm
  clear he
  go_wp2_with fail
  go_must (go_at_call 11)
  refine (PL.out _).mono ?_
  rintro e w14 ⟨lg, lc, rfl, _, hb⟩
  have B14 : Hid (Below w.heap.size w w14) := B13.out.trans (hb.mono B13.out.size)
  have ZA14 : Hid (RdAt w14 zr (.slice (some ⟨zg, 0, none⟩) (K + lm) zc) K 0 0) := ZA13.out.kept hb
  clear hb
  go_wp2_with fail
  go_must (go_at_call 14)
  refine (at_any zr _ K 0 0 _ ZA14.out).mono ?_
  rintro e wsame ⟨rfl, he⟩
  obtain rfl := he.symm
  clear he
  go_wp2_with fail
  go_must (go_at_call 14)
  refine (at_any zr _ K 0 0 _ ZA14.out).mono ?_
  rintro e wsame ⟨rfl, he⟩
  obtain rfl := he.symm
  clear he
  go_wp2_with fail
  by_cases hs : (chk s).2 = 0
  · have hs5 : s.size ≤ 65535 := by
      refine Nat.not_lt.1 fun h => ?_
      unfold chk at hs
      rw [if_pos h] at hs
      cases hs
    go_must (go_at_call 18)
    refine (put_text s hs5 hs _).mono ?_
    rintro e w15 ⟨tg, tc, rfl, hc, hb⟩
    have B15 : Hid (Below w.heap.size w w15) := B14.out.trans (hb.mono B14.out.size)
    have CT : Hid (Came w15 (some ⟨tg, 0, none⟩) (2 + s.size) tc (cat (numZ s.size) 2 (sZ s))) := hc
    clear hc
    clear hb
    go_wp2_with fail
    by_cases hd5 : ld ≤ 65535
    · have d1 : (ld : Int) ≤ 65535 := by omega
      go_must (go_at_call 19)
      refine (putData_ok ad ld kd zd _ (DD.out _ B15.out) hd5).mono ?_
      rintro e w16 ⟨ug, uc, rfl, hc, hb⟩
      have B16 : Hid (Below w.heap.size w w16) := B15.out.trans (hb.mono B15.out.size)
      have C16 : Hid (Came w16 (some ⟨ug, 0, none⟩) (2 + ld) uc (cat (numZ ld) 2 zd)) := hc
      have CT16 : Hid (Came w16 (some ⟨tg, 0, none⟩) (2 + s.size) tc (cat (numZ s.size) 2 (sZ s))) := came_below (B := 0) CT.out hb
      clear hc
      clear hb
      go_wp2_with fail
      go_must (go_at_call 20)
      refine (num_any _ _).mono ?_
      rintro e wsame ⟨rfl, he⟩
      obtain rfl := he.symm
      clear he
      go_wp2_with fail
      go_must (go_at_call 8)
      refine (join_z ug (2 + ld) uc am lm km _ zm _ C16.out (MORE.out _ B16.out) (by omega) (by omega) (by omega)).mono ?_
      rintro e w17 ⟨d2, dc2, rfl, hc, hb⟩
      have B17 : Hid (Below w.heap.size w w17) := B16.out.trans (hb.mono B16.out.size)
      have BB17 : Hid (Below w16.heap.size w16 w17) := hb
      have C17 : Hid (Came w17 (some ⟨d2, 0, none⟩) (2 + ld + lm) dc2 (cat (cat (numZ ld) 2 zd) (2 + ld) zm)) := hc
      clear hc
      clear hb
      go_wp2_with fail
      go_must (go_at_call 7)
      refine (read_z d2 (2 + ld + lm) dc2 _ _ C17.out (by omega)).mono ?_
      rintro e w18 ⟨dr, dg, dc, rfl, hr, q1, q2, hb⟩
      have B18 : Hid (Below w.heap.size w w18) := B17.out.trans (hb.mono B17.out.size)
      have BB18 : Hid (Below w16.heap.size w16 w18) := BB17.out.trans (hb.mono BB17.out.size)
      have D18 : Hid (Rd w18 dr dg (2 + ld + lm) dc (cat (cat (numZ ld) 2 zd) (2 + ld) zm)) := hr
      have dL : w17.heap.size ≤ dr ∧ w17.heap.size ≤ dg := ⟨q2, q1⟩
      have dM : Hid (w.heap.size ≤ dr) := Nat.le_trans B17.out.size q2
      have dN : Hid (w16.heap.size ≤ dr) := Nat.le_trans BB17.out.size q2
      clear dL hr q1 q2
      clear hb
      go_wp2_with fail
      go_must (go_at_call 22)
      refine (rd_data dr dg dc ld lm zd zm DZ.out _ D18.out hd5 (by omega)).mono ?_
      rintro e w19 ⟨g', c', rfl, hcm, hrr, hgr⟩
      have B19 : Hid (Below w.heap.size w w19) := B18.out.trans (below_of_gb hgr dM.out B18.out.size)
      have BB19 : Hid (Below w16.heap.size w16 w19) := BB18.out.trans (below_of_gb hgr dN.out BB18.out.size)
      have DA : Hid (RdAt w19 dr (.slice (some ⟨dg, 0, none⟩) (2 + ld + lm) dc) ((2 + ld : Nat) : Int) 0 0) := hrr
      have CM : Hid (Came w19 (some ⟨g', 0, none⟩) ld c' zd) := hcm
      clear hrr hcm
      clear hgr
      have CTZ : Hid (Came w19 (some ⟨tg, 0, none⟩) (2 + s.size) tc (cat (numZ s.size) 2 (sZ s))) := came_below (B := 0) CT16.out BB19.out
      go_wp2_with fail
      go_must (go_at_call 21)
      refine (same_d _ (some ⟨g', 0, none⟩) ad ld c' kd zd CM.out (DD.out _ B19.out)).mono ?_
      rintro e wsame ⟨rfl, he⟩
      obtain rfl := he.symm
      clear he
      go_wp2_with fail
      go_must (go_at_call 14)
      refine (at_any dr _ ((2 + ld : Nat) : Int) 0 0 _ DA.out).mono ?_
      rintro e wsame ⟨rfl, he⟩
      obtain rfl := he.symm
      clear he
      go_wp2_with fail
      go_must (go_at_call 17)
      refine (err_nil dr _ ((2 + ld : Nat) : Int) 0 _ DA.out).mono ?_
      rintro e wsame ⟨rfl, he⟩
      obtain rfl := he.symm
      clear he
      go_wp2_with fail
      go_must (go_at_call 20)
      refine (num_any _ _).mono ?_
      rintro e wsame ⟨rfl, he⟩
      obtain rfl := he.symm
      clear he
      go_wp2_with fail
      go_must (go_at_call 20)
      refine (num_any _ _).mono ?_
      rintro e wsame ⟨rfl, he⟩
      obtain rfl := he.symm
      clear he
      have C19 : Hid (Came w19 (some ⟨tg, 0, none⟩) (2 + s.size) tc (cat (numZ s.size) 2 (sZ s))) := CTZ.out
      go_wp2_with fail
      go_must (go_at_call 8)
      refine (join_z tg (2 + s.size) tc am lm km _ zm _ C19.out (MORE.out _ B19.out) (by omega) (by omega) (by omega)).mono ?_
      rintro e w20 ⟨v2, vc2, rfl, hc, hb⟩
      have B20 : Hid (Below w.heap.size w w20) := B19.out.trans (hb.mono B19.out.size)
      have C20 : Hid (Came w20 (some ⟨v2, 0, none⟩) (2 + s.size + lm) vc2 (cat (cat (numZ s.size) 2 (sZ s)) (2 + s.size) zm)) := hc
      clear hc
      clear hb
      go_wp2_with fail
      go_must (go_at_call 7)
      refine (read_z v2 (2 + s.size + lm) vc2 _ _ C20.out (by omega)).mono ?_
      rintro e w21 ⟨vr, vg, vc, rfl, hr, q1, q2, hb⟩
      have B21 : Hid (Below w.heap.size w w21) := B20.out.trans (hb.mono B20.out.size)
      have V21 : Hid (Rd w21 vr vg (2 + s.size + lm) vc (cat (cat (numZ s.size) 2 (sZ s)) (2 + s.size) zm)) := hr
      have vL : w20.heap.size ≤ vr ∧ w20.heap.size ≤ vg := ⟨q2, q1⟩
      have vM : Hid (w.heap.size ≤ vr) := Nat.le_trans B20.out.size q2
      clear vL hr q1 q2
      clear hb
      go_wp2_with fail
      go_must (go_at_call 23)
      refine (rd_text vr vg vc lm s zm _ V21.out hs5 hs (by omega)).mono ?_
      rintro e w22 ⟨rfl, hrr, hgr⟩
      have B22 : Hid (Below w.heap.size w w22) := B21.out.trans (below_of_gb hgr vM.out B21.out.size)
      have TA : Hid (RdAt w22 vr (.slice (some ⟨vg, 0, none⟩) (2 + s.size + lm) vc) ((2 + s.size : Nat) : Int) 0 0) := hrr
      clear hrr
      clear hgr
      go_wp2_with fail
      go_must (go_at_call 14)
      refine (at_any vr _ ((2 + s.size : Nat) : Int) 0 0 _ TA.out).mono ?_
      rintro e wsame ⟨rfl, he⟩
      obtain rfl := he.symm
      clear he
      go_wp2_with fail
      go_must (go_at_call 17)
      refine (err_nil vr _ ((2 + s.size : Nat) : Int) 0 _ TA.out).mono ?_
      rintro e wsame ⟨rfl, he⟩
      obtain rfl := he.symm
      clear he
      go_wp2
      go_ret
      exact ⟨rfl, B22.out⟩
    · have d1 : ¬ (ld : Int) ≤ 65535 := by omega
      go_must (go_at_call 19)
      refine (putData_long ad ld kd (by omega) _).mono ?_
      rintro e wsame ⟨rfl, he⟩
      obtain rfl := he.symm
      clear he
      go_wp2_with fail
      go_must (go_at_call 20)
      refine (num_any _ _).mono ?_
      rintro e wsame ⟨rfl, he⟩
      obtain rfl := he.symm
      clear he
      go_wp2_with fail
      go_must (go_at_call 20)
      refine (num_any _ _).mono ?_
      rintro e wsame ⟨rfl, he⟩
      obtain rfl := he.symm
      clear he
      go_wp2_with fail
      go_must (go_at_call 20)
      refine (num_any _ _).mono ?_
      rintro e wsame ⟨rfl, he⟩
      obtain rfl := he.symm
      clear he
      have C15 : Hid (Came w15 (some ⟨tg, 0, none⟩) (2 + s.size) tc (cat (numZ s.size) 2 (sZ s))) := CT.out
      go_wp2_with fail
      go_must (go_at_call 8)
      refine (join_z tg (2 + s.size) tc am lm km _ zm _ C15.out (MORE.out _ B15.out) (by omega) (by omega) (by omega)).mono ?_
      rintro e w16 ⟨v2, vc2, rfl, hc, hb⟩
      have B16 : Hid (Below w.heap.size w w16) := B15.out.trans (hb.mono B15.out.size)
      have C16 : Hid (Came w16 (some ⟨v2, 0, none⟩) (2 + s.size + lm) vc2 (cat (cat (numZ s.size) 2 (sZ s)) (2 + s.size) zm)) := hc
      clear hc
      clear hb
      go_wp2_with fail
      go_must (go_at_call 7)
      refine (read_z v2 (2 + s.size + lm) vc2 _ _ C16.out (by omega)).mono ?_
      rintro e w17 ⟨vr, vg, vc, rfl, hr, q1, q2, hb⟩
      have B17 : Hid (Below w.heap.size w w17) := B16.out.trans (hb.mono B16.out.size)
      have V17 : Hid (Rd w17 vr vg (2 + s.size + lm) vc (cat (cat (numZ s.size) 2 (sZ s)) (2 + s.size) zm)) := hr
      have vL : w16.heap.size ≤ vr ∧ w16.heap.size ≤ vg := ⟨q2, q1⟩
      have vM : Hid (w.heap.size ≤ vr) := Nat.le_trans B16.out.size q2
      clear vL hr q1 q2
      clear hb
      go_wp2_with fail
      go_must (go_at_call 23)
      refine (rd_text vr vg vc lm s zm _ V17.out hs5 hs (by omega)).mono ?_
      rintro e w18 ⟨rfl, hrr, hgr⟩
      have B18 : Hid (Below w.heap.size w w18) := B17.out.trans (below_of_gb hgr vM.out B17.out.size)
      have TA : Hid (RdAt w18 vr (.slice (some ⟨vg, 0, none⟩) (2 + s.size + lm) vc) ((2 + s.size : Nat) : Int) 0 0) := hrr
      clear hrr
      clear hgr
      go_wp2_with fail
      go_must (go_at_call 14)
      refine (at_any vr _ ((2 + s.size : Nat) : Int) 0 0 _ TA.out).mono ?_
      rintro e wsame ⟨rfl, he⟩
      obtain rfl := he.symm
      clear he
      go_wp2_with fail
      go_must (go_at_call 17)
      refine (err_nil vr _ ((2 + s.size : Nat) : Int) 0 _ TA.out).mono ?_
      rintro e wsame ⟨rfl, he⟩
      obtain rfl := he.symm
      clear he
      go_wp2
      go_ret
      exact ⟨rfl, B18.out⟩
  · obtain ⟨pc, qc, hpq⟩ : ∃ p q, chk s = (p, q) := ⟨_, _, rfl⟩
    have hq0 : qc ≠ 0 := fun h => hs (by rw [hpq]; exact h)
    have j1 : ((qc : Int) != 0) = true := by simp; omega
    have j2 : ((qc : Int) == 0) = false := by simp; omega
    go_must (go_at_call 18)
    refine (putText_bad s pc qc hpq hq0 _).mono ?_
    rintro e w15 ⟨rfl, hb⟩
    have B15 : Hid (Below w.heap.size w w15) := B14.out.trans (hb.mono B14.out.size)
    clear hb
    clear hpq hs hq0
    go_wp2_with fail
    by_cases hd5 : ld ≤ 65535
    · have d1 : (ld : Int) ≤ 65535 := by omega
      go_must (go_at_call 19)
      refine (putData_ok ad ld kd zd _ (DD.out _ B15.out) hd5).mono ?_
      rintro e w16 ⟨ug, uc, rfl, hc, hb⟩
      have B16 : Hid (Below w.heap.size w w16) := B15.out.trans (hb.mono B15.out.size)
      have C16 : Hid (Came w16 (some ⟨ug, 0, none⟩) (2 + ld) uc (cat (numZ ld) 2 zd)) := hc
      clear hc
      clear hb
      go_wp2_with fail
      go_must (go_at_call 20)
      refine (num_any _ _).mono ?_
      rintro e wsame ⟨rfl, he⟩
      obtain rfl := he.symm
      clear he
      go_wp2_with fail
      go_must (go_at_call 8)
      refine (join_z ug (2 + ld) uc am lm km _ zm _ C16.out (MORE.out _ B16.out) (by omega) (by omega) (by omega)).mono ?_
      rintro e w17 ⟨d2, dc2, rfl, hc, hb⟩
      have B17 : Hid (Below w.heap.size w w17) := B16.out.trans (hb.mono B16.out.size)
      have C17 : Hid (Came w17 (some ⟨d2, 0, none⟩) (2 + ld + lm) dc2 (cat (cat (numZ ld) 2 zd) (2 + ld) zm)) := hc
      clear hc
      clear hb
      go_wp2_with fail
      go_must (go_at_call 7)
      refine (read_z d2 (2 + ld + lm) dc2 _ _ C17.out (by omega)).mono ?_
      rintro e w18 ⟨dr, dg, dc, rfl, hr, q1, q2, hb⟩
      have B18 : Hid (Below w.heap.size w w18) := B17.out.trans (hb.mono B17.out.size)
      have D18 : Hid (Rd w18 dr dg (2 + ld + lm) dc (cat (cat (numZ ld) 2 zd) (2 + ld) zm)) := hr
      have dL : w17.heap.size ≤ dr ∧ w17.heap.size ≤ dg := ⟨q2, q1⟩
      have dM : Hid (w.heap.size ≤ dr) := Nat.le_trans B17.out.size q2
      clear dL hr q1 q2
      clear hb
      go_wp2_with fail
      go_must (go_at_call 22)
      refine (rd_data dr dg dc ld lm zd zm DZ.out _ D18.out hd5 (by omega)).mono ?_
      rintro e w19 ⟨g', c', rfl, hcm, hrr, hgr⟩
      have B19 : Hid (Below w.heap.size w w19) := B18.out.trans (below_of_gb hgr dM.out B18.out.size)
      have DA : Hid (RdAt w19 dr (.slice (some ⟨dg, 0, none⟩) (2 + ld + lm) dc) ((2 + ld : Nat) : Int) 0 0) := hrr
      have CM : Hid (Came w19 (some ⟨g', 0, none⟩) ld c' zd) := hcm
      clear hrr hcm
      clear hgr
      go_wp2_with fail
      go_must (go_at_call 21)
      refine (same_d _ (some ⟨g', 0, none⟩) ad ld c' kd zd CM.out (DD.out _ B19.out)).mono ?_
      rintro e wsame ⟨rfl, he⟩
      obtain rfl := he.symm
      clear he
      go_wp2_with fail
      go_must (go_at_call 14)
      refine (at_any dr _ ((2 + ld : Nat) : Int) 0 0 _ DA.out).mono ?_
      rintro e wsame ⟨rfl, he⟩
      obtain rfl := he.symm
      clear he
      go_wp2_with fail
      go_must (go_at_call 17)
      refine (err_nil dr _ ((2 + ld : Nat) : Int) 0 _ DA.out).mono ?_
      rintro e wsame ⟨rfl, he⟩
      obtain rfl := he.symm
      clear he
      go_wp2_with fail
      go_must (go_at_call 20)
      refine (num_any _ _).mono ?_
      rintro e wsame ⟨rfl, he⟩
      obtain rfl := he.symm
      clear he
      go_wp2_with fail
      go_must (go_at_call 20)
      refine (num_any _ _).mono ?_
      rintro e wsame ⟨rfl, he⟩
      obtain rfl := he.symm
      clear he
      go_wp2
      go_ret
      exact ⟨rfl, B19.out⟩
    · have d1 : ¬ (ld : Int) ≤ 65535 := by omega
      go_must (go_at_call 19)
      refine (putData_long ad ld kd (by omega) _).mono ?_
      rintro e wsame ⟨rfl, he⟩
      obtain rfl := he.symm
      clear he
      go_wp2_with fail
      go_must (go_at_call 20)
      refine (num_any _ _).mono ?_
      rintro e wsame ⟨rfl, he⟩
      obtain rfl := he.symm
      clear he
      go_wp2_with fail
      go_must (go_at_call 20)
      refine (num_any _ _).mono ?_
      rintro e wsame ⟨rfl, he⟩
      obtain rfl := he.symm
      clear he
      go_wp2_with fail
      go_must (go_at_call 20)
      refine (num_any _ _).mono ?_
      rintro e wsame ⟨rfl, he⟩
      obtain rfl := he.symm
      clear he
      go_wp2
      go_ret
      exact ⟨rfl, B15.out⟩

end Go.Proofs.YtkjeneklkdekoaaDoor
