import Derived.Test.YtphofgnehdlafaaGreatDoorPWc
import Derived.Test.YtphofgnehdlafaaGreatDoorPWl
import Derived.Laws.Rows
import Derived.Deep.LoopGhost
namespace Go.Proofs.YtphofgnehdlafaaGreatDoor.Pkt
open Go Go.RowKit Go.Sort
set_option linter.unusedSimpArgs false
set_option linter.unusedVariables false
def mkI (b : Bool) (n : Int) : Int := if b then n else 0
theorem mkI_nat (b : Bool) (n : Nat) : mkI b (n : Int) = ((mk b n : Nat) : Int) := by cases b <;> rfl
theorem mark_int (b : Bool) (n : Int) (w : World) : Calls Tryz.prog 219 #[.bool b, .int .i64 n] w fun e w' => e = .returned (.int .i64 (mkI b n)) ∧ Below w.heap.size w w' := by
 cases b with
 | true =>
  go_enter Tryz.func219, Tryz.ntmps219
  go_wp2
  go_ret
  exact ⟨rfl, Below.refl _ _⟩
 | false =>
  go_enter Tryz.func219, Tryz.ntmps219
  go_wp2
  go_ret
  exact ⟨rfl, Below.refl _ _⟩
theorem box_cell (w : World) (cs : Array Value) (t : TypeId) (k : Nat) (v : Value) (h : cs[k]? = some v) : (w.alloc (.cells cs t)).cell? ⟨w.heap.size, k, none⟩ = some v := by
 rw [World.cell?_alloc_at _ _ _ _ rfl]
 simpa using h
theorem box_fact {w W : World} {cs : Array Value} {t : TypeId} (hW : W = w.alloc (.cells cs t)) (k : Nat) (v : Value) (h : cs[k]? = some v) : ∀ d os, (grow (redrawn W d) os).cell? ⟨w.heap.size, k, none⟩ = some v := fun d os => cell_regrown (by rw [hW]; exact box_cell w cs t k v h) d os
theorem box_below {w W : World} {cs : Array Value} {t : TypeId} (hW : W = w.alloc (.cells cs t)) : Below w.heap.size w W := by rw [hW]; exact (Below.refl _ _).alloc (Nat.le_refl _) _
theorem or_cast (a b : Nat) (ha : a < 262144) (hb : b < 262144) : bits .or .i64 (a : Int) (b : Int) = ((a ||| b : Nat) : Int) := bits_or a b (by omega) (by omega)
theorem gv_code (b0 b1 b2 b3 b4 b5 b6 b7 b8 b9 b10 b11 b12 b13 b14 b15 b16 b17 : Bool) : bits .or .i64 (bits .or .i64 (bits .or .i64 (bits .or .i64 (bits .or .i64 (bits .or .i64 (bits .or .i64 (bits .or .i64 (bits .or .i64 (bits .or .i64 (bits .or .i64 (bits .or .i64 (bits .or .i64 (bits .or .i64 (bits .or .i64 (bits .or .i64 (bits .or .i64 (mkI b0 1) (mkI b1 2)) (mkI b2 4)) (mkI b3 8)) (mkI b4 16)) (mkI b5 32)) (mkI b6 64)) (mkI b7 128)) (mkI b8 256)) (mkI b9 512)) (mkI b10 1024)) (mkI b11 2048)) (mkI b12 4096)) (mkI b13 8192)) (mkI b14 16384)) (mkI b15 32768)) (mkI b16 65536)) (mkI b17 131072) = ((mk b0 1 ||| mk b1 2 ||| mk b2 4 ||| mk b3 8 ||| mk b4 16 ||| mk b5 32 ||| mk b6 64 ||| mk b7 128 ||| mk b8 256 ||| mk b9 512 ||| mk b10 1024 ||| mk b11 2048 ||| mk b12 4096 ||| mk b13 8192 ||| mk b14 16384 ||| mk b15 32768 ||| mk b16 65536 ||| mk b17 131072 : Nat) : Int) := by
 rw [show mkI b0 1 = ((mk b0 1 : Nat) : Int) from mkI_nat b0 1]
 rw [show mkI b1 2 = ((mk b1 2 : Nat) : Int) from mkI_nat b1 2]
 rw [show mkI b2 4 = ((mk b2 4 : Nat) : Int) from mkI_nat b2 4]
 rw [show mkI b3 8 = ((mk b3 8 : Nat) : Int) from mkI_nat b3 8]
 rw [show mkI b4 16 = ((mk b4 16 : Nat) : Int) from mkI_nat b4 16]
 rw [show mkI b5 32 = ((mk b5 32 : Nat) : Int) from mkI_nat b5 32]
 rw [show mkI b6 64 = ((mk b6 64 : Nat) : Int) from mkI_nat b6 64]
 rw [show mkI b7 128 = ((mk b7 128 : Nat) : Int) from mkI_nat b7 128]
 rw [show mkI b8 256 = ((mk b8 256 : Nat) : Int) from mkI_nat b8 256]
 rw [show mkI b9 512 = ((mk b9 512 : Nat) : Int) from mkI_nat b9 512]
 rw [show mkI b10 1024 = ((mk b10 1024 : Nat) : Int) from mkI_nat b10 1024]
 rw [show mkI b11 2048 = ((mk b11 2048 : Nat) : Int) from mkI_nat b11 2048]
 rw [show mkI b12 4096 = ((mk b12 4096 : Nat) : Int) from mkI_nat b12 4096]
 rw [show mkI b13 8192 = ((mk b13 8192 : Nat) : Int) from mkI_nat b13 8192]
 rw [show mkI b14 16384 = ((mk b14 16384 : Nat) : Int) from mkI_nat b14 16384]
 rw [show mkI b15 32768 = ((mk b15 32768 : Nat) : Int) from mkI_nat b15 32768]
 rw [show mkI b16 65536 = ((mk b16 65536 : Nat) : Int) from mkI_nat b16 65536]
 rw [show mkI b17 131072 = ((mk b17 131072 : Nat) : Int) from mkI_nat b17 131072]
 repeat rw [or_cast]
 all_goals repeat' first | exact mk_lt _ _ (by decide) | apply or_lt
theorem isEmpty_size (s : ByteArray) : (!s.toList.isEmpty) = (s.size != 0) := by
 rw [Lib.toList_data]
 obtain ⟨⟨l⟩⟩ := s
 cases l <;> simp [ByteArray.size]
theorem pos_ne (n : Nat) : decide (0 < n) = (n != 0) := by cases n <;> simp
theorem empty_size (s : ByteArray) : (s = ByteArray.empty) = (s.size = 0) := by
 refine propext ⟨fun h => by rw [h]; rfl, fun h => ?_⟩
 obtain ⟨⟨l⟩⟩ := s
 cases l with
 | nil => rfl
 | cons a l => simp [ByteArray.size] at h
theorem nilBy (w : World) : By w ⟨none, 0, 0⟩ (fun _ => 0) := ⟨Nat.le_refl _, fun _ => ⟨Int.le_refl 0, by show (0 : Int) ≤ 255; decide⟩, .inl rfl⟩
theorem zero_msg (t : ByteArray) (s : Sl) (q : Int) (r : Bool) (z : Nat → Int) (w : World) (h : By w s z) :
    Calls Tryz.prog 252 #[.agg #[.string t, s.v, .int .i64 q, .bool r], .agg #[.string ⟨#[]⟩, .slice none 0 0, .int .i64 0, .bool false]] w fun e w' => e = .returned (.bool (decide (t.size = 0) && decide (q = 0) && !r && decide (s.n = 0))) ∧ Below w.heap.size w w' := by
  have hs := sameMessage_any t ⟨#[]⟩ s ⟨none, 0, 0⟩ q 0 r false z (fun _ => 0) w h (nilBy w)
  have e : (decide (t.size = 0) && decide (q = 0) && !r && decide (s.n = 0)) = ((t.toList == (⟨#[]⟩ : ByteArray).toList) && (q == 0) && (r == false) && ((strZ z s.n).toList == (strZ (fun _ => 0) 0).toList)) := by
    have h1 : ∀ b : ByteArray, (b.toList == (⟨#[]⟩ : ByteArray).toList) = decide (b.size = 0) := by
      intro b
      rw [Lib.toList_data, Lib.toList_data]
      obtain ⟨⟨l⟩⟩ := b
      cases l <;> simp [ByteArray.size]
    have h2 : strZ (fun _ => 0) 0 = (⟨#[]⟩ : ByteArray) := rfl
    rw [h2, h1, h1, strZ_size]
    cases r <;> rfl
  rw [e]
  exact hs
set_option maxRecDepth 100000
set_option maxHeartbeats 2000000
theorem form_had : ∀ i, i < 15 → (form i).2.2 = ((had i : Nat) : Int) := by decide
theorem off_code (b0 b1 b2 b3 : Bool) : bits .or .i64 (bits .or .i64 (bits .or .i64 (mkI b0 32) (mkI b1 128)) (mkI b2 512)) (mkI b3 16384) = ((mk b0 32 ||| mk b1 128 ||| mk b2 512 ||| mk b3 16384 : Nat) : Int) := by
 rw [show mkI b0 32 = ((mk b0 32 : Nat) : Int) from mkI_nat b0 32, show mkI b1 128 = ((mk b1 128 : Nat) : Int) from mkI_nat b1 128, show mkI b2 512 = ((mk b2 512 : Nat) : Int) from mkI_nat b2 512, show mkI b3 16384 = ((mk b3 16384 : Nat) : Int) from mkI_nat b3 16384]
 repeat rw [or_cast]
 all_goals repeat' first | exact mk_lt _ _ (by decide) | apply or_lt
theorem fl_code (h : Nat) (b0 b1 b2 b3 : Bool) (hh : h < 262144) : bits .andNot .i64 (h : Int) (bits .or .i64 (bits .or .i64 (bits .or .i64 (mkI b0 32) (mkI b1 128)) (mkI b2 512)) (mkI b3 16384)) = ((h &&& (18446744073709551615 - (mk b0 32 ||| mk b1 128 ||| mk b2 512 ||| mk b3 16384)) : Nat) : Int) := by
 rw [off_code]
 have : mk b0 32 ||| mk b1 128 ||| mk b2 512 ||| mk b3 16384 < 262144 := by repeat' first | exact mk_lt _ _ (by decide) | apply or_lt
 exact bits_andNot _ _ (by omega) (by omega)
theorem fields_any (p : Pk) (w : World) (hk : KindsAt w) (h1 : 0 ≤ p.kind) (h2 : p.kind ≤ 14) : Calls Tryz.prog 212 #[p.v] w fun e w' => e = .returned (.int .i64 (fl p)) ∧ Below w.heap.size w w' := by
 obtain ⟨kind, level, clean, keep, client, hasWill, wT, wP, wQ, wR, hasUser, user, hasPass, pass, present, code, dup, mT, mP, mQ, mR, id, asks, codes, filters⟩ := p
 obtain ⟨wPa, wPn, wPc⟩ := wP
 obtain ⟨pa, pn, pc⟩ := pass
 obtain ⟨ma, mn, mc⟩ := mP
 obtain ⟨aa, an, ac⟩ := asks
 obtain ⟨ca, cn, cc⟩ := codes
 obtain ⟨fa, fn, fc⟩ := filters
 obtain ⟨i, rfl⟩ : ∃ i : Nat, kind = i := ⟨kind.toNat, by simp only at h1; omega⟩
 have hi : i < 15 := by simp only at h2; omega
 have hi' : (i : Int) < 15 := by omega
 have HK : Hid (KindsAt w) := hk
 have HF : Hid ((form i).2.2 = ((had i : Nat) : Int)) := form_had i hi
 clear h1 h2 hk
 obtain ⟨W, hW⟩ : ∃ W, W = w.alloc (Obj.cells #[.int .i64 (i : Int), .int .i64 level, .bool clean, .int .i64 keep, .string client, .bool hasWill, .string wT, .slice wPa wPn wPc, .int .i64 wQ, .bool wR, .bool hasUser, .string user, .bool hasPass, .slice pa pn pc, .bool present, .int .i64 code, .bool dup, .string mT, .slice ma mn mc, .int .i64 mQ, .bool mR, .int .i64 id, .slice aa an ac, .slice ca cn cc, .slice fa fn fc] 29) := ⟨_, rfl⟩
 have hc : W.cell? ⟨0, i * 3 + 2, none⟩ = some (.int .i64 (form i).2.2) := cell_later (box_below hW) (HK.out i hi).2.2
 have hc' : (w.alloc (Obj.cells #[.int .i64 (i : Int), .int .i64 level, .bool clean, .int .i64 keep, .string client, .bool hasWill, .string wT, .slice wPa wPn wPc, .int .i64 wQ, .bool wR, .bool hasUser, .string user, .bool hasPass, .slice pa pn pc, .bool present, .int .i64 code, .bool dup, .string mT, .slice ma mn mc, .int .i64 mQ, .bool mR, .int .i64 id, .slice aa an ac, .slice ca cn cc, .slice fa fn fc] 29)).cell? ⟨0, i * 3 + 2, none⟩ = some (.int .i64 (form i).2.2) := by rw [← hW]; exact hc
 simp only [Pk.v, Sl.v]
 go_enter Tryz.func212, Tryz.ntmps212
 go_wp2_with fail
 rw [← hW]
 have k0 : ∀ d os, (grow (redrawn W d) os).cell? ⟨w.heap.size, 0, none⟩ = some (.int .i64 (i : Int)) := box_fact hW 0 _ rfl
 have k1 : ∀ d os, (grow (redrawn W d) os).cell? ⟨w.heap.size, 1, none⟩ = some (.int .i64 level) := box_fact hW 1 _ rfl
 have k2 : ∀ d os, (grow (redrawn W d) os).cell? ⟨w.heap.size, 2, none⟩ = some (.bool clean) := box_fact hW 2 _ rfl
 have k3 : ∀ d os, (grow (redrawn W d) os).cell? ⟨w.heap.size, 3, none⟩ = some (.int .i64 keep) := box_fact hW 3 _ rfl
 have k4 : ∀ d os, (grow (redrawn W d) os).cell? ⟨w.heap.size, 4, none⟩ = some (.string client) := box_fact hW 4 _ rfl
 have k5 : ∀ d os, (grow (redrawn W d) os).cell? ⟨w.heap.size, 5, none⟩ = some (.bool hasWill) := box_fact hW 5 _ rfl
 have k6 : ∀ d os, (grow (redrawn W d) os).cell? ⟨w.heap.size, 6, none⟩ = some (.string wT) := box_fact hW 6 _ rfl
 have k7 : ∀ d os, (grow (redrawn W d) os).cell? ⟨w.heap.size, 7, none⟩ = some (.slice wPa wPn wPc) := box_fact hW 7 _ rfl
 have k8 : ∀ d os, (grow (redrawn W d) os).cell? ⟨w.heap.size, 8, none⟩ = some (.int .i64 wQ) := box_fact hW 8 _ rfl
 have k9 : ∀ d os, (grow (redrawn W d) os).cell? ⟨w.heap.size, 9, none⟩ = some (.bool wR) := box_fact hW 9 _ rfl
 have k10 : ∀ d os, (grow (redrawn W d) os).cell? ⟨w.heap.size, 10, none⟩ = some (.bool hasUser) := box_fact hW 10 _ rfl
 have k11 : ∀ d os, (grow (redrawn W d) os).cell? ⟨w.heap.size, 11, none⟩ = some (.string user) := box_fact hW 11 _ rfl
 have k12 : ∀ d os, (grow (redrawn W d) os).cell? ⟨w.heap.size, 12, none⟩ = some (.bool hasPass) := box_fact hW 12 _ rfl
 have k13 : ∀ d os, (grow (redrawn W d) os).cell? ⟨w.heap.size, 13, none⟩ = some (.slice pa pn pc) := box_fact hW 13 _ rfl
 have k14 : ∀ d os, (grow (redrawn W d) os).cell? ⟨w.heap.size, 14, none⟩ = some (.bool present) := box_fact hW 14 _ rfl
 have k15 : ∀ d os, (grow (redrawn W d) os).cell? ⟨w.heap.size, 15, none⟩ = some (.int .i64 code) := box_fact hW 15 _ rfl
 have k16 : ∀ d os, (grow (redrawn W d) os).cell? ⟨w.heap.size, 16, none⟩ = some (.bool dup) := box_fact hW 16 _ rfl
 have k17 : ∀ d os, (grow (redrawn W d) os).cell? ⟨w.heap.size, 17, none⟩ = some (.string mT) := box_fact hW 17 _ rfl
 have k18 : ∀ d os, (grow (redrawn W d) os).cell? ⟨w.heap.size, 18, none⟩ = some (.slice ma mn mc) := box_fact hW 18 _ rfl
 have k19 : ∀ d os, (grow (redrawn W d) os).cell? ⟨w.heap.size, 19, none⟩ = some (.int .i64 mQ) := box_fact hW 19 _ rfl
 have k20 : ∀ d os, (grow (redrawn W d) os).cell? ⟨w.heap.size, 20, none⟩ = some (.bool mR) := box_fact hW 20 _ rfl
 have k21 : ∀ d os, (grow (redrawn W d) os).cell? ⟨w.heap.size, 21, none⟩ = some (.int .i64 id) := box_fact hW 21 _ rfl
 have k22 : ∀ d os, (grow (redrawn W d) os).cell? ⟨w.heap.size, 22, none⟩ = some (.slice aa an ac) := box_fact hW 22 _ rfl
 have k23 : ∀ d os, (grow (redrawn W d) os).cell? ⟨w.heap.size, 23, none⟩ = some (.slice ca cn cc) := box_fact hW 23 _ rfl
 have k24 : ∀ d os, (grow (redrawn W d) os).cell? ⟨w.heap.size, 24, none⟩ = some (.slice fa fn fc) := box_fact hW 24 _ rfl
 have B0 : Hid (Below w.heap.size w W) := box_below hW
 clear hW hc hc'
 by_cases h3 : (i : Int) = 3
 ·
  have h3' : ((i : Int) == 3) = true := by simpa using h3
  refine wp_region_quiet_below (by kernel_rfl) (by kernel_rfl) ?_
  repeat (quiet_step ((go_at_call 219; exact Calls.regrown_of (mark_int _ _ _))))
  refine wpQuiet_nil ?_
  rintro _ ⟨⟨d, os⟩, rfl⟩
  go_wp2
  go_ret
  refine ⟨?_, B0.out.trans ((below_regrown W d os).mono B0.out.size)⟩
  show Ending.returned (Value.int .i64 (bits .andNot .i64 (form i).2.2 (bits .or .i64 (bits .or .i64 (bits .or .i64 (mkI (!hasWill) 32) (mkI (!hasUser) 128)) (mkI (!hasPass) 512)) (mkI (mQ == 0) 16384)))) = _
  rw [HF.out, fl_code _ _ _ _ _ (had_lt i)]
  have e : (decide ((i : Int) = 3) && decide (mQ = 0)) = (mQ == 0) := by rw [decide_eq_true h3]; rfl
  simp only [fl, off, Int.toNat_natCast]
  rw [e]
 ·
  have h3' : ((i : Int) == 3) = false := by simpa using h3
  refine wp_region_quiet_below (by kernel_rfl) (by kernel_rfl) ?_
  repeat (quiet_step ((go_at_call 219; exact Calls.regrown_of (mark_int _ _ _))))
  refine wpQuiet_nil ?_
  rintro _ ⟨⟨d, os⟩, rfl⟩
  go_wp2
  go_ret
  refine ⟨?_, B0.out.trans ((below_regrown W d os).mono B0.out.size)⟩
  show Ending.returned (Value.int .i64 (bits .andNot .i64 (form i).2.2 (bits .or .i64 (bits .or .i64 (bits .or .i64 (mkI (!hasWill) 32) (mkI (!hasUser) 128)) (mkI (!hasPass) 512)) (mkI false 16384)))) = _
  rw [HF.out, fl_code _ _ _ _ _ (had_lt i)]
  have e : (decide ((i : Int) = 3) && decide (mQ = 0)) = false := by rw [decide_eq_false h3]; rfl
  simp only [fl, off, Int.toNat_natCast]
  rw [e]
theorem given_any (p : Pk) (c : Cn) (w : World) (h : In w p c) : Calls Tryz.prog 211 #[p.v] w fun e w' => e = .returned (.int .i64 (gv p)) ∧ Below w.heap.size w w' := by
 obtain ⟨kind, level, clean, keep, client, hasWill, wT, wP, wQ, wR, hasUser, user, hasPass, pass, present, code, dup, mT, mP, mQ, mR, id, asks, codes, filters⟩ := p
 obtain ⟨wPa, wPn, wPc⟩ := wP
 obtain ⟨pa, pn, pc⟩ := pass
 obtain ⟨ma, mn, mc⟩ := mP
 obtain ⟨aa, an, ac⟩ := asks
 obtain ⟨ca, cn, cc⟩ := codes
 obtain ⟨fa, fn, fc⟩ := filters
 have ZW : Hid (∀ w', Below w.heap.size w w' → Calls Tryz.prog 252 #[.agg #[.string wT, .slice wPa wPn wPc, .int .i64 wQ, .bool wR], .agg #[.string ⟨#[]⟩, .slice none 0 0, .int .i64 0, .bool false]] w' fun e w'' => e = .returned (.bool (decide (wT.size = 0) && decide (wQ = 0) && !wR && decide (wPn = 0))) ∧ Below w'.heap.size w' w'') := fun w' hb => zero_msg wT ⟨wPa, wPn, wPc⟩ wQ wR _ w' (h.wP.below hb)
 have ZM : Hid (∀ w', Below w.heap.size w w' → Calls Tryz.prog 252 #[.agg #[.string mT, .slice ma mn mc, .int .i64 mQ, .bool mR], .agg #[.string ⟨#[]⟩, .slice none 0 0, .int .i64 0, .bool false]] w' fun e w'' => e = .returned (.bool (decide (mT.size = 0) && decide (mQ = 0) && !mR && decide (mn = 0))) ∧ Below w'.heap.size w' w'') := fun w' hb => zero_msg mT ⟨ma, mn, mc⟩ mQ mR _ w' (h.mP.below hb)
 clear h
 simp only [Pk.v, Sl.v]
 go_enter Tryz.func211, Tryz.ntmps211
 go_wp2_with fail
 obtain ⟨W, hW⟩ : ∃ W, W = w.alloc (Obj.cells #[.int .i64 kind, .int .i64 level, .bool clean, .int .i64 keep, .string client, .bool hasWill, .string wT, .slice wPa wPn wPc, .int .i64 wQ, .bool wR, .bool hasUser, .string user, .bool hasPass, .slice pa pn pc, .bool present, .int .i64 code, .bool dup, .string mT, .slice ma mn mc, .int .i64 mQ, .bool mR, .int .i64 id, .slice aa an ac, .slice ca cn cc, .slice fa fn fc] 29) := ⟨_, rfl⟩
 rw [← hW]
 have k0 : ∀ d os, (grow (redrawn W d) os).cell? ⟨w.heap.size, 0, none⟩ = some (.int .i64 kind) := box_fact hW 0 _ rfl
 have k1 : ∀ d os, (grow (redrawn W d) os).cell? ⟨w.heap.size, 1, none⟩ = some (.int .i64 level) := box_fact hW 1 _ rfl
 have k2 : ∀ d os, (grow (redrawn W d) os).cell? ⟨w.heap.size, 2, none⟩ = some (.bool clean) := box_fact hW 2 _ rfl
 have k3 : ∀ d os, (grow (redrawn W d) os).cell? ⟨w.heap.size, 3, none⟩ = some (.int .i64 keep) := box_fact hW 3 _ rfl
 have k4 : ∀ d os, (grow (redrawn W d) os).cell? ⟨w.heap.size, 4, none⟩ = some (.string client) := box_fact hW 4 _ rfl
 have k5 : ∀ d os, (grow (redrawn W d) os).cell? ⟨w.heap.size, 5, none⟩ = some (.bool hasWill) := box_fact hW 5 _ rfl
 have k6 : ∀ d os, (grow (redrawn W d) os).cell? ⟨w.heap.size, 6, none⟩ = some (.string wT) := box_fact hW 6 _ rfl
 have k7 : ∀ d os, (grow (redrawn W d) os).cell? ⟨w.heap.size, 7, none⟩ = some (.slice wPa wPn wPc) := box_fact hW 7 _ rfl
 have k8 : ∀ d os, (grow (redrawn W d) os).cell? ⟨w.heap.size, 8, none⟩ = some (.int .i64 wQ) := box_fact hW 8 _ rfl
 have k9 : ∀ d os, (grow (redrawn W d) os).cell? ⟨w.heap.size, 9, none⟩ = some (.bool wR) := box_fact hW 9 _ rfl
 have k10 : ∀ d os, (grow (redrawn W d) os).cell? ⟨w.heap.size, 10, none⟩ = some (.bool hasUser) := box_fact hW 10 _ rfl
 have k11 : ∀ d os, (grow (redrawn W d) os).cell? ⟨w.heap.size, 11, none⟩ = some (.string user) := box_fact hW 11 _ rfl
 have k12 : ∀ d os, (grow (redrawn W d) os).cell? ⟨w.heap.size, 12, none⟩ = some (.bool hasPass) := box_fact hW 12 _ rfl
 have k13 : ∀ d os, (grow (redrawn W d) os).cell? ⟨w.heap.size, 13, none⟩ = some (.slice pa pn pc) := box_fact hW 13 _ rfl
 have k14 : ∀ d os, (grow (redrawn W d) os).cell? ⟨w.heap.size, 14, none⟩ = some (.bool present) := box_fact hW 14 _ rfl
 have k15 : ∀ d os, (grow (redrawn W d) os).cell? ⟨w.heap.size, 15, none⟩ = some (.int .i64 code) := box_fact hW 15 _ rfl
 have k16 : ∀ d os, (grow (redrawn W d) os).cell? ⟨w.heap.size, 16, none⟩ = some (.bool dup) := box_fact hW 16 _ rfl
 have k17 : ∀ d os, (grow (redrawn W d) os).cell? ⟨w.heap.size, 17, none⟩ = some (.string mT) := box_fact hW 17 _ rfl
 have k18 : ∀ d os, (grow (redrawn W d) os).cell? ⟨w.heap.size, 18, none⟩ = some (.slice ma mn mc) := box_fact hW 18 _ rfl
 have k19 : ∀ d os, (grow (redrawn W d) os).cell? ⟨w.heap.size, 19, none⟩ = some (.int .i64 mQ) := box_fact hW 19 _ rfl
 have k20 : ∀ d os, (grow (redrawn W d) os).cell? ⟨w.heap.size, 20, none⟩ = some (.bool mR) := box_fact hW 20 _ rfl
 have k21 : ∀ d os, (grow (redrawn W d) os).cell? ⟨w.heap.size, 21, none⟩ = some (.int .i64 id) := box_fact hW 21 _ rfl
 have k22 : ∀ d os, (grow (redrawn W d) os).cell? ⟨w.heap.size, 22, none⟩ = some (.slice aa an ac) := box_fact hW 22 _ rfl
 have k23 : ∀ d os, (grow (redrawn W d) os).cell? ⟨w.heap.size, 23, none⟩ = some (.slice ca cn cc) := box_fact hW 23 _ rfl
 have k24 : ∀ d os, (grow (redrawn W d) os).cell? ⟨w.heap.size, 24, none⟩ = some (.slice fa fn fc) := box_fact hW 24 _ rfl
 have B0 : Hid (Below w.heap.size w W) := box_below hW
 clear hW
 have ZW' : Hid (∀ d os, Calls Tryz.prog 252 #[.agg #[.string wT, .slice wPa wPn wPc, .int .i64 wQ, .bool wR], .agg #[.string ⟨#[]⟩, .slice none 0 0, .int .i64 0, .bool false]] (grow (redrawn W d) os) fun e w'' => e = .returned (.bool (decide (wT.size = 0) && decide (wQ = 0) && !wR && decide (wPn = 0))) ∧ Below (grow (redrawn W d) os).heap.size (grow (redrawn W d) os) w'') := fun d os => ZW.out _ (B0.out.trans ((below_regrown W d os).mono B0.out.size))
 have ZM' : Hid (∀ d os, Calls Tryz.prog 252 #[.agg #[.string mT, .slice ma mn mc, .int .i64 mQ, .bool mR], .agg #[.string ⟨#[]⟩, .slice none 0 0, .int .i64 0, .bool false]] (grow (redrawn W d) os) fun e w'' => e = .returned (.bool (decide (mT.size = 0) && decide (mQ = 0) && !mR && decide (mn = 0))) ∧ Below (grow (redrawn W d) os).heap.size (grow (redrawn W d) os) w'') := fun d os => ZM.out _ (B0.out.trans ((below_regrown W d os).mono B0.out.size))
 clear ZW ZM
 refine wp_region_quiet_below (by kernel_rfl) lex32 ?_
 repeat (quiet_step (first | (go_at_call 219; exact Calls.regrown_of (mark_int _ _ _)) | (go_at_call 252; first | with_reducible exact Calls.regrown_of (ZW'.out _ _) | with_reducible exact Calls.regrown_of (ZM'.out _ _))))
 refine wpQuiet_nil ?_
 rintro _ ⟨⟨d, os⟩, rfl⟩
 go_wp2
 go_ret
 refine ⟨(congrArg (fun x => Ending.returned (Value.int .i64 x)) (gv_code _ _ _ _ _ _ _ _ _ _ _ _ _ _ _ _ _ _ )).trans ?_, B0.out.trans ((below_regrown W d os).mono B0.out.size)⟩
 clear k0 k1 k2 k3 k4 k5 k6 k7 k8 k9 k10 k11 k12 k13 k14 k15 k16 k17 k18 k19 k20 k21 k22 k23 k24 ZW' ZM' B0
 refine congrArg (fun n : Nat => Ending.returned (Value.int .i64 (n : Int))) ?_
 simp only [gv, isEmpty_size, empty_size, Bool.not_and, Bool.not_not, pos_ne]
set_option maxHeartbeats 400000
def Cb (w : World) (g : Nat) (x : Int) : Prop := w.heap[g]? = some (.cells #[.int .i64 x] 129)
structure Cg (g : Nat) (x : Int) (w w' : World) : Prop where
 os : w'.os = w.os
 tape : w'.tape = w.tape
 output : w'.output = w.output
 size : w.heap.size ≤ w'.heap.size
 keep : ∀ k, k < w.heap.size → k ≠ g → w'.heap[k]? = w.heap[k]?
 blk : Cb w' g x
theorem Cg.trans {g : Nat} {x y : Int} {w w1 w2 : World} (h : Cg g x w w1) (h2 : Cg g y w1 w2) : Cg g y w w2 :=
 ⟨h2.os.trans h.os, h2.tape.trans h.tape, h2.output.trans h.output, Nat.le_trans h.size h2.size, fun k hk hn => (h2.keep k (Nat.lt_of_lt_of_le hk h.size) hn).trans (h.keep k hk hn), h2.blk⟩
theorem Cg.refl {g : Nat} {x : Int} {w : World} (h : Cb w g x) : Cg g x w w := ⟨rfl, rfl, rfl, Nat.le_refl _, fun _ _ _ => rfl, h⟩
theorem Cg.alloc {g : Nat} {x : Int} {w w' : World} (h : Cg g x w w') (o : Obj) : Cg g x w (w'.alloc o) :=
 ⟨h.os, h.tape, h.output, Nat.le_trans h.size (by show w'.heap.size ≤ (w'.heap.push o).size; simp), fun k hk hn => (heap_alloc_old w' o (Nat.lt_of_lt_of_le hk h.size)).trans (h.keep k hk hn), by
  have hg : g < w'.heap.size := by
   rcases Nat.lt_or_ge g w'.heap.size with h1 | h1
   ·
    exact h1
   ·
    have := h.blk; unfold Cb at this; rw [Array.getElem?_eq_none h1] at this; cases this
  exact (heap_alloc_old w' o hg).trans h.blk⟩
theorem Cg.cell {g : Nat} {x : Int} {w w' : World} (h : Cg g x w w') {a : Addr} {v : Value} (ha : w.cell? a = some v) (hn : a.block ≠ g) : w'.cell? a = some v := by
 have hlt := World.block_lt_of_cell? _ _ ha
 unfold World.cell? at ha ⊢
 rw [h.keep a.block hlt hn]
 exact ha
theorem Cb.cell {w : World} {g : Nat} {x : Int} (h : Cb w g x) : w.cell? ⟨g, 0, none⟩ = some (.int .i64 x) := by
 unfold World.cell?
 have : w.heap[g]? = some (.cells #[.int .i64 x] 129) := h
 simp [this]
theorem Cb.frozen {w : World} {g : Nat} {x : Int} (h : Cb w g x) : w.frozen? ⟨g, 0, none⟩ = false := by
 have : w.heap[g]? = some (.cells #[.int .i64 x] 129) := h
 simp [World.frozen?, this]
theorem cg_set {w : World} {g : Nat} {x : Int} (h : Cb w g x) (y : Int) : Cg g y w (w.setCell ⟨g, 0, none⟩ (.int .i64 y)) := by
 refine ⟨rfl, rfl, rfl, ?_, fun k hk hn => heap_setCell_other w _ k _ hn, ?_⟩
 ·
  show w.heap.size ≤ (w.heap.modify g _).size
  simp
 ·
  have := heap_setCell_same w g 0 #[.int .i64 x] 129 (.int .i64 y) h
  exact this
def less (x n : Int) : Int := if 0 ≤ x then x - n else x
theorem add_any (w : World) (g : Nat) (x n : Int) (h : Cb w g x) (h0 : 0 ≤ n) (h1 : n ≤ 9223372036854775807) (h2 : x ≤ 1000000000) (h3 : -9223372036854775807 ≤ x) : Calls Tryz.prog 139 #[.pointer (some ⟨g, 0, none⟩), .int .i64 n] w fun e w' => e = .returned (.bool (decide (0 ≤ less x n))) ∧ Cg g (less x n) w w' := by
 have hc := h.cell
 have hf := h.frozen
 have HB : Hid (Cb w g x) := h
 clear h
 by_cases hx : 0 ≤ x
 ·
  have hw : wrap64 (x - n) = x - n := by unfold wrap64; omega
  have hs := fun y => Cb.cell (cg_set HB.out y).blk
  rw [show less x n = x - n by simp [less, hx]]
  have HW : Hid (Cg g (x - n) w (w.setCell ⟨g, 0, none⟩ (.int .i64 (x - n)))) := cg_set HB.out _
  have HD : Hid (decide (n ≤ x) = decide (0 ≤ x - n)) := decide_eq_decide.2 (by omega)
  go_enter Tryz.func139, Tryz.ntmps139
  go_wp2
  go_ret
  exact ⟨by rw [← HD.out]; rfl, HW.out⟩
 ·
  rw [show less x n = x by simp [less, hx]]
  have HD : Hid (decide (0 ≤ x) = false) := decide_eq_false hx
  go_enter Tryz.func139, Tryz.ntmps139
  go_wp2
  go_ret
  exact ⟨by rw [HD.out]; rfl, Cg.refl HB.out⟩
def St (x : Int) (t : Nat) (y : Int) : Prop := (0 ≤ y → y + t = x) ∧ y ≤ 1000000000 ∧ -9223372036854775807 ≤ y
theorem st_less {x : Int} {n : Nat} (h1 : n ≤ 9223372036854775807) (h2 : x ≤ 1000000000) (h3 : -9223372036854775807 ≤ x) : St x n (less x n) := by
 unfold St less
 by_cases h : 0 ≤ x
 ·
  rw [if_pos h]; refine ⟨fun _ => by omega, by omega, by omega⟩
 ·
  rw [if_neg h]; refine ⟨fun h' => absurd h' h, by omega, by omega⟩
theorem St.trans {x y z : Int} {t u : Nat} (h : St x t y) (h2 : St y u z) : St x (t + u) z := by
 refine ⟨fun hz => ?_, h2.2⟩
 have a := h2.1 hz
 have b := h.1 (by omega)
 omega
theorem ok_any (w : World) (g : Nat) (x : Int) (h : Cb w g x) : Calls Tryz.prog 30 #[.pointer (some ⟨g, 0, none⟩)] w fun e w' => e = .returned (.bool (decide (0 ≤ x))) ∧ w' = w := by
 have hc := h.cell
 clear h
 go_enter Tryz.func30, Tryz.ntmps30
 go_wp2
 go_ret
 exact ⟨rfl, rfl⟩
theorem addN_any (w : World) (g : Nat) (x : Int) (n : Nat) (h : Cb w g x) (h1 : n ≤ 9223372036854775807) (h2 : x ≤ 1000000000) (h3 : -9223372036854775807 ≤ x) : Calls Tryz.prog 139 #[.pointer (some ⟨g, 0, none⟩), .int .i64 (n : Int)] w fun e w' => ∃ y b, e = .returned (.bool b) ∧ Cg g y w w' ∧ St x n y := by
 refine (add_any w g x n h (by omega) (by omega) h2 h3).mono ?_
 rintro e w' ⟨rfl, hc⟩
 exact ⟨_, _, rfl, hc, st_less h1 h2 h3⟩
theorem text_any (w : World) (g : Nat) (x : Int) (s : ByteArray) (h : Cb w g x) (h1 : s.size ≤ 9223372036854775807) (h2 : x ≤ 1000000000) (h3 : -9223372036854775807 ≤ x) : Calls Tryz.prog 136 #[.pointer (some ⟨g, 0, none⟩), .string s] w fun e w' => ∃ y, e = .returned (.tuple #[]) ∧ Cg g y w w' ∧ St x (1 + s.size) y := by
 have HB : Hid (Cb w g x) := h
 clear h
 go_enter Tryz.func136, Tryz.ntmps136
 go_wp2_with fail
 go_must (go_at_call 139)
 refine (addN_any w g x 1 HB.out (by decide) h2 h3).mono ?_
 rintro e w1 ⟨y, b, rfl, hc1, st1⟩
 have C1 : Hid (Cg g y w w1) := hc1
 have S1 : Hid (St x 1 y) := st1
 clear hc1 st1
 go_wp2_with fail
 go_must (go_at_call 139)
 refine (addN_any w1 g y s.size C1.out.blk h1 S1.out.2.1 S1.out.2.2).mono ?_
 rintro e w2 ⟨z, b2, rfl, hc2, st2⟩
 have C2 : Hid (Cg g z w w2) := C1.out.trans hc2
 have S2 : Hid (St x (1 + s.size) z) := S1.out.trans st2
 clear hc2 st2
 go_wp2
 go_end0
 exact ⟨z, rfl, C2.out, S2.out⟩
theorem bytes_any (w : World) (g : Nat) (x : Int) (s : Sl) (h : Cb w g x) (h1 : s.n ≤ 9223372036854775807) (h2 : x ≤ 1000000000) (h3 : -9223372036854775807 ≤ x) : Calls Tryz.prog 102 #[.pointer (some ⟨g, 0, none⟩), .slice s.a s.n s.c] w fun e w' => ∃ y, e = .returned (.tuple #[]) ∧ Cg g y w w' ∧ St x (1 + s.n) y := by
 have HB : Hid (Cb w g x) := h
 clear h
 go_enter Tryz.func102, Tryz.ntmps102
 go_wp2_with fail
 go_must (go_at_call 139)
 refine (addN_any w g x 1 HB.out (by decide) h2 h3).mono ?_
 rintro e w1 ⟨y, b, rfl, hc1, st1⟩
 have C1 : Hid (Cg g y w w1) := hc1
 have S1 : Hid (St x 1 y) := st1
 clear hc1 st1
 go_wp2_with fail
 go_must (go_at_call 139)
 refine (addN_any w1 g y s.n C1.out.blk h1 S1.out.2.1 S1.out.2.2).mono ?_
 rintro e w2 ⟨z, b2, rfl, hc2, st2⟩
 have C2 : Hid (Cg g z w w2) := C1.out.trans hc2
 have S2 : Hid (St x (1 + s.n) z) := S1.out.trans st2
 clear hc2 st2
 go_wp2
 go_end0
 exact ⟨z, rfl, C2.out, S2.out⟩
theorem message_any (w : World) (g : Nat) (x : Int) (t : ByteArray) (s : Sl) (q : Int) (r : Bool) (h : Cb w g x) (h0 : t.size ≤ 9223372036854775807) (h1 : s.n ≤ 9223372036854775807) (h2 : x ≤ 1000000000) (h3 : -9223372036854775807 ≤ x) : Calls Tryz.prog 137 #[.pointer (some ⟨g, 0, none⟩), .agg #[.string t, .slice s.a s.n s.c, .int .i64 q, .bool r]] w fun e w' => ∃ y, e = .returned (.tuple #[]) ∧ Cg g y w w' ∧ St x (1 + t.size + (1 + s.n)) y := by
 have C0 : Hid (Cg g x w (w.alloc (.cells #[.string t, .slice s.a s.n s.c, .int .i64 q, .bool r] 24))) := (Cg.refl h).alloc _
 have hn : Hid (g ≠ w.heap.size) := by
  intro e
  have : w.heap[g]? = some (.cells #[.int .i64 x] 129) := h
  rw [e, Array.getElem?_eq_none (Nat.le_refl _)] at this
  cases this
 clear h
 go_enter Tryz.func137, Tryz.ntmps137
 go_wp2_with fail
 go_must (go_at_call 136)
 refine (text_any _ g x t C0.out.blk h0 h2 h3).mono ?_
 rintro e w1 ⟨y, rfl, hc1, st1⟩
 have q1 := hc1.cell (box_cell w _ _ 1 _ rfl) (fun e => hn.out e.symm)
 have C1 : Hid (Cg g y w w1) := C0.out.trans hc1
 have S1 : Hid (St x (1 + t.size) y) := st1
 clear hc1 st1
 go_wp2_with fail
 go_must (go_at_call 102)
 refine (bytes_any w1 g y s C1.out.blk h1 S1.out.2.1 S1.out.2.2).mono ?_
 rintro e w2 ⟨z, rfl, hc2, st2⟩
 have C2 : Hid (Cg g z w w2) := C1.out.trans hc2
 have S2 : Hid (St x (1 + t.size + (1 + s.n)) z) := S1.out.trans st2
 clear hc2 st2
 go_wp2
 go_end0
 exact ⟨z, rfl, C2.out, S2.out⟩
end Go.Proofs.YtphofgnehdlafaaGreatDoor.Pkt
