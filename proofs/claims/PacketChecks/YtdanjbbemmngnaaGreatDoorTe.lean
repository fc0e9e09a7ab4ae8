import Derived.Test.YtdanjbbemmngnaaGreatDoorTc
import Derived.Deep.LoopGhost
namespace Go.Proofs.YtdanjbbemmngnaaGreatDoor
open Go Go.RowKit
set_option linter.unusedSimpArgs false
set_option linter.unusedVariables false

/-- The first sign among the runes from a place on; 0: none. -/
def fsF (s : ByteArray) : Nat → Nat → Nat
  | 0, _ => 0
  | b + 1, k => if k < s.size then (if (Utf8.decode s k).1 = 43 ∨ (Utf8.decode s k).1 = 35 then (Utf8.decode s k).1 else fsF s b (k + (Utf8.decode s k).2)) else 0
theorem fsF_end (s : ByteArray) (b k : Nat) (h : ¬ k < s.size) : fsF s b k = 0 := by
  cases b with
  | zero => rfl
  | succ b => simp [fsF, h]
theorem fsF_hit (s : ByteArray) (b k r n : Nat) (h : k < s.size) (hb : s.size ≤ k + b) (hd : Utf8.decode s k = (r, n)) (hr : r = 43 ∨ r = 35) : fsF s b k = r := by
  cases b with
  | zero => omega
  | succ b => simp only [fsF, h, if_true, hd, hr]
theorem fsF_step (s : ByteArray) (b k r n : Nat) (h : k < s.size) (hb : s.size ≤ k + b) (hd : Utf8.decode s k = (r, n)) (hn : 1 ≤ n) (hr : ¬ (r = 43 ∨ r = 35)) : ∃ b', fsF s b k = fsF s b' (k + n) ∧ s.size ≤ k + n + b' := by
  cases b with
  | zero => omega
  | succ b => exact ⟨b, by simp only [fsF, h, if_true, hd, hr, if_false], by omega⟩
def fs (s : ByteArray) : Nat := fsF s s.size 0
/-- Does a sign stand in a level where none may? -/
def lvBad (lv : ByteArray) (more : Bool) : Bool := decide (fs lv ≠ 0) && (decide (1 < lv.size) || (decide (fs lv = 35) && more))
def cutS (s : ByteArray) : List UInt8 × List UInt8 × Bool := Lib.cut s.data.toList (⟨#[47]⟩ : ByteArray).data.toList
/-- Does a sign stand where none may, in so many levels at most? -/
def mispF : Nat → ByteArray → Bool
  | 0, _ => false
  | b + 1, s => if lvBad ⟨(cutS s).1.toArray⟩ (cutS s).2.2 then true else if (cutS s).2.2 then mispF b ⟨(cutS s).2.1.toArray⟩ else false
def misp (s : ByteArray) : Bool := mispF (s.size + 1) s
theorem cutS_less (s : ByteArray) (h : (cutS s).2.2 = true) : (⟨(cutS s).2.1.toArray⟩ : ByteArray).size < s.size := by
  unfold cutS Lib.cut at h ⊢
  by_cases h0 : 0 ≤ Lib.index s.data.toList (⟨#[47]⟩ : ByteArray).data.toList
  · simp only [h0, if_true, ByteArray.size]
    have : s.data.toList ≠ [] := by
      intro e
      rw [e] at h0
      revert h0
      decide
    have hl : 0 < s.data.toList.length := List.length_pos_iff.2 this
    simp at hl ⊢
    omega
  · simp [h0] at h
theorem cutS_le (s : ByteArray) : (⟨(cutS s).2.1.toArray⟩ : ByteArray).size ≤ s.size ∧ (⟨(cutS s).1.toArray⟩ : ByteArray).size ≤ s.size := by
  unfold cutS Lib.cut
  by_cases h0 : 0 ≤ Lib.index s.data.toList (⟨#[47]⟩ : ByteArray).data.toList
  · simp only [h0, if_true, ByteArray.size]
    simp
    omega
  · simp only [h0, if_false, ByteArray.size]
    simp

set_option maxRecDepth 1000000 in
set_option maxHeartbeats 1000000 in
theorem misplaced_any (s : ByteArray) (w : World) (hs : s.size ≤ 65535) (m : Int) (hm : w.cell? ⟨1, 0, none⟩ = some (.int .i64 m)) : Calls Tryz.prog 185 #[.string s] w fun e w' => e = .returned (.bool (misp s)) ∧ Below w.heap.size w w' := by
  have HM : Hid (w.cell? ⟨1, 0, none⟩ = some (.int .i64 m)) := hm
  clear hm
  go_enter Tryz.func185, Tryz.ntmps185
  go_wp2
  go_step3
  go_wp2
  go_step3
  go_wp2
  go_loopg [3, 4] (s.size + 1) (fun g s3 s4 wx => ∃ (rest : ByteArray) (more : Bool) (b : Nat), s3 = .string rest ∧ s4 = .bool more ∧ Hid (Below w.heap.size w wx) ∧ Hid (misp s = (if more then mispF b rest else false)) ∧ Hid ((more = true → rest.size < b) ∧ rest.size ≤ 65535) ∧ Hid (more = true → rest.size + 1 ≤ g))
  case atStart => exact ⟨s, true, s.size + 1, rfl, rfl, Below.refl _ _, rfl, ⟨fun _ => by omega, hs⟩, fun _ => Nat.le_refl _⟩
  case round =>
    obtain ⟨rest, more, b, rfl, rfl, B, HE, HR, HG⟩ := hrel
    cases more with
    | false =>
      go_wp2
      try rw [Exit.noGoto_ret]
      go_ret
      exact ⟨by rw [HE.out]; rfl, B.out⟩
    | true =>
      have hcut := Tryz.strings_Cut rest ⟨#[47]⟩ m wr (by have := HR.out.2; omega) (cell_later B.out HM.out)
      have HC : Hid (∀ Q, (∀ e w', (e = .returned (.tuple #[.string ⟨(cutS rest).1.toArray⟩, .string ⟨(cutS rest).2.1.toArray⟩, .bool (cutS rest).2.2]) ∧ ∃ n, w' = wr.drewN n) → Q e w') → Calls Tryz.prog 190 #[.string rest, .string ⟨#[47]⟩] wr Q) := fun Q h => hcut.mono h
      clear hcut
      obtain ⟨lv, hlv⟩ : ∃ lv : ByteArray, lv = ⟨(cutS rest).1.toArray⟩ := ⟨_, rfl⟩
      obtain ⟨r2, hr2⟩ : ∃ r2 : ByteArray, r2 = ⟨(cutS rest).2.1.toArray⟩ := ⟨_, rfl⟩
      obtain ⟨m2, hm2⟩ : ∃ m2 : Bool, m2 = (cutS rest).2.2 := ⟨_, rfl⟩
      have HL : Hid (r2.size ≤ rest.size ∧ (m2 = true → r2.size < rest.size)) := ⟨by rw [hr2]; exact (cutS_le rest).1, fun h => by rw [hr2]; exact cutS_less rest (hm2.symm.trans h)⟩
      have HS : Hid (∀ b', b = b' + 1 → misp s = (if lvBad lv m2 then true else if m2 then mispF b' r2 else false)) := fun b' e => by rw [HE.out, e, hlv, hr2, hm2]; rfl
      rw [← hlv, ← hr2, ← hm2] at HC
      clear hlv hr2 hm2 HE
      go_wp2_with (go_at_call 190; refine HC.out _ ?_; rintro e w1 ⟨rfl, n1, rfl⟩)
      obtain ⟨g, hgk⟩ : ∃ g, gk = g + 1 := ⟨gk - 1, by have := HG.out trivial; omega⟩
      obtain ⟨b', hb'⟩ : ∃ b', b = b' + 1 := ⟨b - 1, by have := HR.out.1 trivial; omega⟩
      have HS' : Hid (misp s = (if lvBad lv m2 then true else if m2 then mispF b' r2 else false)) := HS.out b' hb'
      have HN : Hid (lvBad lv m2 = false → misp s = (if m2 then mispF b' r2 else false)) := fun h => by rw [HS'.out, h]; rfl
      have HN2 : Hid (lvBad lv m2 = true → misp s = true) := fun h => by rw [HS'.out, h]; rfl
      have HO2 : Hid ((m2 = true → r2.size < b') ∧ r2.size ≤ 65535) := ⟨fun h => by have h1 := HL.out.2 h; have h2 := HR.out.1 trivial; omega, by have h1 := HL.out.1; have h2 := HR.out.2; omega⟩
      have HQ : Hid (m2 = true → r2.size + 1 ≤ g) := fun h => by have h1 := HL.out.2 h; have h2 := HG.out trivial; omega
      obtain ⟨w0, hw0⟩ : ∃ w0, w0 = wr := ⟨_, rfl⟩
      have BI : Hid (Below w.heap.size w ((wr.drewN n1).iter lv 0)) := (below_drewN B.out n1).trans ((below_iter (wr.drewN n1) lv 0).mono B.out.size)
      have BH : Hid (w.heap.size ≤ w0.heap.size) := by show w.heap.size ≤ w0.heap.size; rw [hw0]; exact B.out.size
      have II : Hid (((wr.drewN n1).iter lv 0).heap[w0.heap.size]? = some (.stringIter lv 0)) := by show _ = _; rw [hw0]; exact World.iter_heap (wr.drewN n1) lv 0
      rw [← hw0]
      rw [← hw0] at BI II
      clear hw0 HC B HS HS' HL HR HG
      go_loopg [7] lv.size (fun g2 s7 wy => ∃ (k b2 : Nat), Hid (Below w.heap.size w wy) ∧ Hid (wy.heap[w0.heap.size]? = some (.stringIter lv k)) ∧ Hid (fs lv = fsF lv b2 k) ∧ lv.size ≤ k + b2 ∧ lv.size ≤ k + g2)
      case atStart => exact ⟨0, lv.size, BI, II, rfl, by omega, by omega⟩
      case round =>
        obtain ⟨k, b2, B, hit, hf, hk1, hk2⟩ := hrel
        by_cases hlt : k < lv.size
        · obtain ⟨r, n, hd⟩ : ∃ r n, Utf8.decode lv k = (r, n) := ⟨_, _, rfl⟩
          have hn : 1 ≤ n := by have := width_pos lv k; rw [hd] at this; exact this
          have hnx := fun ty => next_at hit.out ty hlt r n hd
          have hit2 := setIt_heap (k' := k + n) hit.out
          have B2 := setIt_below B.out w0.heap.size BH.out lv (k + n)
          generalize setIt wr w0.heap.size lv (k + n) = w2 at *
          have HB2 : Hid (Below w.heap.size w w2) := B2
          have HI2 : Hid (w2.heap[w0.heap.size]? = some (.stringIter lv (k + n))) := hit2
          clear B2 hit2
          by_cases hr : r = 43 ∨ r = 35
          · have hfs : fs lv = r := hf.out.trans (fsF_hit lv b2 k r n hlt hk1 hd hr)
            by_cases h1 : 1 < lv.size
            · have HT : Hid (misp s = true) := HN2.out (by
                have : fs lv ≠ 0 := by omega
                simp [lvBad, this, h1])
              have h1' : (1 : Int) < lv.size := by omega
              rcases hr with rfl | rfl
              ·
                clear hd hfs
                go_wp2
                try rw [Exit.noGoto_ret]
                go_ret
                exact ⟨by rw [HT.out]; rfl, HB2.out⟩
              ·
                clear hd hfs
                go_wp2
                try rw [Exit.noGoto_ret]
                go_ret
                exact ⟨by rw [HT.out]; rfl, HB2.out⟩
            · have h1' : ¬ (1 : Int) < lv.size := by omega
              rcases hr with rfl | rfl
              · have HF : Hid (lvBad lv m2 = false) := by
                  show lvBad lv m2 = false
                  simp [lvBad, hfs, h1]
                clear hd hfs
                go_wp2
                go_roundg g
                case measure => omega
                case rel => exact ⟨r2, m2, b', rfl, rfl, HB2, HN.out HF.out, HO2, HQ⟩
              · cases m2 with
                | true =>
                  have HT : Hid (misp s = true) := HN2.out (by simp [lvBad, hfs])
                  clear hd hfs
                  go_wp2
                  try rw [Exit.noGoto_ret]
                  go_ret
                  exact ⟨by rw [HT.out]; rfl, HB2.out⟩
                | false =>
                  have HF : Hid (lvBad lv false = false) := by
                    show lvBad lv false = false
                    simp [lvBad, h1]
                  clear hd hfs
                  go_wp2
                  go_roundg g
                  case measure => omega
                  case rel => exact ⟨r2, false, b', rfl, rfl, HB2, HN.out HF.out, HO2, HQ⟩
          · obtain ⟨b3, e1, e2⟩ := fsF_step lv b2 k r n hlt hk1 hd hn hr
            have HS : Hid (fs lv = fsF lv b3 (k + n)) := hf.out.trans e1
            have q1 : ((r : Int) != 43) = true := by have : ¬ r = 43 := fun h => hr (.inl h); simp; omega
            have q2 : ((r : Int) != 35) = true := by have : ¬ r = 35 := fun h => hr (.inr h); simp; omega
            obtain ⟨g2, hg2⟩ : ∃ g2, gk = g2 + 1 := ⟨gk - 1, by omega⟩
            clear hd hr hf e1
            go_wp2
            go_roundg g2
            case measure => omega
            case rel => exact ⟨k + n, b3, HB2, HI2, HS, e2, by omega⟩
        · have hnx := fun ty => next_end hit.out ty hlt
          have HF : Hid (lvBad lv m2 = false) := by
            have : fs lv = 0 := hf.out.trans (fsF_end lv b2 k hlt)
            show lvBad lv m2 = false
            simp [lvBad, this]
          go_wp2
          go_roundg g
          case measure => omega
          case rel => exact ⟨r2, m2, b', rfl, rfl, B, HN.out HF.out, HO2, HQ⟩
end Go.Proofs.YtdanjbbemmngnaaGreatDoor
namespace Go.Proofs.YtdanjbbemmngnaaGreatDoor
open Go Go.RowKit
set_option linter.unusedSimpArgs false
set_option linter.unusedVariables false

/-- What topic.Check and topic.CheckFilter tell. -/
def tcode (s : ByteArray) : Int := if ct s = 0 then (if sgn s then 52 else 0) else ct s
def fcode (s : ByteArray) : Int := if ct s = 0 then (if misp s then 52 else 0) else ct s
def flt (s : ByteArray) : Bool := fcode s == 0
def topb (s : ByteArray) : Bool := tcode s == 0
theorem ct_zero {s : ByteArray} (hc : ct s = 0) : s.size ≤ 65535 := by
  unfold ct at hc
  by_cases h0 : s.size = 0
  · omega
  · cases h : txt s with
    | true => exact txt_size h
    | false => simp [h0, h] at hc
theorem tcheck_any (s : ByteArray) (w : World) : Calls Tryz.prog 103 #[.string s] w fun e w' => e = .returned (.int .i64 (tcode s)) ∧ Below w.heap.size w w' := by
  by_cases hc : ct s = 0
  · have hs := ct_zero hc
    cases hg : sgn s with
    | true =>
      rw [show tcode s = 52 by simp [tcode, hc, hg]]
      go_enter Tryz.func103, Tryz.ntmps103
      go_wp2_with (go_at_call 142; refine (checkText_any s _).mono ?_; rintro e w1 ⟨rfl, hb⟩; have B1 : Hid (Below w.heap.size w w1) := hb; clear hb; rw [hc])
      go_must (go_at_call 143)
      refine (containsAny_any s hs _).mono ?_
      rintro e w2 ⟨rfl, hb⟩
      have B2 : Hid (Below w.heap.size w w2) := B1.out.trans (hb.mono B1.out.size)
      clear hb
      rw [hg]
      go_wp2
      go_ret
      exact ⟨rfl, B2.out⟩
    | false =>
      rw [show tcode s = 0 by simp [tcode, hc, hg]]
      go_enter Tryz.func103, Tryz.ntmps103
      go_wp2_with (go_at_call 142; refine (checkText_any s _).mono ?_; rintro e w1 ⟨rfl, hb⟩; have B1 : Hid (Below w.heap.size w w1) := hb; clear hb; rw [hc])
      go_must (go_at_call 143)
      refine (containsAny_any s hs _).mono ?_
      rintro e w2 ⟨rfl, hb⟩
      have B2 : Hid (Below w.heap.size w w2) := B1.out.trans (hb.mono B1.out.size)
      clear hb
      rw [hg]
      go_wp2
      go_ret
      exact ⟨rfl, B2.out⟩
  · have hc' : (ct s != 0) = true := by simpa using hc
    rw [show tcode s = ct s by simp [tcode, hc]]
    go_enter Tryz.func103, Tryz.ntmps103
    go_wp2_with (go_at_call 142; refine (checkText_any s _).mono ?_; rintro e w1 ⟨rfl, hb⟩; have B1 : Hid (Below w.heap.size w w1) := hb; clear hb)
    go_ret
    exact ⟨rfl, B1.out⟩
theorem fcheck_any (s : ByteArray) (w : World) (m : Int) (HM : Hid (w.cell? ⟨1, 0, none⟩ = some (.int .i64 m))) : Calls Tryz.prog 137 #[.string s] w fun e w' => e = .returned (.int .i64 (fcode s)) ∧ Below w.heap.size w w' := by
  by_cases hc : ct s = 0
  · have hs := ct_zero hc
    cases hg : misp s with
    | true =>
      rw [show fcode s = 52 by simp [fcode, hc, hg]]
      go_enter Tryz.func137, Tryz.ntmps137
      go_wp2_with (go_at_call 142; refine (checkText_any s _).mono ?_; rintro e w1 ⟨rfl, hb⟩; have B1 : Hid (Below w.heap.size w w1) := hb; clear hb; rw [hc])
      go_must (go_at_call 185)
      refine (misplaced_any s _ hs m (cell_later B1.out HM.out)).mono ?_
      rintro e w2 ⟨rfl, hb⟩
      have B2 : Hid (Below w.heap.size w w2) := B1.out.trans (hb.mono B1.out.size)
      clear hb
      rw [hg]
      go_wp2
      go_ret
      exact ⟨rfl, B2.out⟩
    | false =>
      rw [show fcode s = 0 by simp [fcode, hc, hg]]
      go_enter Tryz.func137, Tryz.ntmps137
      go_wp2_with (go_at_call 142; refine (checkText_any s _).mono ?_; rintro e w1 ⟨rfl, hb⟩; have B1 : Hid (Below w.heap.size w w1) := hb; clear hb; rw [hc])
      go_must (go_at_call 185)
      refine (misplaced_any s _ hs m (cell_later B1.out HM.out)).mono ?_
      rintro e w2 ⟨rfl, hb⟩
      have B2 : Hid (Below w.heap.size w w2) := B1.out.trans (hb.mono B1.out.size)
      clear hb
      rw [hg]
      go_wp2
      go_ret
      exact ⟨rfl, B2.out⟩
  · have hc' : (ct s != 0) = true := by simpa using hc
    rw [show fcode s = ct s by simp [fcode, hc]]
    go_enter Tryz.func137, Tryz.ntmps137
    go_wp2_with (go_at_call 142; refine (checkText_any s _).mono ?_; rintro e w1 ⟨rfl, hb⟩; have B1 : Hid (Below w.heap.size w w1) := hb; clear hb)
    go_ret
    exact ⟨rfl, B1.out⟩
/-- What is told of texts, all of it. -/
def TT : Tx := ⟨txt, topb, flt⟩
end Go.Proofs.YtdanjbbemmngnaaGreatDoor
