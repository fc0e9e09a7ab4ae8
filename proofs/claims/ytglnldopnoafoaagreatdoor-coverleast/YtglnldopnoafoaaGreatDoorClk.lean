import Derived.Test.YtglnldopnoafoaaGreatDoorClj
namespace Go.Proofs.YtglnldopnoafoaaGreatDoor
open Go Go.RowKit
set_option linter.unusedSimpArgs false
set_option linter.unusedVariables false

/-- Where j texts of the list are written already. -/
def mixed (ys : List ByteArray) (j : Nat) : List ByteArray := (ys.reverse.map sl).take j ++ ys.drop j
theorem mixed_zero (ys : List ByteArray) : mixed ys 0 = ys := by simp [mixed]
theorem mixed_all (ys : List ByteArray) : mixed ys ys.length = ys.reverse.map sl := by
  unfold mixed
  rw [List.take_of_length_le (by simp), List.drop_length, List.append_nil]
theorem mixed_len (ys : List ByteArray) {j : Nat} (hj : j ≤ ys.length) : (mixed ys j).length = ys.length := by
  simp [mixed]
  omega
theorem mixed_at {ys : List ByteArray} {j m : Nat} (h : ys.length = j + 1 + m) {y : ByteArray} (hy : ys[m]? = some y) (t : Nat) (x : ByteArray) (ht : (mixed ys (j + 1))[t]? = some x) : (t = j ∧ x = sl y) ∨ (t ≠ j ∧ (mixed ys j)[t]? = some x) := by
  unfold mixed at *
  by_cases h1 : t = j
  · subst h1
    left
    refine ⟨rfl, ?_⟩
    rw [List.getElem?_append_left (by simp; omega), List.getElem?_take_of_lt (by omega), List.getElem?_map, List.getElem?_reverse (by omega)] at ht
    rw [show ys.length - 1 - t = m by omega, hy] at ht
    simpa using ht.symm
  · right
    refine ⟨h1, ?_⟩
    by_cases h2 : t < j
    · rw [List.getElem?_append_left (by simp; omega), List.getElem?_take_of_lt (by omega)] at ht
      rw [List.getElem?_append_left (by simp; omega), List.getElem?_take_of_lt (by omega)]
      exact ht
    · rw [List.getElem?_append_right (by simp; omega)] at ht
      rw [List.getElem?_append_right (by simp; omega)]
      simp at ht ⊢
      rw [show min j ys.length = j by omega, show j + (t - j) = t by omega]
      rw [show min (j + 1) ys.length = j + 1 by omega, show j + 1 + (t - (j + 1)) = t by omega] at ht
      exact ht
set_option maxHeartbeats 200000 in
/-- COVERLEAST, WHOLE. -/
theorem cleast_any {w : World} {al : Option Addr} {n cap : Nat} {z : Nat → ByteArray} (xs : List ByteArray) (hn : n = xs.length) (hz : ∀ j, j < n → xs[j]? = some (z j)) (hR : Row w (.slice al n cap) xs) (hC : Rm.Came w al n cap z) (hm : n ≤ maxLen) (hs : ∀ x ∈ xs, x.size ≤ maxLen) (hT : Tab w) :
    Calls Tryz.prog 3 #[.slice al n cap] w fun e w' => e = .returned (.bool true) ∧ Below w.heap.size w w' := by
  have h1w := hT.lt
  refine cleast_walk _ (K1 := fun c W => Ct W c 20000 ∧ Below w.heap.size w W ∧ w.heap.size ≤ c) (K2 := fun c W => Ct W c (cnt 20000 xs) ∧ Below w.heap.size w W) (K3 := fun b W => b = decide (0 ≤ cnt 20000 xs) ∧ Below w.heap.size w W)
    (fun R gi i W => i ≤ 3 ∧ n ≤ 40 ∧ ∃ ys U V, LS w n R gi i ys U V W ∧ totT ys ≤ 20000 + 80 * (i : Int))
    (fun R gi i a k W => i < 3 ∧ n ≤ 40 ∧ ∃ ys U V, LS w n R gi i ys U V W ∧ LN ys U V w.heap.size a n k W ∧ totT ys ≤ 20000 + 80 * (i : Int))
    (fun R gi i a k W => i < 3 ∧ n ≤ 40 ∧ ∃ ys U V, LS w n R gi (i + 1) ys U V W ∧ LN ys U V w.heap.size a n k W ∧ totT ys ≤ 20000 + 80 * (i : Int))
    (fun R gi i a k sa sn sc W => i < 3 ∧ ∃ ys U V, L2 w n R gi i ys U V a k sa sn sc W ∧ totT ys ≤ 20000 + 80 * (i : Int))
    (fun R gi i a k sa sn sc v W => i < 3 ∧ ∃ ys U V, L2 w n R gi i ys U V a k sa sn sc W ∧ totT ys ≤ 20000 + 80 * (i : Int) ∧ Row W v (lea ys.length ys))
    (fun R gi i a k j W => i < 3 ∧ n ≤ 40 ∧ j ≤ n ∧ ∃ ys U V, LS w n R gi (i + 1) (mixed ys j) U V W ∧ LN ys U V w.heap.size a n k W ∧ totT ys ≤ 20000 + 80 * (i : Int))
    ?_ ?_ ?_ ?_ ?_ ?_ ?_ ?_ ?_ ?_ ?_ ?_ ?_ ?_ ?_ ?_ ?_
  · refine (many_any 20000 w).mono ?_
    rintro e w' ⟨rfl, h1, h2⟩
    exact ⟨_, rfl, h1, h2, Nat.le_refl _⟩
  · rintro c W ⟨h1, h2, h3⟩
    refine (texts_any xs hn h1 (by decide) hR h2 h3 hm hs).mono ?_
    rintro e w' ⟨rfl, q1, q2⟩
    exact ⟨rfl, q1, h2.trans ⟨q2.os, q2.tape, q2.output, q2.size, fun k hk => q2.block k (by have := h2.size; omega) (by omega)⟩⟩
  · rintro c W ⟨h1, h2⟩
    refine (ok_any h1).mono ?_
    rintro e w' ⟨rfl, rfl⟩
    exact ⟨_, rfl, rfl, h2⟩
  · rintro W ⟨_, h⟩
    exact ⟨rfl, h⟩
  · rintro W ⟨_, h⟩ _
    exact ⟨rfl, h⟩
  · rintro W ⟨hb, h⟩ h40
    have hpos : 0 ≤ cnt 20000 xs := of_decide_eq_true hb.symm
    have htot := cnt_le xs _ hpos
    have hsz := h.size
    refine (room_texts (W := W) (z := z) (by omega) (Rm.came_below (B := 0) hC h)).mono ?_
    rintro e w' ⟨gi, rfl, V, r1, r2, r3, r4, r5⟩
    refine ⟨gi, rfl, by omega, by omega, xs, _, V, ⟨h.trans (r4.mono hsz), r2, r1, fun k q v => (r3 k v).2 q, fun k q => ?_, fun j y q => ?_, hn.symm⟩, by omega⟩
    · rcases q with q | q
      · omega
      · have := (r3 k q).1
        omega
    · have hj : j < n := by rw [hn]; exact (List.getElem?_eq_some_iff.1 q).1
      rw [hz j hj] at q
      rw [r5 j hj, Option.some.inj q]
  · rintro R gi i W hi ⟨_, hn3, ys, U, V, h, ht⟩
    have hrow := h.row
    obtain ⟨a, k, w', hr, ho, hb⟩ := nil_run (w := W) 22 (some ⟨gi, 0, none⟩) n (n + 40) (ys.map Value.string) ⟨by omega, by simp [h.ln], .inr ⟨gi, 0, rfl, fun j hj => by
      have hj' : j < ys.length := by rw [h.ln]; exact hj
      rw [Nat.zero_add, h.cl j _ (List.getElem?_eq_getElem hj')]
      simp [hj']⟩⟩ (fun u hu => by obtain ⟨x, _, rfl⟩ := List.mem_map.1 hu; rfl) (by omega)
    refine ⟨a, k, w', hr, hi, hn3, ys, U, V, h.below hb, ⟨own_zero ho, h.ln.symm, fun g q => ?_⟩, ht⟩
    have h1 := ho.lt g q
    have := h.be.size
    exact ⟨fun u => by have := h.bk.lt u; omega, fun v => by have := h.rm.lt v; omega, by omega⟩
  · rintro R gi i a k W ⟨hi, hn3, ys, U, V, h, hl, ht⟩
    refine (least_own ys (by have := h.ln; omega) _ W h.row).mono ?_
    rintro e w' ⟨v', rfl, ho, hb⟩
    obtain ⟨sa, sc, rfl⟩ := own_sl ho
    refine ⟨sa, _, sc, rfl, hi, ys, U, V, ⟨h.below hb, hl.below hb, ⟨own_zero ho, rfl, fun g q => ?_⟩, fun g q q' => ?_, by omega, hn3⟩, ht⟩
    · have h1 := ho.lt g q
      have := h.be.size
      exact ⟨fun u => by have := h.bk.lt u; omega, fun v => by have := h.rm.lt v; omega, by omega⟩
    · have h1 := ho.lt g q
      have h2 := hl.own.lt g q'
      omega
  · rintro R gi i a k sa sn sc W ⟨hi, ys, U, V, h, ht⟩
    refine (rleast_any ys _ W h.ln.row (by have := h.ls.ln; have := h.nn; omega)).mono ?_
    rintro e w' ⟨v', rfl, ho, hb⟩
    exact ⟨v', rfl, hi, ys, U, V, h.below hb, ht, row_of ho⟩
  · rintro R gi i a k sa sn sc v W ⟨hi, ys, U, V, h, ht, hv⟩
    refine (lsame_any (lea ys.length ys) _ v W h.l2.row hv (by have := lea_len ys.length ys; have := h.ls.ln; have := h.nn; omega)).mono ?_
    rintro e w' ⟨rfl, hb⟩
    exact ⟨rfl, hi, ys, U, V, h.below hb, ht⟩
  · rintro R gi i a k sa sn sc W ⟨hi, ys, U, V, h, ht⟩
    refine (lsame_any ys _ _ W h.ls.row h.ln.row (by have := h.ls.ln; have := h.nn; omega)).mono ?_
    rintro e w' ⟨rfl, hb⟩
    exact ⟨rfl, hi, ys, U, V, h.below hb, ht⟩
  · rintro R gi i a k sa sn sc W ⟨hi, ys, U, V, h, ht⟩
    have hnn := h.nn
    have hsn : sn ≤ 40 := by have h1 := h.l2.len; have h2 := lea_len ys.length ys; have h3 := h.ls.ln; omega
    have hTW : Tab W := hT.keep (h.ls.be.block 1 h1w)
    have hsz := h.ls.be.size
    refine (bk_step h.ls.bk (by omega) sa sn sc _ (100 * (i : Int) + 1) h.l2.own (fun u hu => ?_) (by omega) (fun g q => (h.l2.off g q).1) (its_of hTW ?_)).mono ?_
    · obtain ⟨x, _, rfl⟩ := List.mem_map.1 hu
      exact ⟨x, rfl, trivial, trivial⟩
    · rintro (q | q)
      · have := h.ls.lo 1 (.inl q)
        omega
      · have := (h.l2.off 1 q).2.2
        omega
    · rintro e w' ⟨rfl, U', hbk, hch, hun⟩
      have kV : ∀ k', V k' → w'.heap[k']? = W.heap[k']? := fun k' q => hch.block k' (h.ls.rm.lt q) (fun x => x.elim (fun u => h.ls.uv k' u q) (fun e => (h.l2.off k' e).2.1 q))
      refine ⟨rfl, hi, hnn, ys, U', V, ⟨⟨hch.os.trans h.ls.be.os, hch.tape.trans h.ls.be.tape, hch.output.trans h.ls.be.output, Nat.le_trans hsz hch.size, fun j hj => (hch.block j (by omega) (fun x => x.elim (fun u => by have := h.ls.lo j (.inl u); omega) (fun e => by have := (h.l2.off j e).2.2; omega))).trans (h.ls.be.block j hj)⟩, hbk, h.ls.rm.same kV, fun k' u v => ?_, fun k' q => ?_, fun j y q => (cell_same (kV gi h.ls.rm.in_)).trans (h.ls.cl j y q), h.ls.ln⟩, ⟨own_keep h.ln.own (fun k' q => hch.block k' ((h.ln.own.lt k' q).2) (fun x => x.elim (fun u => (h.ln.off k' q).1 u) (fun e => h.ne k' e q))), h.ln.len, fun g q => ⟨fun u => ?_, (h.ln.off g q).2⟩⟩, ht⟩
      · rcases hun k' u with (q | q) | q
        · exact h.ls.uv k' q v
        · exact (h.l2.off k' q).2.1 v
        · have := h.ls.rm.lt v
          omega
      · rcases q with q | q
        · rcases hun k' q with (q | q) | q
          · exact h.ls.lo k' (.inl q)
          · exact (h.l2.off k' q).2.2
          · omega
        · exact h.ls.lo k' (.inr q)
      · rcases hun g u with (q' | q') | q'
        · exact (h.ln.off g q).1 q'
        · exact h.ne g q' q
        · have := (h.ln.own.lt g q).2
          omega
  · rintro R gi i a k W ⟨hi, hn3, ys, U, V, h, hl, ht⟩
    refine (bk_hold h.bk (by omega)).mono ?_
    rintro e w' ⟨rfl, hb⟩
    exact ⟨rfl, hi, hn3, Nat.zero_le _, ys, U, V, by rw [mixed_zero]; exact h.below hb, hl.below hb, ht⟩
  · rintro R gi a k W ⟨hi, hn3, _, ys, U, V, h, hl, ht⟩
    rw [mixed_zero] at h
    exact ⟨by omega, hn3, ys, U, V, h, by omega⟩
  · rintro R gi i a k j m W hi0 hjm ⟨hi, hn3, _, ys, U, V, h, hl, ht⟩
    have hlen : ys.length = j + 1 + m := by have := hl.len; omega
    obtain ⟨y, hy⟩ : ∃ y, ys[m]? = some y := ⟨_, List.getElem?_eq_getElem (by omega)⟩
    obtain ⟨old, hold⟩ : ∃ y, (mixed ys j)[j]? = some y := ⟨_, List.getElem?_eq_getElem (by rw [mixed_len ys (by omega)]; omega)⟩
    have hrow := hl.row
    obtain ⟨gn, on, ea, ce⟩ := hrow.cell (i := m) (by omega)
    have hym : ys[m] = y := by rw [List.getElem?_eq_getElem (by omega)] at hy; exact Option.some.inj hy
    rw [hym] at ce
    obtain ⟨c, hc⟩ := h.rm.list
    have hgV := h.rm.in_
    have hk : n ≤ k := by
      obtain ⟨a', n', c', e, _, q, _⟩ := hrow
      injection e with _ e2 e3
      omega
    refine ⟨gn, on, y, old, ea, hk, by have := totT_mem ys y (List.mem_of_getElem? hy); omega, ce, h.cl j old hold, by simp [World.frozen?, hc], hi, hn3, by omega, ys, U, V, ⟨h.be.setCell (h.lo gi (.inr hgV)) _, h.bk.keep (fun k' q => Below.heap_setCell _ _ _ _ (fun e => h.uv k' q (e ▸ hgV))), h.rm.write (by omega) _, h.uv, h.lo, fun t x q => ?_, by rw [mixed_len ys (by omega)]; omega⟩, ⟨ownsRow_setCell_other hl.own (fun q => (hl.off gi q).2.1 hgV) _, hl.len, hl.off⟩, ht⟩
    rcases mixed_at hlen hy t x q with ⟨rfl, rfl⟩ | ⟨hne, q'⟩
    · exact World.cell?_setCell_same _ _ _ (h.cl t old hold)
    · rw [World.cell?_setCell_other W _ _ _ (fun e => hne (by have := congrArg Addr.off e; simp at this; omega))]
      exact h.cl t x q'
  · rintro R gi i a k W hi0 ⟨hi, hn3, _, ys, U, V, h, hl, ht⟩
    have hlen := hl.len
    rw [hlen, mixed_all] at h
    refine ⟨by omega, hn3, ys.reverse.map sl, U, V, by rw [hlen]; exact h, ?_⟩
    rw [totT_sl, totT_rev]
    simp
    omega
  · rintro R gi W ⟨_, _, ys, U, V, h, _⟩
    refine (h.rm.hold).mono ?_
    rintro e w' ⟨rfl, rfl⟩
    exact ⟨rfl, rfl, h.be⟩
end Go.Proofs.YtglnldopnoafoaaGreatDoor
