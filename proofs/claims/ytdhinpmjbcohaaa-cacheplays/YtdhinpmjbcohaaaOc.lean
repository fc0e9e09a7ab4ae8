import Derived.Test.YtdhinpmjbcohaaaOb
import Derived.Deep.LoopGhost
namespace Go.Proofs.Ytdhinpmjbcohaaa
open Go Go.RowKit
set_option linter.unusedSimpArgs false
set_option linter.unusedVariables false
open Ki

/-- The uses in memory, as they are read. -/
def UsR (w : World) (a : Option Addr) (U : List (Ky × Int)) : Prop := U ≠ [] → ∃ g, a = some ⟨g, 0, none⟩ ∧ ∀ j p, U[j]? = some p → w.cell? ⟨g, j * 3, none⟩ = some (.string p.1.1) ∧ w.cell? ⟨g, j * 3 + 1, none⟩ = some (.int .i64 p.1.2)
theorem cell_below {B : Nat} {w w' : World} (h : Below B w w') {a : Addr} {v : Value} (ha : a.block < B) (hc : w.cell? a = some v) : w'.cell? a = some v := by
  unfold World.cell? at hc ⊢
  rw [h.block _ ha]
  exact hc
theorem cell_lt' {w : World} {a : Addr} {v : Value} (h : w.cell? a = some v) : a.block < w.heap.size := by
  unfold World.cell? at h
  rcases hb : w.heap[a.block]? with _ | ob
  · simp [hb] at h
  · exact (Array.getElem?_eq_some_iff.1 hb).1

set_option maxRecDepth 100000 in
set_option maxHeartbeats 4000000 in
/-- How many other keys were used since. -/
theorem others_any {a : Option Addr} {c : Nat} (n : Nat) (U : List (Ky × Int)) (k : Ky) (w : World) (hn : n = U.length) (hl : n ≤ 600) (hc : n ≤ c) (hU : UsR w a U) (hk : okK k) (hok : ∀ p ∈ U, okK p.1) :
    Calls Try.prog 16 #[.slice a n c, kc k] w fun r w' => (∃ s, r = .returned (.int .i64 (dc s : Nat)) ∧ Since (U.map (·.1)) k s) ∧ Below w.heap.size w w' := by
  obtain ⟨ka, ki⟩ := k
  have HN : Hid (n = U.length ∧ n ≤ 600 ∧ n ≤ c) := ⟨hn, hl, hc⟩
  have HU : Hid (∀ w', Below w.heap.size w w' → UsR w' a U) := fun w' hb hne => by
    obtain ⟨g, h1, h2⟩ := hU hne
    refine ⟨g, h1, fun j p hp => ?_⟩
    obtain ⟨h3, h4⟩ := h2 j p hp
    exact ⟨cell_below hb (cell_lt' h3) h3, cell_below hb (cell_lt' h4) h4⟩
  have HK : Hid (okK (ka, ki)) := hk
  have HO : Hid (∀ p ∈ U, okK p.1) := hok
  have hmm := @run_makeMap Try.prog
  have hw0 : IntKind.i64.wrap ((n : Int) - 1) = (n : Int) - 1 := by rw [IntKind.wrap_i64]; omega
  obtain ⟨W, hW⟩ : ∃ W, W = (w.alloc (.cells #[.string ka, .int .i64 ki] 31)).alloc (.map #[] 0) := ⟨_, rfl⟩
  have S0 : Hid (SM W (w.heap.size + 1) [] ∧ Below w.heap.size w W ∧ W.heap[w.heap.size]? = some (.cells #[.string ka, .int .i64 ki] 31 (0, 0))) := by
    rw [hW]
    refine ⟨?_, ((Below.refl _ _).alloc (Nat.le_refl _) _).alloc (by simp) _, ?_⟩
    · have := SM.made (w.alloc (.cells #[.string ka, .int .i64 ki] 31))
      simpa using this
    · rw [(World.grownBy_alloc _ _ none).block _ (by simp) (by simp)]
      exact (MapKept.heap_alloc _ _).1
  clear hn hl hc hU hk hok
  unfold kc
  go_enter Try.func16, Try.ntmps16
  go_wp2_with fail
  rw [← hW]
  have HW : Hid (W = (w.alloc (.cells #[.string ka, .int .i64 ki] 31)).alloc (.map #[] 0)) := hW
  clear hW
  go_loopg [6] n (fun gk s6 wx => ∃ i : Int, i = (gk : Int) - 1 ∧ s6 = .int .i64 i ∧ gk ≤ n ∧ Hid (SM wx (w.heap.size + 1) ((U.drop gk).map (·.1)) ∧ Below w.heap.size w wx ∧ wx.heap[w.heap.size]? = some (.cells #[.string ka, .int .i64 ki] 31 (0, 0)) ∧ (ka, ki) ∉ (U.drop gk).map (·.1)))
  case atStart =>
    refine ⟨_, rfl, rfl, Nat.le_refl _, ?_⟩
    have := HN.out.1
    rw [List.drop_of_length_le (by omega)]
    exact ⟨S0.out.1, S0.out.2.1, S0.out.2.2, by simp⟩
  case round =>
    obtain ⟨i, hi, rfl, hg, HH⟩ := hrel
    cases gk with
    | zero =>
      obtain rfl : i = -1 := by omega
      clear hi
      have hz : ¬ (0 : Int) ≤ -1 := by omega
      have hl3 := HH.out.1.len 3
      have BB : Hid (Below w.heap.size w wr) := HH.out.2.1
      go_wp2_with fail
      go_ret
      refine ⟨⟨_, rfl, ?_⟩, BB.out⟩
      exact ⟨HH.out.2.2.2, .inl (by simp)⟩
    | succ j =>
      obtain rfl : i = (j : Int) := by omega
      clear hi
      obtain ⟨p, hp⟩ : ∃ p, U[j]? = some p := ⟨_, List.getElem?_eq_getElem (by have := HN.out; omega)⟩
      have hne : U ≠ [] := by intro h; rw [h] at hp; simp at hp
      obtain ⟨g, rfl, hcell⟩ := HU.out wr HH.out.2.1 hne
      obtain ⟨c0, c1⟩ := hcell j p hp
      have hb := HH.out.2.2.1
      have k0 : wr.cell? ⟨w.heap.size, 0, none⟩ = some (.string ka) := box_cells hb 0 _ rfl
      have k1 : wr.cell? ⟨w.heap.size, 1, none⟩ = some (.int .i64 ki) := box_cells hb 1 _ rfl
      have HP : Hid (U[j]? = some p) := hp
      have q0 : (0 : Int) ≤ (j : Int) := by omega
      have q1 : (j : Int) < (n : Int) := by omega
      have hwj : IntKind.i64.wrap ((j : Int) - 1) = (j : Int) - 1 := by rw [IntKind.wrap_i64]; have := HN.out; omega
      clear hcell hb hne hp
      obtain ⟨⟨pa, pi⟩, pat⟩ := p
      simp only at c0 c1
      have hd : U.drop j = ((pa, pi), pat) :: U.drop (j + 1) := by
        rw [List.drop_eq_getElem?_toList_append, HP.out]
        rfl
      have HD : Hid (U.drop j = ((pa, pi), pat) :: U.drop (j + 1)) := hd
      clear hd
      by_cases he : (pa, pi) = (ka, ki)
      · obtain ⟨rfl, rfl⟩ := Prod.mk.inj he
        clear he
        have hl3 := (HH.out.1.keep (w' := wr.drew) rfl).len 3
        go_wp2_with fail
        go_region
        all_goals go_wp2_with fail
        all_goals go_ret
        all_goals refine ⟨⟨(U.drop (j + 1)).map (·.1), by rw [List.map_drop]; rfl, HH.out.2.2.2, .inr ⟨(U.take j).map (·.1), ?_⟩⟩, Below.drew HH.out.2.1⟩
        all_goals conv => lhs; rw [← List.take_append_drop j U, HD.out, List.map_append, List.map_cons]
      · obtain ⟨w2, hrun, hS2, hC2⟩ := (HH.out.1.keep (w' := wr.drew) rfl).put (k := (pa, pi)) (HO.out _ (List.mem_of_getElem? HP.out)) (by
          have := HN.out
          simp only [List.length_map, List.length_drop, maxLen]
          omega)
        have hb2 : Hid (Below w.heap.size w w2 ∧ w2.heap[w.heap.size]? = some (.cells #[.string ka, .int .i64 ki] 31 (0, 0))) := by
          have hs : w.heap.size < wr.heap.size := (Array.getElem?_eq_some_iff.1 HH.out.2.2.1).1
          have h0 := HH.out.2.1
          refine ⟨⟨hC2.os.trans h0.os, hC2.tape.trans h0.tape, hC2.output.trans h0.output, Nat.le_trans h0.size hC2.size, fun k hk => ?_⟩, ?_⟩
          · rw [hC2.block k (show k < wr.heap.size by omega) (by omega)]
            exact h0.block k hk
          · rw [hC2.block _ (show w.heap.size < wr.heap.size by omega) (by omega)]
            exact HH.out.2.2.1
        have HS2 : Hid (SM w2 (w.heap.size + 1) ((U.drop j).map (·.1)) ∧ (ka, ki) ∉ (U.drop j).map (·.1)) := by
          rw [HD.out, List.map_cons]
          refine ⟨hS2, fun q => ?_⟩
          rcases List.mem_cons.1 q with q | q
          · exact he q.symm
          · exact HH.out.2.2.2 q
        have HE : Hid (¬ (pa, pi) = (ka, ki)) := he
        unfold kc at hrun
        clear hS2 hC2 he
        by_cases h1 : pa = ka
        · subst h1
          have h2 : ¬ pi = ki := fun q => HE.out (by rw [q])
          clear HE
          go_wp2_with fail
          go_region
          all_goals go_wp2_with fail
          all_goals go_roundg j
          case measure => omega
          case rel => exact ⟨_, rfl, by first | rfl | simp, by omega, HS2.out.1, hb2.out.1, hb2.out.2, HS2.out.2⟩
        · have h2 : ¬ pa.toList = ka.toList := fun q => h1 (by
            have := bytes_beq pa ka
            simp [q] at this
            exact this)
          clear HE h1
          go_wp2_with fail
          go_region
          all_goals go_wp2_with fail
          all_goals go_roundg j
          case measure => omega
          case rel => exact ⟨_, rfl, by first | rfl | simp, by omega, HS2.out.1, hb2.out.1, hb2.out.2, HS2.out.2⟩
end Go.Proofs.Ytdhinpmjbcohaaa
