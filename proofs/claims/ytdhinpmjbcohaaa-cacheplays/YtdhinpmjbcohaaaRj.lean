import Derived.Test.YtdhinpmjbcohaaaRh
namespace Go.Proofs.Ytdhinpmjbcohaaa.Rf
open Go Go.RowKit
set_option linter.unusedSimpArgs false
set_option linter.unusedVariables false

theorem e2_take : ∀ (L : List (Int × Int)) (m : Nat), e2 (L.take m) = (e2 L).take (m * 2)
  | [], m => by simp [e2]
  | x :: L, 0 => by simp [e2]
  | x :: L, m + 1 => by
    have ih := e2_take L m
    have e1 : (m + 1) * 2 = m * 2 + 1 + 1 := by omega
    rw [e1]
    simp [e2] at ih ⊢
    exact ih
theorem own_take {w : World} {g n cap m : Nat} {L : List (Int × Int)} (h : w.ownsRow 0 90 2 (.slice (some ⟨g, 0, none⟩) n cap) L.length (e2 L)) (hm : m ≤ L.length) : w.ownsRow 0 90 2 (.slice (some ⟨g, 0, none⟩) m cap) (L.take m).length (e2 (L.take m)) := by
  have hlen : (L.take m).length = m := by simp; omega
  refine ⟨e2_len _, ?_⟩
  rcases h.2 with ⟨q, _⟩ | ⟨g', cap', cur, hv, h1, hg, h2, h3, h4, h5⟩
  · cases q
  · simp only [Value.slice.injEq, Option.some.injEq, Addr.mk.injEq] at hv
    obtain ⟨⟨rfl, _⟩, rfl, rfl⟩ := hv
    refine .inr ⟨g, cap, cur, by rw [hlen], h1, hg, by omega, h3, h4, ?_⟩
    rw [hlen, e2_take, ← h5, List.take_take]
    congr 1
    omega
/-- The document's Put. -/
theorem rput_any {w : World} {mb room : Nat} {L : List (Int × Int)} {G : Nat → Prop} (h : RS w mb room L G) (k v : Int) (hl : L.length ≤ 400000) : Calls Try.prog 32 #[pt mb, .int .i64 k, .int .i64 v] w fun r w' => r = .returned (.tuple #[]) ∧ AftR w mb room G ((ltop k v L).take room) w' := by
  refine rput_walk (room := room) (R0 := fun w1 => AftR w mb room G (lout L k) w1) (R1 := fun w2 => AftR w mb room G (ltop k v L) w2) (R2 := fun w3 => AftR w mb room G ((ltop k v L).take room) w3) ((take_any h k hl).mono (fun r w' q => ⟨⟨_, q.1⟩, q.2⟩)) (fun w1 h1 => ?_) (fun w2 h2 => ?_)
  · obtain ⟨⟨G1, r1, l1⟩, hc1⟩ := h1
    refine (first_any r1 k v (lout_nin k) (Nat.le_trans (lout_length L k) hl)).mono ?_
    rintro r w2 ⟨rfl, h2⟩
    exact ⟨rfl, AftR.then (L1 := []) l1 hc1 h2⟩
  · obtain ⟨⟨G2, r2, l2⟩, hc2⟩ := h2
    have hr2 := r2
    obtain ⟨⟨x, hb, ho, hG⟩, hnd⟩ := r2
    have hpos : (ltop k v L).length = (lout L k).length + 1 := rfl
    rcases ho.2 with ⟨_, q⟩ | ⟨g, cap, cur, rfl, hx⟩
    · omega
    · have hmb : G mb := by
        rcases l2 mb ((hG mb).2 (.inl rfl)) with q | q
        · exact q
        · have := (h.1.choose_spec.2.2 mb).2 (.inl rfl)
          exact this
      refine ⟨g, _, cap, box_cells hb 0 _ rfl, box_cells hb 1 _ rfl, box_frozen hb 1, hx.2.2.1, ?_⟩
      by_cases hlt : room < (ltop k v L).length
      · refine .inr ⟨by omega, ?_⟩
        have hb' : w2.drew.drew.heap[mb]? = some (.cells #[.int .i64 room, .slice (some ⟨g, 0, none⟩) (ltop k v L).length cap] 79 (0, 0)) := hb
        have ho' : w2.drew.drew.ownsRow 0 90 2 (.slice (some ⟨g, 0, none⟩) room cap) ((ltop k v L).take room).length (e2 ((ltop k v L).take room)) := own_take (n := (ltop k v L).length) ho (by omega)
        refine ⟨⟨_, RS.set hb' ho' (hnd.sublist ((List.take_sublist _ _).map _)), fun j q => ?_⟩, ?_⟩
        · rcases q with q | q
          · exact .inl (q ▸ hmb)
          · exact l2 j ((hG j).2 (.inr q))
        · exact ((hc2.then (ch_drew G _)).then (ch_drew G _)).then ((ch_set mb 1 _).mono (fun j _ q => q ▸ hmb))
      · refine .inl ⟨by omega, ⟨G2, ?_, l2⟩, hc2.then (ch_drew G _)⟩
        rw [List.take_of_length_le (by omega)]
        exact hr2.keep (fun _ _ => rfl)
theorem built79 (x : Int) : Try.prog.built 79 [(0, .int .i64 x)] = some #[.int .i64 x, .slice none 0 0] := by kernel_rfl
set_option maxRecDepth 100000 in
set_option maxHeartbeats 1000000 in
theorem rnew_run (most x : Int) (hx : x = min (max most 0) 1048576) (w : World) : Calls Try.prog 26 #[.int .i64 most] w fun r w' => r = .returned (pt w.heap.size) ∧ w' = w.alloc (.cells #[.int .i64 x, .slice none 0 0] 79) := by
  have hb : ∀ y w', (Instr.build 79 #[(0, .int .i64 y)]).run Try.prog w' = .ok (.agg #[.int .i64 y, .slice none 0 0]) w' := fun y w' => run_build w' 79 _ _ (built79 y)
  unfold pt
  by_cases h1 : most < 0
  · obtain rfl : x = 0 := by omega
    clear hx
    go_enter Try.func26, Try.ntmps26
    go_wp2_with fail
    go_ret
    exact ⟨rfl, rfl⟩
  · by_cases h2 : 1048576 < most
    · obtain rfl : x = 1048576 := by omega
      clear hx
      go_enter Try.func26, Try.ntmps26
      go_wp2_with fail
      go_ret
      exact ⟨rfl, rfl⟩
    · obtain rfl : x = most := by omega
      clear hx
      go_enter Try.func26, Try.ntmps26
      go_wp2_with fail
      go_ret
      exact ⟨rfl, rfl⟩
/-- The document's New. -/
theorem rnew_any (most : Int) (room : Nat) (hr : (room : Int) = min (max most 0) 1048576) (w : World) : Calls Try.prog 26 #[.int .i64 most] w fun r w' => r = .returned (pt w.heap.size) ∧ Below w.heap.size w w' ∧ RS w' w.heap.size room [] (fun j => j = w.heap.size) := by
  refine (rnew_run most room hr w).mono ?_
  rintro r w' ⟨rfl, rfl⟩
  refine ⟨rfl, (Below.refl _ _).alloc (Nat.le_refl _) _, ⟨.slice none 0 0, (MapKept.heap_alloc _ _).1, World.ownsRow_nil _ _ _ _, fun j => ?_⟩, by simp⟩
  simp [Value.ownBlock]
/-- A list of entries as it is read. -/
def ER (w : World) (v : Value) (L : List (Int × Int)) : Prop := ∃ a c, v = .slice a L.length c ∧ L.length ≤ c ∧ (L ≠ [] → ∃ g, a = some ⟨g, 0, none⟩ ∧ ∀ q u, (e2 L)[q]? = some u → w.cell? ⟨g, q, none⟩ = some u)
theorem own_er {w : World} {v : Value} {L : List (Int × Int)} (h : w.ownsRow 0 90 2 v L.length (e2 L)) : ER w v L := by
  have hcells := fun (g : Nat) (hg : v.ownBlock = some g) => h.cells hg
  rcases h.2 with ⟨rfl, h0⟩ | ⟨g, cap, cur, rfl, _, _, h1, _⟩
  · exact ⟨none, 0, by rw [h0], by omega, fun q => absurd (List.length_eq_zero_iff.1 h0) q⟩
  · refine ⟨_, cap, rfl, h1, fun _ => ⟨g, rfl, fun q u hu => ?_⟩⟩
    have := hcells g rfl q u hu
    rwa [addr0, Nat.zero_add] at this
end Go.Proofs.Ytdhinpmjbcohaaa.Rf
