import Derived.Test.YtdhinpmjbcohaaaRf
import Derived.Laws.AppendOwnNone
import Derived.Lib.MinMax
namespace Go.Proofs.Ytdhinpmjbcohaaa.Rf
open Go Go.RowKit
set_option linter.unusedSimpArgs false
set_option linter.unusedVariables false

theorem own_keep {w w' : World} {B e s n : Nat} {v : Value} {xs : List Value} (h : w.ownsRow B e s v n xs) (hk : ∀ k, v.ownBlock = some k → w'.heap[k]? = w.heap[k]?) : w'.ownsRow B e s v n xs := by
  refine ⟨h.1, ?_⟩
  rcases h.2 with h0 | ⟨g, cap, cur, rfl, h1, hg, h2⟩
  · exact .inl h0
  · exact .inr ⟨g, cap, cur, rfl, h1, (hk g rfl).trans hg, h2⟩
theorem own_blk {w : World} {B e s n : Nat} {v : Value} {xs : List Value} (h : w.ownsRow B e s v n xs) {k : Nat} (hk : v.ownBlock = some k) : ∃ c, w.heap[k]? = some (.cells c e (0, 0)) := by
  rcases h.2 with ⟨r, _⟩ | ⟨g, cap, cur, r, _, hg, _⟩
  · rw [r] at hk; cases hk
  · rw [r] at hk
    have e' : g = k := by simpa [Value.ownBlock] using hk
    subst e'
    exact ⟨_, hg⟩
theorem RS.lt {w : World} {mb room : Nat} {L : List (Int × Int)} {G : Nat → Prop} (h : RS w mb room L G) {j : Nat} (hj : G j) : j < w.heap.size := by
  obtain ⟨⟨v, h1, h2, h3⟩, _⟩ := h
  rcases (h3 j).1 hj with rfl | q
  · exact (Array.getElem?_eq_some_iff.1 h1).1
  · exact (h2.lt j q).2
theorem RS.keep {w w' : World} {mb room : Nat} {L : List (Int × Int)} {G : Nat → Prop} (h : RS w mb room L G) (hk : ∀ j, G j → w'.heap[j]? = w.heap[j]?) : RS w' mb room L G := by
  obtain ⟨⟨v, h1, h2, h3⟩, h4⟩ := h
  exact ⟨⟨v, (hk mb ((h3 mb).2 (.inl rfl))).trans h1, own_keep h2 (fun k q => hk k ((h3 k).2 (.inr q))), h3⟩, h4⟩
/-- What comes of a call. -/
def AftR (w : World) (mb room : Nat) (G : Nat → Prop) (L' : List (Int × Int)) (w' : World) : Prop := (∃ G', RS w' mb room L' G' ∧ ∀ j, G' j → G j ∨ w.heap.size ≤ j) ∧ Ch G w w'
/-- A list of the cache's own is laid down anew. -/
theorem RS.set {w2 : World} {mb room : Nat} {v x : Value} {L' : List (Int × Int)} (hb : w2.heap[mb]? = some (.cells #[.int .i64 room, x] 79 (0, 0))) (ho : w2.ownsRow 0 90 2 v L'.length (e2 L')) (hnd : (L'.map (·.1)).Nodup) : RS (w2.setCell ⟨mb, 1, none⟩ v) mb room L' (fun j => j = mb ∨ v.ownBlock = some j) := by
  refine ⟨⟨v, ?_, own_keep ho (fun k q => heap_set_ne _ (fun r => ?_)), fun j => Iff.rfl⟩, hnd⟩
  · rw [heap_set hb]
    simp
  · obtain ⟨c, hc⟩ := own_blk ho q
    rw [r, hb] at hc
    simp at hc
theorem take_any {w : World} {mb room : Nat} {L : List (Int × Int)} {G : Nat → Prop} (h : RS w mb room L G) (k : Int) (hl : L.length ≤ 400000) : Calls Try.prog 56 #[pt mb, .int .i64 k] w fun r w' => r = .returned (.tuple #[.int .i64 ((lget L k).getD 0), .bool (lget L k).isSome]) ∧ AftR w mb room G (lout L k) w' := by
  have h0 := h
  obtain ⟨⟨v, hb, ho, hG⟩, hnd⟩ := h
  obtain ⟨a, cap, rfl⟩ := own_shape ho
  refine take_walk hb ho hl _ (fun hn => ?_) (fun L1 v L2 e va na ca w2 h1 h2 h3 => ?_)
  · have hk : k ∉ L.map (·.1) := fun q => by
      obtain ⟨p, hp, e⟩ := List.mem_map.1 q
      exact hn p hp e
    rw [lget_of_not hk, lout_not hk]
    exact ⟨rfl, ⟨G, h0, fun j q => .inl q⟩, Ch.refl _ _⟩
  · subst e
    rw [List.map_append, List.map_cons] at hnd
    have hmid := List.nodup_cons.1 (List.perm_middle.nodup_iff.1 hnd)
    have hk1 : k ∉ L1.map (·.1) := fun q => hmid.1 (List.mem_append.2 (.inl q))
    have hk2 : k ∉ L2.map (·.1) := fun q => hmid.1 (List.mem_append.2 (.inr q))
    rw [lget_mid hk1, lout_mid hk1 hk2]
    have hb2 := (h2.block mb (Array.getElem?_eq_some_iff.1 hb).1 (fun q => q)).trans hb
    have hmb : G mb := (hG mb).2 (.inl rfl)
    refine ⟨rfl, ⟨_, RS.set hb2 h1 (by rw [List.map_append]; exact hmid.2), fun j q => ?_⟩, ?_⟩
    · rcases q with q | q
      · exact .inl (q ▸ hmb)
      · exact .inr (h3 j q)
    · exact (h2.mono (fun j _ q => q.elim)).then ((ch_set mb 1 _).mono (fun j _ q => q ▸ hmb))
theorem app_any {w : World} {v x : Value} {A L : List (Int × Int)} (ho : w.ownsRow 0 90 2 v A.length (e2 A)) (hx : w.ownsRow 0 90 2 x L.length (e2 L)) (hl : A.length + L.length ≤ 1000000) : ∃ v' w', (Builtin.append_ #[77, 77] 77 #[v, x]).run Try.prog w = .ok v' w' ∧ w'.ownsRow 0 90 2 v' (A ++ L).length (e2 (A ++ L)) ∧ Ch (fun j => v.ownBlock = some j) w w' ∧ (v'.ownBlock = v.ownBlock ∨ v'.ownBlock = some w.heap.size) := by
  have hcells := fun (g : Nat) (hg : x.ownBlock = some g) => hx.cells hg
  rcases hx.2 with ⟨rfl, h0⟩ | ⟨g, cap, cur, rfl, _⟩
  · have hL : L = [] := List.length_eq_zero_iff.1 h0
    obtain ⟨i0, hi0, hz⟩ := Option.map_eq_some_iff.1 info90
    refine ⟨v, w, run_append_owned_none (P := Try.prog) (w := w) 0 77 77 90 i0 2 Try.underlying77 hi0 v A.length (e2 A) ho, ?_, Ch.refl _ _, .inl rfl⟩
    rw [hL, List.append_nil]
    exact ho
  · exact app_many ho ⟨g, 0, none⟩ cap (hcells g rfl) hl
set_option maxRecDepth 100000 in
set_option maxHeartbeats 1000000 in
theorem first_walk {w w2 : World} {mb n cap nl ca : Nat} {a va : Option Addr} {k v : Int} {x : Value} (c1 : (w.alloc (.cells #[.int .i64 k, .int .i64 v] 90)).cell? ⟨mb, 1, none⟩ = some (.slice a n cap)) (hr : (Builtin.append_ #[77, 77] 77 #[.slice (some ⟨w.heap.size, 0, none⟩) 1 1, .slice a n cap]).run Try.prog (w.alloc (.cells #[.int .i64 k, .int .i64 v] 90)) = .ok (.slice va nl ca) w2) (c2 : w2.cell? ⟨mb, 1, none⟩ = some x) (f2 : w2.frozen? ⟨mb, 1, none⟩ = false) :
    Calls Try.prog 57 #[pt mb, .int .i64 k, .int .i64 v] w fun r w' => r = .returned (.tuple #[]) ∧ w' = w2.setCell ⟨mb, 1, none⟩ (.slice va nl ca) := by
  have HR : Hid ((Builtin.append_ #[77, 77] 77 #[.slice (some ⟨w.heap.size, 0, none⟩) 1 1, .slice a n cap]).run Try.prog (w.alloc (.cells #[.int .i64 k, .int .i64 v] 90)) = .ok (.slice va nl ca) w2) := hr
  have hb90 : ∀ w', (Instr.build 90 #[(0, .int .i64 k), (1, .int .i64 v)]).run Try.prog w' = .ok (.agg #[.int .i64 k, .int .i64 v]) w' := fun w' => run_build w' 90 _ _ (by kernel_rfl)
  clear hr
  unfold pt
  go_enter Try.func57, Try.ntmps57
  go_wp2_with (at_builtin; refine Lib.wpList_append_run _ rfl (.tmp 12) (.tmp 16) 77 77 rfl _ _ rfl rfl _ w2 HR.out ?_)
  all_goals first | go_end0 | refine bodyPost_ret (results_none rfl _ _ _) rfl ?_
  all_goals exact ⟨rfl, rfl⟩
theorem first_any {w : World} {mb room : Nat} {L : List (Int × Int)} {G : Nat → Prop} (h : RS w mb room L G) (k v : Int) (hk : k ∉ L.map (·.1)) (hl : L.length ≤ 400000) : Calls Try.prog 57 #[pt mb, .int .i64 k, .int .i64 v] w fun r w' => r = .returned (.tuple #[]) ∧ AftR w mb room G ((k, v) :: L) w' := by
  obtain ⟨⟨x, hb, ho, hG⟩, hnd⟩ := h
  obtain ⟨a, cap, rfl⟩ := own_shape ho
  have hmb : G mb := (hG mb).2 (.inl rfl)
  have hlt := (Array.getElem?_eq_some_iff.1 hb).1
  have hold : ∀ j, j < w.heap.size → (w.alloc (.cells #[.int .i64 k, .int .i64 v] 90)).heap[j]? = w.heap[j]? := fun j hj => (World.grownBy_alloc w _ none).block j hj (by simp)
  have hbA := (hold mb hlt).trans hb
  have hoA : (w.alloc (.cells #[.int .i64 k, .int .i64 v] 90)).ownsRow 0 90 2 (.slice a L.length cap) L.length (e2 L) := ho.alloc _
  have hone : (w.alloc (.cells #[.int .i64 k, .int .i64 v] 90)).ownsRow 0 90 2 (.slice (some ⟨w.heap.size, 0, none⟩) 1 1) [(k, v)].length (e2 [(k, v)]) := ⟨rfl, .inr ⟨w.heap.size, 1, #[.int .i64 k, .int .i64 v], rfl, Nat.zero_le _, (MapKept.heap_alloc _ _).1, Nat.le_refl _, by unfold maxLen; omega, rfl, rfl⟩⟩
  obtain ⟨v', w2, hr, h2, hc, hloc⟩ := app_any hone hoA (by simp; omega)
  obtain ⟨va, ca, rfl⟩ := own_shape h2
  have hc' : Ch (fun _ => False) w w2 := (ch_alloc (fun _ => False) w _).trans hc (fun j hj q => by
    simp [Value.ownBlock] at q
    omega)
  have hb2 := (hc'.block mb hlt (fun q => q)).trans hb
  refine (first_walk (x := .slice a L.length cap) (box_cells hbA 1 _ rfl) hr (box_cells hb2 1 _ rfl) (box_frozen hb2 1)).mono ?_
  rintro r w' ⟨rfl, rfl⟩
  refine ⟨rfl, ⟨_, RS.set hb2 h2 (List.nodup_cons.2 ⟨hk, hnd⟩), fun j q => ?_⟩, ?_⟩
  · rcases q with q | q
    · exact .inl (q ▸ hmb)
    · rcases hloc with e | e
      · rw [e] at q
        simp [Value.ownBlock] at q
        exact .inr (by omega)
      · rw [e] at q
        simp at q
        exact .inr (by omega)
  · exact (hc'.mono (fun j _ q => q.elim)).then ((ch_set mb 1 _).mono (fun j _ q => q ▸ hmb))
theorem AftR.then {w w1 w2 : World} {mb room : Nat} {G G1 : Nat → Prop} {L1 L2 : List (Int × Int)} (hlo : ∀ j, G1 j → G j ∨ w.heap.size ≤ j) (hc : Ch G w w1) (h2 : AftR w1 mb room G1 L2 w2) : AftR w mb room G L2 w2 := by
  obtain ⟨⟨G2, r2, l2⟩, hc2⟩ := h2
  refine ⟨⟨G2, r2, fun j q => ?_⟩, hc.trans hc2 (fun j hj q => ?_)⟩
  · rcases l2 j q with q | q
    · exact hlo j q
    · exact .inr (Nat.le_trans hc.size q)
  · rcases hlo j q with r | r
    · exact r
    · omega
theorem lout_nin {L : List (Int × Int)} (k : Int) : k ∉ (lout L k).map (·.1) := fun q => (lout_keys.1 q).2 rfl
theorem lout_length (L : List (Int × Int)) (k : Int) : (lout L k).length ≤ L.length := List.length_filter_le _ _
set_option maxRecDepth 100000 in
set_option maxHeartbeats 1000000 in
/-- The document's Get. -/
theorem rget_any {w : World} {mb room : Nat} {L : List (Int × Int)} {G : Nat → Prop} (h : RS w mb room L G) (k : Int) (hl : L.length ≤ 400000) : Calls Try.prog 30 #[pt mb, .int .i64 k] w fun r w' => r = .returned (.tuple #[.int .i64 ((lget L k).getD 0), .bool (lget L k).isSome]) ∧ AftR w mb room G (match lget L k with | some v => ltop k v L | none => L) w' := by
  have HT : Hid (Calls Try.prog 56 #[pt mb, .int .i64 k] w fun r w' => r = .returned (.tuple #[.int .i64 ((lget L k).getD 0), .bool (lget L k).isSome]) ∧ AftR w mb room G (lout L k) w') := take_any h k hl
  have HF : Hid (∀ w1 G1 v, RS w1 mb room (lout L k) G1 → Calls Try.prog 57 #[pt mb, .int .i64 k, .int .i64 v] w1 fun r w' => r = .returned (.tuple #[]) ∧ AftR w1 mb room G1 ((k, v) :: lout L k) w') := fun w1 G1 v hr => first_any hr k v (lout_nin k) (Nat.le_trans (lout_length L k) hl)
  clear h
  cases hg : lget L k with
  | none =>
    rw [hg, lout_not (lget_none hg)] at HT
    simp only [Option.getD_none, Option.isSome_none] at HT ⊢
    clear HF hg
    unfold pt at HT ⊢
    go_enter Try.func30, Try.ntmps30
    go_wp2_with fail
    go_must (go_at_call 56)
    refine (HT.out).mono ?_
    rintro r w1 ⟨rfl, h1⟩
    have Z : Hid (AftR w mb room G L w1) := h1
    clear h1
    go_wp2_with fail
    go_ret2
    exact ⟨rfl, Z.out⟩
  | some u =>
    rw [hg] at HT
    simp only [Option.getD_some, Option.isSome_some] at HT ⊢
    clear hg
    unfold pt at HT HF ⊢
    go_enter Try.func30, Try.ntmps30
    go_wp2_with fail
    go_must (go_at_call 56)
    refine (HT.out).mono ?_
    rintro r w1 ⟨rfl, h1⟩
    have Z : Hid (AftR w mb room G (lout L k) w1) := h1
    clear h1
    obtain ⟨⟨G1, r1, l1⟩, hc1⟩ := Z.out
    have HF1 : Hid (Calls Try.prog 57 #[.pointer (some ⟨mb, 0, none⟩), .int .i64 k, .int .i64 u] w1 fun r w' => r = .returned (.tuple #[]) ∧ AftR w1 mb room G1 ((k, u) :: lout L k) w') := HF.out w1 G1 u r1
    have Y : Hid ((∀ j, G1 j → G j ∨ w.heap.size ≤ j) ∧ Ch G w w1) := ⟨l1, hc1⟩
    clear HF r1 l1 hc1 Z
    go_wp2_with fail
    go_must (go_at_call 57)
    refine (HF1.out).mono ?_
    rintro r w2 ⟨rfl, h2⟩
    have Z2 : Hid (AftR w mb room G ((k, u) :: lout L k) w2) := AftR.then (L1 := []) Y.out.1 Y.out.2 h2
    clear h2
    go_wp2_with fail
    go_ret2
    exact ⟨rfl, Z2.out⟩
set_option maxRecDepth 100000 in
set_option maxHeartbeats 1000000 in
/-- The document's Drop. -/
theorem rdrop_any {w : World} {mb room : Nat} {L : List (Int × Int)} {G : Nat → Prop} (h : RS w mb room L G) (k : Int) (hl : L.length ≤ 400000) : Calls Try.prog 34 #[pt mb, .int .i64 k] w fun r w' => r = .returned (.bool (lget L k).isSome) ∧ AftR w mb room G (lout L k) w' := by
  have HT : Hid (Calls Try.prog 56 #[pt mb, .int .i64 k] w fun r w' => r = .returned (.tuple #[.int .i64 ((lget L k).getD 0), .bool (lget L k).isSome]) ∧ AftR w mb room G (lout L k) w') := take_any h k hl
  clear h
  unfold pt at HT ⊢
  go_enter Try.func34, Try.ntmps34
  go_wp2_with fail
  go_must (go_at_call 56)
  refine (HT.out).mono ?_
  rintro r w1 ⟨rfl, h1⟩
  have Z : Hid (AftR w mb room G (lout L k) w1) := h1
  clear h1
  go_wp2_with fail
  go_ret
  exact ⟨rfl, Z.out⟩
set_option maxRecDepth 100000 in
set_option maxHeartbeats 1000000 in
theorem rclear_run {w : World} {mb n cap : Nat} {a : Option Addr} (c1 : w.cell? ⟨mb, 1, none⟩ = some (.slice a n cap)) (f1 : w.frozen? ⟨mb, 1, none⟩ = false) : Calls Try.prog 36 #[pt mb] w fun r w' => r = .returned (.int .i64 n) ∧ w' = w.setCell ⟨mb, 1, none⟩ (.slice none 0 0) := by
  unfold pt
  go_enter Try.func36, Try.ntmps36
  go_wp2_with fail
  go_ret
  exact ⟨rfl, rfl⟩
/-- The document's Clear. -/
theorem rclear_any {w : World} {mb room : Nat} {L : List (Int × Int)} {G : Nat → Prop} (h : RS w mb room L G) : Calls Try.prog 36 #[pt mb] w fun r w' => r = .returned (.int .i64 L.length) ∧ AftR w mb room G [] w' := by
  obtain ⟨⟨x, hb, ho, hG⟩, hnd⟩ := h
  obtain ⟨a, cap, rfl⟩ := own_shape ho
  have hmb : G mb := (hG mb).2 (.inl rfl)
  refine (rclear_run (box_cells hb 1 _ rfl) (box_frozen hb 1)).mono ?_
  rintro r w' ⟨rfl, rfl⟩
  refine ⟨rfl, ⟨_, RS.set hb (L' := []) (World.ownsRow_nil _ _ _ _) (by simp), fun j q => ?_⟩, (ch_set mb 1 _).mono (fun j _ q => q ▸ hmb)⟩
  rcases q with q | q
  · exact .inl (q ▸ hmb)
  · cases q
set_option maxRecDepth 100000 in
set_option maxHeartbeats 1000000 in
theorem roldest_none {w : World} {mb cap : Nat} {a : Option Addr} (c1 : w.cell? ⟨mb, 1, none⟩ = some (.slice a 0 cap)) : Calls Try.prog 39 #[pt mb] w fun r w' => r = .returned (.tuple #[.int .i64 0, .bool false]) ∧ w' = w := by
  unfold pt
  go_enter Try.func39, Try.ntmps39
  go_wp2_with fail
  go_ret2
  exact ⟨rfl, rfl⟩
set_option maxRecDepth 100000 in
set_option maxHeartbeats 1000000 in
theorem roldest_some {w : World} {mb n cap g : Nat} {k : Int} (hn : n ≤ 400000) (c1 : w.cell? ⟨mb, 1, none⟩ = some (.slice (some ⟨g, 0, none⟩) (n + 1) cap)) (ck : w.cell? ⟨g, n * 2, none⟩ = some (.int .i64 k)) : Calls Try.prog 39 #[pt mb] w fun r w' => r = .returned (.tuple #[.int .i64 k, .bool true]) ∧ w' = w.drew := by
  have hw : wrap64 (n : Int) = (n : Int) := by unfold wrap64; omega
  have h0 : (((n + 1 : Nat) : Int) == 0) = false := beq_eq_false_iff_ne.2 (by omega)
  have h1 : ((n : Int) + 1 == 0) = false := beq_eq_false_iff_ne.2 (by omega)
  have h2 : (0 : Int) ≤ (n : Int) := by omega
  have h3 : (n : Int) < (n : Int) + 1 := by omega
  unfold pt
  go_enter Try.func39, Try.ntmps39
  go_wp2_with fail
  go_region
  all_goals go_wp2_with fail
  all_goals go_ret2
  all_goals exact ⟨rfl, rfl⟩
/-- The document's Oldest. -/
theorem roldest_any {w : World} {mb room : Nat} {L : List (Int × Int)} {G : Nat → Prop} (h : RS w mb room L G) (hl : L.length ≤ 400000) : Calls Try.prog 39 #[pt mb] w fun r w' => r = .returned (.tuple #[.int .i64 ((L.getLast?.map (·.1)).getD 0), .bool L.getLast?.isSome]) ∧ (w' = w ∨ w' = w.drew) := by
  obtain ⟨⟨x, hb, ho, hG⟩, hnd⟩ := h
  obtain ⟨a, cap, rfl⟩ := own_shape ho
  rcases List.eq_nil_or_concat L with rfl | ⟨T, p, rfl⟩
  · refine (roldest_none (box_cells hb 1 _ rfl)).mono ?_
    rintro r w' ⟨rfl, rfl⟩
    exact ⟨rfl, .inl rfl⟩
  · rw [List.concat_eq_append] at *
    have hlen : (T ++ [p]).length = T.length + 1 := by simp
    have hcells := fun (g : Nat) (hg : (Value.slice a (T ++ [p]).length cap).ownBlock = some g) => ho.cells hg
    rcases ho.2 with ⟨_, q⟩ | ⟨g, cap', cur, hv, _⟩
    · omega
    · simp only [Value.slice.injEq] at hv
      obtain ⟨rfl, _, rfl⟩ := hv
      have hat := (e2_at (T ++ [p]) T.length p (by simp)).1
      have hc := hcells g rfl _ _ hat
      rw [addr0, Nat.zero_add] at hc
      rw [hlen] at hb
      refine (roldest_some (n := T.length) (by omega) (box_cells hb 1 _ rfl) hc).mono ?_
      rintro r w' ⟨rfl, rfl⟩
      refine ⟨?_, .inr rfl⟩
      simp
set_option maxRecDepth 100000 in
set_option maxHeartbeats 1000000 in
theorem rput_walk {w : World} {mb room : Nat} {k v : Int} {R0 R1 R2 : World → Prop} (h1 : Calls Try.prog 56 #[pt mb, .int .i64 k] w fun r w' => (∃ u, r = .returned u) ∧ R0 w') (h2 : ∀ w1, R0 w1 → Calls Try.prog 57 #[pt mb, .int .i64 k, .int .i64 v] w1 fun r w' => r = .returned (.tuple #[]) ∧ R1 w')
    (h3 : ∀ w2, R1 w2 → ∃ (g n cap : Nat), w2.cell? ⟨mb, 0, none⟩ = some (.int .i64 room) ∧ w2.cell? ⟨mb, 1, none⟩ = some (.slice (some ⟨g, 0, none⟩) n cap) ∧ w2.frozen? ⟨mb, 1, none⟩ = false ∧ n ≤ cap ∧ ((¬ (room : Int) < n ∧ R2 w2.drew) ∨ ((room : Int) < n ∧ R2 (w2.drew.drew.setCell ⟨mb, 1, none⟩ (.slice (some ⟨g, 0, none⟩) room cap))))) :
    Calls Try.prog 32 #[pt mb, .int .i64 k, .int .i64 v] w fun r w' => r = .returned (.tuple #[]) ∧ R2 w' := by
  have H1 : Hid (Calls Try.prog 56 #[pt mb, .int .i64 k] w fun r w' => (∃ u, r = .returned u) ∧ R0 w') := h1
  have H2 : Hid (∀ w1, R0 w1 → Calls Try.prog 57 #[pt mb, .int .i64 k, .int .i64 v] w1 fun r w' => r = .returned (.tuple #[]) ∧ R1 w') := h2
  have H3 : Hid (∀ w2, R1 w2 → ∃ (g n cap : Nat), w2.cell? ⟨mb, 0, none⟩ = some (.int .i64 room) ∧ w2.cell? ⟨mb, 1, none⟩ = some (.slice (some ⟨g, 0, none⟩) n cap) ∧ w2.frozen? ⟨mb, 1, none⟩ = false ∧ n ≤ cap ∧ ((¬ (room : Int) < n ∧ R2 w2.drew) ∨ ((room : Int) < n ∧ R2 (w2.drew.drew.setCell ⟨mb, 1, none⟩ (.slice (some ⟨g, 0, none⟩) room cap))))) := h3
  clear h1 h2 h3
  unfold pt at H1 H2 ⊢
  go_enter Try.func32, Try.ntmps32
  go_wp2_with fail
  go_must (go_at_call 56)
  refine (H1.out).mono ?_
  rintro r w1 ⟨⟨u, rfl⟩, h1⟩
  have g1 : Hid (R0 w1) := h1
  clear h1
  go_wp2_with fail
  go_must (go_at_call 57)
  refine (H2.out w1 g1.out).mono ?_
  rintro r w2 ⟨rfl, h2⟩
  obtain ⟨g, n, cap, m0, m1, m2, hnc, hor⟩ := H3.out w2 h2
  clear h2
  rcases hor with ⟨hlt, hR⟩ | ⟨hlt, hR⟩
  · have z : Hid (R2 w2.drew) := hR
    clear hR hnc
    go_wp2_with fail
    go_region
    all_goals go_wp2_with fail
    all_goals first | go_end0 | refine bodyPost_ret (results_none rfl _ _ _) rfl ?_
    all_goals exact ⟨rfl, z.out⟩
  · have z : Hid (R2 (w2.drew.drew.setCell ⟨mb, 1, none⟩ (.slice (some ⟨g, 0, none⟩) room cap))) := hR
    have q0 : (0 : Int) ≤ (room : Int) := by omega
    have q1 : (room : Int) ≤ (cap : Int) := by omega
    have q2 : (n : Int) ≤ (cap : Int) := by omega
    clear hR hnc
    go_wp2_with fail
    go_region
    all_goals go_wp2_with fail
    all_goals go_region
    all_goals go_wp2_with fail
    all_goals first | go_end0 | refine bodyPost_ret (results_none rfl _ _ _) rfl ?_
    all_goals exact ⟨rfl, z.out⟩
end Go.Proofs.Ytdhinpmjbcohaaa.Rf
namespace Go.Proofs.Ytdhinpmjbcohaaa.Rf
open Go Go.RowKit
set_option linter.unusedSimpArgs false
set_option linter.unusedVariables false

theorem e2_take : ∀ (L : List (Int × Int)) (m : Nat), e2 (L.take m) = (e2 L).take (m * 2)
  | [], m => by simp [e2]
  | x :: L, 0 => by simp [e2]
  | x :: L, m + 1 => by
    have ih := e2_take L m
    have e1 : (m + 1) * 2 = m * 2 + 1 + 1 := by omega
    rw [e1]
    simp [e2] at ih ⊢
    exact ih
theorem own_take {w : World} {g n cap m : Nat} {L : List (Int × Int)} (h : w.ownsRow 0 90 2 (.slice (some ⟨g, 0, none⟩) n cap) L.length (e2 L)) (hm : m ≤ L.length) : w.ownsRow 0 90 2 (.slice (some ⟨g, 0, none⟩) m cap) (L.take m).length (e2 (L.take m)) := by
  have hlen : (L.take m).length = m := by simp; omega
  refine ⟨e2_len _, ?_⟩
  rcases h.2 with ⟨q, _⟩ | ⟨g', cap', cur, hv, h1, hg, h2, h3, h4, h5⟩
  · cases q
  · simp only [Value.slice.injEq, Option.some.injEq, Addr.mk.injEq] at hv
    obtain ⟨⟨rfl, _⟩, rfl, rfl⟩ := hv
    refine .inr ⟨g, cap, cur, by rw [hlen], h1, hg, by omega, h3, h4, ?_⟩
    rw [hlen, e2_take, ← h5, List.take_take]
    congr 1
    omega
/-- The document's Put. -/
theorem rput_any {w : World} {mb room : Nat} {L : List (Int × Int)} {G : Nat → Prop} (h : RS w mb room L G) (k v : Int) (hl : L.length ≤ 400000) : Calls Try.prog 32 #[pt mb, .int .i64 k, .int .i64 v] w fun r w' => r = .returned (.tuple #[]) ∧ AftR w mb room G ((ltop k v L).take room) w' := by
  refine rput_walk (room := room) (R0 := fun w1 => AftR w mb room G (lout L k) w1) (R1 := fun w2 => AftR w mb room G (ltop k v L) w2) (R2 := fun w3 => AftR w mb room G ((ltop k v L).take room) w3) ((take_any h k hl).mono (fun r w' q => ⟨⟨_, q.1⟩, q.2⟩)) (fun w1 h1 => ?_) (fun w2 h2 => ?_)
  · obtain ⟨⟨G1, r1, l1⟩, hc1⟩ := h1
    refine (first_any r1 k v (lout_nin k) (Nat.le_trans (lout_length L k) hl)).mono ?_
    rintro r w2 ⟨rfl, h2⟩
    exact ⟨rfl, AftR.then (L1 := []) l1 hc1 h2⟩
  · obtain ⟨⟨G2, r2, l2⟩, hc2⟩ := h2
    have hr2 := r2
    obtain ⟨⟨x, hb, ho, hG⟩, hnd⟩ := r2
    have hpos : (ltop k v L).length = (lout L k).length + 1 := rfl
    rcases ho.2 with ⟨_, q⟩ | ⟨g, cap, cur, rfl, hx⟩
    · omega
    · have hmb : G mb := by
        rcases l2 mb ((hG mb).2 (.inl rfl)) with q | q
        · exact q
        · have := (h.1.choose_spec.2.2 mb).2 (.inl rfl)
          exact this
      refine ⟨g, _, cap, box_cells hb 0 _ rfl, box_cells hb 1 _ rfl, box_frozen hb 1, hx.2.2.1, ?_⟩
      by_cases hlt : room < (ltop k v L).length
      · refine .inr ⟨by omega, ?_⟩
        have hb' : w2.drew.drew.heap[mb]? = some (.cells #[.int .i64 room, .slice (some ⟨g, 0, none⟩) (ltop k v L).length cap] 79 (0, 0)) := hb
        have ho' : w2.drew.drew.ownsRow 0 90 2 (.slice (some ⟨g, 0, none⟩) room cap) ((ltop k v L).take room).length (e2 ((ltop k v L).take room)) := own_take (n := (ltop k v L).length) ho (by omega)
        refine ⟨⟨_, RS.set hb' ho' (hnd.sublist ((List.take_sublist _ _).map _)), fun j q => ?_⟩, ?_⟩
        · rcases q with q | q
          · exact .inl (q ▸ hmb)
          · exact l2 j ((hG j).2 (.inr q))
        · exact ((hc2.then (ch_drew G _)).then (ch_drew G _)).then ((ch_set mb 1 _).mono (fun j _ q => q ▸ hmb))
      · refine .inl ⟨by omega, ⟨G2, ?_, l2⟩, hc2.then (ch_drew G _)⟩
        rw [List.take_of_length_le (by omega)]
        exact hr2.keep (fun _ _ => rfl)
theorem built79 (x : Int) : Try.prog.built 79 [(0, .int .i64 x)] = some #[.int .i64 x, .slice none 0 0] := by kernel_rfl
set_option maxRecDepth 100000 in
set_option maxHeartbeats 1000000 in
theorem rnew_run (most x : Int) (hx : x = min (max most 0) 1048576) (w : World) : Calls Try.prog 26 #[.int .i64 most] w fun r w' => r = .returned (pt w.heap.size) ∧ w' = w.alloc (.cells #[.int .i64 x, .slice none 0 0] 79) := by
  have hb : ∀ y w', (Instr.build 79 #[(0, .int .i64 y)]).run Try.prog w' = .ok (.agg #[.int .i64 y, .slice none 0 0]) w' := fun y w' => run_build w' 79 _ _ (built79 y)
  unfold pt
  by_cases h1 : most < 0
  · obtain rfl : x = 0 := by omega
    clear hx
    go_enter Try.func26, Try.ntmps26
    go_wp2_with fail
    go_ret
    exact ⟨rfl, rfl⟩
  · by_cases h2 : 1048576 < most
    · obtain rfl : x = 1048576 := by omega
      clear hx
      go_enter Try.func26, Try.ntmps26
      go_wp2_with fail
      go_ret
      exact ⟨rfl, rfl⟩
    · obtain rfl : x = most := by omega
      clear hx
      go_enter Try.func26, Try.ntmps26
      go_wp2_with fail
      go_ret
      exact ⟨rfl, rfl⟩
/-- A list of entries as it is read. -/
def ER (w : World) (v : Value) (L : List (Int × Int)) : Prop := ∃ a c, v = .slice a L.length c ∧ L.length ≤ c ∧ (L ≠ [] → ∃ g, a = some ⟨g, 0, none⟩ ∧ ∀ q u, (e2 L)[q]? = some u → w.cell? ⟨g, q, none⟩ = some u)
theorem own_er {w : World} {v : Value} {L : List (Int × Int)} (h : w.ownsRow 0 90 2 v L.length (e2 L)) : ER w v L := by
  have hcells := fun (g : Nat) (hg : v.ownBlock = some g) => h.cells hg
  rcases h.2 with ⟨rfl, h0⟩ | ⟨g, cap, cur, rfl, _, _, h1, _⟩
  · exact ⟨none, 0, by rw [h0], by omega, fun q => absurd (List.length_eq_zero_iff.1 h0) q⟩
  · refine ⟨_, cap, rfl, h1, fun _ => ⟨g, rfl, fun q u hu => ?_⟩⟩
    have := hcells g rfl q u hu
    rwa [addr0, Nat.zero_add] at this
end Go.Proofs.Ytdhinpmjbcohaaa.Rf
namespace Go.Proofs.Ytdhinpmjbcohaaa.Rf
open Go Go.RowKit
set_option linter.unusedSimpArgs false
set_option linter.unusedVariables false

set_option maxRecDepth 100000 in
set_option maxHeartbeats 2000000 in
/-- Are two lists of entries the same? -/
theorem same_any {w : World} {va vb : Value} {A B : List (Int × Int)} (ha : ER w va A) (hb : ER w vb B) (hl : A.length ≤ 1000000) : Calls Try.prog 42 #[va, vb] w fun r w' => r = .returned (.bool (decide (A = B))) ∧ ∃ m, w' = w.drewN m := by
  obtain ⟨a, ca, rfl, hca, hA⟩ := ha
  obtain ⟨b, cb, rfl, hcb, hB⟩ := hb
  by_cases hlen : A.length = B.length
  · obtain ⟨n, hn⟩ : ∃ n, n = A.length := ⟨_, rfl⟩
    rw [← hlen]
    rw [← hn] at hl hca ⊢
    rw [← hlen, ← hn] at hcb
    have HN : Hid (n = A.length ∧ n = B.length ∧ n ≤ ca ∧ n ≤ cb ∧ n ≤ 1000000) := ⟨hn, hn.trans hlen, hca, hcb, hl⟩
    have HA : Hid (A ≠ [] → ∃ g, a = some ⟨g, 0, none⟩ ∧ ∀ q u, (e2 A)[q]? = some u → w.cell? ⟨g, q, none⟩ = some u) := hA
    have HB : Hid (B ≠ [] → ∃ g, b = some ⟨g, 0, none⟩ ∧ ∀ q u, (e2 B)[q]? = some u → w.cell? ⟨g, q, none⟩ = some u) := hB
    clear hn hlen hl hca hcb hA hB
    obtain ⟨bo, hbo⟩ : ∃ bo, bo = decide (A = B) := ⟨_, rfl⟩
    rw [← hbo]
    have HBO : Hid (bo = decide (A = B)) := hbo
    clear hbo
    go_enter Try.func42, Try.ntmps42
    go_wp2_with fail
    go_loopg [5] n (fun gk s5 wx => ∃ j : Nat, j + gk = n ∧ s5 = .int .i64 j ∧ Hid (∀ q, q < j → A[q]? = B[q]?) ∧ Hid (∃ m, wx = w.drewN m))
    case atStart => exact ⟨0, by omega, rfl, fun q hq => absurd hq (Nat.not_lt_zero _), 0, rfl⟩
    case round =>
      obtain ⟨j, hj, rfl, HQ, HW⟩ := hrel
      cases gk with
      | zero =>
        obtain rfl : j = n := by omega
        have hz : ¬ (j : Int) < (j : Int) := by omega
        go_wp2_with fail
        go_ret
        refine ⟨?_, HW.out⟩
        have hAB : A = B := List.ext_getElem? (fun q => by
          by_cases hq : q < j
          · exact HQ.out q hq
          · have := HN.out
            rw [List.getElem?_eq_none (by omega), List.getElem?_eq_none (by omega)])
        rw [HBO.out, decide_eq_true hAB]
        rfl
      | succ gk =>
        have hz : (j : Int) < (n : Int) := by omega
        have hz0 : (0 : Int) ≤ (j : Int) := by omega
        have hwj : IntKind.i64.wrap ((j : Int) + 1) = (j : Int) + 1 := by rw [IntKind.wrap_i64]; have := HN.out; omega
        obtain ⟨⟨k1, v1⟩, h1⟩ : ∃ x, A[j]? = some x := ⟨_, List.getElem?_eq_getElem (by have := HN.out; omega)⟩
        obtain ⟨⟨k2, v2⟩, h2⟩ : ∃ x, B[j]? = some x := ⟨_, List.getElem?_eq_getElem (by have := HN.out; omega)⟩
        obtain ⟨g, rfl, hg⟩ := HA.out (by intro q; rw [q] at h1; simp at h1)
        obtain ⟨g', rfl, hg'⟩ := HB.out (by intro q; rw [q] at h2; simp at h2)
        obtain ⟨m, hm⟩ := HW.out
        have p1 : wr.cell? ⟨g, j * 2, none⟩ = some (.int .i64 k1) := by rw [hm]; exact hg _ _ (e2_at A j _ h1).1
        have p2 : wr.cell? ⟨g, j * 2 + 1, none⟩ = some (.int .i64 v1) := by rw [hm]; exact hg _ _ (e2_at A j _ h1).2
        have p3 : wr.cell? ⟨g', j * 2, none⟩ = some (.int .i64 k2) := by rw [hm]; exact hg' _ _ (e2_at B j _ h2).1
        have p4 : wr.cell? ⟨g', j * 2 + 1, none⟩ = some (.int .i64 v2) := by rw [hm]; exact hg' _ _ (e2_at B j _ h2).2
        have HW2 : Hid (∃ k, wr.drew = w.drewN k) := ⟨m + 1, by rw [hm, ← World.drewN_drewN]; rfl⟩
        have H1 : Hid (A[j]? = some (k1, v1)) := h1
        have H2 : Hid (B[j]? = some (k2, v2)) := h2
        clear h1 h2 hg hg' hm HW HA HB
        by_cases e1 : k1 = k2
        · by_cases e2' : v1 = v2
          · subst e1 e2'
            go_wp2_with fail
            go_region
            all_goals go_wp2_with fail
            all_goals go_roundg gk
            case measure => omega
            case rel => exact ⟨j + 1, by omega, by first | rfl | simp, fun q hq => by
              by_cases e : q = j
              · rw [e, H1.out, H2.out]
              · exact HQ.out q (by omega), HW2⟩
          · subst e1
            have n1 : (v1 == v2) = false := by simpa using e2'
            go_wp2_with fail
            go_region
            all_goals go_wp2_with fail
            all_goals go_ret
            all_goals refine ⟨?_, HW2.out⟩
            all_goals rw [HBO.out, decide_eq_false (fun q => by
              have h1 := H1.out
              rw [q, H2.out] at h1
              simp at h1
              exact e2' h1.symm)]
            all_goals rfl
        · have n1 : (k1 == k2) = false := by simpa using e1
          go_wp2_with fail
          go_region
          all_goals go_wp2_with fail
          all_goals go_ret
          all_goals refine ⟨?_, HW2.out⟩
          all_goals rw [HBO.out, decide_eq_false (fun q => by
            have h1 := H1.out
            rw [q, H2.out] at h1
            simp at h1
            exact e1 h1.1.symm)]
          all_goals rfl
  · have hne : ((A.length : Int) == (B.length : Int)) = false := beq_eq_false_iff_ne.2 (by omega)
    have hAB : decide (A = B) = false := decide_eq_false (fun q => hlen (by rw [q]))
    rw [hAB]
    clear hA hB hAB
    go_enter Try.func42, Try.ntmps42
    go_wp2_with fail
    go_ret
    exact ⟨rfl, 0, rfl⟩
end Go.Proofs.Ytdhinpmjbcohaaa.Rf
