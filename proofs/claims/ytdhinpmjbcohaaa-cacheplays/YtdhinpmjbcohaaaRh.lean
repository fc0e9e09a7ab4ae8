import Derived.Test.YtdhinpmjbcohaaaRf
import Derived.Laws.AppendOwnNone
import Derived.Lib.MinMax
namespace Go.Proofs.Ytdhinpmjbcohaaa.Rf
open Go Go.RowKit
set_option linter.unusedSimpArgs false
set_option linter.unusedVariables false

theorem own_keep {w w' : World} {B e s n : Nat} {v : Value} {xs : List Value} (h : w.ownsRow B e s v n xs) (hk : ∀ k, v.ownBlock = some k → w'.heap[k]? = w.heap[k]?) : w'.ownsRow B e s v n xs := by
  refine ⟨h.1, ?_⟩
  rcases h.2 with h0 | ⟨g, cap, cur, rfl, h1, hg, h2⟩
  · exact .inl h0
  · exact .inr ⟨g, cap, cur, rfl, h1, (hk g rfl).trans hg, h2⟩
theorem own_blk {w : World} {B e s n : Nat} {v : Value} {xs : List Value} (h : w.ownsRow B e s v n xs) {k : Nat} (hk : v.ownBlock = some k) : ∃ c, w.heap[k]? = some (.cells c e (0, 0)) := by
  rcases h.2 with ⟨r, _⟩ | ⟨g, cap, cur, r, _, hg, _⟩
  · rw [r] at hk; cases hk
  · rw [r] at hk
    have e' : g = k := by simpa [Value.ownBlock] using hk
    subst e'
    exact ⟨_, hg⟩
theorem RS.lt {w : World} {mb room : Nat} {L : List (Int × Int)} {G : Nat → Prop} (h : RS w mb room L G) {j : Nat} (hj : G j) : j < w.heap.size := by
  obtain ⟨⟨v, h1, h2, h3⟩, _⟩ := h
  rcases (h3 j).1 hj with rfl | q
  · exact (Array.getElem?_eq_some_iff.1 h1).1
  · exact (h2.lt j q).2
theorem RS.keep {w w' : World} {mb room : Nat} {L : List (Int × Int)} {G : Nat → Prop} (h : RS w mb room L G) (hk : ∀ j, G j → w'.heap[j]? = w.heap[j]?) : RS w' mb room L G := by
  obtain ⟨⟨v, h1, h2, h3⟩, h4⟩ := h
  exact ⟨⟨v, (hk mb ((h3 mb).2 (.inl rfl))).trans h1, own_keep h2 (fun k q => hk k ((h3 k).2 (.inr q))), h3⟩, h4⟩
/-- What comes of a call. -/
def AftR (w : World) (mb room : Nat) (G : Nat → Prop) (L' : List (Int × Int)) (w' : World) : Prop := (∃ G', RS w' mb room L' G' ∧ ∀ j, G' j → G j ∨ w.heap.size ≤ j) ∧ Ch G w w'
/-- A list of the cache's own is laid down anew. -/
theorem RS.set {w2 : World} {mb room : Nat} {v x : Value} {L' : List (Int × Int)} (hb : w2.heap[mb]? = some (.cells #[.int .i64 room, x] 79 (0, 0))) (ho : w2.ownsRow 0 90 2 v L'.length (e2 L')) (hnd : (L'.map (·.1)).Nodup) : RS (w2.setCell ⟨mb, 1, none⟩ v) mb room L' (fun j => j = mb ∨ v.ownBlock = some j) := by
  refine ⟨⟨v, ?_, own_keep ho (fun k q => heap_set_ne _ (fun r => ?_)), fun j => Iff.rfl⟩, hnd⟩
  · rw [heap_set hb]
    simp
  · obtain ⟨c, hc⟩ := own_blk ho q
    rw [r, hb] at hc
    simp at hc
theorem take_any {w : World} {mb room : Nat} {L : List (Int × Int)} {G : Nat → Prop} (h : RS w mb room L G) (k : Int) (hl : L.length ≤ 400000) : Calls Try.prog 56 #[pt mb, .int .i64 k] w fun r w' => r = .returned (.tuple #[.int .i64 ((lget L k).getD 0), .bool (lget L k).isSome]) ∧ AftR w mb room G (lout L k) w' := by
  have h0 := h
  obtain ⟨⟨v, hb, ho, hG⟩, hnd⟩ := h
  obtain ⟨a, cap, rfl⟩ := own_shape ho
  refine take_walk hb ho hl _ (fun hn => ?_) (fun L1 v L2 e va na ca w2 h1 h2 h3 => ?_)
  · have hk : k ∉ L.map (·.1) := fun q => by
      obtain ⟨p, hp, e⟩ := List.mem_map.1 q
      exact hn p hp e
    rw [lget_of_not hk, lout_not hk]
    exact ⟨rfl, ⟨G, h0, fun j q => .inl q⟩, Ch.refl _ _⟩
  · subst e
    rw [List.map_append, List.map_cons] at hnd
    have hmid := List.nodup_cons.1 (List.perm_middle.nodup_iff.1 hnd)
    have hk1 : k ∉ L1.map (·.1) := fun q => hmid.1 (List.mem_append.2 (.inl q))
    have hk2 : k ∉ L2.map (·.1) := fun q => hmid.1 (List.mem_append.2 (.inr q))
    rw [lget_mid hk1, lout_mid hk1 hk2]
    have hb2 := (h2.block mb (Array.getElem?_eq_some_iff.1 hb).1 (fun q => q)).trans hb
    have hmb : G mb := (hG mb).2 (.inl rfl)
    refine ⟨rfl, ⟨_, RS.set hb2 h1 (by rw [List.map_append]; exact hmid.2), fun j q => ?_⟩, ?_⟩
    · rcases q with q | q
      · exact .inl (q ▸ hmb)
      · exact .inr (h3 j q)
    · exact (h2.mono (fun j _ q => q.elim)).then ((ch_set mb 1 _).mono (fun j _ q => q ▸ hmb))
theorem app_any {w : World} {v x : Value} {A L : List (Int × Int)} (ho : w.ownsRow 0 90 2 v A.length (e2 A)) (hx : w.ownsRow 0 90 2 x L.length (e2 L)) (hl : A.length + L.length ≤ 1000000) : ∃ v' w', (Builtin.append_ #[77, 77] 77 #[v, x]).run Try.prog w = .ok v' w' ∧ w'.ownsRow 0 90 2 v' (A ++ L).length (e2 (A ++ L)) ∧ Ch (fun j => v.ownBlock = some j) w w' ∧ (v'.ownBlock = v.ownBlock ∨ v'.ownBlock = some w.heap.size) := by
  have hcells := fun (g : Nat) (hg : x.ownBlock = some g) => hx.cells hg
  rcases hx.2 with ⟨rfl, h0⟩ | ⟨g, cap, cur, rfl, _⟩
  · have hL : L = [] := List.length_eq_zero_iff.1 h0
    obtain ⟨i0, hi0, hz⟩ := Option.map_eq_some_iff.1 info90
    refine ⟨v, w, run_append_owned_none (P := Try.prog) (w := w) 0 77 77 90 i0 2 Try.underlying77 hi0 v A.length (e2 A) ho, ?_, Ch.refl _ _, .inl rfl⟩
    rw [hL, List.append_nil]
    exact ho
  · exact app_many ho ⟨g, 0, none⟩ cap (hcells g rfl) hl
set_option maxRecDepth 100000 in
set_option maxHeartbeats 1000000 in
theorem first_walk {w w2 : World} {mb n cap nl ca : Nat} {a va : Option Addr} {k v : Int} {x : Value} (c1 : (w.alloc (.cells #[.int .i64 k, .int .i64 v] 90)).cell? ⟨mb, 1, none⟩ = some (.slice a n cap)) (hr : (Builtin.append_ #[77, 77] 77 #[.slice (some ⟨w.heap.size, 0, none⟩) 1 1, .slice a n cap]).run Try.prog (w.alloc (.cells #[.int .i64 k, .int .i64 v] 90)) = .ok (.slice va nl ca) w2) (c2 : w2.cell? ⟨mb, 1, none⟩ = some x) (f2 : w2.frozen? ⟨mb, 1, none⟩ = false) :
    Calls Try.prog 57 #[pt mb, .int .i64 k, .int .i64 v] w fun r w' => r = .returned (.tuple #[]) ∧ w' = w2.setCell ⟨mb, 1, none⟩ (.slice va nl ca) := by
  have HR : Hid ((Builtin.append_ #[77, 77] 77 #[.slice (some ⟨w.heap.size, 0, none⟩) 1 1, .slice a n cap]).run Try.prog (w.alloc (.cells #[.int .i64 k, .int .i64 v] 90)) = .ok (.slice va nl ca) w2) := hr
  have hb90 : ∀ w', (Instr.build 90 #[(0, .int .i64 k), (1, .int .i64 v)]).run Try.prog w' = .ok (.agg #[.int .i64 k, .int .i64 v]) w' := fun w' => run_build w' 90 _ _ (by kernel_rfl)
  clear hr
  unfold pt
  go_enter Try.func57, Try.ntmps57
  go_wp2_with (at_builtin; refine Lib.wpList_append_run _ rfl (.tmp 12) (.tmp 16) 77 77 rfl _ _ rfl rfl _ w2 HR.out ?_)
  all_goals first | go_end0 | refine bodyPost_ret (results_none rfl _ _ _) rfl ?_
  all_goals exact ⟨rfl, rfl⟩
theorem first_any {w : World} {mb room : Nat} {L : List (Int × Int)} {G : Nat → Prop} (h : RS w mb room L G) (k v : Int) (hk : k ∉ L.map (·.1)) (hl : L.length ≤ 400000) : Calls Try.prog 57 #[pt mb, .int .i64 k, .int .i64 v] w fun r w' => r = .returned (.tuple #[]) ∧ AftR w mb room G ((k, v) :: L) w' := by
  obtain ⟨⟨x, hb, ho, hG⟩, hnd⟩ := h
  obtain ⟨a, cap, rfl⟩ := own_shape ho
  have hmb : G mb := (hG mb).2 (.inl rfl)
  have hlt := (Array.getElem?_eq_some_iff.1 hb).1
  have hold : ∀ j, j < w.heap.size → (w.alloc (.cells #[.int .i64 k, .int .i64 v] 90)).heap[j]? = w.heap[j]? := fun j hj => (World.grownBy_alloc w _ none).block j hj (by simp)
  have hbA := (hold mb hlt).trans hb
  have hoA : (w.alloc (.cells #[.int .i64 k, .int .i64 v] 90)).ownsRow 0 90 2 (.slice a L.length cap) L.length (e2 L) := ho.alloc _
  have hone : (w.alloc (.cells #[.int .i64 k, .int .i64 v] 90)).ownsRow 0 90 2 (.slice (some ⟨w.heap.size, 0, none⟩) 1 1) [(k, v)].length (e2 [(k, v)]) := ⟨rfl, .inr ⟨w.heap.size, 1, #[.int .i64 k, .int .i64 v], rfl, Nat.zero_le _, (MapKept.heap_alloc _ _).1, Nat.le_refl _, by unfold maxLen; omega, rfl, rfl⟩⟩
  obtain ⟨v', w2, hr, h2, hc, hloc⟩ := app_any hone hoA (by simp; omega)
  obtain ⟨va, ca, rfl⟩ := own_shape h2
  have hc' : Ch (fun _ => False) w w2 := (ch_alloc (fun _ => False) w _).trans hc (fun j hj q => by
    simp [Value.ownBlock] at q
    omega)
  have hb2 := (hc'.block mb hlt (fun q => q)).trans hb
  refine (first_walk (x := .slice a L.length cap) (box_cells hbA 1 _ rfl) hr (box_cells hb2 1 _ rfl) (box_frozen hb2 1)).mono ?_
  rintro r w' ⟨rfl, rfl⟩
  refine ⟨rfl, ⟨_, RS.set hb2 h2 (List.nodup_cons.2 ⟨hk, hnd⟩), fun j q => ?_⟩, ?_⟩
  · rcases q with q | q
    · exact .inl (q ▸ hmb)
    · rcases hloc with e | e
      · rw [e] at q
        simp [Value.ownBlock] at q
        exact .inr (by omega)
      · rw [e] at q
        simp at q
        exact .inr (by omega)
  · exact (hc'.mono (fun j _ q => q.elim)).then ((ch_set mb 1 _).mono (fun j _ q => q ▸ hmb))
theorem AftR.then {w w1 w2 : World} {mb room : Nat} {G G1 : Nat → Prop} {L1 L2 : List (Int × Int)} (hlo : ∀ j, G1 j → G j ∨ w.heap.size ≤ j) (hc : Ch G w w1) (h2 : AftR w1 mb room G1 L2 w2) : AftR w mb room G L2 w2 := by
  obtain ⟨⟨G2, r2, l2⟩, hc2⟩ := h2
  refine ⟨⟨G2, r2, fun j q => ?_⟩, hc.trans hc2 (fun j hj q => ?_)⟩
  · rcases l2 j q with q | q
    · exact hlo j q
    · exact .inr (Nat.le_trans hc.size q)
  · rcases hlo j q with r | r
    · exact r
    · omega
theorem lout_nin {L : List (Int × Int)} (k : Int) : k ∉ (lout L k).map (·.1) := fun q => (lout_keys.1 q).2 rfl
theorem lout_length (L : List (Int × Int)) (k : Int) : (lout L k).length ≤ L.length := List.length_filter_le _ _
set_option maxRecDepth 100000 in
set_option maxHeartbeats 1000000 in
/-- The document's Get. -/
theorem rget_any {w : World} {mb room : Nat} {L : List (Int × Int)} {G : Nat → Prop} (h : RS w mb room L G) (k : Int) (hl : L.length ≤ 400000) : Calls Try.prog 30 #[pt mb, .int .i64 k] w fun r w' => r = .returned (.tuple #[.int .i64 ((lget L k).getD 0), .bool (lget L k).isSome]) ∧ AftR w mb room G (match lget L k with | some v => ltop k v L | none => L) w' := by
  have HT : Hid (Calls Try.prog 56 #[pt mb, .int .i64 k] w fun r w' => r = .returned (.tuple #[.int .i64 ((lget L k).getD 0), .bool (lget L k).isSome]) ∧ AftR w mb room G (lout L k) w') := take_any h k hl
  have HF : Hid (∀ w1 G1 v, RS w1 mb room (lout L k) G1 → Calls Try.prog 57 #[pt mb, .int .i64 k, .int .i64 v] w1 fun r w' => r = .returned (.tuple #[]) ∧ AftR w1 mb room G1 ((k, v) :: lout L k) w') := fun w1 G1 v hr => first_any hr k v (lout_nin k) (Nat.le_trans (lout_length L k) hl)
  clear h
  cases hg : lget L k with
  | none =>
    rw [hg, lout_not (lget_none hg)] at HT
    simp only [Option.getD_none, Option.isSome_none] at HT ⊢
    clear HF hg
    unfold pt at HT ⊢
    go_enter Try.func30, Try.ntmps30
    go_wp2_with fail
    go_must (go_at_call 56)
    refine (HT.out).mono ?_
    rintro r w1 ⟨rfl, h1⟩
    have Z : Hid (AftR w mb room G L w1) := h1
    clear h1
    go_wp2_with fail
    go_ret2
    exact ⟨rfl, Z.out⟩
  | some u =>
    rw [hg] at HT
    simp only [Option.getD_some, Option.isSome_some] at HT ⊢
    clear hg
    unfold pt at HT HF ⊢
    go_enter Try.func30, Try.ntmps30
    go_wp2_with fail
    go_must (go_at_call 56)
    refine (HT.out).mono ?_
    rintro r w1 ⟨rfl, h1⟩
    have Z : Hid (AftR w mb room G (lout L k) w1) := h1
    clear h1
    obtain ⟨⟨G1, r1, l1⟩, hc1⟩ := Z.out
    have HF1 : Hid (Calls Try.prog 57 #[.pointer (some ⟨mb, 0, none⟩), .int .i64 k, .int .i64 u] w1 fun r w' => r = .returned (.tuple #[]) ∧ AftR w1 mb room G1 ((k, u) :: lout L k) w') := HF.out w1 G1 u r1
    have Y : Hid ((∀ j, G1 j → G j ∨ w.heap.size ≤ j) ∧ Ch G w w1) := ⟨l1, hc1⟩
    clear HF r1 l1 hc1 Z
    go_wp2_with fail
    go_must (go_at_call 57)
    refine (HF1.out).mono ?_
    rintro r w2 ⟨rfl, h2⟩
    have Z2 : Hid (AftR w mb room G ((k, u) :: lout L k) w2) := AftR.then (L1 := []) Y.out.1 Y.out.2 h2
    clear h2
    go_wp2_with fail
    go_ret2
    exact ⟨rfl, Z2.out⟩
set_option maxRecDepth 100000 in
set_option maxHeartbeats 1000000 in
/-- The document's Drop. -/
theorem rdrop_any {w : World} {mb room : Nat} {L : List (Int × Int)} {G : Nat → Prop} (h : RS w mb room L G) (k : Int) (hl : L.length ≤ 400000) : Calls Try.prog 34 #[pt mb, .int .i64 k] w fun r w' => r = .returned (.bool (lget L k).isSome) ∧ AftR w mb room G (lout L k) w' := by
  have HT : Hid (Calls Try.prog 56 #[pt mb, .int .i64 k] w fun r w' => r = .returned (.tuple #[.int .i64 ((lget L k).getD 0), .bool (lget L k).isSome]) ∧ AftR w mb room G (lout L k) w') := take_any h k hl
  clear h
  unfold pt at HT ⊢
  go_enter Try.func34, Try.ntmps34
  go_wp2_with fail
  go_must (go_at_call 56)
  refine (HT.out).mono ?_
  rintro r w1 ⟨rfl, h1⟩
  have Z : Hid (AftR w mb room G (lout L k) w1) := h1
  clear h1
  go_wp2_with fail
  go_ret
  exact ⟨rfl, Z.out⟩
set_option maxRecDepth 100000 in
set_option maxHeartbeats 1000000 in
theorem rclear_run {w : World} {mb n cap : Nat} {a : Option Addr} (c1 : w.cell? ⟨mb, 1, none⟩ = some (.slice a n cap)) (f1 : w.frozen? ⟨mb, 1, none⟩ = false) : Calls Try.prog 36 #[pt mb] w fun r w' => r = .returned (.int .i64 n) ∧ w' = w.setCell ⟨mb, 1, none⟩ (.slice none 0 0) := by
  unfold pt
  go_enter Try.func36, Try.ntmps36
  go_wp2_with fail
  go_ret
  exact ⟨rfl, rfl⟩
/-- The document's Clear. -/
theorem rclear_any {w : World} {mb room : Nat} {L : List (Int × Int)} {G : Nat → Prop} (h : RS w mb room L G) : Calls Try.prog 36 #[pt mb] w fun r w' => r = .returned (.int .i64 L.length) ∧ AftR w mb room G [] w' := by
  obtain ⟨⟨x, hb, ho, hG⟩, hnd⟩ := h
  obtain ⟨a, cap, rfl⟩ := own_shape ho
  have hmb : G mb := (hG mb).2 (.inl rfl)
  refine (rclear_run (box_cells hb 1 _ rfl) (box_frozen hb 1)).mono ?_
  rintro r w' ⟨rfl, rfl⟩
  refine ⟨rfl, ⟨_, RS.set hb (L' := []) (World.ownsRow_nil _ _ _ _) (by simp), fun j q => ?_⟩, (ch_set mb 1 _).mono (fun j _ q => q ▸ hmb)⟩
  rcases q with q | q
  · exact .inl (q ▸ hmb)
  · cases q
set_option maxRecDepth 100000 in
set_option maxHeartbeats 1000000 in
theorem roldest_none {w : World} {mb cap : Nat} {a : Option Addr} (c1 : w.cell? ⟨mb, 1, none⟩ = some (.slice a 0 cap)) : Calls Try.prog 39 #[pt mb] w fun r w' => r = .returned (.tuple #[.int .i64 0, .bool false]) ∧ w' = w := by
  unfold pt
  go_enter Try.func39, Try.ntmps39
  go_wp2_with fail
  go_ret2
  exact ⟨rfl, rfl⟩
set_option maxRecDepth 100000 in
set_option maxHeartbeats 1000000 in
theorem roldest_some {w : World} {mb n cap g : Nat} {k : Int} (hn : n ≤ 400000) (c1 : w.cell? ⟨mb, 1, none⟩ = some (.slice (some ⟨g, 0, none⟩) (n + 1) cap)) (ck : w.cell? ⟨g, n * 2, none⟩ = some (.int .i64 k)) : Calls Try.prog 39 #[pt mb] w fun r w' => r = .returned (.tuple #[.int .i64 k, .bool true]) ∧ w' = w.drew := by
  have hw : wrap64 (n : Int) = (n : Int) := by unfold wrap64; omega
  have h0 : (((n + 1 : Nat) : Int) == 0) = false := beq_eq_false_iff_ne.2 (by omega)
  have h1 : ((n : Int) + 1 == 0) = false := beq_eq_false_iff_ne.2 (by omega)
  have h2 : (0 : Int) ≤ (n : Int) := by omega
  have h3 : (n : Int) < (n : Int) + 1 := by omega
  unfold pt
  go_enter Try.func39, Try.ntmps39
  go_wp2_with fail
  go_region
  all_goals go_wp2_with fail
  all_goals go_ret2
  all_goals exact ⟨rfl, rfl⟩
/-- The document's Oldest. -/
theorem roldest_any {w : World} {mb room : Nat} {L : List (Int × Int)} {G : Nat → Prop} (h : RS w mb room L G) (hl : L.length ≤ 400000) : Calls Try.prog 39 #[pt mb] w fun r w' => r = .returned (.tuple #[.int .i64 ((L.getLast?.map (·.1)).getD 0), .bool L.getLast?.isSome]) ∧ (w' = w ∨ w' = w.drew) := by
  obtain ⟨⟨x, hb, ho, hG⟩, hnd⟩ := h
  obtain ⟨a, cap, rfl⟩ := own_shape ho
  rcases List.eq_nil_or_concat L with rfl | ⟨T, p, rfl⟩
  · refine (roldest_none (box_cells hb 1 _ rfl)).mono ?_
    rintro r w' ⟨rfl, rfl⟩
    exact ⟨rfl, .inl rfl⟩
  · rw [List.concat_eq_append] at *
    have hlen : (T ++ [p]).length = T.length + 1 := by simp
    have hcells := fun (g : Nat) (hg : (Value.slice a (T ++ [p]).length cap).ownBlock = some g) => ho.cells hg
    rcases ho.2 with ⟨_, q⟩ | ⟨g, cap', cur, hv, _⟩
    · omega
    · simp only [Value.slice.injEq] at hv
      obtain ⟨rfl, _, rfl⟩ := hv
      have hat := (e2_at (T ++ [p]) T.length p (by simp)).1
      have hc := hcells g rfl _ _ hat
      rw [addr0, Nat.zero_add] at hc
      rw [hlen] at hb
      refine (roldest_some (n := T.length) (by omega) (box_cells hb 1 _ rfl) hc).mono ?_
      rintro r w' ⟨rfl, rfl⟩
      refine ⟨?_, .inr rfl⟩
      simp
set_option maxRecDepth 100000 in
set_option maxHeartbeats 1000000 in
theorem rput_walk {w : World} {mb room : Nat} {k v : Int} {R0 R1 R2 : World → Prop} (h1 : Calls Try.prog 56 #[pt mb, .int .i64 k] w fun r w' => (∃ u, r = .returned u) ∧ R0 w') (h2 : ∀ w1, R0 w1 → Calls Try.prog 57 #[pt mb, .int .i64 k, .int .i64 v] w1 fun r w' => r = .returned (.tuple #[]) ∧ R1 w')
    (h3 : ∀ w2, R1 w2 → ∃ (g n cap : Nat), w2.cell? ⟨mb, 0, none⟩ = some (.int .i64 room) ∧ w2.cell? ⟨mb, 1, none⟩ = some (.slice (some ⟨g, 0, none⟩) n cap) ∧ w2.frozen? ⟨mb, 1, none⟩ = false ∧ n ≤ cap ∧ ((¬ (room : Int) < n ∧ R2 w2.drew) ∨ ((room : Int) < n ∧ R2 (w2.drew.drew.setCell ⟨mb, 1, none⟩ (.slice (some ⟨g, 0, none⟩) room cap))))) :
    Calls Try.prog 32 #[pt mb, .int .i64 k, .int .i64 v] w fun r w' => r = .returned (.tuple #[]) ∧ R2 w' := by
  have H1 : Hid (Calls Try.prog 56 #[pt mb, .int .i64 k] w fun r w' => (∃ u, r = .returned u) ∧ R0 w') := h1
  have H2 : Hid (∀ w1, R0 w1 → Calls Try.prog 57 #[pt mb, .int .i64 k, .int .i64 v] w1 fun r w' => r = .returned (.tuple #[]) ∧ R1 w') := h2
  have H3 : Hid (∀ w2, R1 w2 → ∃ (g n cap : Nat), w2.cell? ⟨mb, 0, none⟩ = some (.int .i64 room) ∧ w2.cell? ⟨mb, 1, none⟩ = some (.slice (some ⟨g, 0, none⟩) n cap) ∧ w2.frozen? ⟨mb, 1, none⟩ = false ∧ n ≤ cap ∧ ((¬ (room : Int) < n ∧ R2 w2.drew) ∨ ((room : Int) < n ∧ R2 (w2.drew.drew.setCell ⟨mb, 1, none⟩ (.slice (some ⟨g, 0, none⟩) room cap))))) := h3
  clear h1 h2 h3
  unfold pt at H1 H2 ⊢
  go_enter Try.func32, Try.ntmps32
  go_wp2_with fail
  go_must (go_at_call 56)
  refine (H1.out).mono ?_
  rintro r w1 ⟨⟨u, rfl⟩, h1⟩
  have g1 : Hid (R0 w1) := h1
  clear h1
  go_wp2_with fail
  go_must (go_at_call 57)
  refine (H2.out w1 g1.out).mono ?_
  rintro r w2 ⟨rfl, h2⟩
  obtain ⟨g, n, cap, m0, m1, m2, hnc, hor⟩ := H3.out w2 h2
  clear h2
  rcases hor with ⟨hlt, hR⟩ | ⟨hlt, hR⟩
  · have z : Hid (R2 w2.drew) := hR
    clear hR hnc
    go_wp2_with fail
    go_region
    all_goals go_wp2_with fail
    all_goals first | go_end0 | refine bodyPost_ret (results_none rfl _ _ _) rfl ?_
    all_goals exact ⟨rfl, z.out⟩
  · have z : Hid (R2 (w2.drew.drew.setCell ⟨mb, 1, none⟩ (.slice (some ⟨g, 0, none⟩) room cap))) := hR
    have q0 : (0 : Int) ≤ (room : Int) := by omega
    have q1 : (room : Int) ≤ (cap : Int) := by omega
    have q2 : (n : Int) ≤ (cap : Int) := by omega
    clear hR hnc
    go_wp2_with fail
    go_region
    all_goals go_wp2_with fail
    all_goals go_region
    all_goals go_wp2_with fail
    all_goals first | go_end0 | refine bodyPost_ret (results_none rfl _ _ _) rfl ?_
    all_goals exact ⟨rfl, z.out⟩
end Go.Proofs.Ytdhinpmjbcohaaa.Rf
