import Derived.Test.YtdhinpmjbcohaaaGreatRf
import Derived.Laws.AppendOwnNone
import Derived.Lib.MinMax
import Derived.Test.YtdhinpmjbcohaaaGreatPa
import Derived.Deep.LoopGhost
import Derived.Lib.AppendZeros
import Derived.Maps.AppendAt
namespace Go.Proofs.YtdhinpmjbcohaaaGreat.Rf
open Go Go.RowKit
set_option linter.unusedSimpArgs false
set_option linter.unusedVariables false
set_option maxRecDepth 100000
set_option maxHeartbeats 4000000

theorem own_keep {w w' : World} {B e s n : Nat} {v : Value} {xs : List Value} (h : w.ownsRow B e s v n xs) (hk : ∀ k, v.ownBlock = some k → w'.heap[k]? = w.heap[k]?) : w'.ownsRow B e s v n xs := by
 refine ⟨h.1, ?_⟩
 rcases h.2 with h0 | ⟨g, cap, cur, rfl, h1, hg, h2⟩
 ·
  exact .inl h0
 ·
  exact .inr ⟨g, cap, cur, rfl, h1, (hk g rfl).trans hg, h2⟩
theorem own_blk {w : World} {B e s n : Nat} {v : Value} {xs : List Value} (h : w.ownsRow B e s v n xs) {k : Nat} (hk : v.ownBlock = some k) : ∃ c, w.heap[k]? = some (.cells c e (0, 0)) := by
 rcases h.2 with ⟨r, _⟩ | ⟨g, cap, cur, r, _, hg, _⟩
 ·
  rw [r] at hk; cases hk
 ·
  rw [r] at hk
  have e' : g = k := by simpa [Value.ownBlock] using hk
  subst e'
  exact ⟨_, hg⟩
theorem RS.lt {w : World} {mb room : Nat} {L : List (Int × Int)} {G : Nat → Prop} (h : RS w mb room L G) {j : Nat} (hj : G j) : j < w.heap.size := by
 obtain ⟨⟨v, h1, h2, h3⟩, _⟩ := h
 rcases (h3 j).1 hj with rfl | q
 ·
  exact (Array.getElem?_eq_some_iff.1 h1).1
 ·
  exact (h2.lt j q).2
theorem RS.keep {w w' : World} {mb room : Nat} {L : List (Int × Int)} {G : Nat → Prop} (h : RS w mb room L G) (hk : ∀ j, G j → w'.heap[j]? = w.heap[j]?) : RS w' mb room L G := by
 obtain ⟨⟨v, h1, h2, h3⟩, h4⟩ := h
 exact ⟨⟨v, (hk mb ((h3 mb).2 (.inl rfl))).trans h1, own_keep h2 (fun k q => hk k ((h3 k).2 (.inr q))), h3⟩, h4⟩
def AftR (w : World) (mb room : Nat) (G : Nat → Prop) (L' : List (Int × Int)) (w' : World) : Prop := (∃ G', RS w' mb room L' G' ∧ ∀ j, G' j → G j ∨ w.heap.size ≤ j) ∧ Ch G w w'
theorem RS.set {w2 : World} {mb room : Nat} {v x : Value} {L' : List (Int × Int)} (hb : w2.heap[mb]? = some (.cells #[.int .i64 room, x] 92 (0, 0))) (ho : w2.ownsRow 0 120 2 v L'.length (e2 L')) (hnd : (L'.map (·.1)).Nodup) : RS (w2.setCell ⟨mb, 1, none⟩ v) mb room L' (fun j => j = mb ∨ v.ownBlock = some j) := by
 refine ⟨⟨v, ?_, own_keep ho (fun k q => heap_set_ne _ (fun r => ?_)), fun j => Iff.rfl⟩, hnd⟩
 ·
  rw [heap_set hb]
  simp
 ·
  obtain ⟨c, hc⟩ := own_blk ho q
  rw [r, hb] at hc
  simp at hc
theorem take_any {w : World} {mb room : Nat} {L : List (Int × Int)} {G : Nat → Prop} (h : RS w mb room L G) (k : Int) (hl : L.length ≤ 400000) : Calls Tryz.prog 70 #[pt mb, .int .i64 k] w fun r w' => r = .returned (.tuple #[.int .i64 ((lget L k).getD 0), .bool (lget L k).isSome]) ∧ AftR w mb room G (lout L k) w' := by
 have h0 := h
 obtain ⟨⟨v, hb, ho, hG⟩, hnd⟩ := h
 obtain ⟨a, cap, rfl⟩ := own_shape ho
 refine take_walk hb ho hl _ (fun hn => ?_) (fun L1 v L2 e va na ca w2 h1 h2 h3 => ?_)
 ·
  have hk : k ∉ L.map (·.1) := fun q => by
   obtain ⟨p, hp, e⟩ := List.mem_map.1 q
   exact hn p hp e
  rw [lget_of_not hk, lout_not hk]
  exact ⟨rfl, ⟨G, h0, fun j q => .inl q⟩, Ch.refl _ _⟩
 ·
  subst e
  rw [List.map_append, List.map_cons] at hnd
  have hmid := List.nodup_cons.1 (List.perm_middle.nodup_iff.1 hnd)
  have hk1 : k ∉ L1.map (·.1) := fun q => hmid.1 (List.mem_append.2 (.inl q))
  have hk2 : k ∉ L2.map (·.1) := fun q => hmid.1 (List.mem_append.2 (.inr q))
  rw [lget_mid hk1, lout_mid hk1 hk2]
  have hb2 := (h2.block mb (Array.getElem?_eq_some_iff.1 hb).1 (fun q => q)).trans hb
  have hmb : G mb := (hG mb).2 (.inl rfl)
  refine ⟨rfl, ⟨_, RS.set hb2 h1 (by rw [List.map_append]; exact hmid.2), fun j q => ?_⟩, ?_⟩
  ·
   rcases q with q | q
   ·
    exact .inl (q ▸ hmb)
   ·
    exact .inr (h3 j q)
  ·
   exact (h2.mono (fun j _ q => q.elim)).then ((ch_set mb 1 _).mono (fun j _ q => q ▸ hmb))
theorem app_any {w : World} {v x : Value} {A L : List (Int × Int)} (ho : w.ownsRow 0 120 2 v A.length (e2 A)) (hx : w.ownsRow 0 120 2 x L.length (e2 L)) (hl : A.length + L.length ≤ 1000000) : ∃ v' w', (Builtin.append_ #[90, 90] 90 #[v, x]).run Tryz.prog w = .ok v' w' ∧ w'.ownsRow 0 120 2 v' (A ++ L).length (e2 (A ++ L)) ∧ Ch (fun j => v.ownBlock = some j) w w' ∧ (v'.ownBlock = v.ownBlock ∨ v'.ownBlock = some w.heap.size) := by
 have hcells := fun (g : Nat) (hg : x.ownBlock = some g) => hx.cells hg
 rcases hx.2 with ⟨rfl, h0⟩ | ⟨g, cap, cur, rfl, _⟩
 ·
  have hL : L = [] := List.length_eq_zero_iff.1 h0
  obtain ⟨i0, hi0, hz⟩ := Option.map_eq_some_iff.1 info90
  refine ⟨v, w, run_append_owned_none (P := Tryz.prog) (w := w) 0 90 90 120 i0 2 Tryz.underlying90 hi0 v A.length (e2 A) ho, ?_, Ch.refl _ _, .inl rfl⟩
  rw [hL, List.append_nil]
  exact ho
 ·
  exact app_many ho ⟨g, 0, none⟩ cap (hcells g rfl) hl
theorem first_walk {w w2 : World} {mb n cap nl ca : Nat} {a va : Option Addr} {k v : Int} {x : Value} (c1 : (w.alloc (.cells #[.int .i64 k, .int .i64 v] 120)).cell? ⟨mb, 1, none⟩ = some (.slice a n cap)) (hr : (Builtin.append_ #[90, 90] 90 #[.slice (some ⟨w.heap.size, 0, none⟩) 1 1, .slice a n cap]).run Tryz.prog (w.alloc (.cells #[.int .i64 k, .int .i64 v] 120)) = .ok (.slice va nl ca) w2) (c2 : w2.cell? ⟨mb, 1, none⟩ = some x) (f2 : w2.frozen? ⟨mb, 1, none⟩ = false) :
  Calls Tryz.prog 71 #[pt mb, .int .i64 k, .int .i64 v] w fun r w' => r = .returned (.tuple #[]) ∧ w' = w2.setCell ⟨mb, 1, none⟩ (.slice va nl ca) := by
 have HR : Hid ((Builtin.append_ #[90, 90] 90 #[.slice (some ⟨w.heap.size, 0, none⟩) 1 1, .slice a n cap]).run Tryz.prog (w.alloc (.cells #[.int .i64 k, .int .i64 v] 120)) = .ok (.slice va nl ca) w2) := hr
 have hb90 : ∀ w', (Instr.build 120 #[(0, .int .i64 k), (1, .int .i64 v)]).run Tryz.prog w' = .ok (.agg #[.int .i64 k, .int .i64 v]) w' := fun w' => run_build w' 120 _ _ (by kernel_rfl)
 clear hr
 unfold pt
 go_enter Tryz.func71, Tryz.ntmps71
 go_wp2_with (at_builtin; refine Lib.wpList_append_run _ rfl (.tmp 12) (.tmp 16) 90 90 rfl _ _ rfl rfl _ w2 HR.out ?_)
 all_goals first | go_end0 | refine bodyPost_ret (results_none rfl _ _ _) rfl ?_
 all_goals exact ⟨rfl, rfl⟩
theorem first_any {w : World} {mb room : Nat} {L : List (Int × Int)} {G : Nat → Prop} (h : RS w mb room L G) (k v : Int) (hk : k ∉ L.map (·.1)) (hl : L.length ≤ 400000) : Calls Tryz.prog 71 #[pt mb, .int .i64 k, .int .i64 v] w fun r w' => r = .returned (.tuple #[]) ∧ AftR w mb room G ((k, v) :: L) w' := by
 obtain ⟨⟨x, hb, ho, hG⟩, hnd⟩ := h
 obtain ⟨a, cap, rfl⟩ := own_shape ho
 have hmb : G mb := (hG mb).2 (.inl rfl)
 have hlt := (Array.getElem?_eq_some_iff.1 hb).1
 have hold : ∀ j, j < w.heap.size → (w.alloc (.cells #[.int .i64 k, .int .i64 v] 120)).heap[j]? = w.heap[j]? := fun j hj => (World.grownBy_alloc w _ none).block j hj (by simp)
 have hbA := (hold mb hlt).trans hb
 have hoA : (w.alloc (.cells #[.int .i64 k, .int .i64 v] 120)).ownsRow 0 120 2 (.slice a L.length cap) L.length (e2 L) := ho.alloc _
 have hone : (w.alloc (.cells #[.int .i64 k, .int .i64 v] 120)).ownsRow 0 120 2 (.slice (some ⟨w.heap.size, 0, none⟩) 1 1) [(k, v)].length (e2 [(k, v)]) := ⟨rfl, .inr ⟨w.heap.size, 1, #[.int .i64 k, .int .i64 v], rfl, Nat.zero_le _, (MapKept.heap_alloc _ _).1, Nat.le_refl _, by unfold maxLen; omega, rfl, rfl⟩⟩
 obtain ⟨v', w2, hr, h2, hc, hloc⟩ := app_any hone hoA (by simp; omega)
 obtain ⟨va, ca, rfl⟩ := own_shape h2
 have hc' : Ch (fun _ => False) w w2 := (ch_alloc (fun _ => False) w _).trans hc (fun j hj q => by
  simp [Value.ownBlock] at q
  omega)
 have hb2 := (hc'.block mb hlt (fun q => q)).trans hb
 refine (first_walk (x := .slice a L.length cap) (box_cells hbA 1 _ rfl) hr (box_cells hb2 1 _ rfl) (box_frozen hb2 1)).mono ?_
 rintro r w' ⟨rfl, rfl⟩
 refine ⟨rfl, ⟨_, RS.set hb2 h2 (List.nodup_cons.2 ⟨hk, hnd⟩), fun j q => ?_⟩, ?_⟩
 ·
  rcases q with q | q
  ·
   exact .inl (q ▸ hmb)
  ·
   rcases hloc with e | e
   ·
    rw [e] at q
    simp [Value.ownBlock] at q
    exact .inr (by omega)
   ·
    rw [e] at q
    simp at q
    exact .inr (by omega)
 ·
  exact (hc'.mono (fun j _ q => q.elim)).then ((ch_set mb 1 _).mono (fun j _ q => q ▸ hmb))
theorem AftR.then {w w1 w2 : World} {mb room : Nat} {G G1 : Nat → Prop} {L1 L2 : List (Int × Int)} (hlo : ∀ j, G1 j → G j ∨ w.heap.size ≤ j) (hc : Ch G w w1) (h2 : AftR w1 mb room G1 L2 w2) : AftR w mb room G L2 w2 := by
 obtain ⟨⟨G2, r2, l2⟩, hc2⟩ := h2
 refine ⟨⟨G2, r2, fun j q => ?_⟩, hc.trans hc2 (fun j hj q => ?_)⟩
 ·
  rcases l2 j q with q | q
  ·
   exact hlo j q
  ·
   exact .inr (Nat.le_trans hc.size q)
 ·
  rcases hlo j q with r | r
  ·
   exact r
  ·
   omega
theorem lout_nin {L : List (Int × Int)} (k : Int) : k ∉ (lout L k).map (·.1) := fun q => (lout_keys.1 q).2 rfl
theorem lout_length (L : List (Int × Int)) (k : Int) : (lout L k).length ≤ L.length := List.length_filter_le _ _
theorem rget_any {w : World} {mb room : Nat} {L : List (Int × Int)} {G : Nat → Prop} (h : RS w mb room L G) (k : Int) (hl : L.length ≤ 400000) : Calls Tryz.prog 24 #[pt mb, .int .i64 k] w fun r w' => r = .returned (.tuple #[.int .i64 ((lget L k).getD 0), .bool (lget L k).isSome]) ∧ AftR w mb room G (match lget L k with | some v => ltop k v L | none => L) w' := by
 have HT : Hid (Calls Tryz.prog 70 #[pt mb, .int .i64 k] w fun r w' => r = .returned (.tuple #[.int .i64 ((lget L k).getD 0), .bool (lget L k).isSome]) ∧ AftR w mb room G (lout L k) w') := take_any h k hl
 have HF : Hid (∀ w1 G1 v, RS w1 mb room (lout L k) G1 → Calls Tryz.prog 71 #[pt mb, .int .i64 k, .int .i64 v] w1 fun r w' => r = .returned (.tuple #[]) ∧ AftR w1 mb room G1 ((k, v) :: lout L k) w') := fun w1 G1 v hr => first_any hr k v (lout_nin k) (Nat.le_trans (lout_length L k) hl)
 clear h
 cases hg : lget L k with
 | none =>
  rw [hg, lout_not (lget_none hg)] at HT
  simp only [Option.getD_none, Option.isSome_none] at HT ⊢
  clear HF hg
  unfold pt at HT ⊢
  go_enter Tryz.func24, Tryz.ntmps24
  go_wp2_with fail
  go_must (go_at_call 70)
  refine (HT.out).mono ?_
  rintro r w1 ⟨rfl, h1⟩
  have Z : Hid (AftR w mb room G L w1) := h1
  clear h1
  go_wp2_with fail
  go_ret2
  exact ⟨rfl, Z.out⟩
 | some u =>
  rw [hg] at HT
  simp only [Option.getD_some, Option.isSome_some] at HT ⊢
  clear hg
  unfold pt at HT HF ⊢
  go_enter Tryz.func24, Tryz.ntmps24
  go_wp2_with fail
  go_must (go_at_call 70)
  refine (HT.out).mono ?_
  rintro r w1 ⟨rfl, h1⟩
  have Z : Hid (AftR w mb room G (lout L k) w1) := h1
  clear h1
  obtain ⟨⟨G1, r1, l1⟩, hc1⟩ := Z.out
  have HF1 : Hid (Calls Tryz.prog 71 #[.pointer (some ⟨mb, 0, none⟩), .int .i64 k, .int .i64 u] w1 fun r w' => r = .returned (.tuple #[]) ∧ AftR w1 mb room G1 ((k, u) :: lout L k) w') := HF.out w1 G1 u r1
  have Y : Hid ((∀ j, G1 j → G j ∨ w.heap.size ≤ j) ∧ Ch G w w1) := ⟨l1, hc1⟩
  clear HF r1 l1 hc1 Z
  go_wp2_with fail
  go_must (go_at_call 71)
  refine (HF1.out).mono ?_
  rintro r w2 ⟨rfl, h2⟩
  have Z2 : Hid (AftR w mb room G ((k, u) :: lout L k) w2) := AftR.then (L1 := []) Y.out.1 Y.out.2 h2
  clear h2
  go_wp2_with fail
  go_ret2
  exact ⟨rfl, Z2.out⟩
theorem rdrop_any {w : World} {mb room : Nat} {L : List (Int × Int)} {G : Nat → Prop} (h : RS w mb room L G) (k : Int) (hl : L.length ≤ 400000) : Calls Tryz.prog 28 #[pt mb, .int .i64 k] w fun r w' => r = .returned (.bool (lget L k).isSome) ∧ AftR w mb room G (lout L k) w' := by
 have HT : Hid (Calls Tryz.prog 70 #[pt mb, .int .i64 k] w fun r w' => r = .returned (.tuple #[.int .i64 ((lget L k).getD 0), .bool (lget L k).isSome]) ∧ AftR w mb room G (lout L k) w') := take_any h k hl
 clear h
 unfold pt at HT ⊢
 go_enter Tryz.func28, Tryz.ntmps28
 go_wp2_with fail
 go_must (go_at_call 70)
 refine (HT.out).mono ?_
 rintro r w1 ⟨rfl, h1⟩
 have Z : Hid (AftR w mb room G (lout L k) w1) := h1
 clear h1
 go_wp2_with fail
 go_ret
 exact ⟨rfl, Z.out⟩
theorem rclear_run {w : World} {mb n cap : Nat} {a : Option Addr} (c1 : w.cell? ⟨mb, 1, none⟩ = some (.slice a n cap)) (f1 : w.frozen? ⟨mb, 1, none⟩ = false) : Calls Tryz.prog 30 #[pt mb] w fun r w' => r = .returned (.int .i64 n) ∧ w' = w.setCell ⟨mb, 1, none⟩ (.slice none 0 0) := by
 unfold pt
 go_enter Tryz.func30, Tryz.ntmps30
 go_wp2_with fail
 go_ret
 exact ⟨rfl, rfl⟩
theorem rclear_any {w : World} {mb room : Nat} {L : List (Int × Int)} {G : Nat → Prop} (h : RS w mb room L G) : Calls Tryz.prog 30 #[pt mb] w fun r w' => r = .returned (.int .i64 L.length) ∧ AftR w mb room G [] w' := by
 obtain ⟨⟨x, hb, ho, hG⟩, hnd⟩ := h
 obtain ⟨a, cap, rfl⟩ := own_shape ho
 have hmb : G mb := (hG mb).2 (.inl rfl)
 refine (rclear_run (box_cells hb 1 _ rfl) (box_frozen hb 1)).mono ?_
 rintro r w' ⟨rfl, rfl⟩
 refine ⟨rfl, ⟨_, RS.set hb (L' := []) (World.ownsRow_nil _ _ _ _) (by simp), fun j q => ?_⟩, (ch_set mb 1 _).mono (fun j _ q => q ▸ hmb)⟩
 rcases q with q | q
 ·
  exact .inl (q ▸ hmb)
 ·
  cases q
theorem roldest_none {w : World} {mb cap : Nat} {a : Option Addr} (c1 : w.cell? ⟨mb, 1, none⟩ = some (.slice a 0 cap)) : Calls Tryz.prog 33 #[pt mb] w fun r w' => r = .returned (.tuple #[.int .i64 0, .bool false]) ∧ w' = w := by
 unfold pt
 go_enter Tryz.func33, Tryz.ntmps33
 go_wp2_with fail
 go_ret2
 exact ⟨rfl, rfl⟩
theorem roldest_some {w : World} {mb n cap g : Nat} {k : Int} (hn : n ≤ 400000) (c1 : w.cell? ⟨mb, 1, none⟩ = some (.slice (some ⟨g, 0, none⟩) (n + 1) cap)) (ck : w.cell? ⟨g, n * 2, none⟩ = some (.int .i64 k)) : Calls Tryz.prog 33 #[pt mb] w fun r w' => r = .returned (.tuple #[.int .i64 k, .bool true]) ∧ w' = w.drew := by
 have hw : wrap64 (n : Int) = (n : Int) := by unfold wrap64; omega
 have h0 : (((n + 1 : Nat) : Int) == 0) = false := beq_eq_false_iff_ne.2 (by omega)
 have h1 : ((n : Int) + 1 == 0) = false := beq_eq_false_iff_ne.2 (by omega)
 have h2 : (0 : Int) ≤ (n : Int) := by omega
 have h3 : (n : Int) < (n : Int) + 1 := by omega
 unfold pt
 go_enter Tryz.func33, Tryz.ntmps33
 go_wp2_with fail
 go_region
 all_goals go_wp2_with fail
 all_goals go_ret2
 all_goals exact ⟨rfl, rfl⟩
theorem roldest_any {w : World} {mb room : Nat} {L : List (Int × Int)} {G : Nat → Prop} (h : RS w mb room L G) (hl : L.length ≤ 400000) : Calls Tryz.prog 33 #[pt mb] w fun r w' => r = .returned (.tuple #[.int .i64 ((L.getLast?.map (·.1)).getD 0), .bool L.getLast?.isSome]) ∧ (w' = w ∨ w' = w.drew) := by
 obtain ⟨⟨x, hb, ho, hG⟩, hnd⟩ := h
 obtain ⟨a, cap, rfl⟩ := own_shape ho
 rcases List.eq_nil_or_concat L with rfl | ⟨T, p, rfl⟩
 ·
  refine (roldest_none (box_cells hb 1 _ rfl)).mono ?_
  rintro r w' ⟨rfl, rfl⟩
  exact ⟨rfl, .inl rfl⟩
 ·
  rw [List.concat_eq_append] at *
  have hlen : (T ++ [p]).length = T.length + 1 := by simp
  have hcells := fun (g : Nat) (hg : (Value.slice a (T ++ [p]).length cap).ownBlock = some g) => ho.cells hg
  rcases ho.2 with ⟨_, q⟩ | ⟨g, cap', cur, hv, _⟩
  ·
   omega
  ·
   simp only [Value.slice.injEq] at hv
   obtain ⟨rfl, _, rfl⟩ := hv
   have hat := (e2_at (T ++ [p]) T.length p (by simp)).1
   have hc := hcells g rfl _ _ hat
   rw [addr0, Nat.zero_add] at hc
   rw [hlen] at hb
   refine (roldest_some (n := T.length) (by omega) (box_cells hb 1 _ rfl) hc).mono ?_
   rintro r w' ⟨rfl, rfl⟩
   refine ⟨?_, .inr rfl⟩
   simp
theorem rput_walk {w : World} {mb room : Nat} {k v : Int} {R0 R1 R2 : World → Prop} (h1 : Calls Tryz.prog 70 #[pt mb, .int .i64 k] w fun r w' => (∃ u, r = .returned u) ∧ R0 w') (h2 : ∀ w1, R0 w1 → Calls Tryz.prog 71 #[pt mb, .int .i64 k, .int .i64 v] w1 fun r w' => r = .returned (.tuple #[]) ∧ R1 w')
  (h3 : ∀ w2, R1 w2 → ∃ (g n cap : Nat), w2.cell? ⟨mb, 0, none⟩ = some (.int .i64 room) ∧ w2.cell? ⟨mb, 1, none⟩ = some (.slice (some ⟨g, 0, none⟩) n cap) ∧ w2.frozen? ⟨mb, 1, none⟩ = false ∧ n ≤ cap ∧ ((¬ (room : Int) < n ∧ R2 w2.drew) ∨ ((room : Int) < n ∧ R2 (w2.drew.drew.setCell ⟨mb, 1, none⟩ (.slice (some ⟨g, 0, none⟩) room cap))))) :
  Calls Tryz.prog 26 #[pt mb, .int .i64 k, .int .i64 v] w fun r w' => r = .returned (.tuple #[]) ∧ R2 w' := by
 have H1 : Hid (Calls Tryz.prog 70 #[pt mb, .int .i64 k] w fun r w' => (∃ u, r = .returned u) ∧ R0 w') := h1
 have H2 : Hid (∀ w1, R0 w1 → Calls Tryz.prog 71 #[pt mb, .int .i64 k, .int .i64 v] w1 fun r w' => r = .returned (.tuple #[]) ∧ R1 w') := h2
 have H3 : Hid (∀ w2, R1 w2 → ∃ (g n cap : Nat), w2.cell? ⟨mb, 0, none⟩ = some (.int .i64 room) ∧ w2.cell? ⟨mb, 1, none⟩ = some (.slice (some ⟨g, 0, none⟩) n cap) ∧ w2.frozen? ⟨mb, 1, none⟩ = false ∧ n ≤ cap ∧ ((¬ (room : Int) < n ∧ R2 w2.drew) ∨ ((room : Int) < n ∧ R2 (w2.drew.drew.setCell ⟨mb, 1, none⟩ (.slice (some ⟨g, 0, none⟩) room cap))))) := h3
 clear h1 h2 h3
 unfold pt at H1 H2 ⊢
 go_enter Tryz.func26, Tryz.ntmps26
 go_wp2_with fail
 go_must (go_at_call 70)
 refine (H1.out).mono ?_
 rintro r w1 ⟨⟨u, rfl⟩, h1⟩
 have g1 : Hid (R0 w1) := h1
 clear h1
 go_wp2_with fail
 go_must (go_at_call 71)
 refine (H2.out w1 g1.out).mono ?_
 rintro r w2 ⟨rfl, h2⟩
 obtain ⟨g, n, cap, m0, m1, m2, hnc, hor⟩ := H3.out w2 h2
 clear h2
 rcases hor with ⟨hlt, hR⟩ | ⟨hlt, hR⟩
 ·
  have z : Hid (R2 w2.drew) := hR
  clear hR hnc
  go_wp2_with fail
  go_region
  all_goals go_wp2_with fail
  all_goals first | go_end0 | refine bodyPost_ret (results_none rfl _ _ _) rfl ?_
  all_goals exact ⟨rfl, z.out⟩
 ·
  have z : Hid (R2 (w2.drew.drew.setCell ⟨mb, 1, none⟩ (.slice (some ⟨g, 0, none⟩) room cap))) := hR
  have q0 : (0 : Int) ≤ (room : Int) := by omega
  have q1 : (room : Int) ≤ (cap : Int) := by omega
  have q2 : (n : Int) ≤ (cap : Int) := by omega
  clear hR hnc
  go_wp2_with fail
  go_region
  all_goals go_wp2_with fail
  all_goals go_region
  all_goals go_wp2_with fail
  all_goals first | go_end0 | refine bodyPost_ret (results_none rfl _ _ _) rfl ?_
  all_goals exact ⟨rfl, z.out⟩
end Go.Proofs.YtdhinpmjbcohaaaGreat.Rf
namespace Go.Proofs.YtdhinpmjbcohaaaGreat.Rf
open Go Go.RowKit
set_option linter.unusedSimpArgs false
set_option linter.unusedVariables false
set_option maxRecDepth 100000
set_option maxHeartbeats 4000000

theorem e2_take : ∀ (L : List (Int × Int)) (m : Nat), e2 (L.take m) = (e2 L).take (m * 2)
 | [], m => by simp [e2]
 | x :: L, 0 => by simp [e2]
 | x :: L, m + 1 => by
  have ih := e2_take L m
  have e1 : (m + 1) * 2 = m * 2 + 1 + 1 := by omega
  rw [e1]
  simp [e2] at ih ⊢
  exact ih
theorem own_take {w : World} {g n cap m : Nat} {L : List (Int × Int)} (h : w.ownsRow 0 120 2 (.slice (some ⟨g, 0, none⟩) n cap) L.length (e2 L)) (hm : m ≤ L.length) : w.ownsRow 0 120 2 (.slice (some ⟨g, 0, none⟩) m cap) (L.take m).length (e2 (L.take m)) := by
 have hlen : (L.take m).length = m := by simp; omega
 refine ⟨e2_len _, ?_⟩
 rcases h.2 with ⟨q, _⟩ | ⟨g', cap', cur, hv, h1, hg, h2, h3, h4, h5⟩
 ·
  cases q
 ·
  simp only [Value.slice.injEq, Option.some.injEq, Addr.mk.injEq] at hv
  obtain ⟨⟨rfl, _⟩, rfl, rfl⟩ := hv
  refine .inr ⟨g, cap, cur, by rw [hlen], h1, hg, by omega, h3, h4, ?_⟩
  rw [hlen, e2_take, ← h5, List.take_take]
  congr 1
  omega
theorem rput_any {w : World} {mb room : Nat} {L : List (Int × Int)} {G : Nat → Prop} (h : RS w mb room L G) (k v : Int) (hl : L.length ≤ 400000) : Calls Tryz.prog 26 #[pt mb, .int .i64 k, .int .i64 v] w fun r w' => r = .returned (.tuple #[]) ∧ AftR w mb room G ((ltop k v L).take room) w' := by
 refine rput_walk (room := room) (R0 := fun w1 => AftR w mb room G (lout L k) w1) (R1 := fun w2 => AftR w mb room G (ltop k v L) w2) (R2 := fun w3 => AftR w mb room G ((ltop k v L).take room) w3) ((take_any h k hl).mono (fun r w' q => ⟨⟨_, q.1⟩, q.2⟩)) (fun w1 h1 => ?_) (fun w2 h2 => ?_)
 ·
  obtain ⟨⟨G1, r1, l1⟩, hc1⟩ := h1
  refine (first_any r1 k v (lout_nin k) (Nat.le_trans (lout_length L k) hl)).mono ?_
  rintro r w2 ⟨rfl, h2⟩
  exact ⟨rfl, AftR.then (L1 := []) l1 hc1 h2⟩
 ·
  obtain ⟨⟨G2, r2, l2⟩, hc2⟩ := h2
  have hr2 := r2
  obtain ⟨⟨x, hb, ho, hG⟩, hnd⟩ := r2
  have hpos : (ltop k v L).length = (lout L k).length + 1 := rfl
  rcases ho.2 with ⟨_, q⟩ | ⟨g, cap, cur, rfl, hx⟩
  ·
   omega
  ·
   have hmb : G mb := by
    rcases l2 mb ((hG mb).2 (.inl rfl)) with q | q
    ·
     exact q
    ·
     have := (h.1.choose_spec.2.2 mb).2 (.inl rfl)
     exact this
   refine ⟨g, _, cap, box_cells hb 0 _ rfl, box_cells hb 1 _ rfl, box_frozen hb 1, hx.2.2.1, ?_⟩
   by_cases hlt : room < (ltop k v L).length
   ·
    refine .inr ⟨by omega, ?_⟩
    have hb' : w2.drew.drew.heap[mb]? = some (.cells #[.int .i64 room, .slice (some ⟨g, 0, none⟩) (ltop k v L).length cap] 92 (0, 0)) := hb
    have ho' : w2.drew.drew.ownsRow 0 120 2 (.slice (some ⟨g, 0, none⟩) room cap) ((ltop k v L).take room).length (e2 ((ltop k v L).take room)) := own_take (n := (ltop k v L).length) ho (by omega)
    refine ⟨⟨_, RS.set hb' ho' (hnd.sublist ((List.take_sublist _ _).map _)), fun j q => ?_⟩, ?_⟩
    ·
     rcases q with q | q
     ·
      exact .inl (q ▸ hmb)
     ·
      exact l2 j ((hG j).2 (.inr q))
    ·
     exact ((hc2.then (ch_drew G _)).then (ch_drew G _)).then ((ch_set mb 1 _).mono (fun j _ q => q ▸ hmb))
   ·
    refine .inl ⟨by omega, ⟨G2, ?_, l2⟩, hc2.then (ch_drew G _)⟩
    rw [List.take_of_length_le (by omega)]
    exact hr2.keep (fun _ _ => rfl)
theorem built79 (x : Int) : Tryz.prog.built 92 [(0, .int .i64 x)] = some #[.int .i64 x, .slice none 0 0] := by kernel_rfl
theorem rnew_run (most x : Int) (hx : x = min (max most 0) 1048576) (w : World) : Calls Tryz.prog 17 #[.int .i64 most] w fun r w' => r = .returned (pt w.heap.size) ∧ w' = w.alloc (.cells #[.int .i64 x, .slice none 0 0] 92) := by
 have hb : ∀ y w', (Instr.build 92 #[(0, .int .i64 y)]).run Tryz.prog w' = .ok (.agg #[.int .i64 y, .slice none 0 0]) w' := fun y w' => run_build w' 92 _ _ (built79 y)
 unfold pt
 by_cases h1 : most < 0
 ·
  obtain rfl : x = 0 := by omega
  clear hx
  go_enter Tryz.func17, Tryz.ntmps17
  go_wp2_with fail
  go_ret
  exact ⟨rfl, rfl⟩
 ·
  by_cases h2 : 1048576 < most
  ·
   obtain rfl : x = 1048576 := by omega
   clear hx
   go_enter Tryz.func17, Tryz.ntmps17
   go_wp2_with fail
   go_ret
   exact ⟨rfl, rfl⟩
  ·
   obtain rfl : x = most := by omega
   clear hx
   go_enter Tryz.func17, Tryz.ntmps17
   go_wp2_with fail
   go_ret
   exact ⟨rfl, rfl⟩
def ER (w : World) (v : Value) (L : List (Int × Int)) : Prop := ∃ a c, v = .slice a L.length c ∧ L.length ≤ c ∧ (L ≠ [] → ∃ g, a = some ⟨g, 0, none⟩ ∧ ∀ q u, (e2 L)[q]? = some u → w.cell? ⟨g, q, none⟩ = some u)
theorem own_er {w : World} {v : Value} {L : List (Int × Int)} (h : w.ownsRow 0 120 2 v L.length (e2 L)) : ER w v L := by
 have hcells := fun (g : Nat) (hg : v.ownBlock = some g) => h.cells hg
 rcases h.2 with ⟨rfl, h0⟩ | ⟨g, cap, cur, rfl, _, _, h1, _⟩
 ·
  exact ⟨none, 0, by rw [h0], by omega, fun q => absurd (List.length_eq_zero_iff.1 h0) q⟩
 ·
  refine ⟨_, cap, rfl, h1, fun _ => ⟨g, rfl, fun q u hu => ?_⟩⟩
  have := hcells g rfl q u hu
  rwa [addr0, Nat.zero_add] at this
end Go.Proofs.YtdhinpmjbcohaaaGreat.Rf
namespace Go.Proofs.YtdhinpmjbcohaaaGreat.Rf
open Go Go.RowKit
set_option linter.unusedSimpArgs false
set_option linter.unusedVariables false
set_option maxRecDepth 100000
set_option maxHeartbeats 4000000

theorem same_any {w : World} {va vb : Value} {A B : List (Int × Int)} (ha : ER w va A) (hb : ER w vb B) (hl : A.length ≤ 1000000) : Calls Tryz.prog 58 #[va, vb] w fun r w' => r = .returned (.bool (decide (A = B))) ∧ ∃ m, w' = w.drewN m := by
 obtain ⟨a, ca, rfl, hca, hA⟩ := ha
 obtain ⟨b, cb, rfl, hcb, hB⟩ := hb
 by_cases hlen : A.length = B.length
 ·
  obtain ⟨n, hn⟩ : ∃ n, n = A.length := ⟨_, rfl⟩
  rw [← hlen]
  rw [← hn] at hl hca ⊢
  rw [← hlen, ← hn] at hcb
  have HN : Hid (n = A.length ∧ n = B.length ∧ n ≤ ca ∧ n ≤ cb ∧ n ≤ 1000000) := ⟨hn, hn.trans hlen, hca, hcb, hl⟩
  have HA : Hid (A ≠ [] → ∃ g, a = some ⟨g, 0, none⟩ ∧ ∀ q u, (e2 A)[q]? = some u → w.cell? ⟨g, q, none⟩ = some u) := hA
  have HB : Hid (B ≠ [] → ∃ g, b = some ⟨g, 0, none⟩ ∧ ∀ q u, (e2 B)[q]? = some u → w.cell? ⟨g, q, none⟩ = some u) := hB
  clear hn hlen hl hca hcb hA hB
  obtain ⟨bo, hbo⟩ : ∃ bo, bo = decide (A = B) := ⟨_, rfl⟩
  rw [← hbo]
  have HBO : Hid (bo = decide (A = B)) := hbo
  clear hbo
  go_enter Tryz.func58, Tryz.ntmps58
  go_wp2_with fail
  go_loopg [5] n (fun gk s5 wx => ∃ j : Nat, j + gk = n ∧ s5 = .int .i64 j ∧ Hid (∀ q, q < j → A[q]? = B[q]?) ∧ Hid (∃ m, wx = w.drewN m))
  case atStart => exact ⟨0, by omega, rfl, fun q hq => absurd hq (Nat.not_lt_zero _), 0, rfl⟩
  case round =>
   obtain ⟨j, hj, rfl, HQ, HW⟩ := hrel
   cases gk with
   | zero =>
    obtain rfl : j = n := by omega
    have hz : ¬ (j : Int) < (j : Int) := by omega
    go_wp2_with fail
    go_ret
    refine ⟨?_, HW.out⟩
    have hAB : A = B := List.ext_getElem? (fun q => by
     by_cases hq : q < j
     ·
      exact HQ.out q hq
     ·
      have := HN.out
      rw [List.getElem?_eq_none (by omega), List.getElem?_eq_none (by omega)])
    rw [HBO.out, decide_eq_true hAB]
    rfl
   | succ gk =>
    have hz : (j : Int) < (n : Int) := by omega
    have hz0 : (0 : Int) ≤ (j : Int) := by omega
    have hwj : IntKind.i64.wrap ((j : Int) + 1) = (j : Int) + 1 := by rw [IntKind.wrap_i64]; have := HN.out; omega
    obtain ⟨⟨k1, v1⟩, h1⟩ : ∃ x, A[j]? = some x := ⟨_, List.getElem?_eq_getElem (by have := HN.out; omega)⟩
    obtain ⟨⟨k2, v2⟩, h2⟩ : ∃ x, B[j]? = some x := ⟨_, List.getElem?_eq_getElem (by have := HN.out; omega)⟩
    obtain ⟨g, rfl, hg⟩ := HA.out (by intro q; rw [q] at h1; simp at h1)
    obtain ⟨g', rfl, hg'⟩ := HB.out (by intro q; rw [q] at h2; simp at h2)
    obtain ⟨m, hm⟩ := HW.out
    have p1 : wr.cell? ⟨g, j * 2, none⟩ = some (.int .i64 k1) := by rw [hm]; exact hg _ _ (e2_at A j _ h1).1
    have p2 : wr.cell? ⟨g, j * 2 + 1, none⟩ = some (.int .i64 v1) := by rw [hm]; exact hg _ _ (e2_at A j _ h1).2
    have p3 : wr.cell? ⟨g', j * 2, none⟩ = some (.int .i64 k2) := by rw [hm]; exact hg' _ _ (e2_at B j _ h2).1
    have p4 : wr.cell? ⟨g', j * 2 + 1, none⟩ = some (.int .i64 v2) := by rw [hm]; exact hg' _ _ (e2_at B j _ h2).2
    have HW2 : Hid (∃ k, wr.drew = w.drewN k) := ⟨m + 1, by rw [hm, ← World.drewN_drewN]; rfl⟩
    have H1 : Hid (A[j]? = some (k1, v1)) := h1
    have H2 : Hid (B[j]? = some (k2, v2)) := h2
    clear h1 h2 hg hg' hm HW HA HB
    by_cases e1 : k1 = k2
    ·
     by_cases e2' : v1 = v2
     ·
      subst e1 e2'
      go_wp2_with fail
      go_region
      all_goals go_wp2_with fail
      all_goals go_roundg gk
      case measure => omega
      case rel => exact ⟨j + 1, by omega, by first | rfl | simp, fun q hq => by
       by_cases e : q = j
       ·
        rw [e, H1.out, H2.out]
       ·
        exact HQ.out q (by omega), HW2⟩
     ·
      subst e1
      have n1 : (v1 == v2) = false := by simpa using e2'
      go_wp2_with fail
      go_region
      all_goals go_wp2_with fail
      all_goals go_ret
      all_goals refine ⟨?_, HW2.out⟩
      all_goals rw [HBO.out, decide_eq_false (fun q => by
       have h1 := H1.out
       rw [q, H2.out] at h1
       simp at h1
       exact e2' h1.symm)]
      all_goals rfl
    ·
     have n1 : (k1 == k2) = false := by simpa using e1
     go_wp2_with fail
     go_region
     all_goals go_wp2_with fail
     all_goals go_ret
     all_goals refine ⟨?_, HW2.out⟩
     all_goals rw [HBO.out, decide_eq_false (fun q => by
      have h1 := H1.out
      rw [q, H2.out] at h1
      simp at h1
      exact e1 h1.1.symm)]
     all_goals rfl
 ·
  have hne : ((A.length : Int) == (B.length : Int)) = false := beq_eq_false_iff_ne.2 (by omega)
  have hAB : decide (A = B) = false := decide_eq_false (fun q => hlen (by rw [q]))
  rw [hAB]
  clear hA hB hAB
  go_enter Tryz.func58, Tryz.ntmps58
  go_wp2_with fail
  go_ret
  exact ⟨rfl, 0, rfl⟩
end Go.Proofs.YtdhinpmjbcohaaaGreat.Rf
namespace Go.Proofs.YtdhinpmjbcohaaaGreat.Qs
open Go Go.RowKit
set_option linter.unusedSimpArgs false
set_option linter.unusedVariables false
set_option maxRecDepth 100000
set_option maxHeartbeats 4000000

abbrev Kt := ByteArray
def mk (k : Kt) : Value := .string k
def CD (w : World) (kb : Nat) (C : List Kt) (G : Nat → Prop) : Prop := ∃ v, w.heap[kb]? = some (.cells #[v] 64 (0, 0)) ∧ w.ownsRow 0 9 1 v C.length (C.map mk) ∧ (∀ j, G j ↔ j = kb ∨ v.ownBlock = some j) ∧ (C = [] → v = .slice none 0 0)
theorem info_el : (Tryz.prog.info? 9).map (fun i => (i.zero, i.size, i.bytes)) = some (some (mk ⟨#[]⟩), 1, 16) := by kernel_rfl
theorem CD.keep {w w' : World} {kb : Nat} {C : List Kt} {G : Nat → Prop} (h : CD w kb C G) (hk : ∀ j, G j → w'.heap[j]? = w.heap[j]?) : CD w' kb C G := by
 obtain ⟨v, h1, h2, h3, h4⟩ := h
 refine ⟨v, (hk kb ((h3 kb).2 (.inl rfl))).trans h1, ?_, h3, h4⟩
 refine ⟨h2.1, ?_⟩
 rcases h2.2 with h0 | ⟨g, cap, cur, rfl, e1, hg, e2⟩
 ·
  exact .inl h0
 ·
  exact .inr ⟨g, cap, cur, rfl, e1, (hk g ((h3 g).2 (.inr rfl))).trans hg, e2⟩
theorem CD.lt {w : World} {kb : Nat} {C : List Kt} {G : Nat → Prop} (h : CD w kb C G) {j : Nat} (hj : G j) : j < w.heap.size := by
 obtain ⟨v, h1, h2, h3, h4⟩ := h
 rcases (h3 j).1 hj with rfl | q
 ·
  exact (Array.getElem?_eq_some_iff.1 h1).1
 ·
  exact (h2.lt j q).2
theorem own_blk {w : World} {B e s n : Nat} {v : Value} {xs : List Value} (h : w.ownsRow B e s v n xs) {k : Nat} (hk : v.ownBlock = some k) : ∃ c, w.heap[k]? = some (.cells c e (0, 0)) := by
 rcases h.2 with ⟨r, _⟩ | ⟨g, cap, cur, r, _, hg, _⟩
 ·
  rw [r] at hk; cases hk
 ·
  rw [r] at hk
  have e' : g = k := by simpa [Value.ownBlock] using hk
  subst e'
  exact ⟨_, hg⟩
theorem app_one {w : World} {v : Value} {C : List Kt} (ho : w.ownsRow 0 9 1 v C.length (C.map mk)) (k : Kt) (hl : C.length ≤ 1000000) : ∃ g' cap' w', (Builtin.append_ #[62, 62] 62 #[v, .slice (some ⟨w.heap.size, 0, none⟩) 1 1]).run Tryz.prog (w.alloc (.cells #[mk k] 9)) = .ok (.slice (some ⟨g', 0, none⟩) (C.length + 1) cap') w' ∧ w'.ownsRow 0 9 1 (.slice (some ⟨g', 0, none⟩) (C.length + 1) cap') (C ++ [k]).length ((C ++ [k]).map mk) ∧ Ch (fun j => v.ownBlock = some j) w w' ∧ (v.ownBlock = some g' ∨ w.heap.size ≤ g') := by
 obtain ⟨i0, hi0, hz⟩ := Option.map_eq_some_iff.1 info_el
 simp only [Prod.mk.injEq] at hz
 obtain ⟨v', w', hr, h2, h3, h4, h5⟩ := run_append_own_at (P := Tryz.prog) (w.alloc (.cells #[mk k] 9)) 0 62 62 9 i0 (mk ⟨#[]⟩) 1 16 Tryz.underlying62 hi0 hz.1 hz.2.1 hz.2.2 (by simp [mk, Value.cells]) (by decide) v C.length (C.map mk) (ho.alloc _) ⟨w.heap.size, 0, none⟩ 1 1 [mk k] rfl (cell_one_new _ _ _) (by simp [Value.oneCell', mk]) (by unfold maxLen; omega) (by omega) (by omega)
 rcases h2.2 with ⟨_, q⟩ | ⟨g', cap', cur, rfl, _⟩
 ·
  omega
 ·
  refine ⟨g', cap', w', hr, by simpa using h2, ?_, ?_⟩
  ·
   exact (ch_alloc _ _ _).then ((ch_grown h3).mono (fun j _ q => q))
  ·
   rcases h5 with q | q
   ·
    exact .inl (by rw [← q]; rfl)
   ·
    simp [Value.ownBlock] at q
    exact .inr (by omega)
theorem set_row {w : World} {kb t B e s n : Nat} {v x : Value} {xs : List Value} {cs : Array Value} (h : w.ownsRow B e s v n xs) (hb : w.heap[kb]? = some (.cells cs t (0, 0))) (ht : t ≠ e) (i : Nat) : (w.setCell ⟨kb, i, none⟩ x).ownsRow B e s v n xs := by
 refine ⟨h.1, ?_⟩
 rcases h.2 with h0 | ⟨g, cap, cur, rfl, e1, hg, e2⟩
 ·
  exact .inl h0
 ·
  refine .inr ⟨g, cap, cur, rfl, e1, (heap_set_ne _ (fun q => ?_)).trans hg, e2⟩
  rw [q, hb] at hg
  simp at hg
  exact ht hg.2
theorem CD.more {w w' : World} {kb g' cap' : Nat} {v : Value} {C : List Kt} {k : Kt} (hb : w.heap[kb]? = some (.cells #[v] 64 (0, 0))) (ho : w.ownsRow 0 9 1 v C.length (C.map mk)) (h2 : w'.ownsRow 0 9 1 (.slice (some ⟨g', 0, none⟩) (C.length + 1) cap') (C ++ [k]).length ((C ++ [k]).map mk)) (hc : Ch (fun j => v.ownBlock = some j) w w') :
  w'.heap[kb]? = some (.cells #[v] 64 (0, 0)) ∧ CD (w'.setCell ⟨kb, 0, none⟩ (.slice (some ⟨g', 0, none⟩) (C.length + 1) cap')) kb (C ++ [k]) (fun j => j = kb ∨ j = g') := by
 have hb' : w'.heap[kb]? = some (.cells #[v] 64 (0, 0)) := by
  rw [hc.block kb (Array.getElem?_eq_some_iff.1 hb).1 (fun q => by
   obtain ⟨c, hcc⟩ := own_blk ho q
   rw [hb] at hcc
   simp at hcc)]
  exact hb
 refine ⟨hb', _, ?_, set_row h2 hb' (by decide) 0, fun j => ?_, fun q => absurd q (by simp)⟩
 ·
  rw [heap_set hb']
  simp
 ·
  simp [Value.ownBlock, eq_comm]
theorem of_walk {w : World} {kb g cap : Nat} {D : List Kt} {v0 : Value} {k : Kt} (w1 : World) (hb : w1.heap[kb]? = some (.cells #[.slice (some ⟨g, 0, none⟩) D.length cap] 64 (0, 0))) (ho : w1.ownsRow 0 9 1 (.slice (some ⟨g, 0, none⟩) D.length cap) D.length (D.map mk)) (hl : D.length ≤ 1000000) (hpos : 0 < D.length)
  (hs : (w1 = w ∧ w.cell? ⟨kb, 0, none⟩ = some (.slice (some ⟨g, 0, none⟩) D.length cap)) ∨ ∃ wa, w.cell? ⟨kb, 0, none⟩ = some (.slice none 0 0) ∧ (Builtin.append_ #[62, 62] 62 #[.slice none 0 0, .slice (some ⟨w.heap.size, 0, none⟩) 1 1]).run Tryz.prog (w.alloc (.cells #[mk ⟨#[]⟩] 9)) = .ok (.slice (some ⟨g, 0, none⟩) D.length cap) wa ∧ wa.cell? ⟨kb, 0, none⟩ = some v0 ∧ wa.frozen? ⟨kb, 0, none⟩ = false ∧ w1 = wa.setCell ⟨kb, 0, none⟩ (.slice (some ⟨g, 0, none⟩) D.length cap) ∧ (w.alloc (.cells #[mk ⟨#[]⟩] 9)).cell? ⟨kb, 0, none⟩ = some (.slice none 0 0))
  (R : Ending → World → Prop) (hR1 : ∀ j : Nat, D[j]? = some k → (∀ q, q < j → D[q]? ≠ some k) → R (.returned (.int .i64 j)) w1)
  (hR2 : k ∉ D → ∀ g' cap' w2, w2.ownsRow 0 9 1 (.slice (some ⟨g', 0, none⟩) (D.length + 1) cap') (D ++ [k]).length ((D ++ [k]).map mk) → Ch (fun j => j = g) w1 w2 → (g = g' ∨ w1.heap.size ≤ g') → R (.returned (.int .i64 D.length)) (w2.setCell ⟨kb, 0, none⟩ (.slice (some ⟨g', 0, none⟩) (D.length + 1) cap'))) :
  Calls Tryz.prog 22 #[pt kb, mk k] w R := by
 have HR1 : Hid (∀ j : Nat, D[j]? = some k → (∀ q, q < j → D[q]? ≠ some k) → R (.returned (.int .i64 j)) w1) := hR1
 have HR2 : Hid (k ∉ D → ∀ g' cap' w2, w2.ownsRow 0 9 1 (.slice (some ⟨g', 0, none⟩) (D.length + 1) cap') (D ++ [k]).length ((D ++ [k]).map mk) → Ch (fun j => j = g) w1 w2 → (g = g' ∨ w1.heap.size ≤ g') → R (.returned (.int .i64 D.length)) (w2.setCell ⟨kb, 0, none⟩ (.slice (some ⟨g', 0, none⟩) (D.length + 1) cap'))) := hR2
 clear hR1 hR2
 have HB : Hid (w1.heap[kb]? = some (.cells #[.slice (some ⟨g, 0, none⟩) D.length cap] 64 (0, 0))) := hb
 have HOW : Hid (w1.ownsRow 0 9 1 (.slice (some ⟨g, 0, none⟩) D.length cap) D.length (D.map mk)) := ho
 have HL : Hid (D.length ≤ 1000000) := hl
 have hp0 : ((D.length : Int) == 0) = false := beq_eq_false_iff_ne.2 (by omega)
 clear hb ho hl hpos
 unfold mk at hs ⊢
 unfold pt
 rcases hs with ⟨rfl, hs⟩ | ⟨wa, hs, hra, ca, fa, hw1, cw⟩
 ·
  go_enter Tryz.func22, Tryz.ntmps22
  go_wp2_with fail
  go_loopg [6] D.length (fun gk s6 wx => ∃ j : Nat, j + gk = D.length ∧ s6 = .int .i64 j ∧ Hid (∀ q, q < j → D[q]? ≠ some k) ∧ Hid (wx = w1))
  case atStart => exact ⟨0, by omega, rfl, fun q hq => absurd hq (Nat.not_lt_zero _), rfl⟩
  case round =>
   obtain ⟨j, hj, rfl, HQ, HX⟩ := hrel
   obtain rfl : wr = w1 := HX.out
   clear HX
   have e0 : wr.cell? ⟨kb, 0, none⟩ = some (.slice (some ⟨g, 0, none⟩) D.length cap) := box_cells HB.out 0 _ rfl
   cases gk with
   | zero =>
    obtain rfl : j = D.length := by omega
    have hz : ¬ (D.length : Int) < (D.length : Int) := by omega
    have hnk : k ∉ D := fun q => by
     obtain ⟨a, ha, he⟩ := List.mem_iff_getElem.1 q
     exact HQ.out a ha (by rw [List.getElem?_eq_getElem ha, he])
    have HNK : Hid (k ∉ D) := hnk
    obtain ⟨g2, cap2, w2, hrun, ho2, hc2, hg2⟩ := app_one HOW.out k HL.out
    have hm := CD.more HB.out HOW.out ho2 hc2
    have e2 : w2.cell? ⟨kb, 0, none⟩ = some (.slice (some ⟨g, 0, none⟩) D.length cap) := box_cells hm.1 0 _ rfl
    have f2 : w2.frozen? ⟨kb, 0, none⟩ = false := box_frozen hm.1 0
    have HRN : Hid ((Builtin.append_ #[62, 62] 62 #[.slice (some ⟨g, 0, none⟩) D.length cap, .slice (some ⟨wr.heap.size, 0, none⟩) 1 1]).run Tryz.prog (wr.alloc (.cells #[.string k] 9)) = .ok (.slice (some ⟨g2, 0, none⟩) (D.length + 1) cap2) w2) := hrun
    have Z2 : Hid (w2.ownsRow 0 9 1 (.slice (some ⟨g2, 0, none⟩) (D.length + 1) cap2) (D ++ [k]).length ((D ++ [k]).map mk) ∧ Ch (fun j => j = g) wr w2 ∧ (g = g2 ∨ wr.heap.size ≤ g2)) := ⟨ho2, hc2.mono (fun j _ q => by simpa [Value.ownBlock] using q.symm), by simpa [Value.ownBlock] using hg2⟩
    have ha : (wr.alloc (.cells #[.string k] 9)).cell? ⟨kb, 0, none⟩ = some (.slice (some ⟨g, 0, none⟩) D.length cap) := by rw [World.cell?_alloc_lt]; exact e0; exact (Array.getElem?_eq_some_iff.1 HB.out).1
    have hws : IntKind.i64.wrap (((D.length + 1 : Nat) : Int) - 1) = (D.length : Int) := by rw [IntKind.wrap_i64]; have := HL.out; omega
    have hws' : IntKind.i64.wrap ((D.length : Int) + 1 - 1) = (D.length : Int) := by rw [IntKind.wrap_i64]; have := HL.out; omega
    have hws2 : (D.length : Int) + 1 - 1 = (D.length : Int) := by omega
    have hws3 : wrap64 (D.length : Int) = (D.length : Int) := by unfold wrap64; have := HL.out; omega
    clear hrun ho2 hc2 hg2 hm hnk
    go_wp2_with (at_builtin; refine Lib.wpList_append_run _ rfl (.tmp 46) (.tmp 48) 62 62 rfl _ _ rfl rfl _ w2 HRN.out ?_)
    (try go_ret)
    first | exact HR2.out HNK.out g2 cap2 w2 Z2.out.1 Z2.out.2.1 Z2.out.2.2 | (simp only [hws3]; exact HR2.out HNK.out g2 cap2 w2 Z2.out.1 Z2.out.2.1 Z2.out.2.2)
   | succ gk =>
    have hz : (j : Int) < (D.length : Int) := by omega
    have hz0 : (0 : Int) ≤ (j : Int) := by omega
    have hjl : j < D.length := by omega
    have hwj : IntKind.i64.wrap ((j : Int) + 1) = (j : Int) + 1 := by rw [IntKind.wrap_i64]; have := HL.out; omega
    obtain ⟨x, hx⟩ : ∃ x, D[j]? = some x := ⟨_, List.getElem?_eq_getElem hjl⟩
    have hadd : (⟨g, 0, none⟩ : Addr).add j = ⟨g, j, none⟩ := by unfold Addr.add; split <;> simp_all
    have cx := HOW.out.cells (g := g) rfl j (mk x) (by simp [hx])
    rw [hadd] at cx
    have HXX : Hid (D[j]? = some x) := hx
    unfold mk at cx
    clear hx hadd
    by_cases hxk : x = k
    ·
     subst hxk
     go_wp2_with fail
     (try go_ret)
     exact HR1.out j HXX.out HQ.out
    ·
     have n1 : (x.toList == k.toList) = false := by rw [bytes_beq]; simpa using hxk
     have n2 : ¬ x.toList = k.toList := fun q => by simp [q] at n1
     have HNE : Hid (¬ x = k) := hxk
     clear hxk
     go_wp2_with fail
     go_roundg gk
     case measure => omega
     case rel => exact ⟨j + 1, by omega, by first | rfl | simp, fun q hq => by
      by_cases e : q = j
      ·
       rw [e, HXX.out]
       exact fun r => HNE.out (Option.some.inj r)
      ·
       exact HQ.out q (by omega), rfl⟩
 ·
  have HRA : Hid ((Builtin.append_ #[62, 62] 62 #[.slice none 0 0, .slice (some ⟨w.heap.size, 0, none⟩) 1 1]).run Tryz.prog (w.alloc (.cells #[.string ⟨#[]⟩] 9)) = .ok (.slice (some ⟨g, 0, none⟩) D.length cap) wa) := hra
  have HW1 : Hid (w1 = wa.setCell ⟨kb, 0, none⟩ (.slice (some ⟨g, 0, none⟩) D.length cap)) := hw1
  clear hra hw1
  go_enter Tryz.func22, Tryz.ntmps22
  go_wp2_with (at_builtin; refine Lib.wpList_append_run _ rfl (.tmp 17) (.tmp 19) 62 62 rfl _ _ rfl rfl _ wa HRA.out ?_)
  rw [← HW1.out]
  clear HW1
  go_loopg [6] D.length (fun gk s6 wx => ∃ j : Nat, j + gk = D.length ∧ s6 = .int .i64 j ∧ Hid (∀ q, q < j → D[q]? ≠ some k) ∧ Hid (wx = w1))
  case atStart => exact ⟨0, by omega, rfl, fun q hq => absurd hq (Nat.not_lt_zero _), rfl⟩
  case round =>
   obtain ⟨j, hj, rfl, HQ, HX⟩ := hrel
   obtain rfl : wr = w1 := HX.out
   clear HX
   have e0 : wr.cell? ⟨kb, 0, none⟩ = some (.slice (some ⟨g, 0, none⟩) D.length cap) := box_cells HB.out 0 _ rfl
   cases gk with
   | zero =>
    obtain rfl : j = D.length := by omega
    have hz : ¬ (D.length : Int) < (D.length : Int) := by omega
    have hnk : k ∉ D := fun q => by
     obtain ⟨a, ha, he⟩ := List.mem_iff_getElem.1 q
     exact HQ.out a ha (by rw [List.getElem?_eq_getElem ha, he])
    have HNK : Hid (k ∉ D) := hnk
    obtain ⟨g2, cap2, w2, hrun, ho2, hc2, hg2⟩ := app_one HOW.out k HL.out
    have hm := CD.more HB.out HOW.out ho2 hc2
    have e2 : w2.cell? ⟨kb, 0, none⟩ = some (.slice (some ⟨g, 0, none⟩) D.length cap) := box_cells hm.1 0 _ rfl
    have f2 : w2.frozen? ⟨kb, 0, none⟩ = false := box_frozen hm.1 0
    have HRN : Hid ((Builtin.append_ #[62, 62] 62 #[.slice (some ⟨g, 0, none⟩) D.length cap, .slice (some ⟨wr.heap.size, 0, none⟩) 1 1]).run Tryz.prog (wr.alloc (.cells #[.string k] 9)) = .ok (.slice (some ⟨g2, 0, none⟩) (D.length + 1) cap2) w2) := hrun
    have Z2 : Hid (w2.ownsRow 0 9 1 (.slice (some ⟨g2, 0, none⟩) (D.length + 1) cap2) (D ++ [k]).length ((D ++ [k]).map mk) ∧ Ch (fun j => j = g) wr w2 ∧ (g = g2 ∨ wr.heap.size ≤ g2)) := ⟨ho2, hc2.mono (fun j _ q => by simpa [Value.ownBlock] using q.symm), by simpa [Value.ownBlock] using hg2⟩
    have ha : (wr.alloc (.cells #[.string k] 9)).cell? ⟨kb, 0, none⟩ = some (.slice (some ⟨g, 0, none⟩) D.length cap) := by rw [World.cell?_alloc_lt]; exact e0; exact (Array.getElem?_eq_some_iff.1 HB.out).1
    have hws : IntKind.i64.wrap (((D.length + 1 : Nat) : Int) - 1) = (D.length : Int) := by rw [IntKind.wrap_i64]; have := HL.out; omega
    have hws' : IntKind.i64.wrap ((D.length : Int) + 1 - 1) = (D.length : Int) := by rw [IntKind.wrap_i64]; have := HL.out; omega
    have hws2 : (D.length : Int) + 1 - 1 = (D.length : Int) := by omega
    have hws3 : wrap64 (D.length : Int) = (D.length : Int) := by unfold wrap64; have := HL.out; omega
    clear hrun ho2 hc2 hg2 hm hnk
    go_wp2_with (at_builtin; refine Lib.wpList_append_run _ rfl (.tmp 46) (.tmp 48) 62 62 rfl _ _ rfl rfl _ w2 HRN.out ?_)
    (try go_ret)
    first | exact HR2.out HNK.out g2 cap2 w2 Z2.out.1 Z2.out.2.1 Z2.out.2.2 | (simp only [hws3]; exact HR2.out HNK.out g2 cap2 w2 Z2.out.1 Z2.out.2.1 Z2.out.2.2)
   | succ gk =>
    have hz : (j : Int) < (D.length : Int) := by omega
    have hz0 : (0 : Int) ≤ (j : Int) := by omega
    have hjl : j < D.length := by omega
    have hwj : IntKind.i64.wrap ((j : Int) + 1) = (j : Int) + 1 := by rw [IntKind.wrap_i64]; have := HL.out; omega
    obtain ⟨x, hx⟩ : ∃ x, D[j]? = some x := ⟨_, List.getElem?_eq_getElem hjl⟩
    have hadd : (⟨g, 0, none⟩ : Addr).add j = ⟨g, j, none⟩ := by unfold Addr.add; split <;> simp_all
    have cx := HOW.out.cells (g := g) rfl j (mk x) (by simp [hx])
    rw [hadd] at cx
    have HXX : Hid (D[j]? = some x) := hx
    unfold mk at cx
    clear hx hadd
    by_cases hxk : x = k
    ·
     subst hxk
     go_wp2_with fail
     (try go_ret)
     exact HR1.out j HXX.out HQ.out
    ·
     have n1 : (x.toList == k.toList) = false := by rw [bytes_beq]; simpa using hxk
     have n2 : ¬ x.toList = k.toList := fun q => by simp [q] at n1
     have HNE : Hid (¬ x = k) := hxk
     clear hxk
     go_wp2_with fail
     go_roundg gk
     case measure => omega
     case rel => exact ⟨j + 1, by omega, by first | rfl | simp, fun q hq => by
      by_cases e : q = j
      ·
       rw [e, HXX.out]
       exact fun r => HNE.out (Option.some.inj r)
      ·
       exact HQ.out q (by omega), rfl⟩
theorem of_any {w : World} {kb : Nat} {C : List Kt} {G : Nat → Prop} (h : CD w kb C G) (k : Kt) (hl : C.length ≤ 900000) : Calls Tryz.prog 22 #[pt kb, mk k] w fun r w' => r = .returned (.int .i64 (ix k (ext ⟨#[]⟩ C k))) ∧ (∃ G', CD w' kb (ext ⟨#[]⟩ C k) G' ∧ ∀ j, G' j → G j ∨ w.heap.size ≤ j) ∧ Ch G w w' := by
 obtain ⟨v, hb, ho, hG, hnil⟩ := h
 have hkb := (Array.getElem?_eq_some_iff.1 hb).1
 cases C with
 | nil =>
  obtain rfl := hnil rfl
  ·
   obtain ⟨g, cap, wa, hrun, ho2, hc2, hg2⟩ := app_one (C := []) ho ⟨#[]⟩ (by simp)
   obtain ⟨hba, v1, hb1, ho1, hG1, hnl1⟩ := CD.more hb ho ho2 hc2
   have hgn : w.heap.size ≤ g := hg2.resolve_left (by simp [Value.ownBlock])
   have hc1 : Ch G w (wa.setCell ⟨kb, 0, none⟩ (.slice (some ⟨g, 0, none⟩) 1 cap)) := (hc2.mono (fun j _ q => (hG j).2 (.inr q))).then ((ch_set kb 0 _).mono (fun j _ q => (hG j).2 (.inl q)))
   have hb1' : (wa.setCell ⟨kb, 0, none⟩ (.slice (some ⟨g, 0, none⟩) 1 cap)).heap[kb]? = some (.cells #[.slice (some ⟨g, 0, none⟩) 1 cap] 64 (0, 0)) := by
    rw [heap_set hba]
    simp
   obtain rfl : v1 = .slice (some ⟨g, 0, none⟩) 1 cap := by
    have := hb1.symm.trans hb1'
    simpa using this
   refine of_walk (D := [⟨#[]⟩]) (v0 := .slice none 0 0) (w := w) _ hb1' ho1 (by simp) (by simp) (.inr ⟨wa, box_cells hb 0 _ rfl, hrun, box_cells hba 0 _ rfl, box_frozen hba 0, rfl, ?_⟩) _ (fun j h1 h2 => ?_) (fun hn g' cap' w2 h1 h2 h3 => ?_)
   ·
    rw [World.cell?_alloc_lt]
    ·
     exact box_cells hb 0 _ rfl
    ·
     exact hkb
   ·
    have hk : k ∈ [⟨#[]⟩] := List.mem_of_getElem? h1
    have he : ext ⟨#[]⟩ [] k = [⟨#[]⟩] := ext_in rfl hk
    rw [he, ix_first h1 h2]
    exact ⟨rfl, ⟨_, ⟨_, hb1', ho1, hG1, fun q => absurd q (by simp)⟩, fun j q => by
     rcases q with q | q
     ·
      exact .inl ((hG j).2 (.inl q))
     ·
      exact .inr (q ▸ hgn)⟩, hc1⟩
   ·
    have he : ext ⟨#[]⟩ [] k = [⟨#[]⟩] ++ [k] := ext_out rfl hn
    rw [he, ix_new hn]
    have hm := CD.more (w' := w2) hb1' ho1 h1 (h2.mono (fun j _ q => by rw [q]; rfl))
    have hs1 := hc1.size
    refine ⟨rfl, ⟨_, hm.2, fun j q => ?_⟩, ?_⟩
    ·
     rcases q with q | q
     ·
      exact .inl ((hG j).2 (.inl q))
     ·
      rcases h3 with r | r
      ·
       exact .inr (by omega)
      ·
       exact .inr (by omega)
    ·
     refine (hc1.trans h2 (fun j hj q => ?_)).then ((ch_set kb 0 _).mono (fun j _ q => (hG j).2 (.inl q)))
     omega
 | cons x t =>
  rcases ho.2 with ⟨_, q⟩ | ⟨g, cap, cur, rfl, _⟩
  ·
   simp at q
  ·
   refine of_walk (D := x :: t) (v0 := .slice none 0 0) (w := w) w hb ho (by omega) (by simp) (.inl ⟨rfl, box_cells hb 0 _ rfl⟩) _ (fun j h1 h2 => ?_) (fun hn g' cap' w2 h1 h2 h3 => ?_)
   ·
    have hk : k ∈ x :: t := List.mem_of_getElem? h1
    have he : ext ⟨#[]⟩ (x :: t) k = x :: t := ext_in rfl hk
    rw [he, ix_first h1 h2]
    exact ⟨rfl, ⟨G, ⟨_, hb, ho, hG, hnil⟩, fun j q => .inl q⟩, Ch.refl _ _⟩
   ·
    have he : ext ⟨#[]⟩ (x :: t) k = (x :: t) ++ [k] := ext_out rfl hn
    rw [he, ix_new hn]
    have hgG : G g := (hG g).2 (.inr rfl)
    have hm := CD.more (w' := w2) hb ho h1 (h2.mono (fun j _ q => by rw [q]; rfl))
    refine ⟨rfl, ⟨_, hm.2, fun j q => ?_⟩, ?_⟩
    ·
     rcases q with q | q
     ·
      exact .inl ((hG j).2 (.inl q))
     ·
      rcases h3 with r | r
      ·
       exact .inl (by rw [q, ← r]; exact hgG)
      ·
       exact .inr (by omega)
    ·
     exact (h2.mono (fun j _ q => q ▸ hgG)).then ((ch_set kb 0 _).mono (fun j _ q => (hG j).2 (.inl q)))
theorem of_known {w : World} {kb : Nat} {C : List Kt} {G : Nat → Prop} (h : CD w kb C G) {k : Kt} (hk : k ∈ C) (hl : C.length ≤ 900000) : Calls Tryz.prog 22 #[pt kb, mk k] w fun r w' => r = .returned (.int .i64 (ix k C)) ∧ w' = w := by
 obtain ⟨v, hb, ho, hG, hnil⟩ := h
 rcases ho.2 with ⟨_, q⟩ | ⟨g, cap, cur, rfl, _⟩
 ·
  rw [List.length_eq_zero_iff.1 q] at hk
  cases hk
 ·
  refine of_walk (D := C) (v0 := .slice none 0 0) (w := w) w hb ho (by omega) (List.length_pos_of_mem hk) (.inl ⟨rfl, box_cells hb 0 _ rfl⟩) _ (fun j h1 h2 => ?_) (fun hn => absurd hk hn)
  rw [ix_first h1 h2]
  exact ⟨rfl, rfl⟩
end Go.Proofs.YtdhinpmjbcohaaaGreat.Qs
