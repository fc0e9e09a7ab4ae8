import Derived.Test.YtdhinpmjbcohaaaSiG
import Derived.Laws.Tables
import Derived.Lib.MinMax
namespace Go.Proofs.Ytdhinpmjbcohaaa.Si
open Go Go.RowKit
set_option linter.unusedSimpArgs false
set_option linter.unusedVariables false

set_option maxRecDepth 100000 in
set_option maxHeartbeats 1000000 in
/-- The last one goes. -/
theorem rem_one {cb e mb : Nat} {lp : Value} {k : Ky} {v : Vt} (w w1 : World) {R : World → Prop} (c2 : w.cell? ⟨cb, 2, none⟩ = some (.map (some mb))) (he : EC w e k v)
    (hd : (Builtin.delete_ #[122, 9] 0 #[.map (some mb), kc k]).run Try.prog w.drew = .ok (.tuple #[]) w1) (d2 : w1.cell? ⟨cb, 2, none⟩ = some (.map (some mb))) (hl : (Builtin.len_ #[122] 3 #[.map (some mb)]).run Try.prog w1 = .ok (.int .i64 0) w1)
    (d1 : w1.cell? ⟨cb, 1, none⟩ = some lp) (f1 : w1.frozen? ⟨cb, 1, none⟩ = false) (h2 : Calls Try.prog 70 #[pt e] (w1.setCell ⟨cb, 1, none⟩ (.pointer none)) fun r w' => r = .returned (.tuple #[]) ∧ R w') :
    Calls Try.prog 59 #[pt cb, pt e] w fun r w' => r = .returned (.tuple #[]) ∧ R w' := by
  have H2 : Hid (Calls Try.prog 70 #[pt e] (w1.setCell ⟨cb, 1, none⟩ (.pointer none)) fun r w' => r = .returned (.tuple #[]) ∧ R w') := h2
  obtain ⟨a0, a1, hE⟩ := he
  have k2 : w.cell? ⟨e, 2, none⟩ = some (.string k) := box_cells hE 2 _ rfl
  clear h2 hE
  unfold kc at hd
  unfold pt at H2 ⊢
  go_enter Try.func59, Try.ntmps59
  go_wp2_with fail
  go_region
  all_goals go_wp2_with fail
  all_goals go_must (go_at_call 70)
  all_goals refine (H2.out).mono ?_
  all_goals rintro r w3 ⟨rfl, h2⟩
  all_goals have g2 : Hid (R w3) := h2
  all_goals clear h2
  all_goals go_wp2_with fail
  all_goals first | go_end0 | refine bodyPost_ret (results_none rfl _ _ _) rfl ?_
  all_goals exact ⟨rfl, g2.out⟩
set_option maxRecDepth 100000 in
set_option maxHeartbeats 1000000 in
/-- The first one goes, and others stay. -/
theorem rem_first {cb e mb m q : Nat} {k : Ky} {v : Vt} (w w1 : World) {R : World → Prop} (c2 : w.cell? ⟨cb, 2, none⟩ = some (.map (some mb))) (he : EC w e k v)
    (hd : (Builtin.delete_ #[122, 9] 0 #[.map (some mb), kc k]).run Try.prog w.drew = .ok (.tuple #[]) w1) (d2 : w1.cell? ⟨cb, 2, none⟩ = some (.map (some mb))) (hl : (Builtin.len_ #[122] 3 #[.map (some mb)]).run Try.prog w1 = .ok (.int .i64 m) w1) (hm : ((m : Int) == 0) = false)
    (d1 : w1.cell? ⟨cb, 1, none⟩ = some (pt e)) (f1 : w1.frozen? ⟨cb, 1, none⟩ = false) (hq : w1.cell? ⟨e, 1, none⟩ = some (pt q)) (h2 : Calls Try.prog 70 #[pt e] (w1.setCell ⟨cb, 1, none⟩ (pt q)) fun r w' => r = .returned (.tuple #[]) ∧ R w') :
    Calls Try.prog 59 #[pt cb, pt e] w fun r w' => r = .returned (.tuple #[]) ∧ R w' := by
  have H2 : Hid (Calls Try.prog 70 #[pt e] (w1.setCell ⟨cb, 1, none⟩ (pt q)) fun r w' => r = .returned (.tuple #[]) ∧ R w') := h2
  obtain ⟨a0, a1, hE⟩ := he
  have k2 : w.cell? ⟨e, 2, none⟩ = some (.string k) := box_cells hE 2 _ rfl
  clear h2 hE
  have hs := eql_same w1 e
  unfold kc at hd
  unfold pt at H2 d1 hq ⊢
  go_enter Try.func59, Try.ntmps59
  go_wp2_with fail
  go_region
  all_goals go_wp2_with fail
  all_goals go_must (go_at_call 70)
  all_goals refine (H2.out).mono ?_
  all_goals rintro r w3 ⟨rfl, h2⟩
  all_goals have g2 : Hid (R w3) := h2
  all_goals clear h2
  all_goals go_wp2_with fail
  all_goals first | go_end0 | refine bodyPost_ret (results_none rfl _ _ _) rfl ?_
  all_goals exact ⟨rfl, g2.out⟩
set_option maxRecDepth 100000 in
set_option maxHeartbeats 1000000 in
/-- Another one than the first goes. -/
theorem rem_other {cb e x mb m : Nat} {k : Ky} {v : Vt} (w w1 : World) {R : World → Prop} (c2 : w.cell? ⟨cb, 2, none⟩ = some (.map (some mb))) (he : EC w e k v)
    (hd : (Builtin.delete_ #[122, 9] 0 #[.map (some mb), kc k]).run Try.prog w.drew = .ok (.tuple #[]) w1) (d2 : w1.cell? ⟨cb, 2, none⟩ = some (.map (some mb))) (hl : (Builtin.len_ #[122] 3 #[.map (some mb)]).run Try.prog w1 = .ok (.int .i64 m) w1) (hm : ((m : Int) == 0) = false)
    (d1 : w1.cell? ⟨cb, 1, none⟩ = some (pt x)) (hs : (binOp .eql 121 (.pointer (some ⟨e, 0, none⟩)) (.pointer (some ⟨x, 0, none⟩))).run Try.prog w1 = .ok (.bool false) w1) (h2 : Calls Try.prog 70 #[pt e] w1 fun r w' => r = .returned (.tuple #[]) ∧ R w') :
    Calls Try.prog 59 #[pt cb, pt e] w fun r w' => r = .returned (.tuple #[]) ∧ R w' := by
  have H2 : Hid (Calls Try.prog 70 #[pt e] w1 fun r w' => r = .returned (.tuple #[]) ∧ R w') := h2
  obtain ⟨a0, a1, hE⟩ := he
  have k2 : w.cell? ⟨e, 2, none⟩ = some (.string k) := box_cells hE 2 _ rfl
  clear h2 hE
  unfold kc at hd
  unfold pt at H2 d1 ⊢
  go_enter Try.func59, Try.ntmps59
  go_wp2_with fail
  go_region
  all_goals go_wp2_with fail
  all_goals go_must (go_at_call 70)
  all_goals refine (H2.out).mono ?_
  all_goals rintro r w3 ⟨rfl, h2⟩
  all_goals have g2 : Hid (R w3) := h2
  all_goals clear h2
  all_goals go_wp2_with fail
  all_goals first | go_end0 | refine bodyPost_ret (results_none rfl _ _ _) rfl ?_
  all_goals exact ⟨rfl, g2.out⟩
/-- An entry goes. -/
theorem remove_any {w : World} {cb room : Nat} {mv : Value} {A B : List Nat} {e : Nat} {n o : Nat → Nat} {ky : Nat → Ky} {vl : Nat → Vt} (h : CA w cb room mv (A ++ e :: B) n o ky vl) :
    Calls Try.prog 59 #[pt cb, pt e] w fun r w' => r = .returned (.tuple #[]) ∧ (∃ n' o', CA w' cb room mv (A ++ B) n' o' ky vl) ∧ Ch (FP cb mv (A ++ e :: B)) w w' := by
  have hm : e ∈ A ++ e :: B := by simp
  have hsub : ∀ b ∈ A ++ B, b ∈ A ++ e :: B := fun b hb => by
    rcases List.mem_append.1 hb with q | q <;> simp [q]
  have hmid := List.nodup_cons.1 (List.perm_middle.nodup_iff.1 h.nd)
  have hcb := h.cb_not
  obtain ⟨hn, ho⟩ := h.near
  have hp0 : MapL w.drew mv (A ++ e :: B) ky := h.mp.keep (fun _ _ => rfl)
  obtain ⟨w1, mb, rfl, hrun, hm1, ht⟩ := hp0.drop h.ks h.nd h.kok 0
  obtain ⟨hmc, hmL⟩ := h.mb_not rfl
  have hc1 : Ch (fun j => j = mb) w w1 := (ch_drew _ w).then (ch_turned ht)
  have hc1' : Ch (FP cb (.map (some mb)) (A ++ e :: B)) w w1 := hc1.mono (fun j _ q => .inr (.inr (by rw [q])))
  have hat1 : w1.heap[cb]? = some (.cells #[.int .i64 room, hdp (A ++ e :: B), .map (some mb)] 124 (0, 0)) := by
    rw [hc1.block cb (h.lt (.inl rfl)) (fun q => hmc q.symm)]
    exact h.at_
  have heb1 : EB w1 (· ∈ A ++ e :: B) n o ky vl := h.eb.keep (fun b hb => hc1.block b (h.lt (.inr (.inl hb))) (fun q => hmL (by rw [← q]; exact hb)))
  have hE : EC w e (ky e) (vl e) := ⟨_, _, h.eb e hm⟩
  have hlen := hm1.len 3
  -- what comes of it, the list's new head laid
  have fin : ∀ (w2 : World), w2.heap[cb]? = some (.cells #[.int .i64 room, hdp (A ++ B), .map (some mb)] 124 (0, 0)) → (∀ j, j ≠ cb → w2.heap[j]? = w1.heap[j]?) → Ch (FP cb (.map (some mb)) (A ++ e :: B)) w w2 →
      (A ++ B ≠ [] ∨ A ++ B = []) → Calls Try.prog 70 #[pt e] w2 fun r w' => r = .returned (.tuple #[]) ∧ ((∃ n' o', CA w' cb room (.map (some mb)) (A ++ B) n' o' ky vl) ∧ Ch (FP cb (.map (some mb)) (A ++ e :: B)) w w') := by
    intro w2 hat2 hsame hc2 hor
    have heb2 : EB w2 (· ∈ A ++ e :: B) n o ky vl := heb1.keep (fun b hb => hsame b (fun q => hcb (by rw [← q]; exact hb)))
    have hm2 : MapL w2 (.map (some mb)) (A ++ B) ky := hm1.keep (fun m q => hsame m (by cases q; exact hmc))
    refine (unhang_any heb2 hm hn ho).mono ?_
    rintro r w' ⟨rfl, h3, hc3⟩
    have hmb2 : mb < w2.heap.size := by
      obtain ⟨es, cl, q⟩ := hm2.block rfl
      exact (Array.getElem?_eq_some_iff.1 q).1
    refine ⟨rfl, ⟨_, _, ?_, h3.sub hsub, hmid.2, ?_, fun a ha b hb => h.ks a (hsub a ha) b (hsub b hb), fun b hb => h.kok b (hsub b hb), ?_⟩, hc2.then (hc3.mono (fun j _ q => .inr (.inl q)))⟩
    · rw [hc3.block cb (Array.getElem?_eq_some_iff.1 hat2).1 hcb]
      exact hat2
    · rcases hor with q | q
      · exact ring_drop h.ring h.nd q
      · rw [q]
        trivial
    · exact hm2.keep (fun m q => by cases q; exact hc3.block mb hmb2 hmL)
  by_cases hnil : A ++ B = []
  · have hA : A = [] := (List.append_eq_nil_iff.1 hnil).1
    have hB : B = [] := (List.append_eq_nil_iff.1 hnil).2
    rw [hnil] at hlen
    refine rem_one w w1 (box_cells h.at_ 2 _ rfl) hE hrun (box_cells hat1 2 _ rfl) hlen (box_cells hat1 1 _ rfl) (box_frozen hat1 1) (fin _ ?_ (fun j hj => heap_set_ne _ hj) (hc1'.then ((ch_set cb 1 _).mono (fun j _ q => .inl q))) (.inr hnil))
    rw [heap_set hat1, hnil]
    simp [hdp]
  · have hpos : (((A ++ B).length : Int) == 0) = false := by
      have : 0 < (A ++ B).length := List.length_pos_iff.2 hnil
      simp only [beq_eq_false_iff_ne]
      omega
    cases A with
    | nil =>
      cases B with
      | nil => exact absurd rfl hnil
      | cons y T =>
        have hoe : o e = y := h.ring.1
        refine rem_first (q := y) w w1 (box_cells h.at_ 2 _ rfl) hE hrun (box_cells hat1 2 _ rfl) hlen hpos (box_cells hat1 1 _ rfl) (box_frozen hat1 1) (hoe ▸ box_cells (heb1 e hm) 1 _ rfl) (fin _ ?_ (fun j hj => heap_set_ne _ hj) (hc1'.then ((ch_set cb 1 _).mono (fun j _ q => .inl q))) (.inl hnil))
        rw [heap_set hat1]
        simp [hdp]
    | cons x A =>
      have hxe : x ≠ e := fun q => hmid.1 (by simp [q])
      exact rem_other w w1 (box_cells h.at_ 2 _ rfl) hE hrun (box_cells hat1 2 _ rfl) hlen hpos (box_cells hat1 1 _ rfl) (eql_other hxe.symm (heb1 e hm) (heb1 x (by simp))) (fin w1 hat1 (fun _ _ => rfl) hc1' (.inl hnil))
end Go.Proofs.Ytdhinpmjbcohaaa.Si
