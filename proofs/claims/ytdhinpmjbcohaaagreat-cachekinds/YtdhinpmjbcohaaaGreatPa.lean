import Derived.Test.YtdhinpmjbcohaaaGreatKaG
import Derived.Laws.Tables
import Derived.Lib.MinMax
namespace Go.Proofs.YtdhinpmjbcohaaaGreat.Ka
open Go Go.RowKit
set_option linter.unusedSimpArgs false
set_option linter.unusedVariables false
set_option maxRecDepth 100000
set_option maxHeartbeats 4000000

theorem rem_one {cb e mb : Nat} {lp : Value} {k : Ky} {v : Vt} (w w1 : World) {R : World → Prop} (c2 : w.cell? ⟨cb, 2, none⟩ = some (.map (some mb))) (he : EC w e k v)
  (hd : (Builtin.delete_ #[138, 31] 0 #[.map (some mb), kc k]).run Tryz.prog w.drew = .ok (.tuple #[]) w1) (d2 : w1.cell? ⟨cb, 2, none⟩ = some (.map (some mb))) (hl : (Builtin.len_ #[138] 3 #[.map (some mb)]).run Tryz.prog w1 = .ok (.int .i64 0) w1)
  (d1 : w1.cell? ⟨cb, 1, none⟩ = some lp) (f1 : w1.frozen? ⟨cb, 1, none⟩ = false) (h2 : Calls Tryz.prog 95 #[pt e] (w1.setCell ⟨cb, 1, none⟩ (.pointer none)) fun r w' => r = .returned (.tuple #[]) ∧ R w') :
  Calls Tryz.prog 73 #[pt cb, pt e] w fun r w' => r = .returned (.tuple #[]) ∧ R w' := by
 have H2 : Hid (Calls Tryz.prog 95 #[pt e] (w1.setCell ⟨cb, 1, none⟩ (.pointer none)) fun r w' => r = .returned (.tuple #[]) ∧ R w') := h2
 obtain ⟨a0, a1, hE⟩ := he
 have k2 : w.cell? ⟨e, 2, none⟩ = some (.string k.1) := box_cells hE 2 _ rfl
 have k3 : w.cell? ⟨e, 3, none⟩ = some (.int .i64 k.2) := box_cells hE 3 _ rfl
 clear h2 hE
 unfold kc at hd
 unfold pt at H2 ⊢
 go_enter Tryz.func73, Tryz.ntmps73
 go_wp2_with fail
 go_region
 all_goals go_wp2_with fail
 all_goals go_must (go_at_call 95)
 all_goals refine (H2.out).mono ?_
 all_goals rintro r w3 ⟨rfl, h2⟩
 all_goals have g2 : Hid (R w3) := h2
 all_goals clear h2
 all_goals go_wp2_with fail
 all_goals first | go_end0 | refine bodyPost_ret (results_none rfl _ _ _) rfl ?_
 all_goals exact ⟨rfl, g2.out⟩
theorem rem_first {cb e mb m q : Nat} {k : Ky} {v : Vt} (w w1 : World) {R : World → Prop} (c2 : w.cell? ⟨cb, 2, none⟩ = some (.map (some mb))) (he : EC w e k v)
  (hd : (Builtin.delete_ #[138, 31] 0 #[.map (some mb), kc k]).run Tryz.prog w.drew = .ok (.tuple #[]) w1) (d2 : w1.cell? ⟨cb, 2, none⟩ = some (.map (some mb))) (hl : (Builtin.len_ #[138] 3 #[.map (some mb)]).run Tryz.prog w1 = .ok (.int .i64 m) w1) (hm : ((m : Int) == 0) = false)
  (d1 : w1.cell? ⟨cb, 1, none⟩ = some (pt e)) (f1 : w1.frozen? ⟨cb, 1, none⟩ = false) (hq : w1.cell? ⟨e, 1, none⟩ = some (pt q)) (h2 : Calls Tryz.prog 95 #[pt e] (w1.setCell ⟨cb, 1, none⟩ (pt q)) fun r w' => r = .returned (.tuple #[]) ∧ R w') :
  Calls Tryz.prog 73 #[pt cb, pt e] w fun r w' => r = .returned (.tuple #[]) ∧ R w' := by
 have H2 : Hid (Calls Tryz.prog 95 #[pt e] (w1.setCell ⟨cb, 1, none⟩ (pt q)) fun r w' => r = .returned (.tuple #[]) ∧ R w') := h2
 obtain ⟨a0, a1, hE⟩ := he
 have k2 : w.cell? ⟨e, 2, none⟩ = some (.string k.1) := box_cells hE 2 _ rfl
 have k3 : w.cell? ⟨e, 3, none⟩ = some (.int .i64 k.2) := box_cells hE 3 _ rfl
 clear h2 hE
 have hs := eql_same w1 e
 unfold kc at hd
 unfold pt at H2 d1 hq ⊢
 go_enter Tryz.func73, Tryz.ntmps73
 go_wp2_with fail
 go_region
 all_goals go_wp2_with fail
 all_goals go_must (go_at_call 95)
 all_goals refine (H2.out).mono ?_
 all_goals rintro r w3 ⟨rfl, h2⟩
 all_goals have g2 : Hid (R w3) := h2
 all_goals clear h2
 all_goals go_wp2_with fail
 all_goals first | go_end0 | refine bodyPost_ret (results_none rfl _ _ _) rfl ?_
 all_goals exact ⟨rfl, g2.out⟩
theorem rem_other {cb e x mb m : Nat} {k : Ky} {v : Vt} (w w1 : World) {R : World → Prop} (c2 : w.cell? ⟨cb, 2, none⟩ = some (.map (some mb))) (he : EC w e k v)
  (hd : (Builtin.delete_ #[138, 31] 0 #[.map (some mb), kc k]).run Tryz.prog w.drew = .ok (.tuple #[]) w1) (d2 : w1.cell? ⟨cb, 2, none⟩ = some (.map (some mb))) (hl : (Builtin.len_ #[138] 3 #[.map (some mb)]).run Tryz.prog w1 = .ok (.int .i64 m) w1) (hm : ((m : Int) == 0) = false)
  (d1 : w1.cell? ⟨cb, 1, none⟩ = some (pt x)) (hs : (binOp .eql 137 (.pointer (some ⟨e, 0, none⟩)) (.pointer (some ⟨x, 0, none⟩))).run Tryz.prog w1 = .ok (.bool false) w1) (h2 : Calls Tryz.prog 95 #[pt e] w1 fun r w' => r = .returned (.tuple #[]) ∧ R w') :
  Calls Tryz.prog 73 #[pt cb, pt e] w fun r w' => r = .returned (.tuple #[]) ∧ R w' := by
 have H2 : Hid (Calls Tryz.prog 95 #[pt e] w1 fun r w' => r = .returned (.tuple #[]) ∧ R w') := h2
 obtain ⟨a0, a1, hE⟩ := he
 have k2 : w.cell? ⟨e, 2, none⟩ = some (.string k.1) := box_cells hE 2 _ rfl
 have k3 : w.cell? ⟨e, 3, none⟩ = some (.int .i64 k.2) := box_cells hE 3 _ rfl
 clear h2 hE
 unfold kc at hd
 unfold pt at H2 d1 ⊢
 go_enter Tryz.func73, Tryz.ntmps73
 go_wp2_with fail
 go_region
 all_goals go_wp2_with fail
 all_goals go_must (go_at_call 95)
 all_goals refine (H2.out).mono ?_
 all_goals rintro r w3 ⟨rfl, h2⟩
 all_goals have g2 : Hid (R w3) := h2
 all_goals clear h2
 all_goals go_wp2_with fail
 all_goals first | go_end0 | refine bodyPost_ret (results_none rfl _ _ _) rfl ?_
 all_goals exact ⟨rfl, g2.out⟩
theorem remove_any {w : World} {cb room : Nat} {mv : Value} {A B : List Nat} {e : Nat} {n o : Nat → Nat} {ky : Nat → Ky} {vl : Nat → Vt} (h : CA w cb room mv (A ++ e :: B) n o ky vl) :
  Calls Tryz.prog 73 #[pt cb, pt e] w fun r w' => r = .returned (.tuple #[]) ∧ (∃ n' o', CA w' cb room mv (A ++ B) n' o' ky vl) ∧ Ch (FP cb mv (A ++ e :: B)) w w' := by
 have hm : e ∈ A ++ e :: B := by simp
 have hsub : ∀ b ∈ A ++ B, b ∈ A ++ e :: B := fun b hb => by
  rcases List.mem_append.1 hb with q | q <;> simp [q]
 have hmid := List.nodup_cons.1 (List.perm_middle.nodup_iff.1 h.nd)
 have hcb := h.cb_not
 obtain ⟨hn, ho⟩ := h.near
 have hp0 : MapL w.drew mv (A ++ e :: B) ky := h.mp.keep (fun _ _ => rfl)
 obtain ⟨w1, mb, rfl, hrun, hm1, ht⟩ := hp0.drop h.ks h.nd h.kok 0
 obtain ⟨hmc, hmL⟩ := h.mb_not rfl
 have hc1 : Ch (fun j => j = mb) w w1 := (ch_drew _ w).then (ch_turned ht)
 have hc1' : Ch (FP cb (.map (some mb)) (A ++ e :: B)) w w1 := hc1.mono (fun j _ q => .inr (.inr (by rw [q])))
 have hat1 : w1.heap[cb]? = some (.cells #[.int .i64 room, hdp (A ++ e :: B), .map (some mb)] 140 (0, 0)) := by
  rw [hc1.block cb (h.lt (.inl rfl)) (fun q => hmc q.symm)]
  exact h.at_
 have heb1 : EB w1 (· ∈ A ++ e :: B) n o ky vl := h.eb.keep (fun b hb => hc1.block b (h.lt (.inr (.inl hb))) (fun q => hmL (by rw [← q]; exact hb)))
 have hE : EC w e (ky e) (vl e) := ⟨_, _, h.eb e hm⟩
 have hlen := hm1.len 3
 -- what comes of it, the list's new head laid
 have fin : ∀ (w2 : World), w2.heap[cb]? = some (.cells #[.int .i64 room, hdp (A ++ B), .map (some mb)] 140 (0, 0)) → (∀ j, j ≠ cb → w2.heap[j]? = w1.heap[j]?) → Ch (FP cb (.map (some mb)) (A ++ e :: B)) w w2 →
   (A ++ B ≠ [] ∨ A ++ B = []) → Calls Tryz.prog 95 #[pt e] w2 fun r w' => r = .returned (.tuple #[]) ∧ ((∃ n' o', CA w' cb room (.map (some mb)) (A ++ B) n' o' ky vl) ∧ Ch (FP cb (.map (some mb)) (A ++ e :: B)) w w') := by
  intro w2 hat2 hsame hc2 hor
  have heb2 : EB w2 (· ∈ A ++ e :: B) n o ky vl := heb1.keep (fun b hb => hsame b (fun q => hcb (by rw [← q]; exact hb)))
  have hm2 : MapL w2 (.map (some mb)) (A ++ B) ky := hm1.keep (fun m q => hsame m (by cases q; exact hmc))
  refine (unhang_any heb2 hm hn ho).mono ?_
  rintro r w' ⟨rfl, h3, hc3⟩
  have hmb2 : mb < w2.heap.size := by
   obtain ⟨es, cl, q⟩ := hm2.block rfl
   exact (Array.getElem?_eq_some_iff.1 q).1
  refine ⟨rfl, ⟨_, _, ?_, h3.sub hsub, hmid.2, ?_, fun a ha b hb => h.ks a (hsub a ha) b (hsub b hb), fun b hb => h.kok b (hsub b hb), ?_⟩, hc2.then (hc3.mono (fun j _ q => .inr (.inl q)))⟩
  ·
   rw [hc3.block cb (Array.getElem?_eq_some_iff.1 hat2).1 hcb]
   exact hat2
  ·
   rcases hor with q | q
   ·
    exact ring_drop h.ring h.nd q
   ·
    rw [q]
    trivial
  ·
   exact hm2.keep (fun m q => by cases q; exact hc3.block mb hmb2 hmL)
 by_cases hnil : A ++ B = []
 ·
  have hA : A = [] := (List.append_eq_nil_iff.1 hnil).1
  have hB : B = [] := (List.append_eq_nil_iff.1 hnil).2
  rw [hnil] at hlen
  refine rem_one w w1 (box_cells h.at_ 2 _ rfl) hE hrun (box_cells hat1 2 _ rfl) hlen (box_cells hat1 1 _ rfl) (box_frozen hat1 1) (fin _ ?_ (fun j hj => heap_set_ne _ hj) (hc1'.then ((ch_set cb 1 _).mono (fun j _ q => .inl q))) (.inr hnil))
  rw [heap_set hat1, hnil]
  simp [hdp]
 ·
  have hpos : (((A ++ B).length : Int) == 0) = false := by
   have : 0 < (A ++ B).length := List.length_pos_iff.2 hnil
   simp only [beq_eq_false_iff_ne]
   omega
  cases A with
  | nil =>
   cases B with
   | nil => exact absurd rfl hnil
   | cons y T =>
    have hoe : o e = y := h.ring.1
    refine rem_first (q := y) w w1 (box_cells h.at_ 2 _ rfl) hE hrun (box_cells hat1 2 _ rfl) hlen hpos (box_cells hat1 1 _ rfl) (box_frozen hat1 1) (hoe ▸ box_cells (heb1 e hm) 1 _ rfl) (fin _ ?_ (fun j hj => heap_set_ne _ hj) (hc1'.then ((ch_set cb 1 _).mono (fun j _ q => .inl q))) (.inl hnil))
    rw [heap_set hat1]
    simp [hdp]
  | cons x A =>
   have hxe : x ≠ e := fun q => hmid.1 (by simp [q])
   exact rem_other w w1 (box_cells h.at_ 2 _ rfl) hE hrun (box_cells hat1 2 _ rfl) hlen hpos (box_cells hat1 1 _ rfl) (eql_other hxe.symm (heb1 e hm) (heb1 x (by simp))) (fin w1 hat1 (fun _ _ => rfl) hc1' (.inl hnil))
end Go.Proofs.YtdhinpmjbcohaaaGreat.Ka
namespace Go.Proofs.YtdhinpmjbcohaaaGreat.Ka
open Go Go.RowKit
set_option linter.unusedSimpArgs false
set_option linter.unusedVariables false
set_option maxRecDepth 100000
set_option maxHeartbeats 4000000

def gw (w : World) (k : Ky) : World := (w.alloc (.cells #[.string k.1, .int .i64 k.2] 31)).drew
theorem ch_gw (S : Nat → Prop) (w : World) (k : Ky) : Ch S w (gw w k) := (ch_alloc S w _).then (ch_drew S _)
theorem gw_size (w : World) (k : Ky) : (gw w k).heap.size = w.heap.size + 1 := by simp [gw]

theorem get_miss {cb : Nat} {m : Option Nat} {k : Ky} (w : World) (c2 : (gw w k).cell? ⟨cb, 2, none⟩ = some (.map m)) (hl : (Instr.lookup 138 (.map m) (kc k) false).run Tryz.prog (gw w k) = .ok (.pointer none) (gw w k)) :
  Calls Tryz.prog 23 #[pt cb, kc k] w fun r w' => r = .returned (.tuple #[vc ⟨#[]⟩, .bool false]) ∧ w' = gw w k := by
 unfold kc pt vc gw at *
 go_enter Tryz.func23, Tryz.ntmps23
 go_wp2_with fail
 go_region
 all_goals go_wp2_with fail
 all_goals go_ret2
 all_goals exact ⟨rfl, rfl⟩
theorem get_hit {cb b : Nat} {m : Option Nat} {k : Ky} {v : Vt} (w : World) {R : World → Prop} (c2 : (gw w k).cell? ⟨cb, 2, none⟩ = some (.map m)) (hl : (Instr.lookup 138 (.map m) (kc k) false).run Tryz.prog (gw w k) = .ok (pt b) (gw w k))
  (hu : Calls Tryz.prog 69 #[pt cb, pt b] (gw w k) fun r w' => r = .returned (.tuple #[]) ∧ R w') (hv : ∀ w1, R w1 → w1.cell? ⟨b, 4, none⟩ = some (vc v)) :
  Calls Tryz.prog 23 #[pt cb, kc k] w fun r w' => r = .returned (.tuple #[vc v, .bool true]) ∧ R w' := by
 have HU : Hid (Calls Tryz.prog 69 #[pt cb, pt b] (gw w k) fun r w' => r = .returned (.tuple #[]) ∧ R w') := hu
 have HV : Hid (∀ w1, R w1 → w1.cell? ⟨b, 4, none⟩ = some (vc v)) := hv
 clear hu hv
 unfold kc pt vc gw at *
 go_enter Tryz.func23, Tryz.ntmps23
 go_wp2_with fail
 go_region
 all_goals go_wp2_with fail
 all_goals go_must (go_at_call 69)
 all_goals refine (HU.out).mono ?_
 all_goals rintro r w1 ⟨rfl, h2⟩
 all_goals have c4 := HV.out w1 h2
 all_goals have g2 : Hid (R w1) := h2
 all_goals clear h2
 all_goals go_wp2_with fail
 all_goals go_ret2
 all_goals exact ⟨rfl, g2.out⟩
theorem put_hit {cb b : Nat} {m : Option Nat} {k : Ky} {v : Vt} {u : Value} (w : World) {R : World → Prop} (c2 : (gw w k).cell? ⟨cb, 2, none⟩ = some (.map m)) (hl : (Instr.lookup 138 (.map m) (kc k) false).run Tryz.prog (gw w k) = .ok (pt b) (gw w k))
  (cu : (gw w k).cell? ⟨b, 4, none⟩ = some u) (fu : (gw w k).frozen? ⟨b, 4, none⟩ = false)
  (hu : Calls Tryz.prog 69 #[pt cb, pt b] ((gw w k).setCell ⟨b, 4, none⟩ (vc v)) fun r w' => r = .returned (.tuple #[]) ∧ R w') :
  Calls Tryz.prog 25 #[pt cb, kc k, vc v] w fun r w' => r = .returned (.tuple #[]) ∧ R w' := by
 have HU : Hid (Calls Tryz.prog 69 #[pt cb, pt b] ((gw w k).setCell ⟨b, 4, none⟩ (vc v)) fun r w' => r = .returned (.tuple #[]) ∧ R w') := hu
 clear hu
 unfold kc pt vc gw at *
 go_enter Tryz.func25, Tryz.ntmps25
 go_wp2_with fail
 go_region
 all_goals go_wp2_with fail
 all_goals go_must (go_at_call 69)
 all_goals refine (HU.out).mono ?_
 all_goals rintro r w1 ⟨rfl, h2⟩
 all_goals have g2 : Hid (R w1) := h2
 all_goals clear h2
 all_goals go_wp2_with fail
 all_goals first | go_end0 | refine bodyPost_ret (results_none rfl _ _ _) rfl ?_
 all_goals exact ⟨rfl, g2.out⟩
def nc (k : Ky) (v : Vt) : Array Value := #[.pointer none, .pointer none, .string k.1, .int .i64 k.2, vc v]
theorem built_nc (k : Ky) (v : Vt) : Tryz.prog.built 157 [(1, kc k), (2, vc v)] = some (nc k v) := by kernel_rfl
theorem put_miss {cb : Nat} {m : Option Nat} {k : Ky} {v : Vt} {room : Nat} (w : World) {R1 R2 : World → Prop} (c2 : (gw w k).cell? ⟨cb, 2, none⟩ = some (.map m)) (hl : (Instr.lookup 138 (.map m) (kc k) false).run Tryz.prog (gw w k) = .ok (.pointer none) (gw w k))
  (hu : Calls Tryz.prog 72 #[pt cb, pt (w.heap.size + 1)] ((gw w k).alloc (.cells (nc k v) 157)) fun r w' => r = .returned (.tuple #[]) ∧ R1 w')
  (h3 : ∀ w3, R1 w3 → ∃ (m' : Option Nat) (x q t : Nat), w3.drew.cell? ⟨cb, 2, none⟩ = some (.map m') ∧ (Builtin.len_ #[138] 3 #[.map m']).run Tryz.prog w3.drew = .ok (.int .i64 t) w3.drew ∧ w3.drew.cell? ⟨cb, 0, none⟩ = some (.int .i64 room) ∧ w3.drew.cell? ⟨cb, 1, none⟩ = some (pt x) ∧ w3.drew.cell? ⟨x, 0, none⟩ = some (pt q) ∧
   ((¬ (room : Int) < t ∧ R2 w3.drew) ∨ ((room : Int) < t ∧ Calls Tryz.prog 73 #[pt cb, pt q] w3.drew fun r w' => r = .returned (.tuple #[]) ∧ R2 w'))) :
  Calls Tryz.prog 25 #[pt cb, kc k, vc v] w fun r w' => r = .returned (.tuple #[]) ∧ R2 w' := by
 have HU : Hid (Calls Tryz.prog 72 #[pt cb, pt (w.heap.size + 1)] ((gw w k).alloc (.cells (nc k v) 157)) fun r w' => r = .returned (.tuple #[]) ∧ R1 w') := hu
 have H3 : Hid (∀ w3, R1 w3 → ∃ (m' : Option Nat) (x q t : Nat), w3.drew.cell? ⟨cb, 2, none⟩ = some (.map m') ∧ (Builtin.len_ #[138] 3 #[.map m']).run Tryz.prog w3.drew = .ok (.int .i64 t) w3.drew ∧ w3.drew.cell? ⟨cb, 0, none⟩ = some (.int .i64 room) ∧ w3.drew.cell? ⟨cb, 1, none⟩ = some (pt x) ∧ w3.drew.cell? ⟨x, 0, none⟩ = some (pt q) ∧
   ((¬ (room : Int) < t ∧ R2 w3.drew) ∨ ((room : Int) < t ∧ Calls Tryz.prog 73 #[pt cb, pt q] w3.drew fun r w' => r = .returned (.tuple #[]) ∧ R2 w'))) := h3
 have hb : ∀ w', (Instr.build 157 #[(1, kc k), (2, vc v)]).run Tryz.prog w' = .ok (.agg (nc k v)) w' := fun w' => run_build w' 157 _ _ (built_nc k v)
 clear hu h3
 unfold kc pt vc gw nc at *
 unfold vc at *
 go_enter Tryz.func25, Tryz.ntmps25
 go_wp2_with fail
 go_region
 all_goals go_wp2_with fail
 all_goals go_must (go_at_call 72)
 all_goals refine (HU.out).mono ?_
 all_goals rintro r w3 ⟨rfl, h2⟩
 all_goals obtain ⟨m', x, q, t, e2, el, e0, e1, ex, hor⟩ := H3.out w3 h2
 all_goals clear h2
 all_goals rcases hor with ⟨hlt, hR⟩ | ⟨hlt, hR⟩
 ·
  have g2 : Hid (R2 w3.drew) := hR
  clear hR
  go_wp2_with fail
  go_region
  all_goals go_wp2_with fail
  all_goals first | go_end0 | refine bodyPost_ret (results_none rfl _ _ _) rfl ?_
  all_goals exact ⟨rfl, g2.out⟩
 ·
  have g2 : Hid (Calls Tryz.prog 73 #[.pointer (some ⟨cb, 0, none⟩), .pointer (some ⟨q, 0, none⟩)] w3.drew fun r w' => r = .returned (.tuple #[]) ∧ R2 w') := hR
  clear hR
  go_wp2_with fail
  go_region
  all_goals go_wp2_with fail
  all_goals go_must (go_at_call 73)
  all_goals refine (g2.out).mono ?_
  all_goals rintro r w4 ⟨rfl, h4⟩
  all_goals have g4 : Hid (R2 w4) := h4
  all_goals clear h4
  all_goals go_wp2_with fail
  all_goals first | go_end0 | refine bodyPost_ret (results_none rfl _ _ _) rfl ?_
  all_goals exact ⟨rfl, g4.out⟩
theorem drop_miss {cb : Nat} {m : Option Nat} {k : Ky} (w : World) (c2 : (gw w k).cell? ⟨cb, 2, none⟩ = some (.map m)) (hl : (Instr.lookup 138 (.map m) (kc k) false).run Tryz.prog (gw w k) = .ok (.pointer none) (gw w k)) :
  Calls Tryz.prog 27 #[pt cb, kc k] w fun r w' => r = .returned (.bool false) ∧ w' = gw w k := by
 unfold kc pt gw at *
 go_enter Tryz.func27, Tryz.ntmps27
 go_wp2_with fail
 go_region
 all_goals go_wp2_with fail
 all_goals go_ret
 all_goals exact ⟨rfl, rfl⟩
theorem drop_hit {cb b : Nat} {m : Option Nat} {k : Ky} (w : World) {R : World → Prop} (c2 : (gw w k).cell? ⟨cb, 2, none⟩ = some (.map m)) (hl : (Instr.lookup 138 (.map m) (kc k) false).run Tryz.prog (gw w k) = .ok (pt b) (gw w k))
  (hu : Calls Tryz.prog 73 #[pt cb, pt b] (gw w k) fun r w' => r = .returned (.tuple #[]) ∧ R w') :
  Calls Tryz.prog 27 #[pt cb, kc k] w fun r w' => r = .returned (.bool true) ∧ R w' := by
 have HU : Hid (Calls Tryz.prog 73 #[pt cb, pt b] (gw w k) fun r w' => r = .returned (.tuple #[]) ∧ R w') := hu
 clear hu
 unfold kc pt gw at *
 go_enter Tryz.func27, Tryz.ntmps27
 go_wp2_with fail
 go_region
 all_goals go_wp2_with fail
 all_goals go_must (go_at_call 73)
 all_goals refine (HU.out).mono ?_
 all_goals rintro r w1 ⟨rfl, h2⟩
 all_goals have g2 : Hid (R w1) := h2
 all_goals clear h2
 all_goals go_wp2_with fail
 all_goals go_ret
 all_goals exact ⟨rfl, g2.out⟩
theorem len_run {cb t : Nat} {m : Option Nat} (w : World) (c2 : w.cell? ⟨cb, 2, none⟩ = some (.map m)) (hl : (Builtin.len_ #[138] 3 #[.map m]).run Tryz.prog w = .ok (.int .i64 t) w) :
  Calls Tryz.prog 31 #[pt cb] w fun r w' => r = .returned (.int .i64 t) ∧ w' = w := by
 unfold pt at *
 go_enter Tryz.func31, Tryz.ntmps31
 go_wp2_with fail
 go_ret
 exact ⟨rfl, rfl⟩
theorem clear_run {cb t : Nat} {m : Option Nat} {lp : Value} (w : World) (c2 : w.cell? ⟨cb, 2, none⟩ = some (.map m)) (c1 : w.cell? ⟨cb, 1, none⟩ = some lp) (f1 : w.frozen? ⟨cb, 1, none⟩ = false) (f2 : w.frozen? ⟨cb, 2, none⟩ = false) (hl : (Builtin.len_ #[138] 3 #[.map m]).run Tryz.prog w = .ok (.int .i64 t) w) :
  Calls Tryz.prog 29 #[pt cb] w fun r w' => r = .returned (.int .i64 t) ∧ w' = (w.setCell ⟨cb, 1, none⟩ (.pointer none)).setCell ⟨cb, 2, none⟩ (.map none) := by
 unfold pt at *
 go_enter Tryz.func29, Tryz.ntmps29
 go_wp2_with fail
 go_ret
 exact ⟨rfl, rfl⟩
def rm (most : Int) : Nat := (min (max most 0) 1048576).toNat
theorem rm_eq (most : Int) : ((rm most : Nat) : Int) = min (max most 0) 1048576 := by unfold rm; omega
theorem built_new (x : Int) : Tryz.prog.built 140 [(0, .int .i64 x)] = some #[.int .i64 x, .pointer none, .map none] := by kernel_rfl
theorem new_run (most : Int) (w : World) : Calls Tryz.prog 16 #[.int .i64 most] w fun r w' => r = .returned (pt w.heap.size) ∧ w' = w.alloc (.cells #[.int .i64 (rm most), .pointer none, .map none] 140) := by
 have e1 := rm_eq most
 obtain ⟨x, hx⟩ : ∃ x : Int, x = max most 0 := ⟨_, rfl⟩
 obtain ⟨y, hy⟩ : ∃ y : Int, y = min x 1048576 := ⟨_, rfl⟩
 rw [← hx, ← hy] at e1
 rw [e1]
 have hb : ∀ w', (Instr.build 140 #[(0, .int .i64 y)]).run Tryz.prog w' = .ok (.agg #[.int .i64 y, .pointer none, .map none]) w' := fun w' => run_build w' 140 _ _ (built_new y)
 have hx' := hx.symm
 have hy' := hy.symm
 clear e1 hx hy
 unfold pt
 go_enter Tryz.func16, Tryz.ntmps16
 go_wp2_with fail
 go_ret
 exact ⟨rfl, rfl⟩
end Go.Proofs.YtdhinpmjbcohaaaGreat.Ka
namespace Go.Proofs.YtdhinpmjbcohaaaGreat.Ka
open Go Go.RowKit
set_option linter.unusedSimpArgs false
set_option linter.unusedVariables false

def CS (w : World) (cb room : Nat) (l : List (Ky × Vt)) (F : Nat → Prop) : Prop :=
 ∃ mv L n o ky vl, CA w cb room mv L n o ky vl ∧ l = L.map (fun b => (ky b, vl b)) ∧ (∀ j, F j ↔ FP cb mv L j) ∧ L.length ≤ room
theorem CS.lt {w : World} {cb room : Nat} {l : List (Ky × Vt)} {F : Nat → Prop} (h : CS w cb room l F) {j : Nat} (hj : F j) : j < w.heap.size := by
 obtain ⟨mv, L, n, o, ky, vl, h, _, hF, _⟩ := h
 exact h.lt ((hF j).1 hj)
theorem CS.len {w : World} {cb room : Nat} {l : List (Ky × Vt)} {F : Nat → Prop} (h : CS w cb room l F) : l.length ≤ room := by
 obtain ⟨mv, L, n, o, ky, vl, h, rfl, hF, hl⟩ := h
 simpa using hl
theorem CS.ch {S : Nat → Prop} {w w' : World} {cb room : Nat} {l : List (Ky × Vt)} {F : Nat → Prop} (h : CS w cb room l F) (hc : Ch S w w') (hs : ∀ j, F j → ¬ S j) : CS w' cb room l F := by
 obtain ⟨mv, L, n, o, ky, vl, h, e, hF, hl⟩ := h
 exact ⟨mv, L, n, o, ky, vl, h.ch hc (fun j hj => hs j ((hF j).2 hj)), e, hF, hl⟩
theorem CS.keys {w : World} {cb room : Nat} {l : List (Ky × Vt)} {F : Nat → Prop} (h : CS w cb room l F) : (l.map (·.1)).Nodup ∧ ∀ p ∈ l, okK p.1 := by
 obtain ⟨mv, L, n, o, ky, vl, h, rfl, hF, hl⟩ := h
 refine ⟨?_, fun p hp => ?_⟩
 ·
  rw [List.map_map]
  have h1 := h.nd
  have h2 := h.ks
  clear h hF hl
  induction L with
  | nil => simp
  | cons x T ih =>
   have hx := List.nodup_cons.1 h1
   refine List.nodup_cons.2 ⟨fun q => ?_, ih hx.2 (fun a ha b hb => h2 a (by simp [ha]) b (by simp [hb]))⟩
   obtain ⟨y, hy, e⟩ := List.mem_map.1 q
   have := h2 y (by simp [hy]) x (by simp) e
   exact hx.1 (this ▸ hy)
 ·
  obtain ⟨b, hb, rfl⟩ := List.mem_map.1 hp
  exact h.kok b hb
theorem CA.apart {w : World} {cb room : Nat} {mv : Value} {A B : List Nat} {e : Nat} {n o : Nat → Nat} {ky : Nat → Ky} {vl : Nat → Vt} (h : CA w cb room mv (A ++ e :: B) n o ky vl) (vl' : Nat → Vt) : ky e ∉ (A.map (fun b => (ky b, vl' b))).map (·.1) ∧ ky e ∉ (B.map (fun b => (ky b, vl' b))).map (·.1) := by
 have hmid := (List.nodup_cons.1 (List.perm_middle.nodup_iff.1 h.nd)).1
 refine ⟨fun q => ?_, fun q => ?_⟩
 ·
  rw [List.map_map] at q
  obtain ⟨y, hy, e1⟩ := List.mem_map.1 q
  have := h.ks y (by simp [hy]) e (by simp) e1
  exact hmid (by rw [← this]; simp [hy])
 ·
  rw [List.map_map] at q
  obtain ⟨y, hy, e1⟩ := List.mem_map.1 q
  have := h.ks y (by simp [hy]) e (by simp) e1
  exact hmid (by rw [← this]; simp [hy])
theorem map_congr_on {L : List Nat} {ky ky' : Nat → Ky} {vl vl' : Nat → Vt} (h : ∀ b ∈ L, ky' b = ky b ∧ vl' b = vl b) : L.map (fun b => (ky' b, vl' b)) = L.map (fun b => (ky b, vl b)) := List.map_congr_left (fun b hb => by rw [(h b hb).1, (h b hb).2])
theorem CA.setV {w : World} {cb room : Nat} {mv : Value} {L : List Nat} {n o : Nat → Nat} {ky : Nat → Ky} {vl : Nat → Vt} (h : CA w cb room mv L n o ky vl) {e : Nat} (he : e ∈ L) (v : Vt) : CA (w.setCell ⟨e, 4, none⟩ (vc v)) cb room mv L n o ky (upd vl e v) :=
 ⟨(heap_set_ne _ (fun q => h.cb_not (by rw [q]; exact he))).trans h.at_, h.eb.setV he v, h.nd, h.ring, h.ks, h.kok, h.mp.keep (fun m hm => heap_set_ne _ (fun q => (h.mb_not hm).2 (by rw [q]; exact he)))⟩
theorem mv_map {w : World} {mv : Value} {L : List Nat} {ky : Nat → Ky} (h : MapL w mv L ky) : ∃ m, mv = .map m := by
 rcases h with ⟨h, _⟩ | ⟨mb, D, h, _⟩
 ·
  exact ⟨_, h⟩
 ·
  exact ⟨_, h⟩

def lused (l : List (Ky × Vt)) (k : Ky) : List (Ky × Vt) := match lget l k with
 | some v => ltop k v l
 | none => l
def Aft (w : World) (cb room : Nat) (F : Nat → Prop) (l' : List (Ky × Vt)) (w' : World) : Prop := (∃ F', CS w' cb room l' F' ∧ ∀ j, F' j → F j ∨ w.heap.size ≤ j) ∧ Ch F w w'
theorem fp_perm {cb : Nat} {mv : Value} {A B : List Nat} {e j : Nat} (h : FP cb mv (e :: (A ++ B)) j) : FP cb mv (A ++ e :: B) j := by
 rcases h with q | q | q
 ·
  exact .inl q
 ·
  exact .inr (.inl (List.perm_middle.mem_iff.2 q))
 ·
  exact .inr (.inr q)
theorem fp_sub {cb : Nat} {mv : Value} {A B : List Nat} {e j : Nat} (h : FP cb mv (A ++ B) j) : FP cb mv (A ++ e :: B) j := fp_perm (by
 rcases h with q | q | q
 ·
  exact .inl q
 ·
  exact .inr (.inl (List.mem_cons_of_mem _ q))
 ·
  exact .inr (.inr q))
theorem get_any {w : World} {cb room : Nat} {l : List (Ky × Vt)} {F : Nat → Prop} {k : Ky} (h : CS w cb room l F) (hk : okK k) :
  Calls Tryz.prog 23 #[pt cb, kc k] w fun r w' => r = .returned (.tuple #[vc ((lget l k).getD ⟨#[]⟩), .bool (lget l k).isSome]) ∧ Aft w cb room F (lused l k) w' := by
 obtain ⟨mv, L, n, o, ky, vl, h, rfl, hF, hl⟩ := h
 obtain ⟨m, rfl⟩ := mv_map h.mp
 have hg : CA (gw w k) cb room (.map m) L n o ky vl := h.ch (ch_gw (fun _ => False) w k) (fun _ _ q => q)
 have hFle : ∀ S : Nat → Prop, Ch S w (gw w k) := fun S => ch_gw S w k
 by_cases hex : ∃ b ∈ L, ky b = k
 ·
  obtain ⟨b, hb, rfl⟩ := hex
  obtain ⟨A, B, rfl⟩ := List.append_of_mem hb
  obtain ⟨ha1, ha2⟩ := h.apart vl
  have e1 : lget ((A ++ b :: B).map (fun b => (ky b, vl b))) (ky b) = some (vl b) := by
   rw [List.map_append, List.map_cons]
   exact lget_mid ha1
  have e2 : lused ((A ++ b :: B).map (fun b => (ky b, vl b))) (ky b) = (b :: (A ++ B)).map (fun b => (ky b, vl b)) := by
   unfold lused
   rw [e1]
   simp only [ltop]
   rw [List.map_append, List.map_cons, lout_mid ha1 ha2]
   simp
  rw [e1, e2]
  refine (get_hit (v := vl b) w (box_cells hg.at_ 2 _ rfl) (hg.mp.hit hb (h.kok b hb)) (use_any hg) (fun w1 h1 => ?_)).mono ?_
  ·
   exact (by
    obtain ⟨⟨n', o', h1⟩, _⟩ := h1
    exact box_cells (h1.eb b (by simp)) 4 _ rfl : w1.cell? ⟨b, 4, none⟩ = some (vc (vl b)))
  ·
   rintro r w' ⟨rfl, ⟨n', o', h1⟩, hc⟩
   refine ⟨rfl, ⟨FP cb (.map m) (b :: (A ++ B)), ⟨_, _, n', o', ky, vl, h1, rfl, fun j => Iff.rfl, ?_⟩, fun j hj => .inl ((hF j).2 (fp_perm hj))⟩, ?_⟩
   ·
    simp at hl ⊢
    omega
   ·
    exact (hFle F).then (hc.mono (fun j _ q => (hF j).2 q))
 ·
  have hn : ∀ b ∈ L, ky b ≠ k := fun b hb q => hex ⟨b, hb, q⟩
  have e1 : lget (L.map (fun b => (ky b, vl b))) k = none := lget_of_not (fun q => by
   rw [List.map_map] at q
   obtain ⟨b, hb, e⟩ := List.mem_map.1 q
   exact hn b hb e)
  have e2 : lused (L.map (fun b => (ky b, vl b))) k = L.map (fun b => (ky b, vl b)) := by simp [lused, e1]
  rw [e1, e2]
  refine (get_miss w (box_cells hg.at_ 2 _ rfl) (hg.mp.miss hk hn)).mono ?_
  rintro r w' ⟨rfl, rfl⟩
  exact ⟨rfl, ⟨F, ⟨_, _, n, o, ky, vl, hg, rfl, hF, hl⟩, fun j hj => .inl hj⟩, hFle F⟩
theorem put_any {w : World} {cb room : Nat} {l : List (Ky × Vt)} {F : Nat → Prop} {k : Ky} {v : Vt} (h : CS w cb room l F) (hk : okK k) (hroom : room ≤ 1048576) :
  Calls Tryz.prog 25 #[pt cb, kc k, vc v] w fun r w' => r = .returned (.tuple #[]) ∧ Aft w cb room F ((ltop k v l).take room) w' := by
 obtain ⟨mv, L, n, o, ky, vl, h, rfl, hF, hl⟩ := h
 obtain ⟨m, rfl⟩ := mv_map h.mp
 have hg : CA (gw w k) cb room (.map m) L n o ky vl := h.ch (ch_gw (fun _ => False) w k) (fun _ _ q => q)
 have hFle : ∀ S : Nat → Prop, Ch S w (gw w k) := fun S => ch_gw S w k
 by_cases hex : ∃ b ∈ L, ky b = k
 ·
  obtain ⟨b, hb, rfl⟩ := hex
  obtain ⟨A, B, rfl⟩ := List.append_of_mem hb
  have hs := hg.setV hb v
  obtain ⟨ha1, ha2⟩ := h.apart vl
  have hne : ∀ c ∈ A ++ B, c ≠ b := fun c hc q => (List.nodup_cons.1 (List.perm_middle.nodup_iff.1 h.nd)).1 (q ▸ hc)
  have e2 : (ltop (ky b) v ((A ++ b :: B).map (fun b => (ky b, vl b)))).take room = (b :: (A ++ B)).map (fun c => (ky c, upd vl b v c)) := by
   rw [List.take_of_length_le]
   ·
    simp only [ltop]
    rw [List.map_append, List.map_cons, lout_mid ha1 ha2, List.map_cons, upd_same, map_congr_on (ky := ky) (vl := vl) (fun c hc => ⟨rfl, upd_ne _ _ (hne c hc)⟩)]
    simp
   ·
    simp only [ltop]
    rw [List.map_append, List.map_cons, lout_mid ha1 ha2]
    simp at hl ⊢
    omega
  rw [e2]
  refine (put_hit (v := v) w (box_cells hg.at_ 2 _ rfl) (hg.mp.hit hb (h.kok b hb)) (box_cells (hg.eb b hb) 4 _ rfl) (box_frozen (hg.eb b hb) 4) (use_any hs)).mono ?_
  rintro r w' ⟨rfl, ⟨n', o', h1⟩, hc⟩
  refine ⟨rfl, ⟨FP cb (.map m) (b :: (A ++ B)), ⟨_, _, n', o', ky, _, h1, rfl, fun j => Iff.rfl, ?_⟩, fun j hj => .inl ((hF j).2 (fp_perm hj))⟩, ?_⟩
  ·
   simp at hl ⊢
   omega
  ·
   exact ((hFle F).then ((ch_set b 4 (vc v)).mono (fun j _ q => (hF j).2 (.inr (.inl (q ▸ hb)))))).then (hc.mono (fun j _ q => (hF j).2 q))
 ·
  have hn : ∀ b ∈ L, ky b ≠ k := fun b hb q => hex ⟨b, hb, q⟩
  have hnot : k ∉ (L.map (fun b => (ky b, vl b))).map (·.1) := fun q => by
   rw [List.map_map] at q
   obtain ⟨b, hb, e⟩ := List.mem_map.1 q
   exact hn b hb e
  have e0 : ltop k v (L.map (fun b => (ky b, vl b))) = (k, v) :: L.map (fun b => (ky b, vl b)) := by
   simp only [ltop]
   rw [lout_not hnot]
  rw [e0]
  have hsz := gw_size w k
  have hA : CA ((gw w k).alloc (.cells (nc k v) 157)) cb room (.map m) L n o ky vl := hg.ch (ch_alloc (fun _ => False) _ _) (fun _ _ q => q)
  have hnew : ((gw w k).alloc (.cells (nc k v) 157)).heap[w.heap.size + 1]? = some (.cells (nc k v) 157 (0, 0)) := by
   rw [← hsz]
   exact (MapKept.heap_alloc _ _).1
  have hFn : ¬ FP cb (.map m) L (w.heap.size + 1) := fun q => by
   have := hg.lt q
   omega
  have hLn : (w.heap.size + 1) ∉ L := fun q => hFn (.inr (.inl q))
  have hmap : ∀ (T : List Nat), (∀ c ∈ T, c ∈ L) → T.map (fun c => (upd ky (w.heap.size + 1) k c, upd vl (w.heap.size + 1) v c)) = T.map (fun c => (ky c, vl c)) := fun T hT => map_congr_on (fun c hc => ⟨upd_ne _ _ (fun q => hLn (q ▸ hT c hc)), upd_ne _ _ (fun q => hLn (q ▸ hT c hc))⟩)
  have hwle : w.heap.size ≤ w.heap.size + 1 := by omega
  refine (put_miss (v := v) (room := room) w (R1 := fun w3 => (∃ mv' n' o', CA w3 cb room mv' ((w.heap.size + 1) :: L) n' o' (upd ky (w.heap.size + 1) k) (upd vl (w.heap.size + 1) v) ∧ (∀ j, mv' = .map (some j) → Value.map m = .map (some j) ∨ ((gw w k).alloc (.cells (nc k v) 157)).heap.size ≤ j)) ∧ Ch (fun j => FP cb (.map m) L j ∨ j = w.heap.size + 1) ((gw w k).alloc (.cells (nc k v) 157)) w3)
   (R2 := fun w' => Aft w cb room F (((k, v) :: L.map (fun b => (ky b, vl b))).take room) w') (box_cells hg.at_ 2 _ rfl) (hg.mp.miss hk hn) (add_any hA ⟨_, _, hnew⟩ hFn hk hn (by unfold maxLen; omega)) (fun w3 h3 => ?_)).mono (fun r w' q => q)
  obtain ⟨⟨mv', n', o', h3, hj⟩, hc3⟩ := h3
  obtain ⟨m', rfl⟩ := mv_map h3.mp
  have hd : CA w3.drew cb room (.map m') ((w.heap.size + 1) :: L) n' o' (upd ky (w.heap.size + 1) k) (upd vl (w.heap.size + 1) v) := h3.ch (ch_drew (fun _ => False) _) (fun _ _ q => q)
  have hx := (ring_mem hd.ring).1
  have hall : Ch F w w3.drew := by
   have h0 : Ch F w ((gw w k).alloc (.cells (nc k v) 157)) := (hFle F).then (ch_alloc F _ _)
   refine (h0.trans hc3 (fun j hj q => ?_)).then (ch_drew F _)
   rcases q with q | q
   ·
    exact (hF j).2 q
   ·
    omega
  have hFj : ∀ j, FP cb (.map m') ((w.heap.size + 1) :: L) j → F j ∨ w.heap.size ≤ j := fun j q => by
   rcases q with q | q | q
   ·
    exact .inl ((hF j).2 (.inl q))
   ·
    rcases List.mem_cons.1 q with q | q
    ·
     exact .inr (by omega)
    ·
     exact .inl ((hF j).2 (.inr (.inl q)))
   ·
    rcases hj j q with q | q
    ·
     exact .inl ((hF j).2 (.inr (.inr q)))
    ·
     have : w.heap.size ≤ ((gw w k).alloc (.cells (nc k v) 157)).heap.size := Nat.le_trans (hFle F).size (ch_alloc F _ _).size
     exact .inr (Nat.le_trans this q)
  refine ⟨m', w.heap.size + 1, n' (w.heap.size + 1), L.length + 1, box_cells hd.at_ 2 _ rfl, hd.mp.len 3, box_cells hd.at_ 0 _ rfl, box_cells hd.at_ 1 _ rfl, box_cells (hd.eb _ (by simp)) 0 _ rfl, ?_⟩
  by_cases hlt : room < L.length + 1
  ·
   refine .inr ⟨by omega, ?_⟩
   have hlast := ring_last hd.ring
   obtain ⟨A, hA'⟩ : ∃ A, (w.heap.size + 1) :: L = A ++ [n' (w.heap.size + 1)] := by
    have hne : (w.heap.size + 1) :: L ≠ [] := by simp
    rw [List.getLast?_eq_some_getLast hne] at hlast
    have h5 := List.dropLast_concat_getLast hne
    rw [Option.some.inj hlast] at h5
    exact ⟨_, h5.symm⟩
   obtain ⟨q, hq⟩ : ∃ q, q = n' (w.heap.size + 1) := ⟨_, rfl⟩
   rw [← hq] at hA' ⊢
   have hd' := hd
   rw [hA'] at hd'
   refine (remove_any (A := A) (B := []) hd').mono ?_
   rintro r w' ⟨rfl, ⟨n2, o2, h4⟩, hc4⟩
   rw [List.append_nil] at h4
   have hAl : A.length = room := by
    have := congrArg List.length hA'
    simp at this
    omega
   have e3 : ((k, v) :: L.map (fun b => (ky b, vl b))).take room = A.map (fun c => (upd ky (w.heap.size + 1) k c, upd vl (w.heap.size + 1) v c)) := by
    have e4 : (k, v) :: L.map (fun b => (ky b, vl b)) = ((w.heap.size + 1) :: L).map (fun c => (upd ky (w.heap.size + 1) k c, upd vl (w.heap.size + 1) v c)) := by
     rw [List.map_cons, upd_same, upd_same, hmap L (fun c hc => hc)]
    rw [e4, hA', List.map_append, List.take_append_of_le_length (by simp [hAl]), List.take_of_length_le (by simp [hAl])]
   have hsubA : ∀ j, FP cb (.map m') A j → FP cb (.map m') ((w.heap.size + 1) :: L) j := fun j q => by
    rw [hA']
    rcases q with q | q | q
    ·
     exact .inl q
    ·
     exact .inr (.inl (by simp [q]))
    ·
     exact .inr (.inr q)
   refine ⟨rfl, ⟨FP cb (.map m') A, ⟨_, A, n2, o2, _, _, h4, e3, fun j => Iff.rfl, by omega⟩, fun j q => hFj j (hsubA j q)⟩, ?_⟩
   refine hall.trans hc4 (fun j hj q => ?_)
   rw [← hA'] at q
   rcases hFj j q with q | q
   ·
    exact q
   ·
    omega
  ·
   refine .inl ⟨by omega, ⟨FP cb (.map m') ((w.heap.size + 1) :: L), ⟨_, _, n', o', _, _, hd, ?_, fun j => Iff.rfl, by simp; omega⟩, hFj⟩, hall⟩
   rw [List.take_of_length_le (by simp; omega), List.map_cons, upd_same, upd_same, hmap L (fun c hc => hc)]
theorem drop_any {w : World} {cb room : Nat} {l : List (Ky × Vt)} {F : Nat → Prop} {k : Ky} (h : CS w cb room l F) (hk : okK k) :
  Calls Tryz.prog 27 #[pt cb, kc k] w fun r w' => r = .returned (.bool (lget l k).isSome) ∧ Aft w cb room F (lout l k) w' := by
 obtain ⟨mv, L, n, o, ky, vl, h, rfl, hF, hl⟩ := h
 obtain ⟨m, rfl⟩ := mv_map h.mp
 have hg : CA (gw w k) cb room (.map m) L n o ky vl := h.ch (ch_gw (fun _ => False) w k) (fun _ _ q => q)
 have hFle : ∀ S : Nat → Prop, Ch S w (gw w k) := fun S => ch_gw S w k
 by_cases hex : ∃ b ∈ L, ky b = k
 ·
  obtain ⟨b, hb, rfl⟩ := hex
  obtain ⟨A, B, rfl⟩ := List.append_of_mem hb
  obtain ⟨ha1, ha2⟩ := h.apart vl
  have e1 : lget ((A ++ b :: B).map (fun b => (ky b, vl b))) (ky b) = some (vl b) := by
   rw [List.map_append, List.map_cons]
   exact lget_mid ha1
  have e2 : lout ((A ++ b :: B).map (fun b => (ky b, vl b))) (ky b) = (A ++ B).map (fun b => (ky b, vl b)) := by
   rw [List.map_append, List.map_cons, lout_mid ha1 ha2]
   simp
  rw [e1, e2]
  refine (drop_hit w (box_cells hg.at_ 2 _ rfl) (hg.mp.hit hb (h.kok b hb)) (remove_any hg)).mono ?_
  rintro r w' ⟨rfl, ⟨n', o', h1⟩, hc⟩
  refine ⟨rfl, ⟨FP cb (.map m) (A ++ B), ⟨_, _, n', o', ky, vl, h1, rfl, fun j => Iff.rfl, ?_⟩, fun j hj => .inl ((hF j).2 (fp_sub hj))⟩, ?_⟩
  ·
   simp at hl ⊢
   omega
  ·
   exact (hFle F).then (hc.mono (fun j _ q => (hF j).2 q))
 ·
  have hn : ∀ b ∈ L, ky b ≠ k := fun b hb q => hex ⟨b, hb, q⟩
  have hnot : k ∉ (L.map (fun b => (ky b, vl b))).map (·.1) := fun q => by
   rw [List.map_map] at q
   obtain ⟨b, hb, e⟩ := List.mem_map.1 q
   exact hn b hb e
  rw [lget_of_not hnot, lout_not hnot]
  refine (drop_miss w (box_cells hg.at_ 2 _ rfl) (hg.mp.miss hk hn)).mono ?_
  rintro r w' ⟨rfl, rfl⟩
  exact ⟨rfl, ⟨F, ⟨_, _, n, o, ky, vl, hg, rfl, hF, hl⟩, fun j hj => .inl hj⟩, hFle F⟩
theorem len_any {w : World} {cb room : Nat} {l : List (Ky × Vt)} {F : Nat → Prop} (h : CS w cb room l F) : Calls Tryz.prog 31 #[pt cb] w fun r w' => r = .returned (.int .i64 l.length) ∧ w' = w := by
 obtain ⟨mv, L, n, o, ky, vl, h, rfl, hF, hl⟩ := h
 obtain ⟨m, rfl⟩ := mv_map h.mp
 rw [List.length_map]
 exact len_run w (box_cells h.at_ 2 _ rfl) (h.mp.len 3)
theorem clear_any {w : World} {cb room : Nat} {l : List (Ky × Vt)} {F : Nat → Prop} (h : CS w cb room l F) : Calls Tryz.prog 29 #[pt cb] w fun r w' => r = .returned (.int .i64 l.length) ∧ Aft w cb room F [] w' := by
 obtain ⟨mv, L, n, o, ky, vl, h, rfl, hF, hl⟩ := h
 obtain ⟨m, rfl⟩ := mv_map h.mp
 rw [List.length_map]
 refine (clear_run w (box_cells h.at_ 2 _ rfl) (box_cells h.at_ 1 _ rfl) (box_frozen h.at_ 1) (box_frozen h.at_ 2) (h.mp.len 3)).mono ?_
 rintro r w' ⟨rfl, rfl⟩
 refine ⟨rfl, ⟨FP cb (.map none) [], ⟨.map none, [], n, o, ky, vl, ⟨?_, fun b hb => (by cases hb), List.nodup_nil, trivial, fun a ha => (by cases ha), fun a ha => (by cases ha), .inl ⟨rfl, rfl⟩⟩, rfl, fun j => Iff.rfl, by simp⟩, fun j hj => ?_⟩, ?_⟩
 ·
  rw [heap_set (heap_set h.at_ _)]
  simp [hdp]
 ·
  rcases hj with q | q | q
  ·
   exact .inl ((hF j).2 (.inl q))
  ·
   cases q
  ·
   cases q
 ·
  have hb : F cb := (hF cb).2 (.inl rfl)
  exact ((ch_set cb 1 _).mono (fun j _ q => q ▸ hb)).then ((ch_set cb 2 _).mono (fun j _ q => q ▸ hb))
end Go.Proofs.YtdhinpmjbcohaaaGreat.Ka
namespace Go.Proofs.YtdhinpmjbcohaaaGreat.Ka
open Go Go.RowKit
set_option linter.unusedSimpArgs false
set_option linter.unusedVariables false

def St (w0 w : World) (cb room : Nat) (l : List (Ky × Vt)) : Prop := ∃ F, CS w cb room l F ∧ (∀ j, F j → w0.heap.size ≤ j) ∧ Ch (fun j => w0.heap.size ≤ j) w0 w
theorem St.below {w0 w : World} {cb room : Nat} {l : List (Ky × Vt)} (h : St w0 w cb room l) : Below w0.heap.size w0 w := by
 obtain ⟨F, h1, h2, h3⟩ := h
 exact ⟨h3.os, h3.tape, h3.output, h3.size, fun k hk => h3.block k hk (by omega)⟩
end Go.Proofs.YtdhinpmjbcohaaaGreat.Ka
namespace Go.Proofs.YtdhinpmjbcohaaaGreat
open Go Go.RowKit
set_option linter.unusedSimpArgs false
set_option linter.unusedVariables false
theorem bytes_beq (a b : ByteArray) : (a.toList == b.toList) = decide (a = b) := by
 by_cases h : a = b
 ·
  subst h; simp
 ·
  simp only [h, decide_false, beq_eq_false_iff_ne]
  intro q
  apply h
  rw [Lib.toList_data, Lib.toList_data] at q
  obtain ⟨⟨l⟩⟩ := a
  obtain ⟨⟨m⟩⟩ := b
  simp at q
  rw [q]
theorem fields31 : (Tryz.prog.fieldsOf 31).toList = [{ name := "Name", type := 9, offset := 0, embedded := false, tag := "", pkgPath := "", byteOffset := 0 }, { name := "N", type := 3, offset := 1, embedded := false, tag := "", pkgPath := "", byteOffset := 16 }] := by kernel_rfl
theorem eql31 (a b : ByteArray) (i j : Int) (w : World) : (binOp .eql 31 (.agg #[.string a, .int .i64 i]) (.agg #[.string b, .int .i64 j])).run Tryz.prog w = .ok (.bool (decide ((a, i) = (b, j)))) w := by
 rw [run_eql_struct, run_equalIn_agg w 9999 31 _ _ (by kernel_rfl) (by kernel_rfl), fields31]
 have h9 := run_equalIn_string (P := Tryz.prog) w 9998 9 a b Tryz.underlying9
 have h3 := run_equalIn_int (P := Tryz.prog) w 9998 3 .i64 .i64 i j Tryz.underlying3
 have e1 : decide ((a, i) = (b, j)) = (decide (a = b) && (i == j)) := by
  by_cases h1 : a = b <;> by_cases h2 : i = j <;> simp [h1, h2]
 rw [e1, ← bytes_beq]
 have p1 : (part 9 #[.string a, .int .i64 i] 0).run Tryz.prog w = .ok (.string a) w := by kernel_rfl
 have p2 : (part 9 #[.string b, .int .i64 j] 0).run Tryz.prog w = .ok (.string b) w := by kernel_rfl
 have p3 : (part 3 #[.string a, .int .i64 i] 1).run Tryz.prog w = .ok (.int .i64 i) w := by kernel_rfl
 have p4 : (part 3 #[.string b, .int .i64 j] 1).run Tryz.prog w = .ok (.int .i64 j) w := by kernel_rfl
 simp only [Nat.reduceAdd] at h9 h3
 simp [Op.eqFields, p1, p2, p3, p4, h9, h3, Result.andThen]
 by_cases h1 : a.toList = b.toList <;> by_cases h2 : i = j <;> simp [h1, h2]
end Go.Proofs.YtdhinpmjbcohaaaGreat
namespace Go.Proofs.YtdhinpmjbcohaaaGreat
open Go Go.RowKit
set_option linter.unusedSimpArgs false
set_option linter.unusedVariables false

def c0 {K : Type} (z : K) (C : List K) : List K := match C with
 | [] => [z]
 | x :: t => x :: t
structure Cod {K : Type} (z : K) (C : List K) : Prop where
 ne : C ≠ []
 hd : C.head? = some z
section
variable {K : Type} [DecidableEq K]
def ix (k : K) : List K → Nat
 | [] => 0
 | x :: t => if x = k then 0 else ix k t + 1
def ext (z : K) (C : List K) (k : K) : List K := if k ∈ c0 z C then c0 z C else c0 z C ++ [k]
theorem ix_at {k : K} : ∀ {C : List K}, k ∈ C → C[ix k C]? = some k
 | [], h => by cases h
 | x :: t, h => by
  unfold ix
  split
  ·
   rename_i hx
   simp [hx]
  ·
   rename_i hne
   have : k ∈ t := (List.mem_cons.1 h).resolve_left (fun q => hne q.symm)
   simpa using ix_at this
theorem ix_first {k : K} : ∀ {C : List K} {j : Nat}, C[j]? = some k → (∀ q, q < j → C[q]? ≠ some k) → ix k C = j
 | [], j, h, _ => by simp at h
 | x :: t, 0, h, _ => by
  simp at h
  simp [ix, h]
 | x :: t, j + 1, h, hn => by
  have hx : x ≠ k := fun q => hn 0 (by omega) (by simp [q])
  unfold ix
  rw [if_neg hx, ix_first (C := t) (j := j) (by simpa using h) (fun q hq => by simpa using hn (q + 1) (by omega))]
theorem ix_append {k : K} : ∀ {C : List K} (D : List K), k ∈ C → ix k (C ++ D) = ix k C
 | [], D, h => by cases h
 | x :: t, D, h => by
  show (if x = k then 0 else ix k (t ++ D) + 1) = if x = k then 0 else ix k t + 1
  split
  ·
   rfl
  ·
   rename_i hne
   rw [ix_append D ((List.mem_cons.1 h).resolve_left (fun q => hne q.symm))]
theorem ix_new {k : K} : ∀ {C : List K}, k ∉ C → ix k (C ++ [k]) = C.length
 | [], _ => by simp [ix]
 | x :: t, h => by
  show (if x = k then 0 else ix k (t ++ [k]) + 1) = _
  rw [if_neg (fun q => h (by simp [q])), ix_new (fun q => h (by simp [q]))]
  simp
theorem ix_inj {a b : K} {C : List K} (ha : a ∈ C) (hb : b ∈ C) (h : ix a C = ix b C) : a = b := by
 have h1 := ix_at ha
 rw [h, ix_at hb] at h1
 exact (Option.some.inj h1).symm
theorem ext_in {z : K} {C D : List K} {k : K} (hD : c0 z C = D) (h : k ∈ D) : ext z C k = D := by
 subst hD
 unfold ext
 rw [if_pos h]
theorem ext_out {z : K} {C D : List K} {k : K} (hD : c0 z C = D) (h : k ∉ D) : ext z C k = D ++ [k] := by
 subst hD
 unfold ext
 rw [if_neg h]
theorem ext_mem (z : K) (C : List K) (k : K) : k ∈ ext z C k := by
 unfold ext
 split <;> simp_all
theorem ext_pre (z : K) (C : List K) (k : K) : ∃ D, ext z C k = c0 z C ++ D := by
 unfold ext
 split
 ·
  exact ⟨[], by simp⟩
 ·
  exact ⟨[k], rfl⟩
theorem ext_len (z : K) (C : List K) (k : K) : (ext z C k).length ≤ C.length + 2 := by
 have : (c0 z C).length ≤ C.length + 1 := by cases C <;> simp [c0]
 unfold ext
 split
 ·
  omega
 ·
  simp
  omega
theorem cod_ext (z : K) (C : List K) (k : K) (h : C = [] ∨ Cod z C) : Cod z (ext z C k) := by
 obtain ⟨D, hD⟩ := ext_pre z C k
 rw [hD]
 rcases h with rfl | h
 ·
  exact ⟨by simp [c0], by simp [c0]⟩
 ·
  cases C with
  | nil => exact absurd rfl h.ne
  | cons x t =>
   have := h.hd
   simp at this
   exact ⟨by simp [c0], by simp [c0, this]⟩
theorem cod_zero {z : K} {C : List K} (h : Cod z C) : z ∈ C ∧ ix z C = 0 := by
 cases C with
 | nil => exact absurd rfl h.ne
 | cons x t =>
  have := h.hd
  simp at this
  subst this
  exact ⟨by simp, by simp [ix]⟩
theorem ext_stay {z : K} {C : List K} (h : Cod z C) (k : K) {x : K} (hx : x ∈ C) : x ∈ ext z C k ∧ ix x (ext z C k) = ix x C := by
 obtain ⟨D, hD⟩ := ext_pre z C k
 have hc : c0 z C = C := by cases C with
  | nil => exact absurd rfl h.ne
  | cons y t => rfl
 rw [hD, hc]
 exact ⟨by simp [hx], ix_append D hx⟩
theorem ext_same {z : K} {C : List K} (h : Cod z C) {k : K} (hk : k ∈ C) : ext z C k = C := by
 have hc : c0 z C = C := by cases C with
  | nil => exact absurd rfl h.ne
  | cons y t => rfl
 unfold ext
 rw [hc, if_pos hk]
end
end Go.Proofs.YtdhinpmjbcohaaaGreat
