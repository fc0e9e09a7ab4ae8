import Derived.Test.YtdhinpmjbcohaaaGreatKbF
namespace Go.Proofs.YtdhinpmjbcohaaaGreat.Kb
open Go Go.RowKit
set_option linter.unusedSimpArgs false
set_option linter.unusedVariables false
set_option maxRecDepth 100000
set_option maxHeartbeats 4000000

theorem eqlSome (bm : Nat) (w : World) : (binOp .eql 142 (.map (some bm)) (.map none)).run Tryz.prog w = .ok (.bool false) w := by kernel_rfl
theorem eqlNil (w : World) : (binOp .eql 142 (.map none) (.map none)).run Tryz.prog w = .ok (.bool true) w := by kernel_rfl
theorem cell_lt {w : World} {b k : Nat} {v : Value} (h : w.cell? ⟨b, k, none⟩ = some v) : b < w.heap.size := by
 unfold World.cell? at h
 rcases hb : w.heap[b]? with _ | ob
 ·
  simp [hb] at h
 ·
  exact (Array.getElem?_eq_some_iff.1 hb).1
theorem add_walk {cb e mb : Nat} {lp : Value} {k : Ky} {v : Vt} (w w1 : World) {R2 : World → Prop} (c1 : w1.cell? ⟨cb, 1, none⟩ = some lp) (c2 : w1.cell? ⟨cb, 2, none⟩ = some (.map (some mb)))
  (hs : (w = w1 ∧ w.cell? ⟨cb, 2, none⟩ = some (.map (some mb))) ∨ (w.cell? ⟨cb, 2, none⟩ = some (.map none) ∧ w.frozen? ⟨cb, 2, none⟩ = false ∧ mb = w.heap.size ∧ w1 = (w.alloc (.map #[] 0)).setCell ⟨cb, 2, none⟩ (.map (some w.heap.size))))
  (he : EC w1 e k v) (w2 : World) (hm : (Instr.mapUpdate 142 (.map (some mb)) (kc k) (pt e)).run Tryz.prog w1.drew = .ok () w2) (c3 : w2.cell? ⟨cb, 1, none⟩ = some lp)
  (h2 : Calls Tryz.prog 98 #[pt e, lp] w2 fun r w' => r = .returned (.tuple #[]) ∧ R2 w') (hc2 : ∀ w3, R2 w3 → w3.cell? ⟨cb, 1, none⟩ = some lp ∧ w3.frozen? ⟨cb, 1, none⟩ = false) :
  Calls Tryz.prog 75 #[pt cb, pt e] w fun r w' => r = .returned (.tuple #[]) ∧ ∃ w3, R2 w3 ∧ w' = w3.setCell ⟨cb, 1, none⟩ (pt e) := by
 have H2 : Hid (Calls Tryz.prog 98 #[pt e, lp] w2 fun r w' => r = .returned (.tuple #[]) ∧ R2 w') := h2
 have HC2 : Hid (∀ w3, R2 w3 → w3.cell? ⟨cb, 1, none⟩ = some lp ∧ w3.frozen? ⟨cb, 1, none⟩ = false) := hc2
 obtain ⟨a0, a1, hE⟩ := he
 have d2 : w1.cell? ⟨e, 2, none⟩ = some (.int .i64 k) := box_cells hE 2 _ rfl
 clear h2 hc2 hE
 have hmm := @run_makeMap Tryz.prog
 unfold kc at hm
 unfold pt at hm H2 ⊢
 rcases hs with ⟨rfl, hs⟩ | ⟨hs, hf, rfl, rfl⟩
 ·
  have q1 := eqlSome mb w
  go_enter Tryz.func75, Tryz.ntmps75
  go_wp2_with fail
  go_region
  all_goals go_wp2_with fail
  all_goals go_must (go_at_call 98)
  all_goals refine (H2.out).mono ?_
  all_goals rintro r w3 ⟨rfl, h2⟩
  all_goals obtain ⟨c4, f4⟩ := HC2.out w3 h2
  all_goals have g2 : Hid (R2 w3) := h2
  all_goals clear h2
  all_goals go_wp2_with fail
  all_goals first | go_end0 | refine bodyPost_ret (results_none rfl _ _ _) rfl ?_
  all_goals exact ⟨rfl, w3, g2.out, rfl⟩
 ·
  have q1 := eqlNil w
  have fA : (w.alloc (.map #[] 0)).frozen? ⟨cb, 2, none⟩ = false := by rw [World.frozen?_alloc_old]; exact hf; exact fun q => by simp at q; rw [q] at hs; simp [World.cell?] at hs
  have cA : (w.alloc (.map #[] 0)).cell? ⟨cb, 2, none⟩ = some (.map none) := by rw [World.cell?_alloc_lt]; exact hs; exact cell_lt hs
  go_enter Tryz.func75, Tryz.ntmps75
  go_wp2_with fail
  go_region
  all_goals go_wp2_with fail
  all_goals go_must (go_at_call 98)
  all_goals refine (H2.out).mono ?_
  all_goals rintro r w3 ⟨rfl, h2⟩
  all_goals obtain ⟨c4, f4⟩ := HC2.out w3 h2
  all_goals have g2 : Hid (R2 w3) := h2
  all_goals clear h2
  all_goals go_wp2_with fail
  all_goals first | go_end0 | refine bodyPost_ret (results_none rfl _ _ _) rfl ?_
  all_goals exact ⟨rfl, w3, g2.out, rfl⟩
theorem EB.congr {w : World} {S : Nat → Prop} {n o : Nat → Nat} {ky ky' : Nat → Ky} {vl vl' : Nat → Vt} (h : EB w S n o ky vl) (h1 : ∀ b, S b → ky' b = ky b) (h2 : ∀ b, S b → vl' b = vl b) : EB w S n o ky' vl' := fun b hb => by
 rw [h1 b hb, h2 b hb]
 exact h b hb
theorem add_core {w w1 : World} {cb room mb : Nat} {L : List Nat} {n o : Nat → Nat} {ky : Nat → Ky} {vl : Nat → Vt} {e : Nat} {k : Ky} {v : Vt} (h : CA w1 cb room (.map (some mb)) L n o ky vl)
  (hs : (w = w1 ∧ w.cell? ⟨cb, 2, none⟩ = some (.map (some mb))) ∨ (w.cell? ⟨cb, 2, none⟩ = some (.map none) ∧ w.frozen? ⟨cb, 2, none⟩ = false ∧ mb = w.heap.size ∧ w1 = (w.alloc (.map #[] 0)).setCell ⟨cb, 2, none⟩ (.map (some w.heap.size))))
  (hE : EC w1 e k v) (heL : e ∉ L) (hec : e ≠ cb) (hem : e ≠ mb) (hk : okK k) (hn : ∀ b ∈ L, ky b ≠ k) (hl : L.length < maxLen) :
  Calls Tryz.prog 75 #[pt cb, pt e] w fun r w' => r = .returned (.tuple #[]) ∧ (∃ n' o', CA w' cb room (.map (some mb)) (e :: L) n' o' (upd ky e k) (upd vl e v)) ∧ Ch (fun j => FP cb (.map (some mb)) L j ∨ j = e) w1 w' := by
 obtain ⟨hmc, hmL⟩ := h.mb_not rfl
 have hcb := h.cb_not
 have hp0 : MapL w1.drew (.map (some mb)) L ky := h.mp.keep (fun _ _ => rfl)
 obtain ⟨w2, hrun, hm2, ht⟩ := hp0.put hk hn heL h.kok hl
 have hc12 : Ch (fun j => j = mb) w1 w2 := (ch_drew _ w1).then (ch_turned ht)
 have hat2 : w2.heap[cb]? = some (.cells #[.int .i64 room, hdp L, .map (some mb)] 144 (0, 0)) := by
  rw [hc12.block cb (h.lt (.inl rfl)) (fun q => hmc q.symm)]
  exact h.at_
 have heb2 : EB w2 (· ∈ L) n o ky vl := h.eb.keep (fun b hb => hc12.block b (h.lt (.inr (.inl hb))) (fun q => hmL (by rw [← q]; exact hb)))
 have hE2 : EC w2 e k v := by
  obtain ⟨a0, a1, hE⟩ := hE
  exact ⟨a0, a1, (hc12.block e (Array.getElem?_eq_some_iff.1 hE).1 hem).trans hE⟩
 have hcb2 : cb ∉ e :: L := fun q => by
  rcases List.mem_cons.1 q with q | q
  ·
   exact hec q.symm
  ·
   exact hcb q
 have hR : Calls Tryz.prog 98 #[pt e, hdp L] w2 fun r w' => r = .returned (.tuple #[]) ∧ ((∃ n' o', EB w' (· ∈ e :: L) n' o' (upd ky e k) (upd vl e v) ∧ Ring n' o' (e :: L)) ∧ Ch (· ∈ e :: L) w2 w') := by
  cases L with
  | nil =>
   refine (hang_first n o ky vl hE2).mono ?_
   rintro r w' ⟨rfl, h1, h2⟩
   exact ⟨rfl, ⟨_, _, h1.sub (fun b hb => by simpa using hb), ring_one n o e⟩, h2.mono (fun j _ q => by simp [q])⟩
  | cons x T =>
   refine (hang_any heb2 (by simp) (ring_mem h.ring).1 heL hE2).mono ?_
   rintro r w' ⟨rfl, h1, h2⟩
   refine ⟨rfl, ⟨_, _, h1.sub (fun b hb => ?_), ring_in h.ring h.nd heL⟩, h2.mono (fun j _ q => ?_)⟩
   ·
    rcases List.mem_cons.1 hb with q | q
    ·
     exact .inr q
    ·
     exact .inl q
   ·
    rcases q with q | q
    ·
     exact List.mem_cons_of_mem _ q
    ·
     simp [q]
 have hat3 : ∀ w3, Ch (· ∈ e :: L) w2 w3 → w3.heap[cb]? = some (.cells #[.int .i64 room, hdp L, .map (some mb)] 144 (0, 0)) := fun w3 q => by
  rw [q.block cb (Array.getElem?_eq_some_iff.1 hat2).1 hcb2]
  exact hat2
 refine (add_walk w w1 (lp := hdp L) (box_cells h.at_ 1 _ rfl) (box_cells h.at_ 2 _ rfl) hs hE w2 hrun (box_cells hat2 1 _ rfl) hR (fun w3 h3 => ⟨box_cells (hat3 w3 h3.2) 1 _ rfl, box_frozen (hat3 w3 h3.2) 1⟩)).mono ?_
 rintro r w' ⟨rfl, w3, ⟨⟨n', o', h3, hring⟩, hc3⟩, rfl⟩
 have hmL' : mb ∉ e :: L := fun q => by
  rcases List.mem_cons.1 q with q | q
  ·
   exact hem q.symm
  ·
   exact hmL q
 refine ⟨rfl, ⟨n', o', ?_, ?_, ?_, hring, ?_, ?_, ?_⟩, ?_⟩
 ·
  rw [heap_set (hat3 w3 hc3)]
  simp [hdp]
 ·
  intro b hb
  rw [heap_set_ne _ (fun q => hcb2 (by rw [← q]; exact hb))]
  exact h3 b hb
 ·
  exact List.nodup_cons.2 ⟨heL, h.nd⟩
 ·
  intro a ha b hb hab
  by_cases qa : a = e
  ·
   by_cases qb : b = e
   ·
    rw [qa, qb]
   ·
    have hb' : b ∈ L := (List.mem_cons.1 hb).resolve_left qb
    rw [qa, upd_same, upd_ne _ _ qb] at hab
    exact absurd hab.symm (hn b hb')
  ·
   have ha' : a ∈ L := (List.mem_cons.1 ha).resolve_left qa
   by_cases qb : b = e
   ·
    rw [qb, upd_same, upd_ne _ _ qa] at hab
    exact absurd hab (hn a ha')
   ·
    have hb' : b ∈ L := (List.mem_cons.1 hb).resolve_left qb
    rw [upd_ne _ _ qa, upd_ne _ _ qb] at hab
    exact h.ks a ha' b hb' hab
 ·
  intro b hb
  by_cases qb : b = e
  ·
   rw [qb, upd_same]
   exact hk
  ·
   rw [upd_ne _ _ qb]
   exact h.kok b ((List.mem_cons.1 hb).resolve_left qb)
 ·
  refine hm2.keep (fun m hm => ?_)
  cases hm
  rw [heap_set_ne _ hmc, hc3.block mb (hm2.block rfl |>.elim fun es q => q.elim fun cl q => (Array.getElem?_eq_some_iff.1 q).1) hmL']
 ·
  exact ((hc12.mono (S' := fun j => FP cb (.map (some mb)) L j ∨ j = e) (fun j _ q => .inl (.inr (.inr (by rw [q]))))).then (hc3.mono (fun j _ q => by
   rcases List.mem_cons.1 q with q | q
   ·
    exact .inr q
   ·
    exact .inl (.inr (.inl q))))).then ((ch_set cb 1 (pt e)).mono (fun j _ q => .inl (.inl q)))
theorem add_any {w : World} {cb room : Nat} {mv : Value} {L : List Nat} {n o : Nat → Nat} {ky : Nat → Ky} {vl : Nat → Vt} {e : Nat} {k : Ky} {v : Vt} (h : CA w cb room mv L n o ky vl)
  (hE : EC w e k v) (heL : ¬ FP cb mv L e) (hk : okK k) (hn : ∀ b ∈ L, ky b ≠ k) (hl : L.length < maxLen) :
  Calls Tryz.prog 75 #[pt cb, pt e] w fun r w' => r = .returned (.tuple #[]) ∧ (∃ mv' n' o', CA w' cb room mv' (e :: L) n' o' (upd ky e k) (upd vl e v) ∧ (∀ j, mv' = .map (some j) → mv = .map (some j) ∨ w.heap.size ≤ j)) ∧ Ch (fun j => FP cb mv L j ∨ j = e) w w' := by
 have hec : e ≠ cb := fun q => heL (.inl q)
 have heL' : e ∉ L := fun q => heL (.inr (.inl q))
 rcases h.mp with ⟨rfl, rfl⟩ | ⟨mb, D, rfl, _⟩
 ·
  have hcb : cb < w.heap.size := h.lt (.inl rfl)
  have hE' := hE
  obtain ⟨a0, a1, hE0⟩ := hE
  have hel : e < w.heap.size := (Array.getElem?_eq_some_iff.1 hE0).1
  have hold : ∀ j, j < w.heap.size → (w.alloc (.map #[] 0)).heap[j]? = w.heap[j]? := fun j hj => (World.grownBy_alloc w (.map #[] 0) none).block j hj (by simp)
  have hat := (hold cb hcb).trans h.at_
  have hc1 : Ch (fun j => j = cb) w ((w.alloc (.map #[] 0)).setCell ⟨cb, 2, none⟩ (.map (some w.heap.size))) := (ch_alloc _ w _).then (ch_set cb 2 _)
  have h1 : CA ((w.alloc (.map #[] 0)).setCell ⟨cb, 2, none⟩ (.map (some w.heap.size))) cb room (.map (some w.heap.size)) [] n o ky vl := by
   refine ⟨?_, fun b hb => (by cases hb), List.nodup_nil, trivial, fun a ha => (by cases ha), fun a ha => (by cases ha), ?_⟩
   ·
    rw [heap_set hat]
    simp [hdp]
   ·
    refine (MapL.made w ky).keep (fun m hm => ?_)
    cases hm
    rw [heap_set_ne _ (by omega)]
  refine (add_core (w := w) h1 (.inr ⟨box_cells h.at_ 2 _ rfl, box_frozen h.at_ 2, rfl, rfl⟩) (k := k) (v := v) ⟨a0, a1, ?_⟩ (by simp) hec (by omega) hk (by simp) (by simpa using hl)).mono ?_
  ·
   rw [heap_set_ne _ hec, hold e hel]
   exact hE0
  ·
   rintro r w' ⟨rfl, ⟨n', o', h2⟩, hc⟩
   refine ⟨rfl, ⟨_, n', o', h2, fun j hj => .inr (by cases hj; exact Nat.le_refl _)⟩, ?_⟩
   refine (hc1.mono (fun j _ q => .inl (.inl q))).trans hc (fun j hj q => ?_)
   rcases q with (q | q | q) | q
   ·
    exact .inl (.inl q)
   ·
    cases q
   ·
    cases q
    omega
   ·
    exact .inr q
 ·
  refine (add_core (w := w) h (.inl ⟨rfl, box_cells h.at_ 2 _ rfl⟩) hE heL' hec (fun q => heL (.inr (.inr (by rw [q])))) hk hn hl).mono ?_
  rintro r w' ⟨rfl, ⟨n', o', h2⟩, hc⟩
  exact ⟨rfl, ⟨_, n', o', h2, fun j hj => .inl hj⟩, hc⟩
end Go.Proofs.YtdhinpmjbcohaaaGreat.Kb
