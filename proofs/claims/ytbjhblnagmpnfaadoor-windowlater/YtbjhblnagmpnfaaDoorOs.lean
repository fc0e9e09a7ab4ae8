import Derived.Test.YtbjhblnagmpnfaaDoorOr
namespace Go.Proofs.YtbjhblnagmpnfaaDoor
open Go Go.RowKit Go.Shelf Go.Maps Go.Sort
set_option linter.unusedSimpArgs false
set_option linter.unusedVariables false
/-! ### Free -/
def pFree (p : Pw) (id : Int) : Pw × Bool := if 0 ≤ id ∧ id.toNat ∈ p.R then ({ p with R := p.R.filter (fun j => j != id.toNat) }, true) else (p, false)
set_option maxRecDepth 100000 in
set_option maxHeartbeats 1000000 in
theorem free_under {w : World} {wb b : Nat} {mu : Value} {id : Int} (c5 : w.cell? ⟨wb, 5, none⟩ = some mu) (hl : (Instr.lookup 68 mu (.int .i64 id) true).run Tryd.prog w = .ok (.tuple #[.pointer (some ⟨b, 0, none⟩), .bool true]) w) :
    Calls Tryd.prog 10 #[.pointer (some ⟨wb, 0, none⟩), .int .i64 id] w fun e w' => e = .returned (.bool false) ∧ w' = w := by
  go_enter Tryd.func10, Tryd.ntmps10
  go_wp2_with fail
  go_ret
  exact ⟨rfl, rfl⟩
set_option maxRecDepth 100000 in
set_option maxHeartbeats 1000000 in
theorem free_not {w : World} {wb : Nat} {mu : Value} {id : Int} (c5 : w.cell? ⟨wb, 5, none⟩ = some mu) (hl : (Instr.lookup 68 mu (.int .i64 id) true).run Tryd.prog w = .ok (.tuple #[.pointer none, .bool false]) w) (h31 : Calls Tryd.prog 31 #[.pointer (some ⟨wb, 8, none⟩), .int .i64 id] w fun e w' => e = .returned (.bool false) ∧ ∃ m, w' = w.drewN m) :
    Calls Tryd.prog 10 #[.pointer (some ⟨wb, 0, none⟩), .int .i64 id] w fun e w' => e = .returned (.bool false) ∧ Below w.heap.size w w' := by
  have H := hidi h31
  have hwl : wb < w.heap.size := World.block_lt_of_cell? _ _ c5
  clear h31
  go_enter Tryd.func10, Tryd.ntmps10
  go_wp2_with (go_at_call 31; refine H.out.mono ?_; rintro e w' ⟨rfl, m, rfl⟩)
  go_ret
  exact ⟨rfl, below_drewN (Below.refl _ _)⟩
set_option maxRecDepth 100000 in
set_option maxHeartbeats 1000000 in
theorem free_yes {w : World} {wb nr : Nat} {mu : Value} {id : Int} (hnr : nr ≤ 65535 ∧ 1 ≤ nr) (c5 : w.cell? ⟨wb, 5, none⟩ = some mu) (hl : (Instr.lookup 68 mu (.int .i64 id) true).run Tryd.prog w = .ok (.tuple #[.pointer none, .bool false]) w) (h31 : Calls Tryd.prog 31 #[.pointer (some ⟨wb, 8, none⟩), .int .i64 id] w fun e w' => e = .returned (.bool true) ∧ ∃ m, w' = w.drewN m) {R : World → Prop}
    (h32 : ∀ m, Calls Tryd.prog 32 #[.pointer (some ⟨wb, 8, none⟩), .int .i64 id] (w.drewN m) fun e w' => e = .returned (.tuple #[]) ∧ w'.cell? ⟨wb, 9, none⟩ = some (.int .i64 (nr : Int)) ∧ w'.frozen? ⟨wb, 9, none⟩ = false ∧ R (w'.setCell ⟨wb, 9, none⟩ (.int .i64 ((nr - 1 : Nat) : Int)))) :
    Calls Tryd.prog 10 #[.pointer (some ⟨wb, 0, none⟩), .int .i64 id] w fun e w' => e = .returned (.bool true) ∧ R w' := by
  have H := hidi h31
  have H2 := hidi h32
  have hwl : wb < w.heap.size := World.block_lt_of_cell? _ _ c5
  have hw1 : IntKind.i64.wrap ((nr : Int) - 1) = ((nr - 1 : Nat) : Int) := by rw [IntKind.wrap_i64]; omega
  generalize hn1 : nr - 1 = n1 at *
  clear h31 h32 hnr hn1
  go_enter Tryd.func10, Tryd.ntmps10
  go_wp2_with (first | (go_at_call 31; refine H.out.mono ?_; rintro e w' ⟨rfl, m, rfl⟩; have J := hidi (H2.out m)) | (go_at_call 32; refine J.out.mono ?_; rintro e w2 ⟨rfl, d9, f9, hr⟩; have HR := hidi hr; clear hr))
  go_ret
  exact ⟨rfl, HR.out⟩
theorem filter_lenN {R : List Nat} {id : Nat} (hn : R.Nodup) (hm : id ∈ R) : (R.filter (fun j => j != id)).length + 1 = R.length := by
  induction R with
  | nil => simp at hm
  | cons g R ih =>
    simp only [List.nodup_cons] at hn
    by_cases e : g = id
    · have : R.filter (fun f => f != id) = R := by
        rw [List.filter_eq_self]
        intro f hf
        simp only [bne_iff_ne, ne_eq]
        intro q
        exact hn.1 (by rw [e, ← q]; exact hf)
      simp [e, this]
    · have h2 : id ∈ R := by
        rcases List.mem_cons.1 hm with q | q
        · exact absurd q.symm e
        · exact q
      have := ih hn.2 h2
      simp [e, this]
theorem ws_free {w : World} {wb : Nat} {i : WI} {c : Nat} (h : WS w wb i c) (hc : c ≤ 200000) {id : Nat} (hid : id ∈ i.R) :
    Calls Tryd.prog 32 #[.pointer (some ⟨wb, 8, none⟩), .int .i64 (id : Int)] w fun e w' => e = .returned (.tuple #[]) ∧ w'.cell? ⟨wb, 9, none⟩ = some (.int .i64 (i.R.length : Int)) ∧ w'.frozen? ⟨wb, 9, none⟩ = false ∧ ∃ mt, St w (w'.setCell ⟨wb, 9, none⟩ (.int .i64 ((i.R.length - 1 : Nat) : Int))) wb i { i with mt := mt, R := i.R.filter (fun j => j != id) } c := by
  have hbc := h.bc
  have hrng := h.rng id (List.mem_append.2 (.inr hid))
  have hRn : i.R.Nodup := (List.nodup_append.1 h.nd).2.1
  have hlen := filter_lenN hRn hid
  have hnf : id ∉ i.ids := fun q => (List.nodup_append.1 h.nd).2.2 id q id hid rfl
  have hT : i.T id = true := by unfold WI.T; rw [decide_eq_true hid]; simp
  refine (drop_any h.tkn (nb := wb) (i := 8) (t := 75) h.blk rfl id hrng.2 hT (by omega)).mono ?_
  rintro e w' ⟨rfl, mt', hmt', hN4, hb4, hch4⟩
  refine ⟨rfl, box_cells hb4 9 _ rfl, box_frozen hb4 9, mt', ?_⟩
  obtain ⟨W, hW⟩ : ∃ W, W = w'.setCell ⟨wb, 9, none⟩ (.int .i64 ((i.R.length - 1 : Nat) : Int)) := ⟨_, rfl⟩
  rw [← hW]
  have hchW : Ch (fun j => j = wb ∨ i.mt = .map (some j)) w W := by
    rw [hW]
    exact (hch4.mono (fun j _ q => q.elim .inl .inr)).trans (ch_set wb 9 _) (fun j _ q => .inl q)
  have hchU : Ch (i.U wb) w W := hchW.mono (fun j _ q => q.elim .inl (fun e => .inr (.inr (.inl e))))
  have hkb := h.kb hchU
  have hoth : ∀ j o, w.heap[j]? = some o → j ≠ wb → i.mt ≠ .map (some j) → W.heap[j]? = w.heap[j]? := fun j o hj hn hm => hchW.block j (Array.getElem?_eq_some_iff.1 hj).1 (fun q => q.elim hn hm)
  have hmt : ∀ j o, w.heap[j]? = some o → (∀ cs t fz, o = Obj.cells cs t fz → i.mt ≠ .map (some j)) := fun j o hj cs t fz ho q => by
    obtain ⟨es, cl, e⟩ := h.tkn.block q
    rw [e] at hj
    rw [ho] at hj
    cases hj
  have hmt2 : ∀ j, mt' = .map (some j) → i.mt = .map (some j) := fun j hj => by
    rcases hmt' with q | q
    · rw [← q]; exact hj
    · rw [q] at hj; cases hj
  have hmem : ∀ j, j ∈ i.R.filter (fun j => j != id) → j ∈ i.R := fun j hj => (List.mem_filter.1 hj).1
  have hTf : ({ i with mt := mt', R := i.R.filter (fun j => j != id) } : WI).T = setT i.T id false := by
    funext j
    unfold setT
    by_cases e : j = id
    · rw [if_pos e]
      subst e
      unfold WI.T
      rw [decide_eq_false (show ¬ j ∈ WI.ids { i with mt := mt', R := i.R.filter (fun x => x != j) } from hnf), decide_eq_false (fun q => by simpa using (List.mem_filter.1 q).2)]
      rfl
    · rw [if_neg e]
      have hd : decide (j ∈ i.R.filter (fun j => j != id)) = decide (j ∈ i.R) := by
        rw [Bool.eq_iff_iff, decide_eq_true_iff, decide_eq_true_iff]
        exact ⟨fun q => hmem j q, fun q => List.mem_filter.2 ⟨q, by simpa using e⟩⟩
      unfold WI.T
      show (decide _ || decide (j ∈ i.R.filter (fun j => j != id))) = _
      rw [hd]
      rfl
  refine ⟨{ h with blk := ?_, und := ?_, fls := ?_, tkn := ?_, row := ?_, pay := fun x hx => (h.pay x hx).keep hkb, apt := ?_, nd := ?_, rng := ?_, br := ?_ }, hchU, ?_⟩
  · rw [hW, heap_set hb4]
    unfold WI.cs
    simp only
    rw [show (i.R.filter (fun j => j != id)).length = i.R.length - 1 by omega]
    rfl
  · refine h.und.keep (fun b hb => ?_)
    obtain ⟨es, cl, e⟩ := h.und.block hb
    exact hoth b _ e (fun q => by rw [q, h.blk] at e; cases e) (h.apt b hb)
  · intro f hf
    have hb := (h.fls f hf).blk
    refine ⟨(hoth f.b _ hb (fun q => by rw [q, h.blk] at hb; simp at hb) (hmt f.b _ hb _ _ _ rfl)).trans hb, (h.fls f hf).pay.keep hkb⟩
  · rw [hTf]
    refine hN4.keep (fun j hj => ?_)
    rw [hW]
    refine heap_set_ne _ (fun q => ?_)
    obtain ⟨es, cl, e⟩ := hN4.block hj
    rw [q, hb4] at e
    cases e
  · refine own_ch h.row hchW (fun g hg q => ?_)
    obtain ⟨cur, e⟩ := own_lt h.row hg
    rcases q with q | q
    · rw [q, h.blk] at e; simp at e
    · obtain ⟨es, cl, e'⟩ := h.tkn.block q; rw [e'] at e; cases e
  · exact fun j hj q => h.apt j hj (hmt2 j q)
  · exact List.Nodup.sublist (List.Sublist.append (List.Sublist.refl _) List.filter_sublist) h.nd
  · intro j hj
    rcases List.mem_append.1 hj with q | q
    · exact h.rng j (List.mem_append.2 (.inl q))
    · exact h.rng j (List.mem_append.2 (.inr (hmem j q)))
  · have := h.br
    show (i.R.filter (fun j => j != id)).length ≤ 65535 - i.most
    omega
  · rintro j (q | q | q | q | q)
    · exact .inl (.inl q)
    · exact .inl (.inr (.inl q))
    · exact .inl (.inr (.inr (.inl (hmt2 j q))))
    · exact .inl (.inr (.inr (.inr (.inl q))))
    · exact .inl (.inr (.inr (.inr (.inr q))))
theorem free_ws {w : World} {wb : Nat} {i : WI} {c : Nat} (h : WS w wb i c) (g : Gd w) (hc : c ≤ 200000) (id : Int) (hid : okI id) :
    Calls Tryd.prog 10 #[.pointer (some ⟨wb, 0, none⟩), .int .i64 id] w fun e w' => e = .returned (.bool (pFree i.p id).2) ∧ Gd w' ∧ ∃ i', St w w' wb i i' c ∧ i'.p = (pFree i.p id).1 := by
  have c5 : w.cell? ⟨wb, 5, none⟩ = some i.mu := box_cells h.blk 5 _ rfl
  have hl := h.und.look2 Tryd.underlying68 zero78 hid
  have h31 := has_any (w := w) (nb := wb) (i := 8) h.tkn (box_cells h.blk 8 _ rfl) id hid
  by_cases hR : 0 ≤ id ∧ id.toNat ∈ i.R
  · obtain ⟨n, rfl⟩ : ∃ n : Nat, id = (n : Int) := ⟨id.toNat, by omega⟩
    simp only [Int.toNat_natCast] at hR
    have hrng := h.rng n (List.mem_append.2 (.inr hR.2))
    have hnf : n ∉ i.ids := fun q => (List.nodup_append.1 h.nd).2.2 n q n hR.2 rfl
    have hlk : lookF i.fs (n : Int) = none := lookF_none (fun f hf e => hnf (List.mem_map.2 ⟨f, hf, by omega⟩))
    rw [hlk] at hl
    have hT : i.T n = true := by unfold WI.T; rw [decide_eq_true hR.2]; simp
    have e31 : (decide (1 ≤ (n : Int) ∧ (n : Int) ≤ 65535) && i.T (n : Int).toNat) = true := by
      rw [decide_eq_true (by omega), Int.toNat_natCast, hT]; rfl
    rw [e31] at h31
    have ep : pFree i.p (n : Int) = ({ i.p with R := i.R.filter (fun j => j != n) }, true) := by
      unfold pFree
      rw [if_pos (show 0 ≤ (n : Int) ∧ (n : Int).toNat ∈ i.p.R by rw [Int.toNat_natCast]; exact hR)]
      rfl
    rw [ep]
    have hpos : 1 ≤ i.R.length := List.length_pos_of_mem hR.2
    have hbr := h.br
    refine (free_yes (nr := i.R.length) (R := fun w' => Gd w' ∧ ∃ i', St w w' wb i i' c ∧ i'.p = { i.p with R := i.R.filter (fun j => j != n) }) (by omega) c5 hl h31 (fun m => ?_)).mono ?_
    · have hb : Below w.heap.size w (w.drewN m) := below_drewN (Below.refl _ _)
      refine (ws_free (h.below hb) hc hR.2).mono ?_
      rintro e w' ⟨rfl, d9, f9, mt, st⟩
      have st2 := (St.below h hb).trans st
      exact ⟨rfl, d9, f9, st2.gd h g, _, st2, rfl⟩
    · rintro e w' ⟨rfl, hr⟩
      exact ⟨rfl, hr⟩
  · have ep : pFree i.p id = (i.p, false) := by
      unfold pFree
      rw [if_neg (show ¬ (0 ≤ id ∧ id.toNat ∈ i.p.R) from hR)]
    rw [ep]
    cases hlk : lookF i.fs id with
    | some b =>
      rw [hlk] at hl
      refine (free_under c5 hl).mono ?_
      rintro e w' ⟨rfl, rfl⟩
      exact ⟨rfl, g, i, St.below h (Below.refl _ _), rfl⟩
    | none =>
      rw [hlk] at hl
      have e31 : (decide (1 ≤ id ∧ id ≤ 65535) && i.T id.toNat) = false := by
        by_cases hr : 1 ≤ id ∧ id ≤ 65535
        · rw [decide_eq_true hr, Bool.true_and]
          unfold WI.T
          rw [decide_eq_false, decide_eq_false (fun q => hR ⟨by omega, q⟩)]
          · rfl
          · intro q
            obtain ⟨f, hf, e⟩ := List.mem_map.1 q
            have hnd : (i.fs.map (·.id)).Nodup := (List.nodup_append.1 h.nd).1
            have := lookF_mem hnd hf
            rw [e, show ((id.toNat : Nat) : Int) = id by omega, hlk] at this
            cases this
        · rw [decide_eq_false hr]; rfl
      rw [e31] at h31
      refine (free_not c5 hl h31).mono ?_
      rintro e w' ⟨rfl, hb⟩
      exact ⟨rfl, g.below hb, i, St.below h hb, rfl⟩
end Go.Proofs.YtbjhblnagmpnfaaDoor
