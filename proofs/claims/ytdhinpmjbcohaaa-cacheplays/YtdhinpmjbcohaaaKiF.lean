import Derived.Test.YtdhinpmjbcohaaaKiD
import Derived.LaidEqlPtr
namespace Go.Proofs.Ytdhinpmjbcohaaa.Ki
open Go Go.RowKit
set_option linter.unusedSimpArgs false
set_option linter.unusedVariables false

/-! ### A cache in memory -/
def hdp : List Nat → Value
  | [] => .pointer none
  | x :: _ => pt x
structure CA (w : World) (cb room : Nat) (mv : Value) (L : List Nat) (n o : Nat → Nat) (ky : Nat → Ky) (vl : Nat → Vt) : Prop where
  at_ : w.heap[cb]? = some (.cells #[.int .i64 room, hdp L, mv] 106 (0, 0))
  eb : EB w (· ∈ L) n o ky vl
  nd : L.Nodup
  ring : Ring n o L
  ks : ∀ a ∈ L, ∀ b ∈ L, ky a = ky b → a = b
  kok : ∀ b ∈ L, okK (ky b)
  mp : MapL w mv L ky
/-- The blocks of a cache. -/
def FP (cb : Nat) (mv : Value) (L : List Nat) (j : Nat) : Prop := j = cb ∨ j ∈ L ∨ mv = .map (some j)
theorem CA.cb_not {w : World} {cb room : Nat} {mv : Value} {L : List Nat} {n o : Nat → Nat} {ky : Nat → Ky} {vl : Nat → Vt} (h : CA w cb room mv L n o ky vl) : cb ∉ L := fun q => by
  have h1 := h.at_
  rw [h.eb cb q] at h1
  simp at h1
theorem CA.mb_not {w : World} {cb room : Nat} {mv : Value} {L : List Nat} {n o : Nat → Nat} {ky : Nat → Ky} {vl : Nat → Vt} (h : CA w cb room mv L n o ky vl) {m : Nat} (hm : mv = .map (some m)) : m ≠ cb ∧ m ∉ L := by
  obtain ⟨es, cl, h1⟩ := h.mp.block hm
  refine ⟨fun q => ?_, fun q => ?_⟩
  · rw [q, h.at_] at h1
    simp at h1
  · rw [h.eb m q] at h1
    simp at h1
theorem CA.lt {w : World} {cb room : Nat} {mv : Value} {L : List Nat} {n o : Nat → Nat} {ky : Nat → Ky} {vl : Nat → Vt} (h : CA w cb room mv L n o ky vl) {j : Nat} (hj : FP cb mv L j) : j < w.heap.size := by
  rcases hj with rfl | q | q
  · exact (Array.getElem?_eq_some_iff.1 h.at_).1
  · exact (Array.getElem?_eq_some_iff.1 (h.eb j q)).1
  · obtain ⟨es, cl, h1⟩ := h.mp.block q
    exact (Array.getElem?_eq_some_iff.1 h1).1
/-- A cache stays where nothing of its own changes. -/
theorem CA.keep {w w' : World} {cb room : Nat} {mv : Value} {L : List Nat} {n o : Nat → Nat} {ky : Nat → Ky} {vl : Nat → Vt} (h : CA w cb room mv L n o ky vl) (hs : ∀ j, FP cb mv L j → w'.heap[j]? = w.heap[j]?) : CA w' cb room mv L n o ky vl :=
  ⟨(hs cb (.inl rfl)).trans h.at_, h.eb.keep (fun b hb => hs b (.inr (.inl hb))), h.nd, h.ring, h.ks, h.kok, h.mp.keep (fun b hb => hs b (.inr (.inr hb)))⟩
theorem CA.ch {S : Nat → Prop} {w w' : World} {cb room : Nat} {mv : Value} {L : List Nat} {n o : Nat → Nat} {ky : Nat → Ky} {vl : Nat → Vt} (h : CA w cb room mv L n o ky vl) (hc : Ch S w w') (hs : ∀ j, FP cb mv L j → ¬ S j) : CA w' cb room mv L n o ky vl :=
  h.keep (fun j hj => hc.block j (h.lt hj) (hs j hj))
theorem ring_mem {n o : Nat → Nat} {e : Nat} {M : List Nat} (h : Ring n o (e :: M)) : n e ∈ e :: M ∧ o e ∈ e :: M := by
  refine ⟨seg_last M e h, ?_⟩
  cases M with
  | nil => simp [Ring, Seg] at h; simp [h.1]
  | cons y T => simp [Ring, Seg] at h; simp [h.1]
theorem CA.near {w : World} {cb room : Nat} {mv : Value} {A B : List Nat} {e : Nat} {n o : Nat → Nat} {ky : Nat → Ky} {vl : Nat → Vt} (h : CA w cb room mv (A ++ e :: B) n o ky vl) : n e ∈ A ++ e :: B ∧ o e ∈ A ++ e :: B := by
  have h1 := (ring_rot A (e :: B)).1 h.ring
  have h2 := ring_mem (M := B ++ A) h1
  have hp : ∀ x, x ∈ e :: (B ++ A) → x ∈ A ++ e :: B := fun x hx => by
    simp only [List.mem_cons, List.mem_append] at hx ⊢
    rcases hx with q | q | q
    · exact .inr (.inl q)
    · exact .inr (.inr q)
    · exact .inl q
  exact ⟨hp _ h2.1, hp _ h2.2⟩

theorem e_size : (Try.prog.info? 111).map (fun i => i.size) = some 5 := by kernel_rfl
theorem eql_same (w : World) (e : Nat) : (binOp .eql 103 (.pointer (some ⟨e, 0, none⟩)) (.pointer (some ⟨e, 0, none⟩))).run Try.prog w = .ok (.bool true) w := by
  obtain ⟨j, hj, _⟩ := Option.map_eq_some_iff.1 e_size
  exact run_eql_ptr_same w _ Try.underlying103 hj
theorem eql_other {w : World} {e x : Nat} (hne : e ≠ x) {ca cb : Array Value} {ta tb : TypeId} (ha : w.heap[e]? = some (.cells ca ta (0, 0))) (hb : w.heap[x]? = some (.cells cb tb (0, 0))) : (binOp .eql 103 (.pointer (some ⟨e, 0, none⟩)) (.pointer (some ⟨x, 0, none⟩))).run Try.prog w = .ok (.bool false) w := by
  obtain ⟨j, hj, hs⟩ := Option.map_eq_some_iff.1 e_size
  exact run_eql_ptr_other w Try.underlying103 hj (by rw [hs]; decide) (fun q => hne (congrArg Addr.block q)) ha hb
set_option maxRecDepth 100000 in
set_option maxHeartbeats 1000000 in
theorem use_same {cb e : Nat} (w : World) (c1 : w.cell? ⟨cb, 1, none⟩ = some (pt e)) : Calls Try.prog 49 #[pt cb, pt e] w fun r w' => r = .returned (.tuple #[]) ∧ w' = w := by
  unfold pt at *
  have hq := eql_same w e
  go_enter Try.func49, Try.ntmps49
  go_wp2_with fail
  all_goals first | go_end0 | refine bodyPost_ret (results_none rfl _ _ _) rfl ?_
  all_goals exact ⟨rfl, rfl⟩
set_option maxRecDepth 100000 in
set_option maxHeartbeats 1000000 in
theorem use_walk {cb e x : Nat} (w : World) (hq : (binOp .eql 103 (.pointer (some ⟨e, 0, none⟩)) (.pointer (some ⟨x, 0, none⟩))).run Try.prog w = .ok (.bool false) w) {R1 R2 : World → Prop} (c1 : w.cell? ⟨cb, 1, none⟩ = some (pt x)) (h1 : Calls Try.prog 66 #[pt e] w fun r w' => r = .returned (.tuple #[]) ∧ R1 w') (hc : ∀ w1, R1 w1 → w1.cell? ⟨cb, 1, none⟩ = some (pt x)) (h2 : ∀ w1, R1 w1 → Calls Try.prog 67 #[pt e, pt x] w1 fun r w' => r = .returned (.tuple #[]) ∧ R2 w') (hc2 : ∀ w1, R2 w1 → w1.cell? ⟨cb, 1, none⟩ = some (pt x) ∧ w1.frozen? ⟨cb, 1, none⟩ = false) :
    Calls Try.prog 49 #[pt cb, pt e] w fun r w' => r = .returned (.tuple #[]) ∧ ∃ w2, R2 w2 ∧ w' = w2.setCell ⟨cb, 1, none⟩ (pt e) := by
  have H1 : Hid (Calls Try.prog 66 #[pt e] w fun r w' => r = .returned (.tuple #[]) ∧ R1 w') := h1
  have H2 : Hid (∀ w1, R1 w1 → Calls Try.prog 67 #[pt e, pt x] w1 fun r w' => r = .returned (.tuple #[]) ∧ R2 w') := h2
  have HC : Hid (∀ w1, R1 w1 → w1.cell? ⟨cb, 1, none⟩ = some (pt x)) := hc
  have HC2 : Hid (∀ w1, R2 w1 → w1.cell? ⟨cb, 1, none⟩ = some (pt x) ∧ w1.frozen? ⟨cb, 1, none⟩ = false) := hc2
  clear h1 h2 hc hc2
  unfold pt at c1 ⊢
  go_enter Try.func49, Try.ntmps49
  go_wp2_with fail
  go_must (go_at_call 66)
  refine (H1.out).mono ?_
  rintro r w1 ⟨rfl, h1⟩
  have c2 := HC.out w1 h1
  unfold pt at c2
  have g1 : Hid (R1 w1) := h1
  clear h1
  go_wp2_with fail
  go_must (go_at_call 67)
  refine (H2.out w1 g1.out).mono ?_
  rintro r w2 ⟨rfl, h2⟩
  obtain ⟨c3, f3⟩ := HC2.out w2 h2
  unfold pt at c3
  have g2 : Hid (R2 w2) := h2
  clear h2
  go_wp2_with fail
  all_goals first | go_end0 | refine bodyPost_ret (results_none rfl _ _ _) rfl ?_
  all_goals exact ⟨rfl, w2, g2.out, rfl⟩
/-- An entry that is used. -/
theorem use_any {w : World} {cb room : Nat} {mv : Value} {A B : List Nat} {e : Nat} {n o : Nat → Nat} {ky : Nat → Ky} {vl : Nat → Vt} (h : CA w cb room mv (A ++ e :: B) n o ky vl) :
    Calls Try.prog 49 #[pt cb, pt e] w fun r w' => r = .returned (.tuple #[]) ∧ (∃ n' o', CA w' cb room mv (e :: (A ++ B)) n' o' ky vl) ∧ Ch (FP cb mv (A ++ e :: B)) w w' := by
  cases A with
  | nil =>
    refine (use_same w (box_cells h.at_ 1 _ rfl)).mono ?_
    rintro r w' ⟨rfl, rfl⟩
    exact ⟨rfl, ⟨n, o, h⟩, Ch.refl _ _⟩
  | cons x A =>
    have hmid := List.nodup_cons.1 (List.perm_middle.nodup_iff.1 h.nd)
    have hxe : x ≠ e := fun q => hmid.1 (by simp [q])
    have hcb := h.cb_not
    obtain ⟨hn, ho⟩ := h.near
    have hex : ∀ b, (b ∈ x :: A ++ B) → b ∈ x :: A ++ e :: B := fun b hb => by
      rcases List.mem_append.1 hb with q | q
      · exact List.mem_append.2 (.inl q)
      · exact List.mem_append.2 (.inr (by simp [q]))
    have hring1 := ring_drop (A := x :: A) (B := B) h.ring h.nd (by simp)
    have U := unhang_any h.eb (by simp) hn ho
    have hnx : upd n (o e) (n e) x ∈ x :: (A ++ B) := (ring_mem (M := A ++ B) hring1).1
    refine (use_walk (e := e) w (eql_other hxe.symm (h.eb e (by simp)) (h.eb x (by simp))) (R1 := fun w1 => EB w1 (· ∈ x :: A ++ e :: B) (upd n (o e) (n e)) (upd o (n e) (o e)) ky vl ∧ Ch (· ∈ x :: A ++ e :: B) w w1)
      (R2 := fun w2 => ∃ w1, EB w2 (fun b => b ∈ x :: A ++ B ∨ b = e) (upd (upd (upd n (o e) (n e)) e (upd n (o e) (n e) x)) x e) (upd (upd (upd o (n e) (o e)) e x) (upd n (o e) (n e) x) e) (upd ky e (ky e)) (upd vl e (vl e)) ∧ Ch (fun b => b ∈ x :: A ++ B ∨ b = e) w1 w2 ∧ Ch (· ∈ x :: A ++ e :: B) w w1)
      (box_cells h.at_ 1 _ rfl) (U.mono (fun r w' q => q)) (fun w1 h1 => ?_) (fun w1 h1 => ?_) (fun w2 h2 => ?_)).mono ?_
    · exact box_cells ((h1.2.block cb (h.lt (.inl rfl)) hcb).trans h.at_) 1 _ rfl
    · refine (hang_any (S := fun b => b ∈ x :: A ++ B) (k := ky e) (v := vl e) (h1.1.sub hex) (by simp) hnx hmid.1 ⟨_, _, h1.1 e (by simp)⟩).mono ?_
      rintro r w' ⟨rfl, h2, h3⟩
      exact ⟨rfl, w1, h2, h3, h1.2⟩
    · obtain ⟨w1, h2, h3, h4⟩ := h2
      have hblk : w2.heap[cb]? = some (.cells #[.int .i64 room, hdp (x :: A ++ e :: B), mv] 106 (0, 0)) := by
        rw [h3.block cb (by have := h4.size; have := h.lt (.inl rfl); omega) (fun q => by
          rcases q with q | q
          · exact hcb (hex cb q)
          · exact hcb (by simp [q])), h4.block cb (h.lt (.inl rfl)) hcb]
        exact h.at_
      exact ⟨box_cells hblk 1 _ rfl, box_frozen hblk 1⟩
    · rintro r w' ⟨rfl, w2, ⟨w1, h2, h3, h4⟩, rfl⟩
      have hcb2 : ¬ (cb ∈ x :: A ++ B ∨ cb = e) := fun q => by
        rcases q with q | q
        · exact hcb (hex cb q)
        · exact hcb (by simp [q])
      have hin : ∀ b, (b ∈ x :: A ++ B ∨ b = e) → b ∈ x :: A ++ e :: B := fun b q => by
        rcases q with q | q
        · exact hex b q
        · simp [q]
      have hblk : w2.heap[cb]? = some (.cells #[.int .i64 room, hdp (x :: A ++ e :: B), mv] 106 (0, 0)) := by
        rw [h3.block cb (by have := h4.size; have := h.lt (.inl rfl); omega) hcb2, h4.block cb (h.lt (.inl rfl)) hcb]
        exact h.at_
      have eky : upd ky e (ky e) = ky := by funext j; unfold upd; split <;> simp_all
      have evl : upd vl e (vl e) = vl := by funext j; unfold upd; split <;> simp_all
      rw [eky, evl] at h2
      have hperm : (x :: A ++ e :: B).Perm (e :: (x :: A ++ B)) := List.perm_middle
      have hall : Ch (FP cb mv (x :: A ++ e :: B)) w (w2.setCell ⟨cb, 1, none⟩ (pt e)) :=
        ((h4.mono (S' := FP cb mv (x :: A ++ e :: B)) (fun j _ q => .inr (.inl q))).then (h3.mono (fun j _ q => .inr (.inl (hin j q))))).then ((ch_set cb 1 (pt e)).mono (fun j _ q => .inl q))
      refine ⟨rfl, ⟨_, _, ?_, ?_, ?_, ring_use h.ring h.nd, ?_, ?_, ?_⟩, hall⟩
      · rw [heap_set hblk]
        simp [hdp]
      · intro b hb
        have hb' : b ∈ x :: A ++ B ∨ b = e := by
          rcases List.mem_cons.1 hb with q | q
          · exact .inr q
          · exact .inl q
        rw [heap_set_ne _ (fun q => hcb2 (by rw [← q]; exact hb'))]
        exact h2 b hb'
      · exact hperm.nodup_iff.1 h.nd
      · intro a ha b hb
        exact h.ks a (hperm.mem_iff.2 ha) b (hperm.mem_iff.2 hb)
      · intro b hb
        exact h.kok b (hperm.mem_iff.2 hb)
      · refine (h.mp.perm hperm).keep (fun m hm => ?_)
        obtain ⟨q1, q2⟩ := h.mb_not hm
        rw [heap_set_ne _ q1, h3.block m (by have := h4.size; have := h.lt (.inr (.inr hm)); omega) (fun q => q2 (hin m q)), h4.block m (h.lt (.inr (.inr hm))) q2]
end Go.Proofs.Ytdhinpmjbcohaaa.Ki
