import Derived.Test.YtenaliaefbkbcaaGreatMp
namespace Go.Proofs.YtenaliaefbkbcaaGreat.Li
open Go Go.RowKit Go.Maps
set_option linter.unusedSimpArgs false
set_option linter.unusedVariables false
theorem newSubs_any (w : World) : Calls Tryz.prog 7 #[] w fun e w' => e = .returned (.pointer (some ⟨w.heap.size, 0, none⟩)) ∧ w' = w.alloc (.cells #[.slice none 0 0] 71) := by
  go_enter Tryz.func7, Tryz.ntmps7
  go_wp2
  go_ret
  exact ⟨rfl, rfl⟩
theorem num_any (n : Int) (w : World) : Calls Tryz.prog 9 #[.int .i64 n] w fun e w' => e = .returned (.int .i64 n) ∧ w' = w := by
  go_enter Tryz.func9, Tryz.ntmps9
  go_wp2
  go_ret
  exact ⟨rfl, rfl⟩
theorem sfind_any {B : Nat} {w : World} {sb : Nat} {v : Value} {L : List Fl} (h : SL B w sb v L) (t : ByteArray) (hL : L.length ≤ 900) (hM : ∀ x ∈ L, x.es.length ≤ 900) (hne : ∀ x ∈ L, x.es ≠ []) :
    Calls Tryz.prog 11 #[.pointer (some ⟨sb, 0, none⟩), .string t] w fun e w' => ∃ v' ys, e = .returned v' ∧ ys.Perm (ents (ms L t)) ∧ ByF ys ∧ w'.ownsRow w.heap.size 44 2 v' (cmpct ys).length (arow (cmpct ys)) ∧ Below w.heap.size w w' := by
  have H := hidi (find_any h t hL hM hne)
  clear h hL hM hne
  go_enter Tryz.func11, Tryz.ntmps11
  go_wp2_with (go_at_call 35; refine H.out.mono ?_; rintro e w' ⟨v', ys, rfl, h1⟩; have H1 := hidi h1; clear h1)
  go_ret
  exact ⟨v', ys, rfl, H1.out⟩
theorem sl_new (w : World) : SL w.heap.size (w.alloc (.cells #[.slice none 0 0] 71)) w.heap.size (.slice none 0 0) [] :=
  ⟨heap_alloc_new _ _, ⟨rfl, .inl ⟨rfl, rfl⟩⟩, fun x hx => (by cases hx), fun i j a b h => (by simp at h), Nat.le_refl _⟩
theorem SL.keep {B : Nat} {w w' : World} {sb : Nat} {v : Value} {L : List Fl} (h : SL B w sb v L) (hk : ∀ j, isL w j → w'.heap[j]? = w.heap[j]?) : SL B w' sb v L := by
  have ow : ∀ (e : Nat) (u : Value) (n : Nat) (xs : List Value), (e = 76 ∨ e = 44) → w.ownsRow B e 2 u n xs → w'.ownsRow B e 2 u n xs := fun e u n xs he ho => by
    refine ⟨ho.1, ?_⟩
    rcases ho.2 with q | ⟨g, cap, cur, h1, h2, h3, h4⟩
    · exact .inl q
    · exact .inr ⟨g, cap, cur, h1, h2, (hk g ⟨cur, e, _, h3, by rcases he with z | z <;> simp [z]⟩).trans h3, h4⟩
  exact ⟨(hk sb ⟨_, _, _, h.at_, .inl rfl⟩).trans h.at_, ow 76 _ _ _ (.inl rfl) h.own, fun x hx => ow 44 _ _ _ (.inr rfl) (h.es x hx), h.nb, h.ge⟩
/-- The law's first loop: so many calls are made. -/
structure LS (W : World) (B mb i : Nat) (wx : World) : Prop where
  ex : ∃ (v : Value) (L : List Fl) (lk : KP → Option Int) (n2 : Nat), SL B wx B v L ∧ Wf (L.map Fl.p) ∧ L.length ≤ i ∧ (∀ x ∈ L, x.es.length ≤ i) ∧ MP wx (.map (some mb)) n2 (fun k => (lk k).map (Value.int .i64)) ∧ n2 ≤ i ∧ (∀ f k q, lk (f, k) = some q ↔ Has (L.map Fl.p) f k q) ∧ (∀ f k q, Has (L.map Fl.p) f k q → f.size ≤ 100000 ∧ k.size ≤ 100000)
  bel : Below W.heap.size W wx
  base : W.heap.size ≤ B
  mbg : W.heap.size ≤ mb
theorem LS.below {W : World} {B mb i : Nat} {wx wy : World} (h : LS W B mb i wx) (hb : Below wx.heap.size wx wy) : LS W B mb i wy := by
  obtain ⟨v, L, lk, n2, h1, h2, h3, h4, h5, h6, h7, h8⟩ := h.ex
  exact ⟨⟨v, L, lk, n2, h1.below hb, h2, h3, h4, h5.keep (fun b e => hb.block b (h5.lt e)), h6, h7, h8⟩, h.bel.trans (hb.mono h.bel.size), h.base, h.mbg⟩
theorem LS.next {W : World} {B mb i : Nat} {wx : World} (h : LS W B mb i wx) : LS W B mb (i + 1) wx := by
  obtain ⟨v, L, lk, n2, h1, h2, h3, h4, h5, h6, h7, h8⟩ := h.ex
  exact ⟨⟨v, L, lk, n2, h1, h2, by omega, fun x hx => by have := h4 x hx; omega, h5, by omega, h7, h8⟩, h.bel, h.base, h.mbg⟩
theorem ls_start {W w : World} (hb : Below W.heap.size W w) : LS W w.heap.size (w.heap.size + 1) 0 ((w.alloc (.cells #[.slice none 0 0] 71)).alloc (.map #[] 0)) := by
  have s1 : (w.alloc (.cells #[.slice none 0 0] 71)).heap.size = w.heap.size + 1 := size_alloc _ _
  have b1 : Below w.heap.size w (w.alloc (.cells #[.slice none 0 0] 71)) := (Below.refl _ _).alloc (Nat.le_refl _) _
  have b2 : Below (w.alloc (.cells #[.slice none 0 0] 71)).heap.size (w.alloc (.cells #[.slice none 0 0] 71)) ((w.alloc (.cells #[.slice none 0 0] 71)).alloc (.map #[] 0)) := (Below.refl _ _).alloc (Nat.le_refl _) _
  have hm := MP.made (w.alloc (.cells #[.slice none 0 0] 71))
  rw [s1] at hm
  refine ⟨⟨_, [], fun _ => none, 0, (sl_new w).below b2, ⟨by simp, fun x hx => by cases hx⟩, by simp, fun x hx => (by cases hx), hm.congr (fun k _ => rfl), Nat.le_refl _, fun f k q => ?_, fun f k q h => ?_⟩, hb.trans ((b1.trans (b2.mono b1.size)).mono hb.size), hb.size, Nat.le_trans hb.size (Nat.le_succ _)⟩
  · constructor
    · intro h; cases h
    · rintro ⟨es, h, _⟩; cases h
  · obtain ⟨es, h, _⟩ := h; cases h
theorem zero3r (w : World) : (zeroValue 3).run Tryz.prog w = .ok (.int .i64 0) w := (zero_of_info (t := 3) (n := 1) (by kernel_rfl)).1 w
/-- A call of Put that is taken. -/
theorem ls_put {W : World} {B mb i : Nat} {wx : World} (h : LS W B mb i wx) (hi : i ≤ 200) (a b : ByteArray) (q : Int) (ha : a.size ≤ 100000) (hb : b.size ≤ 100000) (hf : rfc a = 0) (hq : 0 ≤ q ∧ q ≤ 2) :
    Calls Tryz.prog 8 #[.pointer (some ⟨B, 0, none⟩), .string a, .string b, .int .i64 q] wx fun e w3 => ∃ (r : Int) (old : Option Int), e = .returned (.tuple #[.int .i64 r, .int .i64 0]) ∧ (Instr.lookup 27 (.map (some mb)) (.agg #[.string a, .string b]) true).run Tryz.prog w3 = .ok (.tuple #[.int .i64 (old.getD 0), .bool old.isSome]) w3 ∧ (old = some r ∨ (old = none ∧ r = -1)) ∧ KL B wx w3 ∧ ∃ w4, (Instr.mapUpdate 27 (.map (some mb)) (.agg #[.string a, .string b]) (.int .i64 q)).run Tryz.prog w3 = .ok () w4 ∧ LS W B mb (i + 1) w4 := by
  obtain ⟨v, L, lk, n2, h1, h2, h3, h4, h5, h6, h7, h8⟩ := h.ex
  have hB : B ≤ wx.heap.size := Nat.le_of_lt h1.lt
  refine (put_any h1 a b q hf (by omega) hq (by omega) (fun x hx => by have := h4 x hx; omega) (by omega) hB).mono ?_
  rintro e w3 ⟨rfl, v', L', g1, g2, g3⟩
  have pk := put_ok h2 a b q
  have hmb : ¬ isL wx mb := fun ⟨c, t, z, e1, e2⟩ => by
    obtain ⟨es, cl, e3⟩ := h5.block rfl
    rw [e3] at e1
    cases e1
  have m3 : MP w3 (.map (some mb)) n2 (fun k => (lk k).map (Value.int .i64)) := h5.keep (fun b' e => by cases e; exact g3.block mb (h5.lt rfl) (.inr hmb))
  have hok : okP (a, b) := ⟨Nat.le_trans ha (by unfold maxLen; omega), Nat.le_trans hb (by unfold maxLen; omega)⟩
  obtain ⟨w4, k1, k2, k3⟩ := m3.put (t := 27) Tryz.underlying27 (k := (a, b)) hok (.int .i64 q) (by unfold maxLen; omega)
  have hlook := m3.look2 (t := 27) Tryz.underlying27 zero3r (k := (a, b)) hok
  refine ⟨_, lk (a, b), rfl, ?_, ?_, g3, w4, k1, ⟨⟨v', L', fun k => if k = (a, b) then some q else lk k, _, g1.keep (fun j hj => ?_), g2 ▸ pk.wf, ?_, ?_, k2.congr (fun k hk => ?_), ?_, ?_, ?_⟩, ?_, h.base, h.mbg⟩⟩
  · simp only [Option.isSome_map] at hlook
    cases e : lk (a, b) with
    | none => rw [e] at hlook; exact hlook
    | some o => rw [e] at hlook; exact hlook
  · rcases pk.old with ⟨o, o1, o2⟩ | ⟨o1, o2⟩
    · exact .inl (by rw [(h7 a b o).2 o1, o2])
    · refine .inr ⟨?_, o2⟩
      cases e : lk (a, b) with
      | none => rfl
      | some o => exact absurd ((h7 a b o).1 e) (o1 o)
  · refine k3.block j ?_ (fun e => ?_)
    · obtain ⟨c, t, z, e1, _⟩ := hj
      exact (Array.getElem?_eq_some_iff.1 e1).1
    · subst e
      obtain ⟨c, t, z, e1, _⟩ := hj
      obtain ⟨es, cl, e3⟩ := m3.block rfl
      rw [e3] at e1
      cases e1
  · have := pk.len
    rw [← g2, List.length_map, List.length_map] at this
    omega
  · intro x hx
    have := pk.lens i (fun y hy => by obtain ⟨z, hz, rfl⟩ := List.mem_map.1 hy; exact h4 z hz) (x.p) (by rw [← g2]; exact List.mem_map.2 ⟨x, hx, rfl⟩)
    exact this
  · simp only [setP]
    split
    · rename_i e
      simp [e]
    · rename_i e
      simp [e]
  · simp only [szP]
    split <;> omega
  · intro f k q'
    rw [g2]
    rw [pk.has]
    show (if (f, k) = (a, b) then some q else lk (f, k)) = some q' ↔ _
    by_cases e : (f, k) = (a, b)
    · rw [if_pos e]
      simp only [Prod.mk.injEq] at e
      obtain ⟨rfl, rfl⟩ := e
      constructor
      · intro z
        simp at z
        exact .inl ⟨rfl, rfl, z.symm⟩
      · rintro (⟨_, _, rfl⟩ | ⟨z, _⟩)
        · rfl
        · exact absurd ⟨rfl, rfl⟩ z
    · rw [if_neg e, h7]
      have e' : ¬ (f = a ∧ k = b) := fun z => e (by rw [z.1, z.2])
      constructor
      · intro z
        exact .inr ⟨e', z⟩
      · rintro (⟨z1, z2, _⟩ | ⟨_, z⟩)
        · exact absurd ⟨z1, z2⟩ e'
        · exact z
  · intro f k q' hh
    rw [g2] at hh
    rcases (pk.has f k q').1 hh with ⟨rfl, rfl, _⟩ | ⟨_, z⟩
    · exact ⟨ha, hb⟩
    · exact h8 f k q' z
  · have hbb : Below W.heap.size W w3 := h.bel.trans ⟨g3.os, g3.tape, g3.output, g3.size, fun j hj => g3.block j (Nat.lt_of_lt_of_le hj h.bel.size) (.inl (Nat.lt_of_lt_of_le hj h.base))⟩
    refine hbb.trans ⟨k3.os, k3.tape, k3.output, k3.size, fun j hj => k3.block j (Nat.lt_of_lt_of_le hj hbb.size) (fun e => ?_)⟩
    have := h.mbg
    omega
end Go.Proofs.YtenaliaefbkbcaaGreat.Li
