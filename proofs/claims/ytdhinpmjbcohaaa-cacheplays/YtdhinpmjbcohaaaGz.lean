import Derived.Test.YtdhinpmjbcohaaaGy
namespace Go.Proofs.Ytdhinpmjbcohaaa
open Go Go.RowKit Go.Shelf
set_option linter.unusedSimpArgs false
set_option linter.unusedVariables false
open Rf (e2 e2_len e2_app e2_one ER own_er own_shape app_many addr0)

/-- At most so many; below 0 all. -/
def tk {α : Type} (n : Int) (l : List α) : List α := if n < 0 then l else l.take n.toNat
def num (ky : Nat → ByteArray) (vl : Nat → Int) (C : List ByteArray) (D : List Int) (b : Nat) : Int × Int := ((ix (ky b) C : Int), (ix (vl b) D : Int))
theorem nums_all (L : List Nat) (ky : Nat → ByteArray) (vl : Nat → Int) (C : List ByteArray) (D : List Int) (k : Nat) : nums ky vl C D (L.attach.take k) = (L.map (num ky vl C D)).take k := by
  unfold nums
  rw [List.map_take]
  congr 1
  have : (fun b : {b : Nat // b ∈ L} => ((ix (ky b.1) C : Int), (ix (vl b.1) D : Int))) = (num ky vl C D) ∘ Subtype.val := rfl
  rw [this, ← List.map_map, List.attach_map_subtype_val]
theorem gvw_facts (w : World) (cb mb kb vb : Nat) (n : Int) : (gvw w cb mb kb vb n).heap.size = w.heap.size + 5 ∧ Below w.heap.size w (gvw w cb mb kb vb n) ∧ GB (gvw w cb mb kb vb n) (w.heap.size + 4) (w.heap.size + 3) (w.heap.size + 2) w.heap.size (w.heap.size + 1) cb mb kb vb false (.slice none 0 0) n := by
  have hb : ∀ (A : World) (o : Obj) (j : Nat), j < A.heap.size → (A.alloc o).heap[j]? = A.heap[j]? := fun A o j hj => (World.grownBy_alloc A o none).block j hj (by simp)
  have hnew : ∀ (A : World) (o : Obj) (j : Nat), j = A.heap.size → (A.alloc o).heap[j]? = some o := fun A o j hj => by
    rw [hj]
    exact (MapKept.heap_alloc A o).1
  refine ⟨by simp [gvw], ?_, ⟨?_, ?_, ?_, ?_, ?_⟩⟩
  · unfold gvw
    exact (((((Below.refl _ _).alloc (Nat.le_refl _) _).alloc (by simp) _).alloc (by simp <;> omega) _).alloc (by simp <;> omega) _).alloc (by simp <;> omega) _
  · unfold gvw
    exact hnew _ _ _ (by simp)
  · unfold gvw
    rw [hb _ _ _ (by simp <;> omega)]
    exact hnew _ _ _ (by simp)
  · unfold gvw
    rw [hb _ _ _ (by simp <;> omega), hb _ _ _ (by simp <;> omega)]
    exact hnew _ _ _ (by simp)
  · unfold gvw
    rw [hb _ _ _ (by simp <;> omega), hb _ _ _ (by simp <;> omega), hb _ _ _ (by simp <;> omega), hb _ _ _ (by simp <;> omega)]
    exact hnew _ _ _ rfl
  · unfold gvw
    rw [hb _ _ _ (by simp <;> omega), hb _ _ _ (by simp <;> omega), hb _ _ _ (by simp <;> omega)]
    exact hnew _ _ _ (by simp)
/-- What the program's iterator gives, numbered. -/
theorem given_any {w : World} {cb room mb kb vb Bc : Nat} {mv : Value} {L : List Nat} {nn oo : Nat → Nat} {ky : Nat → ByteArray} {vl : Nat → Int} {C : List ByteArray} {D : List Int} {G1 G2 : Nat → Prop} (hCA : Si.CA w cb room mv L nn oo ky vl) (hL : L.length ≤ 100000) (hBc : w.heap[Bc]? = some (.cells #[pt cb] 23 (0, 0)))
    (h1 : Qs.CD w kb C G1) (h2 : Qi.CD w vb D G2) (hC : ∀ b ∈ L, ky b ∈ C) (hD : ∀ b ∈ L, vl b ∈ D) (hlC : C.length ≤ 900000) (hlD : D.length ≤ 900000) (n : Int) :
    Calls Try.prog 41 #[.agg #[pt cb, pt mb, pt kb, pt vb], .func (.func 60) #[] #[.pointer (some ⟨Bc, 0, none⟩)], .int .i64 n] w fun r w' => ∃ v, r = .returned (.tuple #[v, .bool true]) ∧ ER w' v (tk n (L.map (num ky vl C D))) ∧ Below w.heap.size w w' := by
  by_cases hn : n = 0
  · subst hn
    refine given_zero.mono ?_
    rintro r w' ⟨rfl, hb⟩
    exact ⟨_, rfl, ⟨none, 0, by simp [tk], by simp [tk], fun q => absurd (by simp [tk]) q⟩, hb⟩
  · obtain ⟨hsz, hbl, hgb⟩ := gvw_facts w cb mb kb vb n
    have hCA' : Si.CA (gvw w cb mb kb vb n) cb room mv L nn oo ky vl := hCA.keep (fun j hj => hbl.block j (hCA.lt hj))
    have hBc' := (hbl.block Bc (Array.getElem?_eq_some_iff.1 hBc).1).trans hBc
    have hg1 : ∀ j, G1 j → j < w.heap.size := fun j hj => h1.lt hj
    have hg2 : ∀ j, G2 j → j < w.heap.size := fun j hj => h2.lt hj
    have hown : ∀ en, OwnFrom (gvw w cb mb kb vb n).heap.size (GI (L := L) w (gvw w cb mb kb vb n) (w.heap.size + 4) (w.heap.size + 3) (w.heap.size + 2) w.heap.size (w.heap.size + 1) cb mb kb vb n ky vl C D G1 G2 en) := fun en => GI.own (by omega) hg1 hg2
    have hcall := Si.all1_62 hCA' (by omega) Bc hBc' (q0 := pt (w.heap.size + 4)) (q1 := pt (w.heap.size + 3)) (q2 := pt (w.heap.size + 2)) (q3 := pt w.heap.size) (q4 := pt (w.heap.size + 1))
      (fun pre W => GI w (gvw w cb mb kb vb n) (w.heap.size + 4) (w.heap.size + 3) (w.heap.size + 2) w.heap.size (w.heap.size + 1) cb mb kb vb n ky vl C D G1 G2 false pre W ∧ ¬ (0 < n ∧ n ≤ pre.length))
      (fun pre W => GI w (gvw w cb mb kb vb n) (w.heap.size + 4) (w.heap.size + 3) (w.heap.size + 2) w.heap.size (w.heap.size + 1) cb mb kb vb n ky vl C D G1 G2 true pre W ∧ (pre.length : Int) = n)
      (fun s A B row hs hg hr => ⟨hown false s A B row hs.1 hg hr, hs.2⟩) (fun s A B row hs hg hr => ⟨hown true s A B row hs.1 hg hr, hs.2⟩)
      ⟨⟨_, hgb, World.ownsRow_nil _ _ _ _, h1.keep (fun j hj => hbl.block j (hg1 j hj)), h2.keep (fun j hj => hbl.block j (hg2 j hj)), hbl, fun g hg => (by cases hg)⟩, by simp <;> omega⟩
      (fun pre x W hi hlt _ hs => ?_)
    · refine given_walk hn (hcall.mono (fun r w' q => q)) _ (fun w1 hw1 => ?_)
      have fin : ∀ (en : Bool) (pre : List {b : Nat // b ∈ L}), GI w (gvw w cb mb kb vb n) (w.heap.size + 4) (w.heap.size + 3) (w.heap.size + 2) w.heap.size (w.heap.size + 1) cb mb kb vb n ky vl C D G1 G2 en pre w1 → nums ky vl C D pre = tk n (L.map (num ky vl C D)) → ∃ a m c, w1.cell? ⟨w.heap.size + 2, 0, none⟩ = some (.slice a m c) ∧ w1.cell? ⟨w.heap.size + 3, 0, none⟩ = some (.bool true) ∧ ∃ v, Ending.returned (.tuple #[.slice a m c, .bool true]) = .returned (.tuple #[v, .bool true]) ∧ ER w1.drew v (tk n (L.map (num ky vl C D))) ∧ Below w.heap.size w w1.drew := by
        rintro en pre ⟨v, g1, g2, _, _, g5, _⟩ he
        obtain ⟨a, c, rfl⟩ := own_shape g2
        rw [he] at g2 g1
        exact ⟨a, _, c, box_cells g1.o 0 _ rfl, box_cells g1.w 0 _ rfl, _, rfl, own_er (w := w1.drew) g2, Below.drew g5⟩
      rcases hw1 with ⟨g, hno⟩ | ⟨k, hk, g, he⟩
      · refine fin false _ g ?_
        have e1 := nums_all L ky vl C D L.length
        rw [List.take_of_length_le (by simp), List.take_of_length_le (by simp)] at e1
        rw [e1]
        simp only [List.length_attach] at hno
        unfold tk
        split
        · rfl
        · rw [List.take_of_length_le]
          simp
          omega
      · refine fin true _ g ?_
        rw [nums_all]
        have hkl : (L.attach.take k).length = k := by simp; omega
        rw [hkl] at he
        unfold tk
        rw [if_neg (by omega), show n.toNat = k by omega]
    · refine (GI.yield hCA hC hD hg1 hg2 hlC hlD hL (by omega) ⟨by omega, by omega⟩ ⟨by omega, by omega⟩ pre x hi.1 hlt hs).mono ?_
      rintro r W' ⟨q1, q2, b, rfl, q3, q4⟩
      refine ⟨q1, q2, b, rfl, fun hb => ⟨(q3 hb).1, ?_⟩, fun hb => ⟨(q4 hb).1, ?_⟩⟩
      · have := (q3 hb).2
        have := hi.2
        simp
        omega
      · have := (q4 hb).2
        simpa using this
end Go.Proofs.Ytdhinpmjbcohaaa
