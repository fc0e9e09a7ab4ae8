import Derived.Test.YtdhinpmjbcohaaaGv
namespace Go.Proofs.Ytdhinpmjbcohaaa
open Go Go.RowKit Go.Shelf
set_option linter.unusedSimpArgs false
set_option linter.unusedVariables false
open Rf (e2 e2_len e2_app e2_one ER own_er own_shape app_many addr0)

/-- What the iterator's user has in memory: out, ended, well, the pair, and how many are wanted. -/
structure GB (W : World) (eb wb ob pb nb cb mb kb vb : Nat) (en : Bool) (v : Value) (n : Int) : Prop where
  e : W.heap[eb]? = some (.cells #[.bool en] 4 (0, 0))
  w : W.heap[wb]? = some (.cells #[.bool true] 4 (0, 0))
  o : W.heap[ob]? = some (.cells #[v] 77 (0, 0))
  p : W.heap[pb]? = some (.cells #[pt cb, pt mb, pt kb, pt vb] 28 (0, 0))
  n : W.heap[nb]? = some (.cells #[.int .i64 n] 3 (0, 0))
/-- One entry more. -/
theorem given1_any {W : World} {eb wb ob pb nb cb mb kb vb : Nat} {v : Value} {n : Int} {A : List (Int × Int)} {C : List ByteArray} {D : List Int} {G1 G2 : Nat → Prop} {k : ByteArray} {x : Int}
    (hg : GB W eb wb ob pb nb cb mb kb vb false v n) (hew : eb ≠ wb) (ho : W.ownsRow 0 90 2 v A.length (e2 A)) (hC : Qs.CD W kb C G1) (hD : Qi.CD W vb D G2) (hk : k ∈ C) (hx : x ∈ D) (hl : A.length ≤ 100000) (hlC : C.length ≤ 900000) (hlD : D.length ≤ 900000) :
    Calls Try.prog 62 #[.string k, .int .i64 x, pt eb, pt wb, pt ob, pt pb, pt nb] W fun r W' => ∃ v', r = .returned (.bool (!((A.length + 1 : Nat) : Int) == n)) ∧ GB W' eb wb ob pb nb cb mb kb vb (((A.length + 1 : Nat) : Int) == n) v' n ∧ W'.ownsRow 0 90 2 v' (A ++ [((ix k C : Int), (ix x D : Int))]).length (e2 (A ++ [((ix k C : Int), (ix x D : Int))])) ∧
      Ch (fun j => j = ob ∨ j = eb ∨ v.ownBlock = some j) W W' ∧ (v'.ownBlock = v.ownBlock ∨ v'.ownBlock = some (W.heap.size + 1)) := by
  have hdC : Qs.CD W.drew kb C G1 := hC.keep (fun _ _ => rfl)
  have hdD : Qi.CD W.drew vb D G2 := hD.keep (fun _ _ => rfl)
  have hoA : (W.drew.alloc (.cells #[.int .i64 (ix k C), .int .i64 (ix x D)] 90)).ownsRow 0 90 2 v A.length (e2 A) := World.ownsRow.alloc (w := W.drew) ho _
  obtain ⟨v', w9, hr, h2, hc, hloc⟩ := app_many (B := [((ix k C : Int), (ix x D : Int))]) hoA ⟨W.heap.size, 0, none⟩ 1 (fun j u hu => by
    rw [addr0, Nat.zero_add]
    refine box_cells (cs := #[.int .i64 (ix k C), .int .i64 (ix x D)]) (t := 90) (fz := (0, 0)) (MapKept.heap_alloc W.drew _).1 j u ?_
    simpa [e2] using hu) (by simp; omega)
  obtain ⟨va, ca, rfl⟩ := own_shape h2
  have hlen : (A ++ [((ix k C : Int), (ix x D : Int))]).length = A.length + 1 := by simp
  rw [hlen] at hr h2 hloc
  -- nothing of the boxes is the list's
  have hne : ∀ {b t : Nat} {cs : Array Value}, W.heap[b]? = some (.cells cs t (0, 0)) → t ≠ 90 → v.ownBlock ≠ some b := fun {b t cs} hb ht q => by
    obtain ⟨c, hcc⟩ := Rf.own_blk ho q
    rw [hb] at hcc
    simp at hcc
    exact ht hcc.2
  have hc9 : Ch (fun j => v.ownBlock = some j) W w9 := ((ch_drew _ W).then (ch_alloc _ _ _)).then hc
  have hst : ∀ {b t : Nat} {cs : Array Value}, W.heap[b]? = some (.cells cs t (0, 0)) → t ≠ 90 → w9.heap[b]? = some (.cells cs t (0, 0)) := fun {b t cs} hb ht => (hc9.block b (Array.getElem?_eq_some_iff.1 hb).1 (hne hb ht)).trans hb
  have e9 := hst hg.e (by decide)
  have w9' := hst hg.w (by decide)
  have o9 := hst hg.o (by decide)
  have p9 := hst hg.p (by decide)
  have n9 := hst hg.n (by decide)
  have hoe : ob ≠ eb := fun q => by
    have := hg.o
    rw [q, hg.e] at this
    simp at this
  have hop : ob ≠ pb := fun q => by
    have := hg.o
    rw [q, hg.p] at this
    simp at this
  have hon : ob ≠ nb := fun q => by
    have := hg.o
    rw [q, hg.n] at this
    simp at this
  have how : ob ≠ wb := fun q => by
    have := hg.o
    rw [q, hg.w] at this
    simp at this
  have hep : eb ≠ pb := fun q => by
    have := hg.e
    rw [q, hg.p] at this
    simp at this
  have hen : eb ≠ nb := fun q => by
    have := hg.e
    rw [q, hg.n] at this
    simp at this
  have eS := (heap_set_ne (w := w9) (k := 0) (.slice va (A.length + 1) ca) hoe.symm).trans e9
  have nS := (heap_set_ne (w := w9) (k := 0) (.slice va (A.length + 1) ca) hon.symm).trans n9
  have pS := (heap_set_ne (w := w9) (k := 0) (.slice va (A.length + 1) ca) hop.symm).trans p9
  have wS := (heap_set_ne (w := w9) (k := 0) (.slice va (A.length + 1) ca) how.symm).trans w9'
  refine (given1_walk (by omega) (box_cells hg.e 0 _ rfl) (box_cells hg.o 0 _ rfl) (box_cells hg.p 2 _ rfl) (box_cells hg.p 3 _ rfl) (Qs.of_known hdC hk hlC) (Qi.of_known hdD hx hlD) hr (box_cells o9 0 _ rfl) (box_cells p9 2 _ rfl) (box_cells p9 3 _ rfl) (box_frozen o9 0) (box_cells eS 0 _ rfl) (box_cells nS 0 _ rfl) (box_frozen eS 0) (box_cells pS 2 _ rfl) (box_cells pS 3 _ rfl)).mono ?_
  rintro r W' ⟨rfl, rfl⟩
  have hne9 : ∀ {b t : Nat} {cs : Array Value}, w9.heap[b]? = some (.cells cs t (0, 0)) → t ≠ 90 → ∀ q, (Value.slice va (A.length + 1) ca).ownBlock = some q → q ≠ b := fun {b t cs} hb ht q hq r => by
    obtain ⟨c, hcc⟩ := Rf.own_blk h2 hq
    rw [r, hb] at hcc
    simp at hcc
    exact ht hcc.2
  refine ⟨.slice va (A.length + 1) ca, rfl, ⟨?_, ?_, ?_, ?_, ?_⟩, ?_, ?_, ?_⟩
  · rw [heap_set eS]
    simp
  · exact (heap_set_ne _ hew.symm).trans wS
  · rw [heap_set_ne _ hoe, heap_set o9]
    simp
  · exact (heap_set_ne _ hep.symm).trans pS
  · exact (heap_set_ne _ hen.symm).trans nS
  · rw [hlen]
    refine Rf.own_keep h2 (fun q hq => ?_)
    rw [heap_set_ne _ (hne9 e9 (by decide) q hq), heap_set_ne _ (hne9 o9 (by decide) q hq)]
  · exact ((hc9.mono (fun j _ q => .inr (.inr q))).then ((ch_set ob 0 _).mono (fun j _ q => .inl q))).then ((ch_set eb 0 _).mono (fun j _ q => .inr (.inl q)))
  · rcases hloc with q | q
    · exact .inl q
    · exact .inr (by rw [q]; simp)
end Go.Proofs.Ytdhinpmjbcohaaa
