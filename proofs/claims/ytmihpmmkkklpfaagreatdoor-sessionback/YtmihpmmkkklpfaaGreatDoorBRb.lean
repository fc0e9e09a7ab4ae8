import Derived.Shelf.SlIterI.Nil
import Derived.Shelf.SlIterI.Sorted
import Derived.Shelf.SortM.Plain
import Derived.Shelf.SortM.SortNone
import Derived.Test.YtmihpmmkkklpfaaGreatDoorSrti
import Derived.Test.YtmihpmmkkklpfaaGreatDoorBSs
import Derived.Test.YtmihpmmkkklpfaaGreatDoorBSb
import Derived.Laws.BytesArg
import Derived.Laws.BytesString
namespace Go.Proofs.YtmihpmmkkklpfaaGreatDoor
open Go Go.RowKit Go.Shelf Go.Maps Go.Sort
set_option linter.unusedSimpArgs false
set_option linter.unusedVariables false
/-! ### Numbers that came in, in order -/
theorem sortsI (m : Nat) : AnyZI.SortsIn Tryz.prog Tryz.sortedI_ren Fence.wide m :=
  ⟨fun blk off cap ss W hH hblk hsz => callsIn_wide.2 (AnyM.slices_Sort_int Tryz.sortI blk off cap ss W hH hblk hsz),
   fun p cap W => callsIn_wide.2 (AnyM.slices_Sort_int_none Tryz.sortI p cap W)⟩
theorem keysI_any (mb : Option Nat) (W : World) : Calls Tryz.prog 37 #[.map mb] W fun e w' => e = .returned (.func (.func 63) #[] #[.pointer (some ⟨W.heap.size, 0, none⟩)]) ∧ w' = W.alloc (.cells #[.map mb] 54) :=
  (callsIn_wide (n := 5)).1 (AnyZI.keys_in Tryz.keysI Fence.wide 5 trivial rfl mb W)
/-- The numbers of a session, as a list in order. -/
structure InbOf (g : Int → Option Value) (n : Nat) (L : List Int) : Prop where
  len : L.length = n
  ord : L.Pairwise fun a b => a < b
  val : ∀ x ∈ L, okI x ∧ (g x).isSome = true
  all : ∀ x, okI x → (g x).isSome = true → x ∈ L
theorem inb_of {g : Int → Option Value} {w : World} {mb n : Nat} {D : DataW Value} (hown : w.ownsMap Tryz.prog 3 hv mb n D) (hsz : Maps.size D = n) (hD : ∀ k, okI k → Maps.has D (ki k) = (g k).isSome ∧ ∀ v, g k = some v → ∀ z, D.atKey (ki k) z = .held v) {ss : List Int} (hp : ss.Perm (intKeys D)) :
    InbOf g n (ss.mergeSort (fun x y => decide (x ≤ y))) := by
  have hpm := (List.mergeSort_perm ss (fun x y => decide (x ≤ y))).trans hp
  obtain ⟨es, hD0, hpw, _⟩ := hown.entries law3
  obtain ⟨es', hD', hko⟩ := hown.keysOf
  obtain rfl : es = es' := by rw [hD0] at hD'; simpa using hD'
  have hk : ∀ p ∈ es, ∃ x, p.1 = .int .i64 x ∧ (Lit.int .i64 x).wf = true := fun p hp => by obtain ⟨v, hv⟩ := hko p hp; obtain ⟨x, _, hx, hw⟩ := Maps.keyOf_i64 Tryz.underlying3 hv; exact ⟨x, hx, hw⟩
  have hmem : ∀ x, x ∈ intKeys D ↔ (okI x ∧ Maps.has D (ki x) = true) := fun x => by
    subst hD0
    rw [has_eq, List.any_eq_true]
    show x ∈ es.map (fun p => Go.intOf p.1) ↔ _
    rw [List.mem_map]
    constructor
    · rintro ⟨p, hp', rfl⟩
      obtain ⟨a, ha, hw⟩ := hk p hp'
      refine ⟨by rw [ha]; exact hw, p, hp', by rw [ha]; simp [Lit.sameKey, Go.intOf, ki]⟩
    · rintro ⟨_, p, hp', hs⟩
      obtain ⟨a, ha, hw⟩ := hk p hp'
      rw [ha] at hs
      exact ⟨p, hp', by rw [ha]; simpa [Lit.sameKey, Go.intOf, ki] using hs⟩
  have hnd : (intKeys D).Nodup := by
    subst hD0
    show (es.map fun p => Go.intOf p.1).Nodup
    refine List.pairwise_map.2 (hpw.imp_of_mem fun {p q} hp' hq' hne e => hne ?_)
    obtain ⟨a, ha, _⟩ := hk p hp'
    obtain ⟨b, hb, _⟩ := hk q hq'
    rw [ha, hb] at e ⊢
    exact congrArg _ e
  refine ⟨?_, ?_, fun x hx => ?_, fun x hx hs => ?_⟩
  · rw [hpm.length_eq, ← hsz, hD0]
    simp [intKeys, Maps.size]
  · have h1 : (ss.mergeSort (fun x y => decide (x ≤ y))).Pairwise (fun a b => decide (a ≤ b) = true) := List.pairwise_mergeSort (fun a b c h k => by simp at *; omega) (fun a b => by simp; omega) ss
    have h2 : (ss.mergeSort (fun x y => decide (x ≤ y))).Nodup := hpm.nodup_iff.2 hnd
    exact (h1.and h2).imp (fun {a b} q => by
      have := of_decide_eq_true q.1
      have := q.2
      omega)
  · have h1 := (hmem x).1 (hpm.mem_iff.1 hx)
    exact ⟨h1.1, by rw [← (hD x h1.1).1]; exact h1.2⟩
  · exact hpm.mem_iff.2 ((hmem x).2 ⟨hx, by rw [(hD x hx).1]; exact hs⟩)
theorem inbox_any {w : World} {mv : Value} {n : Nat} {g : Int → Option Value} (hm : MI w mv n g) (hn : n ≤ 65536) (Bm : Nat) (hBm : Bm < w.heap.size) (hc : w.cell? ⟨Bm, 0, none⟩ = some mv) :
    Calls Tryz.prog 36 #[.func (.func 63) #[] #[.pointer (some ⟨Bm, 0, none⟩)]] w fun e w' => ∃ v L, e = .returned v ∧ w'.ownsRow w.heap.size 3 1 v L.length (L.map (Value.int .i64)) ∧ InbOf g n L ∧ Below w.heap.size w w' := by
  rcases hm with ⟨rfl, rfl, h2⟩ | ⟨mb, D, rfl, hown, hsz, hD⟩
  · have hseq : SeqGives Fence.wide 2 Tryz.prog 63 #[.pointer (some ⟨Bm, 0, none⟩)] encZ (fun ss : List Int => ss = []) 0 w := AnyZI.keys_gives_nil (ρ := Tryz.keysI_ren) { Tryz.keysI with } Fence.wide _ trivial rfl Bm w hBm hc
    have cS := AnyZI.sorted_in Tryz.sortedI Fence.wide 5 trivial trivial trivial trivial rfl (by omega) (sortsI _) (enters_of Tryz.func62 (by kernel_rfl) rfl) 63 #[.pointer (some ⟨Bm, 0, none⟩)] trivial (enters_of Tryz.func63 (by kernel_rfl) rfl) _ _ (by unfold maxLen; omega) (by omega) _ hseq
    change CallsIn _ _ Tryz.prog 36 _ _ _ at cS
    refine (callsIn_wide.1 cS).mono ?_
    rintro e w' ⟨v, ss, rfl, rfl, hrow, hnil, hb⟩
    refine ⟨v, [], rfl, by rw [List.mergeSort_nil] at hrow; exact hrow, ⟨rfl, List.Pairwise.nil, by simp, fun x hx hs => ?_⟩, hb⟩
    rw [h2 x hx] at hs
    cases hs
  · have hseq : SeqGives Fence.wide 2 Tryz.prog 63 #[.pointer (some ⟨Bm, 0, none⟩)] encZ (fun ss => ss.Perm (intKeys D)) (Maps.size D) w := AnyZI.keys_gives (ρ := Tryz.keysI_ren) { Tryz.keysI with } Fence.wide _ trivial rfl (by omega) Bm mb n D w hBm hc hown
    have cS := AnyZI.sorted_in Tryz.sortedI Fence.wide 5 trivial trivial trivial trivial rfl (by omega) (sortsI _) (enters_of Tryz.func62 (by kernel_rfl) rfl) 63 #[.pointer (some ⟨Bm, 0, none⟩)] trivial (enters_of Tryz.func63 (by kernel_rfl) rfl) _ _ (by rw [hsz]; unfold maxLen; omega) (by rw [hsz]; omega) _ hseq
    change CallsIn _ _ Tryz.prog 36 _ _ _ at cS
    refine (callsIn_wide.1 cS).mono ?_
    rintro e w' ⟨v, ss, rfl, hS, hrow, hnil, hb⟩
    refine ⟨v, ss.mergeSort (fun x y => decide (x ≤ y)), rfl, ?_, inb_of hown hsz hD hS, hb⟩
    rw [List.length_mergeSort]
    exact hrow
end Go.Proofs.YtmihpmmkkklpfaaGreatDoor
namespace Go.Proofs.YtmihpmmkkklpfaaGreatDoor
open Go Go.RowKit Go.Shelf Go.Maps Go.Sort
set_option linter.unusedSimpArgs false
set_option linter.unusedVariables false
/-! ### What an image of a window keeps to, purely -/
structure Fine (p : Pw) : Prop where
  ft : ∀ f ∈ p.fl, f.m.t.size ≤ 1000000
  wt : ∀ m ∈ p.wt, m.t.size ≤ 1000000
theorem Fine.fillL : ∀ (wt : List Mp) (p : Pw), (∀ f ∈ p.fl, f.m.t.size ≤ 1000000) → (∀ m ∈ wt, m.t.size ≤ 1000000) → Fine (pFillL wt p).1
  | [], p, h, _ => ⟨h, by intro m hm; cases hm⟩
  | m :: wt, p, h, hw => by
    simp only [pFillL]
    split
    · refine Fine.fillL wt _ ?_ (fun x hx => hw x (List.mem_cons_of_mem _ hx))
      intro f hf
      simp only [pLaunch, List.mem_append, List.mem_singleton] at hf
      rcases hf with q | rfl
      · exact h f q
      · exact hw m List.mem_cons_self
    · exact ⟨h, hw⟩
theorem Fine.fill {p : Pw} (h : Fine p) : Fine (pFill p).1 := Fine.fillL p.wt p h.ft h.wt
theorem Fine.send {p : Pw} (h : Fine p) (m : Mp) (hm : m.t.size ≤ 1000000) : Fine (pSend p m).1 := by
  unfold pSend
  split
  · split
    · refine ⟨?_, h.wt⟩
      intro f hf
      simp only [pLaunch, List.mem_append, List.mem_singleton] at hf
      rcases hf with q | rfl
      · exact h.ft f q
      · exact hm
    · split
      · refine ⟨h.ft, ?_⟩
        intro x hx
        rcases List.mem_append.1 hx with q | q
        · exact h.wt x q
        · simp only [List.mem_singleton] at q
          subst q
          exact hm
      · exact h
  · exact h
theorem Fine.ack {p : Pw} (h : Fine p) (k id : Int) : Fine (pAck p k id).1 := by
  unfold pAck
  split
  · exact h
  · unfold pAckF
    split
    · exact h
    · split
      · refine ⟨?_, h.wt⟩
        intro f hf
        obtain ⟨g, hg, rfl⟩ := List.mem_map.1 hf
        unfold relP
        split
        · simp [zMp, ByteArray.size]
        · exact h.ft g hg
      · split
        · exact Fine.fill ⟨fun f hf => h.ft f (List.mem_filter.1 hf).1, h.wt⟩
        · exact h
theorem Fine.play {p : Pw} (h : Fine p) (k : Int) (m : Mp) (a n : Int) (hm : m.t.size ≤ 1000000) : Fine (pPlay p k m a n).1 := by
  unfold pPlay
  split
  · exact h.send m hm
  · split
    · exact h.ack a n
    · split
      · exact Fine.fill ⟨h.ft, h.wt⟩
      · split
        · exact ⟨h.ft, h.wt⟩
        · split
          · unfold pReserve
            split
            · exact h
            · exact ⟨h.ft, h.wt⟩
          · split
            · unfold pFree
              split
              · exact ⟨h.ft, h.wt⟩
              · exact h
            · split
              · unfold pNine
                split
                · exact h.ack _ _
                · exact h
              · exact h
/-- Nothing is reserved. -/
theorem none_play {p : Pw} (h : p.R = []) (k : Int) (m : Mp) (a n : Int) (hk : k ≠ 5) : (pPlay p k m a n).1.R = [] ∧ (pPlay p k m a n).1.most = p.most ∧ (pPlay p k m a n).1.queue = p.queue := by
  have hf : ∀ p : Pw, p.R = [] → (pFill p).1.R = [] ∧ (pFill p).1.most = p.most ∧ (pFill p).1.queue = p.queue := fun p h => by
    have := (fillL_ok p.wt p).1
    exact ⟨this.r.trans h, this.m, this.q⟩
  have ha : ∀ k id, (pAck p k id).1.R = [] ∧ (pAck p k id).1.most = p.most ∧ (pAck p k id).1.queue = p.queue := fun k id => by
    unfold pAck
    split
    · exact ⟨h, rfl, rfl⟩
    · unfold pAckF
      split
      · exact ⟨h, rfl, rfl⟩
      · split
        · exact ⟨h, rfl, rfl⟩
        · split
          · exact hf _ h
          · exact ⟨h, rfl, rfl⟩
  unfold pPlay
  split
  · unfold pSend
    split
    · split
      · exact ⟨h, rfl, rfl⟩
      · split
        · exact ⟨h, rfl, rfl⟩
        · exact ⟨h, rfl, rfl⟩
    · exact ⟨h, rfl, rfl⟩
  · split
    · exact ha a n
    · split
      · exact hf _ h
      · split
        · exact ⟨h, rfl, rfl⟩
        · split
          · unfold pFree
            split
            · rename_i q
              rw [h] at q
              exact absurd q.2 (by simp)
            · exact ⟨h, rfl, rfl⟩
          · split
            · unfold pNine
              split
              · exact ha a _
              · exact ⟨h, rfl, rfl⟩
            · exact ⟨h, rfl, rfl⟩
/-- What an image is right by. -/
structure ImOk (p : Pw) : Prop where
  fi : Fine p
  nd : (p.fl.map (·.id)).Nodup
  rg : ∀ f ∈ p.fl, 1 ≤ f.id ∧ f.id ≤ 65535
  sf : ∀ f ∈ p.fl, (f.rel = true → f.m = zMp) ∧ (f.rel = false → Sn f.m.q)
  sl : ∀ m ∈ p.wt, Sn m.q
  lf : p.fl.length ≤ p.most
  lw : p.wt.length ≤ p.queue
  ls : p.last ≤ 65535
  lt : p.wt.length + p.fl.length ≤ 100000
theorem KS.imok {F : Nat → Prop} {W : World} {wb : Nat} {p : Pw} {c : Nat} (h : KS F W wb p c) (hf : Fine p) (hc : c ≤ 10000) : ImOk p := by
  have hfa := h.facts
  obtain ⟨i, hw, rfl, hF⟩ := h.ex
  have hbc := hw.bc
  have hfl : i.fs.length ≤ i.la := by
    have hn : ∀ (l : List Fm) (b : Nat), l.Pairwise (fun a b => a.tn < b.tn) → (∀ f ∈ l, b ≤ f.tn ∧ f.tn < i.la) → b ≤ i.la → b + l.length ≤ i.la := by
      intro l
      induction l with
      | nil => intro b _ _ hb; simpa using hb
      | cons x l ih =>
        intro b hp hx hb
        have hx0 := hx x List.mem_cons_self
        have := ih (x.tn + 1) (List.pairwise_cons.1 hp).2 (fun f hf => ⟨(List.pairwise_cons.1 hp).1 f hf, (hx f (List.mem_cons_of_mem _ hf)).2⟩) (by omega)
        simp only [List.length_cons]
        omega
    have := hn i.fs 0 hw.srt (fun f hf => ⟨Nat.zero_le _, hw.tns f hf⟩) (Nat.zero_le _)
    omega
  refine ⟨hf, (List.nodup_append.1 hfa.1).1, ?_, ?_, ?_, hfa.2.2.1, hfa.2.2.2.1, hw.bs, ?_⟩
  · intro f hfm
    exact hfa.2.1 f.id (List.mem_append.2 (.inl (List.mem_map.2 ⟨f, hfm, rfl⟩)))
  · intro f hfm
    obtain ⟨g, hg, rfl⟩ := List.mem_map.1 hfm
    refine ⟨fun hr => ?_, (hw.snf g hg).2⟩
    obtain ⟨z1, z2, z3, z4⟩ := (hw.snf g hg).1 hr
    show g.m.p = zMp
    unfold Ms.p zMp
    rw [z1, z2, z3, z4]
  · intro m hm
    obtain ⟨g, hg, rfl⟩ := List.mem_map.1 hm
    exact hw.snl g hg
  · show (i.L.map Ms.p).length + (i.fs.map Fm.p).length ≤ 100000
    rw [List.length_map, List.length_map]
    omega
/-! ### Two windows -/
theorem KO.lst {W W' : World} (h : KO W W') {v : Value} {X : List Pp} (l : Lst W v X) : Lst W' v X := by
  obtain ⟨S, h1, h2, h3⟩ := l
  refine ⟨S, ?_, fun p hp => (h2 p hp).keep h.kb, h3⟩
  refine ⟨h1.1, ?_⟩
  rcases h1.2 with q | ⟨g, cap, cur, a, b, cc, d⟩
  · exact .inl q
  · exact .inr ⟨g, cap, cur, a, b, h g _ cc ⟨cur, 66, _, rfl, by decide, by decide, by decide⟩, d⟩
structure K2 (w0 W : World) (wb xb : Nat) (p p' : Pw) (c c' : Nat) : Prop where
  ex : ∃ i i', WS W wb i c ∧ i.p = p ∧ WS W xb i' c' ∧ i'.p = p' ∧ (∀ j, i.U wb j → w0.heap.size ≤ j) ∧ (∀ j, i'.U xb j → w0.heap.size ≤ j) ∧ ∀ j, i.U wb j → ¬ i'.U xb j
  gd : Gd W
  bel : Below w0.heap.size w0 W
theorem K2.swap {w0 W : World} {wb xb : Nat} {p p' : Pw} {c c' : Nat} (h : K2 w0 W wb xb p p' c c') : K2 w0 W xb wb p' p c' c := by
  obtain ⟨i, i', h1, h2, h3, h4, h5, h6, h7⟩ := h.ex
  exact ⟨⟨i', i, h3, h4, h1, h2, h6, h5, fun j a b => h7 j b a⟩, h.gd, h.bel⟩
theorem K2.below {w0 W W' : World} {wb xb : Nat} {p p' : Pw} {c c' : Nat} (h : K2 w0 W wb xb p p' c c') (hb : Below W.heap.size W W') : K2 w0 W' wb xb p p' c c' := by
  obtain ⟨i, i', h1, h2, h3, h4, h5, h6, h7⟩ := h.ex
  exact ⟨⟨i, i', h1.below hb, h2, h3.below hb, h4, h5, h6, h7⟩, h.gd.below hb, h.bel.trans (hb.mono h.bel.size)⟩
/-- What stays while the first one is called. -/
def F2 (w0 W : World) (xb : Nat) (i' : WI) (j : Nat) : Prop := j < w0.heap.size ∨ i'.U xb j ∨ ∃ o, W.heap[j]? = some o ∧ Other o
theorem K2.one {w0 W : World} {wb xb : Nat} {p p' : Pw} {c c' : Nat} (h : K2 w0 W wb xb p p' c c') : ∃ F : Nat → Prop, KS F W wb p c ∧ ∀ {W' : World} {q : Pw} {d : Nat}, KS F W' wb q d → Fr F W W' → K2 w0 W' wb xb q p' d c' ∧ KO W W' := by
  obtain ⟨i, i', h1, h2, h3, h4, h5, h6, h7⟩ := h.ex
  refine ⟨F2 w0 W xb i', ⟨⟨i, h1, h2, ?_⟩, h.gd⟩, ?_⟩
  · rintro j (z | z | ⟨o, z, zo⟩)
    · exact ⟨Nat.lt_of_lt_of_le z h.bel.size, fun y => by have := h5 j y; omega⟩
    · exact ⟨h3.lt z, fun y => h7 j y z⟩
    · exact ⟨(Array.getElem?_eq_some_iff.1 z).1, h1.other z zo⟩
  · intro W' q d k r
    obtain ⟨i1, k1, k2, k3⟩ := k.ex
    have ko : KO W W' := fun j o z zo => (r.at (.inr (.inr ⟨o, z, zo⟩)) (Array.getElem?_eq_some_iff.1 z).1).trans z
    refine ⟨⟨⟨i1, i', k1, k2, h3.keep r (fun j hj z => z (.inr (.inl hj))) ko.kb, h4, ?_, h6, ?_⟩, k.gd, ?_⟩, ko⟩
    · intro j hj
      refine Classical.byContradiction fun hn => ?_
      exact (k3 j (.inl (by omega))).2 hj
    · intro j hj z
      exact (k3 j (.inr (.inl z))).2 hj
    · exact ⟨r.os.trans h.bel.os, r.tape.trans h.bel.tape, r.output.trans h.bel.output, Nat.le_trans h.bel.size r.size, fun j hj => (r.at (.inl hj) (Nat.lt_of_lt_of_le hj h.bel.size)).trans (h.bel.block j hj)⟩
section
variable {w0 W : World} {wb xb : Nat} {p p' : Pw} {c c' : Nat}
end
end Go.Proofs.YtmihpmmkkklpfaaGreatDoor
namespace Go.Proofs.YtmihpmmkkklpfaaGreatDoor
open Go Go.RowKit Go.Shelf Go.Maps Go.Sort
set_option linter.unusedSimpArgs false
set_option linter.unusedVariables false
/-! ### Two messages held against each other -/
end Go.Proofs.YtmihpmmkkklpfaaGreatDoor
namespace Go.Proofs.YtmihpmmkkklpfaaGreatDoor
open Go Go.RowKit Go.Shelf Go.Maps Go.Sort
set_option linter.unusedSimpArgs false
set_option linter.unusedVariables false
/-! ### isZero, isFlight -/
theorem PB.len {w : World} {v : Value} {xs : List Int} (h : PB w v xs) : ∃ a c, v = .slice a xs.length c := by
  rcases h with ⟨rfl, rfl⟩ | ⟨a, n, c, rfl, rfl, -⟩
  · exact ⟨_, _, rfl⟩
  · exact ⟨_, _, rfl⟩
set_option maxRecDepth 100000 in
set_option maxHeartbeats 1000000 in
theorem isZero_any (a : Option Addr) (c : Nat) (w : World) : Calls Tryz.prog 126 #[.agg #[.string ⟨#[]⟩, .slice a 0 c, .int .i64 0, .bool false]] w fun e w' => e = .returned (.bool true) ∧ Below w.heap.size w w' := by
  have B0 : Hid (Below w.heap.size w (w.alloc (.cells #[.string ⟨#[]⟩, .slice a 0 c, .int .i64 0, .bool false] 45))) := (Below.refl _ _).alloc (Nat.le_refl _) _
  have ht : (⟨#[]⟩ : ByteArray).toList = (⟨#[]⟩ : ByteArray).toList := rfl
  go_enter Tryz.func126, Tryz.ntmps126
  go_wp2_with fail
  go_ret
  exact ⟨by simp, B0.out⟩
set_option maxRecDepth 100000 in
set_option maxHeartbeats 1000000 in
theorem isFlight_any {w : World} (id : Int) (m : Ms) (rel : Bool) (hp : PB w m.v m.xs) (hs : (rel = true → m.zero) ∧ (rel = false → Sn m.q)) : Calls Tryz.prog 91 #[.agg #[.int .i64 id, .string m.t, m.v, .int .i64 m.q, .bool m.r, .bool rel]] w fun e w' => e = .returned (.bool true) ∧ Below w.heap.size w w' := by
  obtain ⟨t, v, q, r, xs⟩ := m
  obtain ⟨a, c, hv⟩ := hp.len
  simp only at hv
  subst hv
  have B0 : Hid (Below w.heap.size w (w.alloc (.cells #[.int .i64 id, .string t, .slice a xs.length c, .int .i64 q, .bool r, .bool rel] 108))) := (Below.refl _ _).alloc (Nat.le_refl _) _
  cases rel
  · have hq := hs.2 rfl
    have hq' : decide (q = 1 ∨ q = 2) = true := decide_eq_true hq
    have C := hidi (fun W => sendable_any t a xs.length c q r W)
    rw [hq'] at C
    clear hs hp hq hq'
    go_enter Tryz.func91, Tryz.ntmps91
    go_wp2_with (go_at_call 77; refine (C.out _).mono ?_; rintro e w' ⟨rfl, hb⟩; have HB := hidi (B0.out.trans (hb.mono (by simp))); clear hb)
    go_ret
    exact ⟨rfl, HB.out⟩
  · obtain ⟨z1, z2, z3, z4⟩ := hs.1 rfl
    simp only at z1 z2 z3 z4
    subst z1 z2 z3 z4
    have C := hidi (fun W => isZero_any a c W)
    clear hs hp
    simp only [List.length_nil] at B0 ⊢
    go_enter Tryz.func91, Tryz.ntmps91
    go_wp2_with (go_at_call 126; refine (C.out _).mono ?_; rintro e w' ⟨rfl, hb⟩; have HB := hidi (B0.out.trans (hb.mono (by simp))); clear hb)
    go_ret
    exact ⟨rfl, HB.out⟩
set_option maxRecDepth 100000 in
set_option maxHeartbeats 1000000 in
theorem notSend_any {w : World} (t : ByteArray) (a : Option Addr) (n c : Nat) (q : Int) (r : Bool) (hq : Sn q) : Calls Tryz.prog 94 #[.agg #[.string t, .slice a n c, .int .i64 q, .bool r]] w fun e w' => e = .returned (.bool false) ∧ Below w.heap.size w w' := by
  have B0 : Hid (Below w.heap.size w (w.alloc (.cells #[.string t, .slice a n c, .int .i64 q, .bool r] 45))) := (Below.refl _ _).alloc (Nat.le_refl _) _
  have hq' : decide (q = 1 ∨ q = 2) = true := decide_eq_true hq
  have C := hidi (fun W => sendable_any t a n c q r W)
  rw [hq'] at C
  clear hq hq'
  go_enter Tryz.func94, Tryz.ntmps94
  go_wp2_with (go_at_call 77; refine (C.out _).mono ?_; rintro e w' ⟨rfl, hb⟩; have HB := hidi (B0.out.trans (hb.mono (by simp))); clear hb)
  go_ret
  exact ⟨rfl, HB.out⟩
/-! ### No message of a queue is bad -/
theorem mrow_cells {w : World} {B k : Nat} {v : Value} {L : List Ms} (h : w.ownsRow B 45 4 v k (mrow L)) {j : Nat} (hj : j < k) (hl : j < L.length) : ∃ g c, v = .slice (some ⟨g, 0, none⟩) k c ∧ k ≤ c ∧ ∀ x, x < 4 → w.cell? ⟨g, j * 4 + x, none⟩ = L[j].cs[x]? := by
  obtain ⟨g, c, h1, h2, h3, cur, h4, h5⟩ := mrow_cell h hj
  refine ⟨g, c, h1, h2, fun x hx => ?_⟩
  rw [← h5 j hj hl x hx]
  simp [World.cell?, h4]
set_option maxRecDepth 100000 in
set_option maxHeartbeats 1000000 in
theorem indexF_any {w : World} {B n : Nat} {v : Value} {L : List Ms} (h : w.ownsRow B 45 4 v n (mrow L)) (hn : n = L.length) (hm : n ≤ 1000000) (hp : ∀ m ∈ L, PB w m.v m.xs) (hs : ∀ m ∈ L, Sn m.q) : Calls Tryz.prog 127 #[v, .func (.func 94) #[] #[]] w fun e w' => e = .returned (.int .i64 (-1)) ∧ Below w.heap.size w w' := by
  obtain ⟨a, c, rfl⟩ := own_sl h
  have H := hidi (And.intro h (And.intro hn (And.intro hp (And.intro hs hm))))
  clear h hn hp hs hm
  go_enter Tryz.func127, Tryz.ntmps127
  go_wp2_with fail
  go_loopg [8] n (fun gk s8 wx => ∃ j : Nat, j + gk = n ∧ s8 = .int .i64 j ∧ Hid (Below w.heap.size w wx))
  case atStart => exact ⟨0, by omega, rfl, Below.refl _ _⟩
  case round =>
    obtain ⟨j, hj, rfl, HI⟩ := hrel
    by_cases hjn : j < n
    · have hlt : (j : Int) < (n : Int) := by omega
      have hge : (0 : Int) ≤ (j : Int) := by omega
      have hw1 : IntKind.i64.wrap ((j : Int) + 1) = (j : Int) + 1 := by rw [IntKind.wrap_i64]; have := H.out.2.2.2.2; omega
      have hjl : j < L.length := by rw [← H.out.2.1]; exact hjn
      obtain ⟨g, c', hv, hle, hcell⟩ := mrow_cells (own_below H.out.1 HI.out) hjn hjl
      simp only [Value.slice.injEq, true_and] at hv
      obtain ⟨rfl, rfl⟩ := hv
      have hpy := (H.out.2.2.1 _ (List.getElem_mem hjl)).keep (Kb.below HI.out)
      have hsn := H.out.2.2.2.1 _ (List.getElem_mem hjl)
      obtain ⟨f, hf⟩ : ∃ f, f = L[j] := ⟨_, rfl⟩
      rw [← hf] at hcell hpy hsn
      clear hf
      obtain ⟨t, pv, q, r, xs⟩ := f
      obtain ⟨pa, pn, pc, hpv⟩ := hpy.sl
      simp only at hpv
      subst hpv
      have k0 : wr.cell? ⟨g, j * 4, none⟩ = some (.string t) := hcell 0 (by omega)
      have k1 : wr.cell? ⟨g, j * 4 + 1, none⟩ = some (.slice pa pn pc) := hcell 1 (by omega)
      have k2 : wr.cell? ⟨g, j * 4 + 2, none⟩ = some (.int .i64 q) := hcell 2 (by omega)
      have k3 : wr.cell? ⟨g, j * 4 + 3, none⟩ = some (.bool r) := hcell 3 (by omega)
      have C := hidi (notSend_any (w := wr) t pa pn pc q r hsn)
      clear hcell hpy hsn hjl hle
      go_wp2_with (go_at_call 94; refine C.out.mono ?_; rintro e w1 ⟨rfl, hb⟩; have HB := hidi (HI.out.trans (hb.mono HI.out.size)); clear hb)
      go_roundg (n - (j + 1))
      case measure => omega
      case rel => exact ⟨j + 1, by omega, by first | rfl | simp, HB.out⟩
    · have hlt : ¬ (j : Int) < (n : Int) := by omega
      go_wp2_with fail
      go_ret
      exact ⟨rfl, HI.out⟩
set_option maxRecDepth 100000 in
set_option maxHeartbeats 1000000 in
theorem containsF_any {w : World} {B n : Nat} {v : Value} {L : List Ms} (h : w.ownsRow B 45 4 v n (mrow L)) (hn : n = L.length) (hm : n ≤ 1000000) (hp : ∀ m ∈ L, PB w m.v m.xs) (hs : ∀ m ∈ L, Sn m.q) : Calls Tryz.prog 93 #[v, .func (.func 94) #[] #[]] w fun e w' => e = .returned (.bool false) ∧ Below w.heap.size w w' := by
  obtain ⟨a, c, hv⟩ := own_sl h
  have C := hidi (indexF_any h hn hm hp hs)
  subst hv
  clear h hn hm hp hs
  go_enter Tryz.func93, Tryz.ntmps93
  go_wp2_with (go_at_call 127; refine C.out.mono ?_; rintro e w1 ⟨rfl, hb⟩; have HB := hidi hb; clear hb)
  go_ret
  exact ⟨rfl, HB.out⟩
/-! ### isForm -/
/-- The image of a window in memory. -/
structure Imo (w : World) (p : Pw) (L : List Fo) (L' : List Ms) (vf vq : Value) : Prop where
  fl : w.ownsRow 0 108 6 vf L.length (frow L)
  fp : ∀ o ∈ L, PB w o.m.v o.m.xs
  qu : w.ownsRow 0 45 4 vq L'.length (mrow L')
  qp : ∀ o ∈ L', PB w o.v o.xs
  ef : L.map Fo.p = p.fl
  eq : L'.map Ms.p = p.wt
theorem ImP.imo {w w' : World} {p : Pw} {vf vq : Value} (h : ImP w w' p vf vq) : ∃ L L', Imo w' p L L' vf vq := by
  obtain ⟨L, a1, a2, a3⟩ := h.fl
  obtain ⟨L', b1, b2, b3⟩ := h.qu
  have e1 : L.length = p.fl.length := by rw [← a2, List.length_map]
  have e2 : L'.length = p.wt.length := by rw [← b2, List.length_map]
  exact ⟨L, L', by rw [e1]; exact own0 a1, a3, by rw [e2]; exact own0 b1, b3, a2, b2⟩
theorem Imo.below {w w' : World} {p : Pw} {L : List Fo} {L' : List Ms} {vf vq : Value} (h : Imo w p L L' vf vq) (hb : Below w.heap.size w w') : Imo w' p L L' vf vq :=
  ⟨own_below h.fl hb, fun o ho => (h.fp o ho).keep (Kb.below hb), own_below h.qu hb, fun o ho => (h.qp o ho).keep (Kb.below hb), h.ef, h.eq⟩
theorem Fo.fine {p : Pw} {L : List Fo} (h : ImOk p) (e : L.map Fo.p = p.fl) {o : Fo} (ho : o ∈ L) : (1 ≤ o.id ∧ o.id ≤ 65535) ∧ ((o.rel = true → o.m.zero) ∧ (o.rel = false → Sn o.m.q)) ∧ o.m.t.size ≤ 1000000 := by
  have hm : o.p ∈ p.fl := by rw [← e]; exact List.mem_map.2 ⟨o, ho, rfl⟩
  refine ⟨h.rg _ hm, ⟨fun hr => ?_, (h.sf _ hm).2⟩, h.fi.ft _ hm⟩
  have z := (h.sf _ hm).1 hr
  have z' : o.m.p = zMp := z
  unfold Ms.p zMp at z'
  simp only [Mp.mk.injEq] at z'
  exact z'
theorem seen_step {ids : List Nat} (id : Nat) : setT (fun x => decide (x ∈ ids)) id true = fun x => decide (x ∈ ids ++ [id]) := by
  funext x
  unfold setT
  by_cases e : x = id
  · subst e; simp
  · simp [e]
/-- The numbers that were seen. -/
structure Sn2 (w wx : World) (nb j : Nat) (L : List Fo) : Prop where
  ex : ∃ mv N, NT wx mv (fun x => decide (x ∈ (L.take j).map (·.id))) N ∧ wx.heap[nb]? = some (.cells #[mv] 99 (0, 0)) ∧ N ≤ j ∧ (∀ g, mv = .map (some g) → w.heap.size ≤ g)
  bel : Below w.heap.size w wx
  ge : w.heap.size ≤ nb
theorem Sn2.below {w wx wy : World} {nb j : Nat} {L : List Fo} (h : Sn2 w wx nb j L) (hb : Below wx.heap.size wx wy) : Sn2 w wy nb j L := by
  obtain ⟨mv, N, h1, h2, h3, h4⟩ := h.ex
  refine ⟨⟨mv, N, h1.keep (fun b q => hb.block b ?_), later_at h2 hb, h3, h4⟩, h.bel.trans (hb.mono h.bel.size), h.ge⟩
  obtain ⟨es, cl, e⟩ := h1.block q
  exact (Array.getElem?_eq_some_iff.1 e).1
theorem Sn2.has {w wx : World} {nb j : Nat} {L : List Fo} (h : Sn2 w wx nb j L) (hj : j < L.length) (hd : (L.map (·.id)).Nodup) (hr : L[j].id ≤ 65535) : Calls Tryz.prog 90 #[.pointer (some ⟨nb, 0, none⟩), .int .i64 (L[j].id : Int)] wx fun e w' => e = .returned (.bool false) ∧ Below wx.heap.size wx w' := by
  obtain ⟨mv, N, h1, h2, h3, h4⟩ := h.ex
  refine (has_any h1 (box_cells h2 0 _ rfl) (L[j].id : Int) (okI_nat _ (by omega))).mono ?_
  rintro e w' ⟨rfl, m, rfl⟩
  refine ⟨?_, below_drewN (Below.refl _ _)⟩
  have hn : L[j].id ∉ (L.take j).map (·.id) := by
    intro q
    obtain ⟨x, hx, e⟩ := List.mem_map.1 q
    obtain ⟨k, hk, rfl⟩ := List.getElem_of_mem hx
    have hk' : k < j := by rw [List.length_take] at hk; omega
    refine List.pairwise_iff_getElem.1 hd k j (by rw [List.length_map]; omega) (by rw [List.length_map]; exact hj) hk' ?_
    rw [List.getElem_map, List.getElem_map, ← e, List.getElem_take]
  rw [Int.toNat_natCast, decide_eq_false hn, Bool.and_false]
theorem Sn2.put {w wx : World} {nb j : Nat} {L : List Fo} (h : Sn2 w wx nb j L) (hj : j < L.length) (hl : L.length ≤ 100000) (hr : L[j].id ≤ 65535) : Calls Tryz.prog 92 #[.pointer (some ⟨nb, 0, none⟩), .int .i64 (L[j].id : Int)] wx fun e w' => e = .returned (.tuple #[]) ∧ Sn2 w w' nb (j + 1) L := by
  obtain ⟨mv, N, h1, h2, h3, h4⟩ := h.ex
  refine (put_any h1 h2 (i := 0) rfl L[j].id hr (by omega)).mono ?_
  rintro e w' ⟨rfl, mb, k1, k2, k3, k4⟩
  have hge := h.ge
  have hbl : ∀ b, Of2 nb mv b → w.heap.size ≤ b := fun b q => by
    rcases q with q | q
    · omega
    · exact h4 b q
  refine ⟨rfl, ⟨⟨_, N + 1, ?_, k3, by omega, ?_⟩, ?_, h.ge⟩⟩
  · rw [seen_step] at k2
    rw [List.take_succ_eq_append_getElem hj, List.map_append]
    exact k2
  · intro g e
    simp at e
    subst e
    rcases k1 with q | ⟨q, q2⟩
    · exact h4 _ q
    · have := h.bel.size; omega
  · exact ⟨k4.os.trans h.bel.os, k4.tape.trans h.bel.tape, k4.output.trans h.bel.output, Nat.le_trans h.bel.size k4.size, fun k hk => (k4.block k (Nat.lt_of_lt_of_le hk h.bel.size) (fun q => by have := hbl k q; omega)).trans (h.bel.block k hk)⟩
set_option maxRecDepth 100000 in
set_option maxHeartbeats 4000000 in
theorem isForm_any {w : World} {p : Pw} {L : List Fo} {L' : List Ms} {vf vq : Value} (h : Imo w p L L' vf vq) (hk : ImOk p) : Calls Tryz.prog 64 #[.agg #[.int .i64 (p.last : Int), vf, vq]] w fun e w' => e = .returned (.bool true) ∧ Below w.heap.size w w' := by
  obtain ⟨fa, fc, rfl⟩ := own_sl h.fl
  obtain ⟨qa, qc, hvq⟩ := own_sl h.qu
  subst hvq
  have eL : L.length = p.fl.length := by rw [← h.ef, List.length_map]
  have eL' : L'.length = p.wt.length := by rw [← h.eq, List.length_map]
  have hids : (L.map (·.id)).Nodup := by
    have : L.map (·.id) = (L.map Fo.p).map (·.id) := by rw [List.map_map]; rfl
    rw [this, h.ef]
    exact hk.nd
  have H := hidi (And.intro h (And.intro hk (And.intro (show L.length + L'.length ≤ 100000 by have := hk.lt; omega) hids)))
  obtain ⟨ls, hls⟩ : ∃ ls : Nat, ls = p.last := ⟨_, rfl⟩
  have hl1 : ¬ ((ls : Int) < 0) := by omega
  have hl2 : ¬ (65535 < (ls : Int)) := by have := hk.ls; omega
  have hl3 : decide ((ls : Int) < 0) = false := decide_eq_false hl1
  have hl4 : decide ((65535 : Int) < (ls : Int)) = false := decide_eq_false hl2
  rw [← hls]
  clear hls h hk eL eL' hids
  obtain ⟨n, hn⟩ : ∃ n, n = L.length := ⟨_, rfl⟩
  obtain ⟨n', hn'⟩ : ∃ n', n' = L'.length := ⟨_, rfl⟩
  rw [← hn, ← hn']
  have HN := hidi (And.intro hn hn')
  clear hn hn'
  obtain ⟨w1, hw1⟩ : ∃ w1, w1 = w.alloc (.cells #[.int .i64 (ls : Int), .slice fa n fc, .slice qa n' qc] 31) := ⟨_, rfl⟩
  obtain ⟨w2, hw2⟩ : ∃ w2, w2 = w1.alloc (.cells #[.map none] 99) := ⟨_, rfl⟩
  obtain ⟨q1, q2, q3⟩ := two_alloc w (.cells #[.int .i64 (ls : Int), .slice fa n fc, .slice qa n' qc] 31) (.cells #[.map none] 99)
  have b2 := two_below w (.cells #[.int .i64 (ls : Int), .slice fa n fc, .slice qa n' qc] 31) (.cells #[.map none] 99)
  rw [← hw1, ← hw2] at q1 q2 q3 b2
  have hs1 : w1.heap.size = w.heap.size + 1 := by rw [hw1]; simp
  have a1 : w1.heap[w.heap.size]? = some (.cells #[.int .i64 (ls : Int), .slice fa n fc, .slice qa n' qc] 31 (0, 0)) := by rw [hw1]; exact heap_alloc_new _ _
  have c0 := box_cells a1 0 _ rfl
  have b12 : Below w1.heap.size w1 w2 := by rw [hw2]; exact (Below.refl _ _).alloc (Nat.le_refl _) _
  have b1 : Below w.heap.size w w1 := by rw [hw1]; exact (Below.refl _ _).alloc (Nat.le_refl _) _
  have S0 := hidi (show Sn2 w1 w2 w1.heap.size 0 L from ⟨⟨.map none, 0, by simpa using NT.nil w2, by rw [hs1]; exact q2, Nat.le_refl _, by intro g e; cases e⟩, b12, Nat.le_refl _⟩)
  have A1 := hidi (And.intro a1 b1)
  have c1 := box_cells q1 1 _ rfl
  obtain ⟨bx, hbx⟩ : ∃ bx, bx = w.heap.size := ⟨_, rfl⟩
  obtain ⟨nb, hnb⟩ : ∃ nb, nb = w1.heap.size := ⟨_, rfl⟩
  rw [← hnb] at S0
  rw [← hbx] at c0 c1
  clear q1 q2 b2 a1 q3 hs1 b12 b1
  go_enter Tryz.func64, Tryz.ntmps64
  go_upto_region 1 with fail
  rw [← hw1, ← hbx]
  have HBX := hidi hbx
  clear hw1 hbx
  go_upto_region 4 with fail
  rw [← hw2, ← hnb]
  clear hw2 c0 hnb
  go_wp2_with fail
  clear c1
  have A1' := hidi (show w1.heap[bx]? = some (.cells #[.int .i64 (ls : Int), .slice fa n fc, .slice qa n' qc] 31 (0, 0)) by rw [HBX.out]; exact A1.out.1)
  clear HBX
  go_loopg [17] n (fun gk s17 wx => ∃ j : Nat, j + gk = n ∧ s17 = .int .i64 j ∧ Hid (Sn2 w1 wx nb j L))
  case atStart => exact ⟨0, by omega, rfl, S0.out⟩
  case round =>
    obtain ⟨j, hj, rfl, HI⟩ := hrel
    clear S0
    by_cases hjn : j < n
    · have hlt : (j : Int) < (n : Int) := by omega
      have hge : (0 : Int) ≤ (j : Int) := by omega
      have hjl : j < L.length := by rw [← HN.out.1]; exact hjn
      have hw1 : IntKind.i64.wrap ((j : Int) + 1) = (j : Int) + 1 := by rw [IntKind.wrap_i64]; have := H.out.2.2.1; omega
      have hbw : Below w.heap.size w wr := A1.out.2.trans (HI.out.bel.mono A1.out.2.size)
      have hrow := own_below H.out.1.fl hbw
      rw [← HN.out.1] at hrow
      obtain ⟨g, c', hv, hcell⟩ := frow_cell hrow hjn hjl
      simp only [Value.slice.injEq, true_and] at hv
      obtain ⟨rfl, rfl⟩ := hv
      have hpy := (H.out.1.fp _ (List.getElem_mem hjl)).keep (Kb.below hbw)
      obtain ⟨hrg, hsn, -⟩ := Fo.fine H.out.2.1 H.out.1.ef (List.getElem_mem hjl)
      have HAS := hidi (fun (wx : World) (h : Sn2 w1 wx nb j L) => h.has hjl H.out.2.2.2 hrg.2)
      have PUT := hidi (fun (wx : World) (h : Sn2 w1 wx nb j L) => h.put hjl (by have := H.out.2.2.1; omega) hrg.2)
      obtain ⟨f, hf⟩ : ∃ f, f = L[j] := ⟨_, rfl⟩
      rw [← hf] at hcell hpy hsn hrg HAS PUT
      clear hf hrow
      obtain ⟨id, ⟨t, pv, q, r, xs⟩, rel⟩ := f
      obtain ⟨pa, pn, pc, hpv⟩ := hpy.sl
      simp only at hpv hrg HAS PUT
      subst hpv
      have k0 : wr.cell? ⟨g, j * 6, none⟩ = some (.int .i64 (id : Int)) := hcell 0 (by omega)
      have k1 : wr.cell? ⟨g, j * 6 + 1, none⟩ = some (.string t) := hcell 1 (by omega)
      have k2 : wr.cell? ⟨g, j * 6 + 2, none⟩ = some (.slice pa pn pc) := hcell 2 (by omega)
      have k3 : wr.cell? ⟨g, j * 6 + 3, none⟩ = some (.int .i64 q) := hcell 3 (by omega)
      have k4 : wr.cell? ⟨g, j * 6 + 4, none⟩ = some (.bool r) := hcell 4 (by omega)
      have k5 : wr.cell? ⟨g, j * 6 + 5, none⟩ = some (.bool rel) := hcell 5 (by omega)
      obtain ⟨w3, hw3⟩ : ∃ w3, w3 = wr.alloc (.cells #[.int .i64 (id : Int), .string t, .slice pa pn pc, .int .i64 q, .bool r, .bool rel] 108) := ⟨_, rfl⟩
      have a3 := heap_alloc_new wr (.cells #[.int .i64 (id : Int), .string t, .slice pa pn pc, .int .i64 q, .bool r, .bool rel] 108)
      have b3 : Below wr.heap.size wr (wr.alloc (.cells #[.int .i64 (id : Int), .string t, .slice pa pn pc, .int .i64 q, .bool r, .bool rel] 108)) := (Below.refl _ _).alloc (Nat.le_refl _) _
      rw [← hw3] at a3 b3
      have S3 := hidi (HI.out.below b3)
      obtain ⟨ob, hob⟩ : ∃ ob, ob = wr.heap.size := ⟨_, rfl⟩
      rw [← hob] at a3
      have e0 := box_cells a3 0 _ rfl
      have ISID := hidi (show ∀ W, Calls Tryz.prog 89 #[.int .i64 (id : Int)] W fun e w' => e = .returned (.bool true) ∧ w' = W from fun W => by
        have := isID_any (id : Int) W
        rw [show decide (1 ≤ (id : Int) ∧ (id : Int) ≤ 65535) = true from decide_eq_true (by omega)] at this
        exact this)
      have A3 := hidi a3
      have HP := hidi (And.intro (hpy.keep (Kb.below b3)) hsn)
      clear hcell hpy hsn hrg b3 a3 hbw hjl HI
      go_upto_region 7 with fail
      rw [← hw3, ← hob]
      clear hw3 hob k0 k1 k2 k3 k4 k5
      go_wp2_with (first
        | (go_at_call 89; refine (ISID.out _).mono ?_; rintro e w' ⟨rfl, rfl⟩)
        | (go_at_call 90; refine (HAS.out _ S3.out).mono ?_; rintro e w4 ⟨rfl, hb4⟩; have S4 := hidi (S3.out.below hb4); have a4 := later_at A3.out hb4; have d0 := box_cells a4 0 _ rfl; have d1 := box_cells a4 1 _ rfl; have d2 := box_cells a4 2 _ rfl; have d3 := box_cells a4 3 _ rfl; have d4 := box_cells a4 4 _ rfl; have d5 := box_cells a4 5 _ rfl; have A4 := hidi a4; have HP4 := hidi (isFlight_any (w := w4) (id : Int) ⟨t, .slice pa pn pc, q, r, xs⟩ rel (HP.out.1.keep (Kb.below hb4)) HP.out.2); clear hb4 a4)
        | (go_at_call 91; refine HP4.out.mono ?_; clear HP4 d0 d1 d2 d3 d4 d5; rintro e w5 ⟨rfl, hb5⟩; have S5 := hidi (S4.out.below hb5); have f0 := box_cells (later_at A4.out hb5) 0 _ rfl; clear hb5)
        | (go_at_call 92; refine (PUT.out _ S5.out).mono ?_; rintro e w6 ⟨rfl, hs6⟩; have S6 := hidi hs6; clear hs6))
      go_roundg (n - (j + 1))
      case measure => omega
      case rel => exact ⟨j + 1, by omega, by first | rfl | simp, S6.out⟩
    · have hlt : ¬ (j : Int) < (n : Int) := by omega
      have hbw : Below w.heap.size w wr := A1.out.2.trans (HI.out.bel.mono A1.out.2.size)
      have c2 := box_cells ((HI.out.bel.block bx (Array.getElem?_eq_some_iff.1 A1'.out).1).trans A1'.out) 2 _ rfl
      have hq := H.out.1.below hbw
      have CF := hidi (containsF_any hq.qu rfl (by have := H.out.2.2.1; omega) hq.qp (fun m hm => by
        have hmm : m.p ∈ p.wt := by rw [← hq.eq]; exact List.mem_map.2 ⟨m, hm, rfl⟩
        exact H.out.2.1.sl _ hmm))
      rw [← HN.out.2] at CF
      have HB := hidi hbw
      clear hbw hq
      go_wp2_with (go_at_call 93; refine CF.out.mono ?_; rintro e w3 ⟨rfl, hb3⟩; have HB3 := hidi (HB.out.trans (hb3.mono HB.out.size)); clear hb3)
      go_ret
      exact ⟨rfl, HB3.out⟩
end Go.Proofs.YtmihpmmkkklpfaaGreatDoor
