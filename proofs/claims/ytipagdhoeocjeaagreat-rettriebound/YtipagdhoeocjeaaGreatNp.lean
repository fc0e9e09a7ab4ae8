import Derived.Test.YtipagdhoeocjeaaGreatNk
namespace Go.Proofs.YtipagdhoeocjeaaGreat.Li
open Go Go.RowKit Go.Shelf
set_option linter.unusedSimpArgs false
set_option linter.unusedVariables false
/-! ### the order of levels -/
def ltV (A B : List ByteArray) : Prop := cmpV (A.map unB) (B.map unB) = -1
theorem cmpV_irr : ∀ a : List Bs, cmpV a a = 0
  | [] => rfl
  | a :: l => by unfold cmpV; rw [if_pos rfl]; exact cmpV_irr l
theorem ltV_irr (A : List ByteArray) : ¬ ltV A A := fun h => by
  unfold ltV at h
  rw [cmpV_irr] at h
  omega
theorem cmpV_pre : ∀ (p a b : List Bs), cmpV (p ++ a) (p ++ b) = cmpV a b
  | [], a, b => rfl
  | x :: p, a, b => by
    show cmpV (x :: (p ++ a)) (x :: (p ++ b)) = _
    rw [show cmpV (x :: (p ++ a)) (x :: (p ++ b)) = cmpV (p ++ a) (p ++ b) by rw [cmpV, if_pos rfl]]
    exact cmpV_pre p a b
theorem ltV_more {A B : List ByteArray} (h : A <+: B) (hn : A ≠ B) : ltV A B := by
  obtain ⟨c, rfl⟩ := h
  unfold ltV
  rw [List.map_append]
  have := cmpV_pre (A.map unB) [] (c.map unB)
  rw [List.append_nil] at this
  rw [this]
  cases c with
  | nil => exact absurd (by simp) hn
  | cons x c => rfl
theorem ltV_fork {P A B : List ByteArray} {a b : ByteArray} (h : ltL (unB a) (unB b) = true) : ltV (P ++ a :: A) (P ++ b :: B) := by
  unfold ltV
  rw [List.map_append, List.map_append, cmpV_pre, List.map_cons, List.map_cons]
  unfold cmpV
  have : ¬ unB a = unB b := fun e => by rw [e, ltL_irr] at h; cases h
  rw [if_neg this, if_pos h]
/-- What a trie of these nodes may have given: in order, and what it holds. -/
structure Srt (T : List Fn) (X : List Msg) : Prop where
  ord : X.Pairwise fun a b => ltV (levels a.t) (levels b.t)
  has : ∀ m ∈ X, HasM T (levels m.t) m
theorem Srt.len {T : List Fn} {X : List Msg} (h : Srt T X) : X.length ≤ T.length := by
  have n1 : (X.map fun m => levels m.t).Nodup := by
    refine List.pairwise_map.2 (h.ord.imp (fun {a b} c e => ?_))
    rw [e] at c
    exact ltV_irr _ c
  have := nodup_le' (X.map fun m => levels m.t) (T.map fun f => f.s.A) n1 (fun x hx => by
    obtain ⟨m, hm, rfl⟩ := List.mem_map.1 hx
    obtain ⟨f, hf, e, _⟩ := h.has m hm
    exact List.mem_map.2 ⟨f, hf, e⟩)
  simpa using this
theorem Srt.app {T : List Fn} {X Y : List Msg} (h : Srt T X) (k : Srt T Y) (hc : ∀ a ∈ X, ∀ b ∈ Y, ltV (levels a.t) (levels b.t)) : Srt T (X ++ Y) :=
  ⟨List.pairwise_append.2 ⟨h.ord, k.ord, hc⟩, fun m hm => (List.mem_append.1 hm).elim (h.has m) (k.has m)⟩
theorem Srt.nil (T : List Fn) : Srt T [] := ⟨List.Pairwise.nil, fun m h => by cases h⟩
/-- All messages at levels of a kind, in order. -/
structure All (T : List Fn) (S : List ByteArray → Prop) (Y : List Msg) : Prop where
  mem : ∀ m, m ∈ Y ↔ S (levels m.t) ∧ HasM T (levels m.t) m
  srt : Srt T Y
theorem All.ext {T : List Fn} {S S' : List ByteArray → Prop} {Y : List Msg} (h : All T S Y) (e : ∀ F, (∃ m, HasM T F m) → (S F ↔ S' F)) : All T S' Y :=
  ⟨fun m => by
    rw [h.mem]
    constructor
    · rintro ⟨a, b⟩; exact ⟨(e _ ⟨m, b⟩).1 a, b⟩
    · rintro ⟨a, b⟩; exact ⟨(e _ ⟨m, b⟩).2 a, b⟩, h.srt⟩
/-- Two lists of all that there is, in order, are one. -/
theorem srt_eq {T : List Fn} : ∀ {X Y : List Msg}, Srt T X → Srt T Y → (∀ m, m ∈ X ↔ m ∈ Y) → X = Y
  | [], [], _, _, _ => rfl
  | [], y :: Y, _, _, h => by have := (h y).2 List.mem_cons_self; cases this
  | x :: X, [], _, _, h => by have := (h x).1 List.mem_cons_self; cases this
  | x :: X, y :: Y, hX, hY, h => by
    have ax := List.pairwise_cons.1 hX.ord
    have ay := List.pairwise_cons.1 hY.ord
    have asy : ∀ {A B : List ByteArray}, ltV A B → ¬ ltV B A := fun {A B} h1 h2 => by
      unfold ltV at h1 h2
      have : ∀ a b : List Bs, cmpV a b = -1 → cmpV b a ≠ -1 := fun a b => by
        induction a generalizing b with
        | nil => cases b <;> simp [cmpV]
        | cons u a ih =>
          cases b with
          | nil => simp [cmpV]
          | cons v b =>
            unfold cmpV
            by_cases e : u = v
            · subst e
              rw [if_pos rfl, if_pos rfl]
              exact ih b
            · have e' : ¬ v = u := fun c => e c.symm
              rw [if_neg e, if_neg e']
              by_cases l1 : ltL u v = true
              · rw [if_pos l1]
                by_cases l2 : ltL v u = true
                · have := ltL_trans _ _ _ l1 l2
                  rw [ltL_irr] at this
                  cases this
                · rw [if_neg l2]; omega
              · rw [if_neg l1]; omega
      exact this _ _ h1 h2
    have exy : x = y := by
      rcases List.mem_cons.1 ((h x).1 List.mem_cons_self) with e | e
      · exact e
      · rcases List.mem_cons.1 ((h y).2 List.mem_cons_self) with e2 | e2
        · exact e2.symm
        · exact (asy (ay.1 x e) (ax.1 y e2)).elim
    subst exy
    have nx : x ∉ X := fun c => ltV_irr _ (ax.1 x c)
    have ny : x ∉ Y := fun c => ltV_irr _ (ay.1 x c)
    rw [srt_eq (X := X) (Y := Y) ⟨ax.2, fun m hm => hX.has m (List.mem_cons_of_mem _ hm)⟩ ⟨ay.2, fun m hm => hY.has m (List.mem_cons_of_mem _ hm)⟩ (fun m => by
      constructor
      · intro hm
        rcases List.mem_cons.1 ((h m).1 (List.mem_cons_of_mem _ hm)) with e | e
        · subst e; exact (nx hm).elim
        · exact e
      · intro hm
        rcases List.mem_cons.1 ((h m).2 (List.mem_cons_of_mem _ hm)) with e | e
        · subst e; exact (ny hm).elim
        · exact e)]
/-! ### what a walk keeps -/
/-- What a call keeps: what a round keeps, and all that are no cells. -/
structure KN (n₀ : Nat) (X : Nat → Nat → Prop) (W W' : World) : Prop where
  kn : Kn n₀ X W W'
  nc : ∀ (k : Nat) (o : Obj), W.heap[k]? = some o → o.isCells = false → W'.heap[k]? = some o
variable {n₀ : Nat} {X : Nat → Nat → Prop}
theorem KN.refl (W : World) : KN n₀ X W W := ⟨Kn.refl W, fun _ _ h _ => h⟩
theorem KN.trans {A B C : World} (h : KN n₀ X A B) (k : KN n₀ X B C) : KN n₀ X A C := ⟨Kn_t h.kn k.kn, fun i o e ho => k.nc i o (h.nc i o e ho) ho⟩
theorem KN.of {W W' : World} (h : Below W.heap.size W W') (hn : n₀ ≤ W.heap.size) : KN n₀ X W W' := ⟨Kn.of h hn, fun k o e _ => (h.block k (Array.getElem?_eq_some_iff.1 e).1).trans e⟩
theorem KN.from {W W' : World} (h : KN n₀ X W W') (B : Nat) : KeepsFrom B W W' := ⟨h.kn.be.size, fun k o _ e ho => h.nc k o e ho⟩
/-- A step that changes one block that is no cells. -/
theorem KN.grown {W A B : World} {row : Option Nat} (h : KN n₀ X W A) (hg : A.grownBy B row) (hr : ∀ k, row = some k → W.heap.size ≤ k ∧ ∃ o : Obj, A.heap[k]? = some o ∧ o.isCells = false) (hn : n₀ ≤ W.heap.size) : KN n₀ X W B := by
  have same : ∀ k, k < A.heap.size → row ≠ some k → B.heap[k]? = A.heap[k]? := fun k hk hne => hg.block k hk (fun e => hne e.symm)
  refine ⟨⟨h.kn.be.grown hg (Nat.le_trans hn h.kn.be.size) (fun k e => by have := (hr k e).1; omega), fun k cs t fz e hx => ?_⟩, fun k o e ho => ?_⟩
  · have e2 := h.kn.cl k cs t fz e hx
    refine (same k (Array.getElem?_eq_some_iff.1 e2).1 (fun q => ?_)).trans e2
    obtain ⟨_, o, e3, e4⟩ := hr k q
    rw [e2] at e3
    cases e3
    cases e4
  · have e2 := h.nc k o e ho
    refine (same k (Array.getElem?_eq_some_iff.1 e2).1 (fun q => ?_)).trans e2
    have := (hr k q).1
    have := (Array.getElem?_eq_some_iff.1 e).1
    omega
/-- What has been given stays in a world with the same cells. -/
theorem GS.stay {nb lb wb : Nat} {X : List Ml} {W W' : World} (h : GS n₀ nb lb wb X W) (hc : ∀ (k : Nat) (cs : Array Value) (t : Nat) (fz : Nat × Nat), W.heap[k]? = some (.cells cs t fz) → W'.heap[k]? = some (.cells cs t fz)) : GS n₀ nb lb wb X W' := by
  have ro : ∀ {B e s n : Nat} {v : Value} {xs : List Value}, W.ownsRow B e s v n xs → W'.ownsRow B e s v n xs := fun {B e s n v xs} ho => by
    refine ⟨ho.1, ?_⟩
    rcases ho.2 with q | ⟨g, cap, cur, hv, a, b, c⟩
    · exact .inl q
    · exact .inr ⟨g, cap, cur, hv, a, hc _ _ _ _ b, c⟩
  obtain ⟨v, a, b⟩ := h.l_
  exact ⟨hc _ _ _ _ h.n_, hc _ _ _ _ h.w_, ⟨v, hc _ _ _ _ a, ro b⟩, fun x hx => ro (h.pl x hx), h.lo⟩
theorem cells_grown {A B : World} {row : Option Nat} (hg : A.grownBy B row) (hr : ∀ k, row = some k → ∃ o : Obj, A.heap[k]? = some o ∧ o.isCells = false) : ∀ (k : Nat) (cs : Array Value) (t : Nat) (fz : Nat × Nat), A.heap[k]? = some (.cells cs t fz) → B.heap[k]? = some (.cells cs t fz) := fun k cs t fz e => by
  refine (hg.block k (Array.getElem?_eq_some_iff.1 e).1 (fun q => ?_)).trans e
  obtain ⟨o, e2, e3⟩ := hr k q.symm
  rw [e] at e2
  cases e2
  cases e3
end Go.Proofs.YtipagdhoeocjeaaGreat.Li
namespace Go.Proofs.YtipagdhoeocjeaaGreat.Li
open Go Go.RowKit Go.Shelf
set_option linter.unusedSimpArgs false
set_option linter.unusedVariables false
/-- A trie that stands below what is given. -/
structure Tw (w₀ : World) (tb r : Nat) (nf nn : Int) (T : List Fn) : Prop where
  tm : TM w₀ tb r nf nn T
  msk : ∀ f ∈ T, ∀ m, f.ms = some m → MsOk f.s.A m
  few : T.length ≤ 400
variable {w₀ : World} {tb r nb lb wb : Nat} {nf nn : Int} {T : List Fn} {f : Fn} {X : List Ml} {W : World}
abbrev yv (wb nb lb : Nat) : Value := .func (.func 30) #[] #[ptr wb, ptr nb, ptr lb]
set_option maxRecDepth 100000 in
set_option maxHeartbeats 4000000 in
theorem give_any (h : Tw w₀ tb r nf nn T) (hb : Below w₀.heap.size w₀ W) (hf : f ∈ T) (g : GS w₀.heap.size nb lb wb X W) (hX : X.length ≤ 900000000) :
    Calls Tryz.prog 53 #[ptr f.s.p, yv wb nb lb] W fun e W' => e = .returned (.bool true) ∧ ∃ Y : List Ml, GS w₀.heap.size nb lb wb (X ++ Y) W' ∧ Y.map (·.1) = f.ms.toList ∧ KN w₀.heap.size (Xg lb wb) W W' := by
  have tm := h.tm.below hb
  have fd := tm.nd f hf
  have hs := hb.size
  rcases fd.ev with ⟨e1, e2⟩ | ⟨m, k, v, e1, e2, e3, e4⟩
  · have c1 : W.cell? ⟨f.s.p, 1, none⟩ = some (.pointer none) := by rw [← e1]; exact box_cells fd.at_ 1 _ rfl
    have END := hidi (show ∃ Y : List Ml, GS w₀.heap.size nb lb wb (X ++ Y) W ∧ Y.map (·.1) = f.ms.toList ∧ KN w₀.heap.size (Xg lb wb) W W from ⟨[], by rw [List.append_nil]; exact g, by rw [e2]; rfl, KN.refl W⟩)
    unfold yv ptr
    clear h hb hf g hX tm fd hs e1 e2
    go_enter Tryz.func53, Tryz.ntmps53
    go_wp2_with fail
    go_ret
    exact ⟨rfl, END.out⟩
  · have c1 : W.cell? ⟨f.s.p, 1, none⟩ = some (.pointer (some ⟨k, 0, none⟩)) := by rw [show (Value.pointer (some ⟨k, 0, none⟩)) = f.ev from e2.symm]; exact box_cells fd.at_ 1 _ rfl
    have mo := h.msk f hf m e1
    have hxl : m.xs.length ≤ 60000 := mo.2.2.2.1
    have AP := hidi (apart_any m (e4.pr (by unfold maxLen; omega)) (by omega))
    obtain ⟨b0, b1, b2, b3⟩ := box4 e3
    obtain ⟨va, vc, rfl⟩ := own_sl e4
    have GV := hidi (fun (w1 : World) (v' : Value) (ho : w1.ownsRow W.heap.size 5 1 v' m.xs.length (m.xs.map (Value.int .u8))) (hb1 : Below W.heap.size W w1) => (show Calls Tryz.prog 30 #[m.val v', ptr wb, ptr nb, ptr lb] w1 fun e W' => e = .returned (.bool true) ∧ ∃ Y : List Ml, GS w₀.heap.size nb lb wb (X ++ Y) W' ∧ Y.map (·.1) = f.ms.toList ∧ KN w₀.heap.size (Xg lb wb) W W' from by
      have h1 := hb1.size
      refine (given1_any (g.below hb1) (by omega) hX (show Pl w1 v' m.xs from own0 ho)).mono ?_
      rintro e W' ⟨rfl, a, b, c⟩
      exact ⟨rfl, [(m, v')], a, by rw [e1]; rfl, (KN.of hb1 hs).trans ⟨b, c⟩⟩))
    unfold yv ptr Msg.val Msg.cs at *
    clear h hb hf g hX tm fd hs e1 e2 e3 e4 mo hxl
    go_enter Tryz.func53, Tryz.ntmps53
    go_wp2_with (first
      | (go_at_call 45; refine AP.out.mono ?_; rintro e w1 ⟨v', rfl, ho, hb1⟩; obtain ⟨a', c', rfl⟩ := own_sl ho; have CC := hidi (GV.out w1 _ ho hb1); clear ho hb1 AP GV b0 b1 b2 b3 c1)
      | (go_at_call 30; refine CC.out.mono ?_; rintro e w2 ⟨rfl, hh⟩; have HH := hidi hh; clear hh CC))
    go_ret
    exact ⟨rfl, HH.out⟩
end Go.Proofs.YtipagdhoeocjeaaGreat.Li
namespace Go.Proofs.YtipagdhoeocjeaaGreat.Li
open Go Go.RowKit Go.Shelf
set_option linter.unusedSimpArgs false
set_option linter.unusedVariables false
variable {w₀ : World} {tb r nb lb wb : Nat} {nf nn : Int} {T : List Fn} {d : Fn} {W : World}
/-- A node's message, then what the nodes below it give. -/
def Blk (T : List Fn) (d : Fn) (K : List Fn) (Z : List Msg) : Prop := ∃ Zs : List (List Msg), Zs.length = K.length ∧ Z = d.ms.toList ++ Zs.flatten ∧ ∀ (i : Nat) (q : Fn) (z : List Msg), K[i]? = some q → Zs[i]? = some z → All T (fun F => q.s.A <+: F) z
theorem kid_form (h : Inv (T.map Fn.s)) {q : Fn} (hq : q ∈ T) (k : Kid d.s q.s) {F : List ByteArray} (hp : q.s.A <+: F) : ∃ R, F = d.s.A ++ fl q :: R := by
  have := atk_take k (fl_at h hq k.1)
  have lt := top_lt k.1 (h.le q.s (List.mem_map_of_mem hq)).1
  obtain ⟨c, rfl⟩ := hp
  refine ⟨q.s.A.drop (q.s.top + 1) ++ c, ?_⟩
  have e : q.s.A = (d.s.A ++ [fl q]) ++ q.s.A.drop (q.s.top + 1) := by rw [← this, List.take_append_drop]
  conv => lhs; rw [e]
  simp
theorem All.len {S : List ByteArray → Prop} {Y : List Msg} (h : All T S Y) : Y.length ≤ T.length := h.srt.len
theorem blk_all (h : Tw w₀ tb r nf nn T) (hd : d ∈ T) {K : List Fn} {Z : List Msg} (ko : KidsOrd T d K) (hz : Blk T d K Z) : All T (fun F => d.s.A <+: F) Z := by
  obtain ⟨Zs, l1, rfl, hz⟩ := hz
  have inv := h.tm.inv
  have at_ : ∀ z ∈ Zs, ∃ (i : Nat) (q : Fn), K[i]? = some q ∧ Zs[i]? = some z := fun z hz => by
    obtain ⟨i, hi⟩ := List.getElem?_of_mem hz
    have : i < Zs.length := (List.getElem?_eq_some_iff.1 hi).1
    exact ⟨i, K[i]'(by omega), List.getElem?_eq_getElem (by omega), hi⟩
  have own : ∀ m, m ∈ d.ms.toList → levels m.t = d.s.A ∧ HasM T d.s.A m := fun m hm => by
    have e : d.ms = some m := by
      cases c : d.ms with
      | none => rw [c] at hm; cases hm
      | some m' => rw [c] at hm; simp at hm; rw [hm]
    exact ⟨(h.msk d hd m e).2.1, d, hd, rfl, e⟩
  have kk : ∀ {i : Nat} {q : Fn}, K[i]? = some q → q ∈ T ∧ Kid d.s q.s := fun {i q} e => (ko.all q).1 (List.mem_of_getElem? e)
  have sub : ∀ (i : Nat) (q : Fn) (z : List Msg) (m : Msg), K[i]? = some q → Zs[i]? = some z → m ∈ z → q.s.A <+: levels m.t ∧ HasM T (levels m.t) m := fun i q z m e1 e2 e3 => ((hz i q z e1 e2).mem m).1 e3
  have mem : ∀ m, m ∈ d.ms.toList ++ Zs.flatten ↔ d.s.A <+: levels m.t ∧ HasM T (levels m.t) m := fun m => by
    constructor
    · intro hm
      rcases List.mem_append.1 hm with c | c
      · obtain ⟨e1, e2⟩ := own m c
        rw [e1]
        exact ⟨List.prefix_refl _, e2⟩
      · obtain ⟨z, z1, z2⟩ := List.mem_flatten.1 c
        obtain ⟨i, q, a, b⟩ := at_ z z1
        obtain ⟨e1, e2⟩ := sub i q z m a b z2
        exact ⟨(kk a).2.goes.trans e1, e2⟩
    · rintro ⟨hp, hm⟩
      obtain ⟨g, hg, e1, e2⟩ := hm
      by_cases c : levels m.t = d.s.A
      · obtain rfl := h.tm.same hg hd (e1.trans c)
        exact List.mem_append.2 (.inl (by rw [e2]; simp))
      · have hl : d.s.A.length < g.s.A.length := by
          rw [e1]
          rcases Nat.lt_or_ge d.s.A.length (levels m.t).length with o | o
          · exact o
          · exact (c (hp.eq_of_length (Nat.le_antisymm hp.length_le o)).symm).elim
        obtain ⟨e, he, ke, pe⟩ := inv.way _ g.s (List.mem_map_of_mem hg) (Nat.le_refl _) d.s (List.mem_map_of_mem hd) (by rw [e1]; exact hp) hl
        obtain ⟨q, hq, rfl⟩ := List.mem_map.1 he
        obtain ⟨i, hi⟩ := List.getElem?_of_mem ((ko.all q).2 ⟨hq, ke⟩)
        have hlt : i < K.length := (List.getElem?_eq_some_iff.1 hi).1
        have hzi : Zs[i]? = some (Zs[i]'(by omega)) := List.getElem?_eq_getElem (by omega)
        refine List.mem_append.2 (.inr (List.mem_flatten.2 ⟨_, List.mem_of_getElem? hzi, ((hz i q _ hi hzi).mem m).2 ⟨by rw [← e1]; exact pe, g, hg, e1, e2⟩⟩))
  refine ⟨mem, ⟨List.pairwise_append.2 ⟨?_, List.pairwise_flatten.2 ⟨fun z hz' => ?_, ?_⟩, fun a ha b hb => ?_⟩, fun m hm => ((mem m).1 hm).2⟩⟩
  · cases d.ms with
    | none => exact List.Pairwise.nil
    | some m => exact List.pairwise_singleton _ _
  · obtain ⟨i, q, a, b⟩ := at_ z hz'
    exact (hz i q z a b).srt.ord
  · rw [List.pairwise_iff_getElem]
    intro i j hi hj hij a ha b hb
    have ki : K[i]? = some (K[i]'(by omega)) := List.getElem?_eq_getElem (by omega)
    have kj : K[j]? = some (K[j]'(by omega)) := List.getElem?_eq_getElem (by omega)
    obtain ⟨R, hR⟩ := kid_form inv (kk ki).1 (kk ki).2 (sub i _ _ a ki (List.getElem?_eq_getElem hi) ha).1
    obtain ⟨R', hR'⟩ := kid_form inv (kk kj).1 (kk kj).2 (sub j _ _ b kj (List.getElem?_eq_getElem hj) hb).1
    rw [hR, hR']
    exact ltV_fork (List.pairwise_iff_getElem.1 ko.ord i j (by omega) (by omega) hij)
  · obtain ⟨e1, _⟩ := own a ha
    obtain ⟨z, z1, z2⟩ := List.mem_flatten.1 hb
    obtain ⟨i, q, c1, c2⟩ := at_ z z1
    obtain ⟨R, hR⟩ := kid_form inv (kk c1).1 (kk c1).2 (sub i q z b c1 c2 z2).1
    rw [e1, hR]
    exact ltV_more (List.prefix_append _ _) (fun e => by have := congrArg List.length e; simp at this)
theorem blk_next {K : List Fn} {Z Y : List Msg} {q : Fn} (h : Blk T d K Z) (hy : All T (fun F => q.s.A <+: F) Y) : Blk T d (K ++ [q]) (Z ++ Y) := by
  obtain ⟨Zs, l1, rfl, hz⟩ := h
  refine ⟨Zs ++ [Y], by simp [l1], by simp, fun i a z e1 e2 => ?_⟩
  rcases Nat.lt_or_ge i K.length with c | c
  · rw [List.getElem?_append_left c] at e1
    rw [List.getElem?_append_left (by omega)] at e2
    exact hz i a z e1 e2
  · rw [List.getElem?_append_right c] at e1
    rw [List.getElem?_append_right (by omega), l1] at e2
    cases e : i - K.length with
    | zero =>
      rw [e] at e1 e2
      simp at e1 e2
      rw [← e1, ← e2]
      exact hy
    | succ k =>
      rw [e] at e1
      simp at e1
def ipre (A B : List ByteArray) : Bool := decide (B.take A.length = A)
theorem ipre_iff {A B : List ByteArray} : ipre A B = true ↔ A <+: B := by
  unfold ipre
  rw [decide_eq_true_iff]
  refine ⟨fun h => ⟨B.drop A.length, ?_⟩, prefix_take⟩
  have := List.take_append_drop A.length B
  rw [h] at this
  exact this
/-- How many nodes lie at or below one. -/
def cnt (T : List Fn) (d : Fn) : Nat := (T.filter fun g => ipre d.s.A g.s.A).length
theorem cnt_kid {q : Fn} (hd : d ∈ T) (hq : q ∈ T) (hlt : d.s.A.length < q.s.A.length) (hp : d.s.A <+: q.s.A) : cnt T q < cnt T d := by
  unfold cnt
  have s1 : ∀ g ∈ T, ipre q.s.A g.s.A = true → ipre d.s.A g.s.A = true := fun g _ c => ipre_iff.2 (hp.trans (ipre_iff.1 c))
  have s2 : ipre q.s.A d.s.A = false := by
    cases c : ipre q.s.A d.s.A with
    | false => rfl
    | true => have := (ipre_iff.1 c).length_le; omega
  have s3 : ipre d.s.A d.s.A = true := ipre_iff.2 (List.prefix_refl _)
  clear hq hlt hp
  induction T with
  | nil => cases hd
  | cons a T ih =>
    have le : ∀ T' : List Fn, (∀ g ∈ T', ipre q.s.A g.s.A = true → ipre d.s.A g.s.A = true) → (T'.filter fun g => ipre q.s.A g.s.A).length ≤ (T'.filter fun g => ipre d.s.A g.s.A).length := fun T' => by
      induction T' with
      | nil => intro _; exact Nat.le_refl _
      | cons b T' ih' =>
        intro hs
        have i1 := ih' (fun g hg => hs g (List.mem_cons_of_mem _ hg))
        have i2 := hs b List.mem_cons_self
        rw [List.filter_cons, List.filter_cons]
        cases c : ipre q.s.A b.s.A with
        | true => rw [i2 c]; simpa using i1
        | false =>
          simp only [Bool.false_eq_true, if_false]
          split
          · simp; omega
          · exact i1
    rcases List.mem_cons.1 hd with e | hd'
    · subst e
      have := le T (fun g hg => s1 g (List.mem_cons_of_mem _ hg))
      rw [List.filter_cons, List.filter_cons, s2, s3]
      simp
      omega
    · have i1 := ih hd' (fun g hg => s1 g (List.mem_cons_of_mem _ hg))
      have i2 := s1 a List.mem_cons_self
      rw [List.filter_cons, List.filter_cons]
      cases c : ipre q.s.A a.s.A with
      | true => rw [i2 c]; simpa using i1
      | false =>
        simp only [Bool.false_eq_true, if_false]
        split
        · simp; omega
        · exact i1
theorem cnt_le : cnt T d ≤ T.length := List.length_filter_le _ _
theorem KN.then_below {n₀ : Nat} {X : Nat → Nat → Prop} {W A B : World} (h : KN n₀ X W A) (hb : Below W.heap.size A B) (hn : n₀ ≤ W.heap.size) : KN n₀ X W B :=
  ⟨⟨h.kn.be.trans (hb.mono hn), fun k cs t fz e hx => (hb.block k (Array.getElem?_eq_some_iff.1 e).1).trans (h.kn.cl k cs t fz e hx)⟩, fun k o e ho => (hb.block k (Array.getElem?_eq_some_iff.1 e).1).trans (h.nc k o e ho)⟩
end Go.Proofs.YtipagdhoeocjeaaGreat.Li
namespace Go.Proofs.YtipagdhoeocjeaaGreat.Li
open Go Go.RowKit Go.Shelf
set_option linter.unusedSimpArgs false
set_option linter.unusedVariables false
attribute [local go_sem] Oper.semAt_some
variable {w₀ : World} {tb r nb lb wb : Nat} {nf nn : Int} {T : List Fn}
theorem opg {α : Type} {B : Nat} {Kp : World → World → Prop} {I : List α → World → Prop} {Ix : Code → List α → World → Prop} {xs : List α} {W W' : World} {a : Act} (h : KeepsFrom B W W' ∧ Kp W W' ∧ I xs W') : ownPostG B Kp I Ix xs W .normal a W' := h
theorem results_cell4 {fn : Func} {p : Tmp} (h : fn.results = #[.cell p 4]) (tmps : Array Value) (w : World) (g : Nat) (b : Bool)
    (hp : tmps.getD p undef = .pointer (some ⟨g, 0, none⟩)) (hg : w.cell? ⟨g, 0, none⟩ = some (.bool b)) : (results fn tmps).run Tryz.prog w = .ok (.bool b) w := by
  have hp' : tmps[p]?.getD undef = .pointer (some ⟨g, 0, none⟩) := by simpa using hp
  have hl : (loadVar 4 ⟨g, 0, none⟩).run Tryz.prog w = .ok (.bool b) w := by
    simp [loadVar, Tryz.isAgg4, hg, go_sem]
  simp [results, h, hp', asAddr, hl]
/-- What is so between two nodes that are gone through. -/
structure TJ (w₀ : World) (nb lb wb : Nat) (T : List Fn) (d : Fn) (X : List Ml) (W : World) (y : Value) (K : List Fn) (W' : World) : Prop where
  ex : ∃ Y : List Ml, GS w₀.heap.size nb lb wb (X ++ Y) W' ∧ Blk T d K (Y.map (·.1)) ∧ Y.length ≤ 1 + K.length * T.length
  kn : KN w₀.heap.size (Xg lb wb) W W'
  b1 : W'.heap[W.heap.size]? = some (.cells #[y] 63 (0, 0))
  b2 : W'.heap[W.heap.size + 1]? = some (.cells #[.bool false] 4 (0, 0))
theorem TJ.own {d : Fn} {X : List Ml} {W w1 : World} {y : Value} (hn : w₀.heap.size ≤ W.heap.size) (h01 : W.heap.size ≤ w1.heap.size) : OwnFrom w1.heap.size (fun (pre : List (Kd T d)) W' => TJ w₀ nb lb wb T d X W y (pre.map (·.1)) W') := by
  rintro s A B row ⟨⟨Y, g, bk, le⟩, kn, b1, b2⟩ hg hr
  have cg := cells_grown hg (fun k e => (hr k e).2)
  exact ⟨⟨Y, g.stay cg, bk, le⟩, kn.grown hg (fun k e => ⟨by have := (hr k e).1; omega, (hr k e).2⟩) hn, cg _ _ _ _ b1, cg _ _ _ _ b2⟩
set_option maxRecDepth 100000 in
set_option maxHeartbeats 8000000 in
theorem tell_any (h : Tw w₀ tb r nf nn T) : ∀ (n : Nat) (W : World) (d : Fn) (X : List Ml), Below w₀.heap.size w₀ W → d ∈ T → GS w₀.heap.size nb lb wb X W → cnt T d ≤ n → X.length + n * (T.length * T.length + 1) ≤ 800000000 →
    Calls Tryz.prog 32 #[ptr d.s.p, yv wb nb lb] W fun e W' => e = .returned (.bool true) ∧ ∃ Y : List Ml, GS w₀.heap.size nb lb wb (X ++ Y) W' ∧ All T (fun F => d.s.A <+: F) (Y.map (·.1)) ∧ KN w₀.heap.size (Xg lb wb) W W'
  | 0, W, d, X, hb, hd, g, hc, hX => by
    have : 0 < cnt T d := by
      unfold cnt
      exact List.length_pos_of_mem (List.mem_filter.2 ⟨hd, ipre_iff.2 (List.prefix_refl _)⟩)
    omega
  | n + 1, W, d, X, hb, hd, g, hc, hX => by
    have IH := hidi (fun (W : World) (q : Kd T d) (X : List Ml) (hb : Below w₀.heap.size w₀ W) (g : GS w₀.heap.size nb lb wb X W) (hX : X.length + n * (T.length * T.length + 1) ≤ 800000000) => tell_any h n W q.1 X hb q.2.1 g (by have := cnt_kid hd q.2.1 (q.2.2.lt (h.tm.inv.le _ (List.mem_map_of_mem q.2.1)).1) q.2.2.goes; omega) hX)
    have hs := hb.size
    obtain ⟨y, hy⟩ : ∃ y, y = yv wb nb lb := ⟨_, rfl⟩
    rw [← hy]
    obtain ⟨wa, hwa⟩ : ∃ wa, wa = (W.alloc (.cells #[y] 63)).alloc (.cells #[.bool false] 4) := ⟨_, rfl⟩
    obtain ⟨a1, a2, a3⟩ := two_alloc W (.cells #[y] 63) (.cells #[.bool false] 4)
    have ba := two_below W (.cells #[y] 63) (.cells #[.bool false] 4)
    have hmul : (n + 1) * (T.length * T.length + 1) = n * (T.length * T.length + 1) + (T.length * T.length + 1) := by rw [Nat.succ_mul]
    have hlo := g.lo
    obtain ⟨lv, hl0, -⟩ := g.l_
    have lbl : lb < W.heap.size := (Array.getElem?_eq_some_iff.1 hl0).1
    have wbl : wb < W.heap.size := (Array.getElem?_eq_some_iff.1 g.w_).1
    have GV := hidi (fun (e : wa = (W.alloc (.cells #[y] 63)).alloc (.cells #[.bool false] 4)) => (show Calls Tryz.prog 53 #[ptr d.s.p, y] wa fun e W' => e = .returned (.bool true) ∧ ∃ Y : List Ml, Y.map (·.1) = d.ms.toList ∧ TJ w₀ nb lb wb T d X W y [] W' from by
      rw [hy]
      refine (give_any (W := wa) (f := d) h (hb.trans (by rw [e]; exact ba.mono hs)) hd (g.below (by rw [e]; exact ba)) (by omega)).mono ?_
      rintro e' W' ⟨rfl, Y, g1, e1, kn⟩
      have k0 : KN w₀.heap.size (Xg lb wb) W wa := by rw [e]; exact KN.of ba hs
      have yl : Y.length ≤ 1 := by
        have := congrArg List.length e1
        rw [List.length_map] at this
        rw [this]
        cases d.ms <;> simp
      have z1 : wa.heap[W.heap.size]? = some (.cells #[y] 63 (0, 0)) := by rw [e]; exact a1
      have z2 : wa.heap[W.heap.size + 1]? = some (.cells #[.bool false] 4 (0, 0)) := by rw [e]; exact a2
      refine ⟨rfl, Y, e1, ⟨⟨Y, g1, ⟨[], rfl, by rw [e1]; simp, fun i q z e2 _ => by simp at e2⟩, by simpa using yl⟩, k0.trans kn, ?_, ?_⟩⟩
      · rw [← hy]
        exact kn.kn.cl _ _ _ _ z1 (fun c => by rcases c with c | c | c <;> omega)
      · exact kn.kn.cl _ _ _ _ z2 (fun c => by rcases c with c | c | c <;> omega)))
    have IO := hidi (fun (w1 : World) (kn : KN w₀.heap.size (Xg lb wb) W w1) => inorder_any (w := w1) (h.tm.below (hb.trans kn.kn.be)) hd (by have := h.few; omega))
    have HW := hidi hwa
    have c1 : wa.cell? ⟨W.heap.size, 0, none⟩ = some y := by rw [hwa]; exact box_cells a1 0 _ rfl
    have HH := hidi (And.intro h (And.intro hb (And.intro hd (And.intro hX (And.intro hs (And.intro hmul (And.intro lbl wbl)))))))
    obtain ⟨wf, yb, hyv⟩ : ∃ wf yb, y = .func wf #[] yb := ⟨_, _, hy⟩
    have HY := hidi hy
    subst hyv
    unfold ptr at *
    rw [hwa] at c1
    clear h hb hd g hc hX hs hy ba a1 a2 a3 hmul hlo hl0 lbl wbl hwa
    refine (callsIn_wide (n := 5)).1 ?_
    refine callsIn_of_wp_marks Tryz.func32 rfl trivial ?_ rfl
    simp only [Tryz.ntmps32, List.size_toArray, List.length_cons, List.length_nil, Nat.reduceAdd, Nat.reduceSub, Array.replicate_succ, Array.replicate_zero, List.push_toArray, List.append_toArray, List.nil_append, List.cons_append]
    gi_wp2_with (first
      | (refine ⟨trivial, ?_⟩; gi_at_call 53; rw [← HW.out]; refine ((callsIn_wide (n := _)).2 (GV.out HW.out)).mono ?_; rintro e w1 ⟨rfl, Y0, hy0, tj⟩; have TJ1 := hidi tj; clear hy0 tj GV c1)
      | (refine ⟨trivial, ?_⟩; gi_at_call 54; refine ((callsIn_wide (n := _)).2 (IO.out w1 TJ1.out.kn)).mono ?_; rintro e w2 ⟨bs, K, rfl, ka, ko, hbs, hb2⟩; have HK := hidi (And.intro ka (And.intro ko (And.intro hbs hb2))); clear ka ko hbs hb2 IO))
    obtain ⟨hT, hbW, hdT, hXn, hsW, hmul, lbl, wbl⟩ := HH.out
    obtain ⟨ka, ko, hbs, hb2⟩ := HK.out
    have tj1 := TJ1.out
    have s1 := tj1.kn.kn.be.size
    have s2 := hb2.size
    have sWb : W.heap.size + 1 < w1.heap.size := (Array.getElem?_eq_some_iff.1 tj1.b2).1
    have tj2 : TJ w₀ nb lb wb T d X W (.func wf #[] yb) [] w2 := by
      obtain ⟨⟨Y, g, bk, le⟩, kn, b1, b2⟩ := tj1
      exact ⟨⟨Y, g.below hb2, bk, le⟩, kn.trans (KN.of hb2 (by omega)), later_at b1 hb2, later_at b2 hb2⟩
    have hKl : K.length ≤ T.length := by have := ko.len; rwa [List.length_map] at this
    refine wpIn_rangeFunc_ownG rfl (by omega) (gf := 81) (lb := #[ptr bs]) rfl trivial (enters_of Tryz.func81 (by kernel_rfl) rfl)
      (vals81_stops (n₀ := w₀.heap.size) (X := Xg lb wb) ka (by have := hT.few; omega) (fun j hj c => by rcases c with c | c | c <;> omega) (fun c => by rcases c with c | c | c <;> omega) 4 (by omega)) Kn_t (fun W l o o' a b c e => Kn_b (by omega) W l o o' a b c e) (Below.refl _ _) (fun _ => rfl)
      (fun pre W' => TJ w₀ nb lb wb T d X W (.func wf #[] yb) (pre.map (·.1)) W') (fun _ _ _ => False)
      (TJ.own hsW (by omega)) (fun _ _ _ _ _ hs _ _ => hs) tj2
      (fun x => { tmps := #[Value.pointer (some { block := d.s.p, off := 0 }), Value.func wf #[] yb, undef, Value.pointer (some { block := W.heap.size, off := 0 }), Value.pointer (some { block := W.heap.size + 1, off := 0 }), enc x, Value.pointer (some { block := d.s.p, off := 0 }), Value.func wf #[] yb, Value.bool true, Value.bool false, Value.pointer (some { block := d.s.p, off := 0 }), Value.func (Fn.func 81) #[] #[Value.pointer (some { block := bs, off := 0 })], enc x, undef, undef, undef, undef], defers := [] }) ?assign ?body ?done ?stop
    case assign =>
      intro l x W K hK
      unfold enc ptr
      gi_wp2
      exact hK
    case stop =>
      intro D c pre W _ _ h _
      exact h.elim
    case body =>
      rintro l pre x W' tj hlt
      obtain ⟨⟨Y, gY, bk, le⟩, kn, b1, b2⟩ := tj
      have e1 := box_cells b1 0 _ rfl
      have hpre : (pre.map (·.1)).length + 1 ≤ T.length := by rw [List.length_map]; omega
      have hmm : (pre.map (·.1)).length * T.length + T.length ≤ T.length * T.length := by
        have := Nat.mul_le_mul_right T.length hpre
        rw [Nat.succ_mul] at this
        exact this
      have RC := hidi (IH.out W' x (X ++ Y) (hbW.trans kn.kn.be) gY (by rw [List.length_append]; omega))
      have FIN := hidi (fun (W2 : World) (Y2 : List Ml) (g2 : GS w₀.heap.size nb lb wb (X ++ Y ++ Y2) W2) (al : All T (fun F => x.1.s.A <+: F) (Y2.map (·.1))) (k2 : KN w₀.heap.size (Xg lb wb) W' W2) => (show KeepsFrom w2.heap.size W' W2 ∧ Kn w₀.heap.size (Xg lb wb) W' W2 ∧ TJ w₀ nb lb wb T d X W (.func wf #[] yb) ((pre ++ [x]).map (·.1)) W2 from by
        refine ⟨k2.from _, k2.kn, ⟨Y ++ Y2, by rw [← List.append_assoc]; exact g2, ?_, ?_⟩, kn.trans k2, k2.kn.cl _ _ _ _ b1 (fun c => by rcases c with c | c | c <;> omega), k2.kn.cl _ _ _ _ b2 (fun c => by rcases c with c | c | c <;> omega)⟩
        · rw [List.map_append, List.map_append]
          exact blk_next bk al
        · have := al.len
          rw [List.length_map] at this
          rw [List.length_append, List.map_append, List.length_append, List.map_cons, List.map_nil, List.length_singleton, Nat.succ_mul]
          omega))
      rw [← HY.out] at RC
      unfold enc ptr
      clear gY bk le kn b1 b2 hmm hpre
      gi_wp2_with (refine ⟨trivial, ?_⟩; gi_at_call 32; refine ((callsIn_wide (n := _)).2 RC.out).mono ?_; rintro e W2 ⟨rfl, Y2, g2, al, k2⟩; have FF := hidi (FIN.out W2 Y2 g2 al k2); clear g2 al k2 FIN RC)
      exact opg FF.out
    case done =>
      rintro D ys W' hD hys tj hK
      obtain rfl : ys = K := hys
      obtain ⟨⟨Y, gY, bk, le⟩, kn, b1, b2⟩ := tj
      have f2 := box_frozen b2 0
      have e2 := box_cells b2 0 _ rfl
      gi_wp2
      have s3 := kn.kn.be.size
      have dn : D ≠ W.heap.size + 1 := by omega
      obtain ⟨W3, hW3⟩ : ∃ W3, W3 = W'.setCell ⟨W.heap.size + 1, 0, none⟩ (.bool true) := ⟨_, rfl⟩
      rw [← hW3]
      have c3 : Ch (fun j => j = W.heap.size + 1) W' W3 := by rw [hW3]; exact ch_set _ 0 _
      have hK3 : W3.heap[D]? = some (.deferred (some [])) := (c3.block D (Array.getElem?_eq_some_iff.1 hK).1 dn).trans hK
      have b3 : W3.heap[W.heap.size + 1]? = some (.cells #[.bool true] 4 (0, 0)) := by rw [hW3, heap_set b2]; rfl
      have bl : Below W.heap.size W' (W3.putObj D (.deferred none)) := by
        refine ⟨c3.os, c3.tape, c3.output, by have := c3.size; simpa [World.putObj] using this, fun k hk => ?_⟩
        have hk2 : k < W.heap.size := hk
        rw [World.putObj_heap_other (show k ≠ D by omega)]
        exact c3.block k (by omega) (by omega)
      refine ⟨by simp, .inl ⟨_, _, rfl, run_takeDeferred hK3, ?_⟩⟩
      refine ⟨_, results_cell4 rfl _ _ (W.heap.size + 1) true rfl (box_cells ((World.putObj_heap_other (fun e => dn e.symm)).trans b3) 0 _ rfl), rfl, Y, ?_, blk_all hT hdT ko bk, kn.then_below bl hsW⟩
      obtain ⟨gn, gw, ⟨v, gl, gr⟩, gp, glo⟩ := gY
      have st : ∀ (k : Nat) (cs : Array Value) (t : Nat) (fz : Nat × Nat), W'.heap[k]? = some (.cells cs t fz) → k ≠ W.heap.size + 1 → (W3.putObj D (.deferred none)).heap[k]? = some (.cells cs t fz) := fun k cs t fz e hk => by
        have e3 := (c3.block k (Array.getElem?_eq_some_iff.1 e).1 hk).trans e
        rw [World.putObj_heap_other (fun q => by rw [q, hK3] at e3; cases e3)]
        exact e3
      have ro : ∀ {B e s n : Nat} {v : Value} {xs : List Value}, e ≠ 4 → W'.ownsRow B e s v n xs → (W3.putObj D (.deferred none)).ownsRow B e s v n xs := fun {B e s n v xs} he ho => by
        refine ⟨ho.1, ?_⟩
        rcases ho.2 with q | ⟨g, cap, cur, hv, a, b, c⟩
        · exact .inl q
        · exact .inr ⟨g, cap, cur, hv, a, st _ _ _ _ b (fun q => by rw [q, b2] at b; simp at b; exact he b.2.symm), c⟩
      refine ⟨st _ _ _ _ gn (fun q => by rw [q, b2] at gn; cases gn), st _ _ _ _ gw (fun q => by omega), ⟨v, st _ _ _ _ gl (fun q => by omega), ro (by decide) gr⟩, fun x hx => ro (by decide) (gp x hx), glo⟩
end Go.Proofs.YtipagdhoeocjeaaGreat.Li
namespace Go.Proofs.YtipagdhoeocjeaaGreat.Li
open Go Go.RowKit Go.Shelf
set_option linter.unusedSimpArgs false
set_option linter.unusedVariables false
def hsh : ByteArray := ⟨#[35]⟩
def pls : ByteArray := ⟨#[43]⟩
theorem un_hsh {x : ByteArray} : unB x = [35] ↔ x = hsh := ⟨fun h => un_inj h, fun h => by rw [h]; rfl⟩
theorem un_pls {x : ByteArray} : unB x = [43] ↔ x = pls := ⟨fun h => un_inj h, fun h => by rw [h]; rfl⟩
/-- Do a filter's levels match a topic's? -/
def mtb (L F : List ByteArray) : Bool := mt (L.map unB) (F.map unB)
theorem mtb_nil (F : List ByteArray) : mtb [] F = true ↔ F = [] := by
  unfold mtb
  cases F <;> simp [mt]
theorem mtb_hash (L F : List ByteArray) : mtb (hsh :: L) F = true := by
  unfold mtb
  rw [List.map_cons]
  unfold mt
  rw [if_pos (un_hsh.2 rfl)]
theorem mtb_end {x : ByteArray} (hx : x ≠ hsh) (L : List ByteArray) : mtb (x :: L) [] = false := by
  unfold mtb
  rw [List.map_cons]
  unfold mt
  rw [if_neg (fun c => hx (un_hsh.1 c))]
  rfl
theorem mtb_on {x y : ByteArray} (hx : x ≠ hsh) (h : x = pls ∨ x = y) (L F : List ByteArray) : mtb (x :: L) (y :: F) = mtb L F := by
  unfold mtb
  rw [List.map_cons, List.map_cons]
  rw [mt, if_neg (fun c => hx (un_hsh.1 c)), if_neg]
  rintro ⟨a, b⟩
  rcases h with h | h
  · exact a (un_pls.2 h)
  · exact b (by rw [h])
theorem mtb_off {x y : ByteArray} (hx : x ≠ hsh) (h1 : x ≠ pls) (h2 : x ≠ y) (L F : List ByteArray) : mtb (x :: L) (y :: F) = false := by
  unfold mtb
  rw [List.map_cons, List.map_cons]
  rw [mt, if_neg (fun c => hx (un_hsh.1 c)), if_pos ⟨fun c => h1 (un_pls.1 c), fun c => h2 (un_inj c)⟩]
variable {w₀ : World} {tb r : Nat} {nf nn : Int} {T : List Fn} {d q : Fn}
/-- The levels that a filter's levels match, from a node's edge on. -/
def Mt (L : List ByteArray) (q : Fn) (F : List ByteArray) : Prop := q.s.A <+: F ∧ mtb L (F.drop q.s.top) = true
theorem all_none {S : List ByteArray → Prop} (h : ∀ F, (∃ m, HasM T F m) → ¬ S F) : All T S [] :=
  ⟨fun m => ⟨fun c => by (cases c), fun c => (h _ ⟨m, c.2⟩ c.1).elim⟩, Srt.nil T⟩
theorem edge_drop {F : List ByteArray} (hq : q.s.m ≤ q.s.A.length) (h : q.s.A <+: F) {i : Nat} {y : ByteArray} (hy : q.s.edge[i]? = some y) : F.drop (q.s.top + i) = y :: F.drop (q.s.top + i + 1) := by
  have e := edge_at q.s i
  rw [hy] at e
  obtain ⟨c, rfl⟩ := h
  obtain ⟨hi, ei⟩ := List.getElem?_eq_some_iff.1 e.symm
  have : (q.s.A ++ c)[q.s.top + i]? = some y := by rw [List.getElem?_append_left hi]; exact e.symm
  obtain ⟨h2, e2⟩ := List.getElem?_eq_some_iff.1 this
  rw [List.drop_eq_getElem_cons h2, e2]
/-- While an edge is gone along: what is left, and how far. -/
def Al (q : Fn) (L Li : List ByteArray) (i : Nat) : Prop := ∀ F, q.s.A <+: F → mtb L (F.drop q.s.top) = mtb Li (F.drop (q.s.top + i))
theorem Al.start (L : List ByteArray) : Al q L L 0 := fun F _ => rfl
theorem Al.next {L Li : List ByteArray} {i : Nat} {x y : ByteArray} (h : Al q L (x :: Li) i) (hq : q.s.m ≤ q.s.A.length) (hy : q.s.edge[i]? = some y) (hx : x ≠ hsh) (hm : x = pls ∨ x = y) : Al q L Li (i + 1) := fun F hF => by
  rw [h F hF, edge_drop hq hF hy, mtb_on hx hm, Nat.add_assoc]
theorem Al.stop {L : List ByteArray} {i : Nat} {y : ByteArray} (h : Al q L [] i) (hq : q.s.m ≤ q.s.A.length) (hy : q.s.edge[i]? = some y) : All T (Mt L q) [] := all_none (fun F _ c => by
  rw [Mt, h F c.1, edge_drop hq c.1 hy] at c
  have := (mtb_nil _).1 c.2
  cases this)
theorem Al.off {L Li : List ByteArray} {i : Nat} {x y : ByteArray} (h : Al q L (x :: Li) i) (hq : q.s.m ≤ q.s.A.length) (hy : q.s.edge[i]? = some y) (hx : x ≠ hsh) (h1 : x ≠ pls) (h2 : x ≠ y) : All T (Mt L q) [] := all_none (fun F _ c => by
  rw [Mt, h F c.1, edge_drop hq c.1 hy, mtb_off hx h1 h2] at c
  cases c.2)
theorem Al.hash {L Li : List ByteArray} {i : Nat} {Y : List Msg} (h : Al q L (hsh :: Li) i) (hY : All T (fun F => q.s.A <+: F) Y) : All T (Mt L q) Y :=
  hY.ext (fun F _ => ⟨fun c => ⟨c, by rw [h F c]; exact mtb_hash _ _⟩, fun c => c.1⟩)
theorem top_m (hq : q.s.m ≤ q.s.A.length) : q.s.top + q.s.m = q.s.A.length := len_take q.s hq
/-- Nothing is left behind the edge: the node's own message. -/
theorem Al.own (hw : Tw w₀ tb r nf nn T) (hqT : q ∈ T) {L : List ByteArray} (h : Al q L [] q.s.m) {Y : List Msg} (hY : Y = q.ms.toList) : All T (Mt L q) Y := by
  have hq := (hw.tm.inv.le q.s (List.mem_map_of_mem hqT)).1
  have own : ∀ m, m ∈ q.ms.toList ↔ q.ms = some m := fun m => by cases q.ms <;> simp [eq_comm]
  subst hY
  refine ⟨fun m => ?_, ⟨?_, fun m hm => ?_⟩⟩
  · rw [own]
    constructor
    · intro e
      have e2 := (hw.msk q hqT m e).2.1
      rw [e2]
      refine ⟨⟨List.prefix_refl _, ?_⟩, q, hqT, rfl, e⟩
      rw [h _ (List.prefix_refl _), top_m hq]
      exact (mtb_nil _).2 (by simp)
    · rintro ⟨⟨a, b⟩, g, hg, e1, e2⟩
      rw [h _ a, top_m hq] at b
      have := (mtb_nil _).1 b
      have e3 : levels m.t = q.s.A := by
        obtain ⟨c, hc⟩ := a
        rw [← hc, List.drop_left] at this
        rw [← hc, this, List.append_nil]
      obtain rfl := hw.tm.same hg hqT (e1.trans e3)
      exact e2
  · cases q.ms with
    | none => exact List.Pairwise.nil
    | some m => exact List.pairwise_singleton _ _
  · have e := (own m).1 hm
    rw [(hw.msk q hqT m e).2.1]
    exact ⟨q, hqT, rfl, e⟩
/-- No edge begins with the level that is wanted next. -/
theorem Al.none (hw : Tw w₀ tb r nf nn T) (hqT : q ∈ T) {L Li : List ByteArray} {x : ByteArray} (h : Al q L (x :: Li) q.s.m) (hx : x ≠ hsh) (h1 : x ≠ pls) (no : ∀ e, ¬ AtK (T.map Fn.s) q.s x e) : All T (Mt L q) [] := all_none (fun F hF c => by
  have hq := (hw.tm.inv.le q.s (List.mem_map_of_mem hqT)).1
  obtain ⟨m, g, hg, e1, e2⟩ := hF
  have c2 := c.2
  rw [h F c.1, top_m hq] at c2
  cases hd : F.drop q.s.A.length with
  | nil => rw [hd, mtb_end hx] at c2; cases c2
  | cons y R =>
    rw [hd] at c2
    by_cases e : x = y
    · subst e
      refine hw.tm.inv.none_ (List.mem_map_of_mem hqT) no (R := []) g.s (List.mem_map_of_mem hg) ?_
      rw [e1]
      obtain ⟨k, hk⟩ := c.1
      rw [← hk, List.drop_left] at hd
      rw [← hk, hd]
      exact ⟨R, by simp⟩
    · rw [mtb_off hx h1 e] at c2; cases c2)
/-- The way goes on from the one kid. -/
theorem Al.kid (hw : Tw w₀ tb r nf nn T) (hqT : q ∈ T) {k : Fn} (hk : k ∈ T) {L Li : List ByteArray} {x : ByteArray} (h : Al q L (x :: Li) q.s.m) (hx : x ≠ hsh) (h1 : x ≠ pls) (ak : AtK (T.map Fn.s) q.s x k.s) : ∀ F, (∃ m, HasM T F m) → (Mt (x :: Li) k F ↔ Mt L q F) := fun F hF => by
  have hq := (hw.tm.inv.le q.s (List.mem_map_of_mem hqT)).1
  have kt : k.s.top = q.s.A.length := ak.2.1.2.1
  constructor
  · rintro ⟨a, b⟩
    have p := ak.2.1.goes.trans a
    refine ⟨p, ?_⟩
    rw [h F p, top_m hq, ← kt]
    exact b
  · rintro ⟨a, b⟩
    have b2 := b
    rw [h F a, top_m hq] at b2
    refine ⟨?_, by rw [kt]; exact b2⟩
    obtain ⟨m, g, hg, e1, e2⟩ := hF
    cases hd : F.drop q.s.A.length with
    | nil => rw [hd, mtb_end hx] at b2; cases b2
    | cons y R =>
      rw [hd] at b2
      by_cases e : x = y
      · subst e
        obtain ⟨c, hc⟩ := a
        rw [← hc, List.drop_left] at hd
        have hF2 : F = q.s.A ++ x :: R := by rw [← hc, hd]
        obtain ⟨e', he, ke, pe⟩ := hw.tm.inv.way _ g.s (List.mem_map_of_mem hg) (Nat.le_refl _) q.s (List.mem_map_of_mem hqT) (by rw [e1, hF2]; exact List.prefix_append _ _) (by rw [e1, hF2]; simp)
        have tl := top_lt ke.1 (hw.tm.inv.le e' he).1
        have ax : AtK (T.map Fn.s) q.s x e' := ⟨he, ke, by
          obtain ⟨c', hc'⟩ := pe
          have : e'.A[e'.top]? = g.s.A[e'.top]? := by rw [← hc', List.getElem?_append_left tl]
          rw [this, e1, hF2, ke.2.1]
          simp⟩
        have := hw.tm.inv.atk ax ak
        rw [← this, ← e1]
        exact pe
      · rw [mtb_off hx h1 e] at b2; cases b2
/-- A block of messages for each kid, of those that a kind of levels has. -/
def BlkP (T : List Fn) (P : Fn → List ByteArray → Prop) (K : List Fn) (Z : List Msg) : Prop := ∃ Zs : List (List Msg), Zs.length = K.length ∧ Z = Zs.flatten ∧ ∀ (i : Nat) (q : Fn) (z : List Msg), K[i]? = some q → Zs[i]? = some z → All T (fun F => q.s.A <+: F ∧ P q F) z
theorem blkp_nil (P : Fn → List ByteArray → Prop) : BlkP T P [] [] := ⟨[], rfl, rfl, fun i q z e _ => by simp at e⟩
theorem blkp_next {P : Fn → List ByteArray → Prop} {K : List Fn} {Z Y : List Msg} {q : Fn} (h : BlkP T P K Z) (hy : All T (fun F => q.s.A <+: F ∧ P q F) Y) : BlkP T P (K ++ [q]) (Z ++ Y) := by
  obtain ⟨Zs, l1, rfl, hz⟩ := h
  refine ⟨Zs ++ [Y], by simp [l1], by simp, fun i a z e1 e2 => ?_⟩
  rcases Nat.lt_or_ge i K.length with c | c
  · rw [List.getElem?_append_left c] at e1
    rw [List.getElem?_append_left (by omega)] at e2
    exact hz i a z e1 e2
  · rw [List.getElem?_append_right c] at e1
    rw [List.getElem?_append_right (by omega), l1] at e2
    cases e : i - K.length with
    | zero =>
      rw [e] at e1 e2
      simp at e1 e2
      rw [← e1, ← e2]
      exact hy
    | succ k =>
      rw [e] at e1
      simp at e1
/-- All that the kids gave, in order: what is strictly below the node. -/
theorem blkp_all (hw : Tw w₀ tb r nf nn T) (hd : d ∈ T) {P : Fn → List ByteArray → Prop} {K : List Fn} {Z : List Msg} (ko : KidsOrd T d K) (hz : BlkP T P K Z) : All T (fun F => ∃ q ∈ T, Kid d.s q.s ∧ q.s.A <+: F ∧ P q F) Z := by
  obtain ⟨Zs, l1, rfl, hz⟩ := hz
  have inv := hw.tm.inv
  have at_ : ∀ z ∈ Zs, ∃ (i : Nat) (q : Fn), K[i]? = some q ∧ Zs[i]? = some z := fun z hz => by
    obtain ⟨i, hi⟩ := List.getElem?_of_mem hz
    have : i < Zs.length := (List.getElem?_eq_some_iff.1 hi).1
    exact ⟨i, K[i]'(by omega), List.getElem?_eq_getElem (by omega), hi⟩
  have kk : ∀ {i : Nat} {q : Fn}, K[i]? = some q → q ∈ T ∧ Kid d.s q.s := fun {i q} e => (ko.all q).1 (List.mem_of_getElem? e)
  have mem : ∀ m, m ∈ Zs.flatten ↔ (∃ q ∈ T, Kid d.s q.s ∧ q.s.A <+: levels m.t ∧ P q (levels m.t)) ∧ HasM T (levels m.t) m := fun m => by
    constructor
    · intro c
      obtain ⟨z, z1, z2⟩ := List.mem_flatten.1 c
      obtain ⟨i, q, a, b⟩ := at_ z z1
      obtain ⟨⟨e1, e3⟩, e2⟩ := ((hz i q z a b).mem m).1 z2
      exact ⟨⟨q, (kk a).1, (kk a).2, e1, e3⟩, e2⟩
    · rintro ⟨⟨q, hq, kq, e1, e3⟩, hm⟩
      obtain ⟨i, hi⟩ := List.getElem?_of_mem ((ko.all q).2 ⟨hq, kq⟩)
      have hlt : i < K.length := (List.getElem?_eq_some_iff.1 hi).1
      have hzi : Zs[i]? = some (Zs[i]'(by omega)) := List.getElem?_eq_getElem (by omega)
      exact List.mem_flatten.2 ⟨_, List.mem_of_getElem? hzi, ((hz i q _ hi hzi).mem m).2 ⟨⟨e1, e3⟩, hm⟩⟩
  refine ⟨mem, ⟨List.pairwise_flatten.2 ⟨fun z hz' => ?_, ?_⟩, fun m hm => ((mem m).1 hm).2⟩⟩
  · obtain ⟨i, q, a, b⟩ := at_ z hz'
    exact (hz i q z a b).srt.ord
  · rw [List.pairwise_iff_getElem]
    intro i j hi hj hij a ha b hb
    have ki : K[i]? = some (K[i]'(by omega)) := List.getElem?_eq_getElem (by omega)
    have kj : K[j]? = some (K[j]'(by omega)) := List.getElem?_eq_getElem (by omega)
    obtain ⟨R, hR⟩ := kid_form inv (kk ki).1 (kk ki).2 (((hz i _ _ ki (List.getElem?_eq_getElem hi)).mem a).1 ha).1.1
    obtain ⟨R', hR'⟩ := kid_form inv (kk kj).1 (kk kj).2 (((hz j _ _ kj (List.getElem?_eq_getElem hj)).mem b).1 hb).1.1
    rw [hR, hR']
    exact ltV_fork (List.pairwise_iff_getElem.1 ko.ord i j (by omega) (by omega) hij)
/-- The sign for one level: each kid. -/
theorem Al.plus (hw : Tw w₀ tb r nf nn T) (hqT : q ∈ T) {L Li : List ByteArray} (h : Al q L (pls :: Li) q.s.m) {Z : List Msg} (hz : All T (fun F => ∃ k ∈ T, Kid q.s k.s ∧ k.s.A <+: F ∧ mtb (pls :: Li) (F.drop k.s.top) = true) Z) : All T (Mt L q) Z := by
  have hq := (hw.tm.inv.le q.s (List.mem_map_of_mem hqT)).1
  have hx : pls ≠ hsh := by decide
  refine hz.ext (fun F hF => ?_)
  constructor
  · rintro ⟨k, hk, kk, a, b⟩
    have p := kk.goes.trans a
    refine ⟨p, ?_⟩
    rw [h F p, top_m hq]
    rw [kk.2.1] at b
    exact b
  · rintro ⟨a, b⟩
    rw [h F a, top_m hq] at b
    obtain ⟨m, g, hg, e1, e2⟩ := hF
    have hl : q.s.A.length < g.s.A.length := by
      rw [e1]
      rcases Nat.lt_or_ge q.s.A.length F.length with o | o
      · exact o
      · rw [List.drop_eq_nil_of_le o, mtb_end hx] at b
        cases b
    obtain ⟨e', he, ke, pe⟩ := hw.tm.inv.way _ g.s (List.mem_map_of_mem hg) (Nat.le_refl _) q.s (List.mem_map_of_mem hqT) (by rw [e1]; exact a) hl
    obtain ⟨k, hk, rfl⟩ := List.mem_map.1 he
    exact ⟨k, hk, ke, by rw [← e1]; exact pe, by rw [ke.2.1]; exact b⟩
end Go.Proofs.YtipagdhoeocjeaaGreat.Li
