import Derived.Test.YtbjhblnagmpnfaaDoorOq
import Derived.Lib.MinMax
namespace Go.Proofs.YtbjhblnagmpnfaaDoor
open Go Go.RowKit Go.Shelf Go.Maps Go.Sort
set_option linter.unusedSimpArgs false
set_option linter.unusedVariables false
/-! ### New -/
def newI (mo qu : Nat) : WI := ⟨mo, qu, false, 0, 0, [], .map none, .slice none 0 0, [], [], .map none, [], 0⟩
def mostOf (n : Int) : Nat := (min (max n 1) 65535).toNat
def queueOf (n : Int) : Nat := (min (max n 0) 65536).toNat
theorem mostOf_is (n : Int) : 1 ≤ mostOf n ∧ mostOf n ≤ 65535 ∧ (mostOf n : Int) = min (max n 1) 65535 := by unfold mostOf; omega
theorem queueOf_is (n : Int) : queueOf n ≤ 65536 ∧ (queueOf n : Int) = min (max n 0) 65536 := by unfold queueOf; omega
theorem ws_new (w : World) (mo qu : Nat) (h1 : 1 ≤ mo ∧ mo ≤ 65535) (h2 : qu ≤ 65536) : WS (w.alloc (.cells (newI mo qu).cs 75)) w.heap.size (newI mo qu) 0 where
  blk := heap_alloc_new w _
  und := (MI.nil _).congr (fun k _ => rfl)
  fls := by intro f hf; cases hf
  tkn := by
    have : (newI mo qu).T = fun _ => false := by funext j; simp [WI.T, WI.ids, newI]
    rw [this]
    exact NT.nil _
  row := World.ownsRow_nil _ _ _ _
  pay := by intro f hf; cases hf
  half := .inr rfl
  apt := by intro j hj; cases hj
  nd := List.nodup_nil
  rng := by intro j hj; cases hj
  srt := List.Pairwise.nil
  tns := by intro f hf; cases hf
  snf := by intro f hf; cases hf
  snl := by intro f hf; cases hf
  bm := h1
  bq := h2
  bf := Nat.zero_le _
  bl := Nat.zero_le _
  br := Nat.zero_le _
  bs := Nat.zero_le _
  bc := ⟨Nat.le_refl _, Nat.le_refl _⟩
set_option maxRecDepth 100000 in
set_option maxHeartbeats 1000000 in
theorem new_any (n q : Int) (w : World) : Calls Tryd.prog 8 #[.int .i64 n, .int .i64 q] w fun e w' => e = .returned (pt w.heap.size) ∧ w' = w.alloc (.cells (newI (mostOf n) (queueOf q)).cs 75) := by
  obtain ⟨a, ha⟩ : ∃ a, max n 1 = a := ⟨_, rfl⟩
  obtain ⟨b, hb⟩ : ∃ b, max q 0 = b := ⟨_, rfl⟩
  have ha2 : min a 65535 = (mostOf n : Int) := by rw [(mostOf_is n).2.2, ha]
  have hb2 : min b 65536 = (queueOf q : Int) := by rw [(queueOf_is q).2, hb]
  unfold pt
  go_enter Tryd.func8, Tryd.ntmps8
  go_wp2_with fail
  go_ret
  exact ⟨rfl, rfl⟩
/-! ### Reserve -/
noncomputable def pReserve (p : Pw) : Pw × Int × Bool := if 65535 - p.most ≤ p.R.length then (p, 0, false) else ({ p with last := abvF p.T p.last, R := p.R ++ [abvF p.T p.last] }, (abvF p.T p.last : Int), true)
theorem ws_reserve {w : World} {wb : Nat} {i : WI} {c : Nat} (h : WS w wb i c) (hc : c + 1 ≤ 200000) (hr : i.R.length < 65535 - i.most) {id : Nat} (hA : Abv i.T i.last id) (hw : World) (hch0 : St w hw wb i { i with last := id } c) :
    Calls Tryd.prog 30 #[.pointer (some ⟨wb, 8, none⟩), .int .i64 (id : Int)] hw fun e w' => e = .returned (.tuple #[]) ∧ w'.cell? ⟨wb, 9, none⟩ = some (.int .i64 (i.R.length : Int)) ∧ w'.frozen? ⟨wb, 9, none⟩ = false ∧ w'.cell? ⟨wb, 3, none⟩ = some (.int .i64 (id : Int)) ∧ ∃ mt, St w (w'.setCell ⟨wb, 9, none⟩ (.int .i64 ((i.R.length + 1 : Nat) : Int))) wb i { i with last := id, mt := mt, N := i.N + 1, R := i.R ++ [id] } (c + 1) := by
  have h1 := hch0.ws
  obtain ⟨p1, p2, p3, p4⟩ := hA
  have hbc := h.bc
  refine (put_any h1.tkn (nb := wb) (i := 8) (t := 75) h1.blk rfl id p2 (by show i.N < 1000000; omega)).mono ?_
  rintro e w' ⟨rfl, mb2, hmb2, hN4, hb4, hch4⟩
  refine ⟨rfl, box_cells hb4 9 _ rfl, box_frozen hb4 9, box_cells hb4 3 _ rfl, .map (some mb2), ?_⟩
  obtain ⟨W, hW⟩ : ∃ W, W = w'.setCell ⟨wb, 9, none⟩ (.int .i64 ((i.R.length + 1 : Nat) : Int)) := ⟨_, rfl⟩
  rw [← hW]
  have hchW : Ch (fun j => j = wb ∨ i.mt = .map (some j)) hw W := by
    rw [hW]
    exact (hch4.mono (fun j _ q => q.elim .inl .inr)).trans (ch_set wb 9 _) (fun j _ q => .inl q)
  have hchU : Ch (({ i with last := id } : WI).U wb) hw W := hchW.mono (fun j _ q => q.elim .inl (fun e => .inr (.inr (.inl e))))
  have hkb := h1.kb hchU
  have hoth : ∀ j o, hw.heap[j]? = some o → j ≠ wb → i.mt ≠ .map (some j) → W.heap[j]? = hw.heap[j]? := fun j o hj hn hm => hchW.block j (Array.getElem?_eq_some_iff.1 hj).1 (fun q => q.elim hn hm)
  have hmt : ∀ j o, hw.heap[j]? = some o → (∀ cs t fz, o = Obj.cells cs t fz → i.mt ≠ .map (some j)) := fun j o hj cs t fz ho q => by
    obtain ⟨es, cl, e⟩ := h1.tkn.block q
    rw [e] at hj
    rw [ho] at hj
    cases hj
  have hnR : id ∉ i.ids ∧ id ∉ i.R := by
    unfold WI.T at p3
    simp at p3
    exact p3
  have hmb2l : ∀ j, (Value.map (some mb2)) = .map (some j) → i.mt = .map (some j) ∨ (hw.heap.size ≤ j) := fun j e => by
    cases e
    rcases hmb2 with q | ⟨q, q2⟩
    · exact .inl q
    · exact .inr (by rw [q2]; exact Nat.le_refl _)
  have hT : ({ i with last := id, mt := .map (some mb2), N := i.N + 1, R := i.R ++ [id] } : WI).T = setT i.T id true := by
    funext j
    unfold WI.T setT WI.ids
    by_cases e : j = id
    · subst e; simp
    · simp [e]
  refine hch0.trans ⟨{ h1 with blk := ?_, und := ?_, fls := ?_, tkn := ?_, row := ?_, pay := fun x hx => (h1.pay x hx).keep hkb, apt := ?_, nd := ?_, rng := ?_, br := ?_, bc := ?_ }, hchU, ?_⟩
  · rw [hW, heap_set hb4]
    unfold WI.cs
    simp
  · refine h1.und.keep (fun b hb => ?_)
    obtain ⟨es, cl, e⟩ := h1.und.block hb
    exact hoth b _ e (fun q => by rw [q, h1.blk] at e; cases e) (h1.apt b hb)
  · intro f hf
    have hb := (h1.fls f hf).blk
    refine ⟨(hoth f.b _ hb (fun q => by rw [q, h1.blk] at hb; simp at hb) (hmt f.b _ hb _ _ _ rfl)).trans hb, (h1.fls f hf).pay.keep hkb⟩
  · rw [hT]
    refine hN4.keep (fun j hj => ?_)
    rw [hW]
    refine heap_set_ne _ (fun q => ?_)
    obtain ⟨es, cl, e⟩ := hN4.block hj
    rw [q, hb4] at e
    cases e
  · refine own_ch h1.row hchW (fun g hg q => ?_)
    obtain ⟨cur, e⟩ := own_lt h1.row hg
    rcases q with q | q
    · rw [q, h1.blk] at e; simp at e
    · obtain ⟨es, cl, e'⟩ := h1.tkn.block q; rw [e'] at e; cases e
  · intro j hj q
    rcases hmb2l j q with q1 | q1
    · exact h1.apt j hj q1
    · have := h1.und.lt hj; omega
  · show (i.ids ++ (i.R ++ [id])).Nodup
    rw [← List.append_assoc]
    refine (List.perm_append_comm.nodup_iff).2 (List.nodup_cons.2 ⟨fun q => ?_, h.nd⟩)
    have q' : id ∈ i.ids ++ i.R := by simpa using q
    rcases List.mem_append.1 q' with q | q
    · exact hnR.1 q
    · exact hnR.2 q
  · intro j hj
    have hj' : j ∈ i.ids ++ (i.R ++ [id]) := hj
    rw [← List.append_assoc] at hj'
    rcases List.mem_append.1 hj' with q | q
    · exact h.rng j q
    · simp only [List.mem_singleton] at q
      subst q
      exact ⟨p1, p2⟩
  · show (i.R ++ [id]).length ≤ 65535 - i.most
    simp
    omega
  · show i.la + i.L.length ≤ c + 1 ∧ i.N + 1 + i.L.length ≤ c + 1
    omega
  · rintro j (q | q | q | q | q)
    · exact .inl (.inl q)
    · exact .inl (.inr (.inl q))
    · exact (hmb2l j q).elim (fun e => .inl (.inr (.inr (.inl e)))) .inr
    · exact .inl (.inr (.inr (.inr (.inl q))))
    · exact .inl (.inr (.inr (.inr (.inr q))))
set_option maxRecDepth 100000 in
set_option maxHeartbeats 4000000 in
theorem reserve_ws {w : World} {wb : Nat} {i : WI} {c : Nat} (h : WS w wb i c) (g : Gd w) (hc : c + 1 ≤ 200000) :
    Calls Tryd.prog 9 #[.pointer (some ⟨wb, 0, none⟩)] w fun e w' => e = .returned (.tuple #[.int .i64 (pReserve i.p).2.1, .bool (pReserve i.p).2.2]) ∧ Gd w' ∧ ∃ i', St w w' wb i i' (c + 1) ∧ i'.p = (pReserve i.p).1 := by
  obtain ⟨P, hP⟩ : ∃ P, P = pReserve i.p := ⟨_, rfl⟩
  rw [← hP]
  have HP := hidi hP
  have H := hidi (And.intro h (And.intro g hc))
  have hwl : wb < w.heap.size := h.lt (.inl rfl)
  have c9 : w.cell? ⟨wb, 9, none⟩ = some (.int .i64 (i.R.length : Int)) := box_cells h.blk 9 _ rfl
  have c0 : w.cell? ⟨wb, 0, none⟩ = some (.int .i64 (i.most : Int)) := box_cells h.blk 0 _ rfl
  obtain ⟨mo, hmo⟩ : ∃ mo, mo = i.most := ⟨_, rfl⟩
  obtain ⟨nr, hnr⟩ : ∃ nr, nr = i.R.length := ⟨_, rfl⟩
  have hbm := h.bm
  have hbr := h.br
  have hw1 : IntKind.i64.wrap (65535 - (mo : Int)) = 65535 - (mo : Int) := by rw [IntKind.wrap_i64]; omega
  rw [← hmo] at c0 hbm hbr
  rw [← hnr] at c9 hbr
  have HE := hidi (And.intro hmo hnr)
  have HBN := hidi (And.intro hbm hbr)
  clear hP h g hc hmo hnr hbm hbr
  by_cases hr : 65535 - mo ≤ nr
  · have hr1 : 65535 - (mo : Int) ≤ (nr : Int) := by have := HBN.out; omega
    go_enter Tryd.func9, Tryd.ntmps9
    go_wp2_with fail
    go_quiet (fail)
    go_wp2_with fail
    go_ret2
    have e : P = (i.p, 0, false) := by
      rw [HP.out]
      unfold pReserve
      rw [if_pos (show 65535 - i.p.most ≤ i.p.R.length by show 65535 - i.most ≤ i.R.length; rw [← HE.out.1, ← HE.out.2]; exact hr)]
    subst e
    have hb : Below w.heap.size w (w.drewN nq) := below_drewN (Below.refl w.heap.size w)
    exact ⟨rfl, H.out.2.1.below hb, i, ⟨(H.out.1.below hb).more (Nat.le_succ _), Below.ch hb, fun j hj => .inl hj⟩, rfl⟩
  · have hr1 : ¬ 65535 - (mo : Int) ≤ (nr : Int) := by have := HBN.out; omega
    go_enter Tryd.func9, Tryd.ntmps9
    go_wp2_with fail
    go_quiet (fail)
    go_wp2_with fail
    obtain ⟨w1, hw1e⟩ : ∃ w1, w1 = w.drewN nq := ⟨_, rfl⟩
    rw [← hw1e]
    have b1 : Below w.heap.size w w1 := by rw [hw1e]; exact below_drewN (Below.refl _ _)
    have h1 : WS w1.drew wb i c := H.out.1.below b1.drew
    have AB := hidi (above_any (w := w1.drew) (nb := wb) (i := 8) h1.tkn (box_cells h1.blk 8 _ rfl) i.last h1.bs (tzOk (H.out.2.1.below b1.drew).tab) (h1.freeN (by have := h1.br; have := h1.bm; have := h1.bf; have := HE.out; omega)))
    have c3 : w1.cell? ⟨wb, 3, none⟩ = some (.int .i64 (i.last : Int)) := box_cells h1.blk 3 _ rfl
    have f3 : w1.frozen? ⟨wb, 3, none⟩ = false := box_frozen h1.blk 3
    have HB1 := hidi b1
    have HR := hidi hr
    clear b1 h1 c9 c0 hw1e hr1 hw1 hr
    go_region_with (go_at_call 29; refine AB.out.mono ?_; clear AB; rintro e w' ⟨⟨id, rfl, hAb⟩, rfl⟩; have HAb := hidi hAb; clear hAb)
    all_goals go_wp2_with fail
    obtain ⟨w2, hw2⟩ : ∃ w2, w2 = (w1.setCell ⟨wb, 3, none⟩ (.int .i64 (id : Int))).drew := ⟨_, rfl⟩
    rw [← hw2]
    have hS1 := (H.out.1.below HB1.out).set (i' := { i with last := id }) 3 (.int .i64 (id : Int)) rfl rfl rfl rfl rfl rfl rfl rfl rfl rfl rfl rfl HAb.out.2.1 (Nat.le_refl c)
    have hS2 : St w w2.drew wb i { i with last := id } c := by
      rw [hw2]
      exact (((St.below H.out.1 HB1.out).trans hS1.2).trans (St.below hS1.1 (Below.refl _ _).drew)).trans (St.below (hS1.1.below (Below.refl _ _).drew) (Below.refl _ _).drew)
    have PT := hidi (ws_reserve H.out.1 H.out.2.2 (by have := HR.out; have := HE.out; omega) HAb.out _ hS2)
    have s3 : w2.cell? ⟨wb, 3, none⟩ = some (.int .i64 (id : Int)) := box_cells hS2.ws.blk 3 _ rfl
    clear hw2 hS1 hS2 c3 f3
    go_region_with (go_at_call 30; refine PT.out.mono ?_; clear PT; rintro e w3 ⟨rfl, d9, f9, d3, mt, st⟩; have HST := hidi st; clear st)
    all_goals rw [← HE.out.2] at d9
    all_goals (have hwR : IntKind.i64.wrap ((nr : Int) + 1) = ((nr + 1 : Nat) : Int) := by rw [IntKind.wrap_i64]; have := HBN.out; omega)
    all_goals go_wp2_with fail
    all_goals go_ret2
    have e0 : abvF i.p.T i.p.last = id := by rw [WI.T_p]; exact abvF_is H.out.1.bs HAb.out
    have e : P = ({ i.p with last := id, R := i.R ++ [id] }, (id : Int), true) := by
      rw [HP.out]
      unfold pReserve
      rw [if_neg (show ¬ 65535 - i.p.most ≤ i.p.R.length by show ¬ 65535 - i.most ≤ i.R.length; rw [← HE.out.1, ← HE.out.2]; exact HR.out), e0]
      rfl
    subst e
    have hst := HST.out
    rw [← HE.out.2] at hst
    exact ⟨rfl, hst.gd H.out.1 H.out.2.1, _, hst, rfl⟩
end Go.Proofs.YtbjhblnagmpnfaaDoor
