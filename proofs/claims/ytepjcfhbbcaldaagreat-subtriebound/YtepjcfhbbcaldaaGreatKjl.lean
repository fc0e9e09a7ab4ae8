import Derived.Test.YtepjcfhbbcaldaaGreatKjf
import Derived.Test.YtepjcfhbbcaldaaGreatKh
import Derived.Test.YtepjcfhbbcaldaaGreatKza
namespace Go.Proofs.YtepjcfhbbcaldaaGreat.Li
open Go Go.RowKit
set_option linter.unusedSimpArgs false
set_option linter.unusedVariables false
variable {w : World} {tb m r nk : Nat} {nf nn : Int} {T : List Fn} {S0 : List Nd} {d q : Fn} {kd : ByteArray → Option Value} {x : ByteArray}
theorem PM.same (h : PM w tb m r nf nn T d.s.A S0) : ∀ a ∈ T, ∀ b ∈ T, a.s.A = b.s.A → a = b := fun a ha b hb e => by
  have := h.inv.dis
  have key : ∀ {l : List Fn}, (l.map Fn.s).Pairwise Apart → a ∈ l → b ∈ l → a = b := fun {l} => by
    induction l with
    | nil => intro _ ha; cases ha
    | cons c l ih =>
      intro hp ha hb
      rw [List.map_cons, List.pairwise_cons] at hp
      rcases List.mem_cons.1 ha with rfl | ha'
      · rcases List.mem_cons.1 hb with rfl | hb'
        · rfl
        · exact absurd e (hp.1 _ (List.mem_map_of_mem hb'))
      · rcases List.mem_cons.1 hb with rfl | hb'
        · exact absurd e.symm (hp.1 _ (List.mem_map_of_mem ha'))
        · exact ih hp.2 ha' hb'
  exact key this ha hb
theorem PM.apart (h : PM w tb m r nf nn T d.s.A S0) {a b : Fn} (ha : a ∈ T) (hb : b ∈ T) (ne : a ≠ b) : FA a b := by
  have key : ∀ {l : List Fn}, l.Pairwise FA → a ∈ l → b ∈ l → FA a b := fun {l} => by
    induction l with
    | nil => intro _ ha; cases ha
    | cons c l ih =>
      intro hp ha hb
      rw [List.pairwise_cons] at hp
      rcases List.mem_cons.1 ha with rfl | ha'
      · rcases List.mem_cons.1 hb with rfl | hb'
        · exact absurd rfl ne
        · exact hp.1 _ hb'
      · rcases List.mem_cons.1 hb with rfl | hb'
        · exact fun k c1 c2 => hp.1 _ ha' k c2 c1
        · exact ih hp.2 ha' hb'
  exact key h.dis ha hb
theorem PM.tbd (h : PM w tb m r nf nn T d.s.A S0) (hd : d ∈ T) : ¬ d.has tb := fun c => by
  obtain ⟨N, fd⟩ := h.nd0 d hd rfl
  have ht := h.tr
  rcases c with c | c | c
  · rw [c, fd.at_] at ht
    simp at ht
  · obtain ⟨es, cl, e⟩ := fd.ev.block c
    rw [e] at ht
    cases ht
  · obtain ⟨nk, kd, _, hm, _⟩ := fd.kv
    obtain ⟨es, cl, e⟩ := hm.block c
    rw [e] at ht
    cases ht
/-- What replace leaves. -/
structure Rp (w w' : World) (tb m r : Nat) (nf nn : Int) (T : List Fn) (d : Fn) : Prop where
  ex : ∃ kv, TM w' tb m r nf nn (T.map (ukv d.s.A kv)) ∧ (kv = d.kv ∨ kv = .map none)
  ch : Ch (hgC d) w w'
/-- A node comes in the place of another one. -/
theorem replace_some (h : PM w tb m r nf nn T d.s.A S0) (hd : d ∈ T) (hq : q ∈ T) (qd : q.s.A ≠ d.s.A) (hx : okT x) (hqx : ∃ rr, q.s.edge = x :: rr) (hm : MG w d.kv nk kd) (hs : (kd x).isSome = true) (hn : nk < 1000000) (hK : Kds (T.map Fn.s) d.s (setG kd x (some (ptr q.s.p)))) (ep : Value) :
    Calls Tryz.prog 43 #[ptr d.s.p, ep, ptr q.s.p] w fun e w' => e = .returned (.tuple #[]) ∧ Rp w w' tb m r nf nn T d := by
  obtain ⟨N, fd⟩ := h.nd0 d hd rfl
  obtain ⟨N', fq⟩ := h.nd q hq qd
  obtain ⟨rr, er⟩ := hqx
  have R := fq.lv
  rw [er] at R
  have nz : d.kv ≠ .map none := fun e => by
    rcases hm with ⟨_, _, c⟩ | ⟨mb, D, c, _⟩
    · rw [c x hx] at hs; cases hs
    · rw [c] at e; cases e
  have HG := hidi (show Calls Tryz.prog 37 #[ptr d.s.p, ptr q.s.p] w fun e w' => e = .returned (.tuple #[]) ∧ Rp w w' tb m r nf nn T d from by
    refine (hang_any (lv := d.lv) (ev := d.ev) (kv := d.kv) (lq := q.lv) (o2 := ptr m) (e2 := q.ev) (k2 := q.kv) fd.at_ fq.at_ (fun c => h.apart hd hq (fun z => qd (by rw [z])) d.s.p (.inl rfl) (.inl c.symm)) R hx hm hn).mono ?_
    rintro e w' ⟨rfl, ⟨mb, g1, g2, g3⟩, hc⟩
    have ekv : d.kv = .map (some mb) := g3.elim id (fun c => (nz c.1).elim)
    exact ⟨rfl, ⟨.map (some mb), h.fixed hd h.same (fun a ha ne => h.apart ha hd ne) (h.tbd hd) hc g1 g2 hK (.inl ekv.symm), .inl ekv.symm⟩, hc⟩)
  unfold ptr at *
  clear h hd hq qd hx hm hs hn hK fd fq R er nz
  go_enter Tryz.func43, Tryz.ntmps43
  go_wp2_with (go_at_call 37; refine HG.out.mono ?_; rintro e w' ⟨rfl, hr⟩; have HR := hidi hr; clear hr HG)
  exact bodyPost_ret (results_none rfl _ _ _) rfl ⟨rfl, HR.out⟩
set_option maxRecDepth 100000 in
set_option maxHeartbeats 4000000 in
/-- A node is taken away. -/
theorem replace_nil {ep n : Nat} {o2 lq e2 k2 : Value} {rr : List ByteArray} (h : PM w tb m r nf nn T d.s.A S0) (hd : d ∈ T) (he : w.heap[ep]? = some (.cells #[o2, lq, e2, k2] 71 (0, 0))) (R : w.ownsRow 0 9 1 lq n ((x :: rr).map Value.string)) (hx : okT x) (hm : MG w d.kv nk kd) (hs : (kd x).isSome = true) (hn : nk < 1000000) (hK : Kds (T.map Fn.s) d.s (setG kd x none)) :
    Calls Tryz.prog 43 #[ptr d.s.p, ptr ep, .pointer none] w fun e w' => e = .returned (.tuple #[]) ∧ Rp w w' tb m r nf nn T d := by
  obtain ⟨N, fd⟩ := h.nd0 d hd rfl
  obtain ⟨mb, hmb⟩ : ∃ mb, d.kv = .map (some mb) := by
    rcases hm with ⟨_, _, c⟩ | ⟨mb, D, c, _⟩
    · rw [c x hx] at hs; cases hs
    · exact ⟨mb, c⟩
  have hm' := hm
  rw [hmb] at hm'
  have md : MG w.drew (.map (some mb)) nk kd := hm'.keep (fun b e => rfl)
  obtain ⟨w1, k1, k2, k3⟩ := md.del (t := 69) Tryz.underlying69 hx 0
  simp only [hs, if_true] at k2
  have c3 : w.cell? ⟨d.s.p, 3, none⟩ = some (.map (some mb)) := by rw [← hmb]; exact box_cells fd.at_ 3 _ rfl
  obtain ⟨g, o, n', cap, hlq, hn', hcap, hgl, hc0, -⟩ := (row_own R).cons
  have l1 : w.cell? ⟨ep, 1, none⟩ = some (.slice (some ⟨g, o, none⟩) n' cap) := by rw [← hlq]; exact box_cells he 1 _ rfl
  have p0 : (0 : Int) < n' := by omega
  have pmb : d.s.p ≠ mb := fun c => by
    obtain ⟨es, cl, e⟩ := hm'.block rfl
    rw [← c, fd.at_] at e
    cases e
  have plt : d.s.p < w.heap.size := fd.lt (.inl rfl)
  have at1 : w1.heap[d.s.p]? = some (.cells #[ptr m, d.lv, d.ev, .map (some mb)] 71 (0, 0)) := by rw [← hmb]; exact (k3.block _ plt pmb).trans fd.at_
  have l3 : w1.cell? ⟨d.s.p, 3, none⟩ = some (.map (some mb)) := box_cells at1 3 _ rfl
  have z3 : w1.frozen? ⟨d.s.p, 3, none⟩ = false := box_frozen at1 3
  have hlen := fun ty => k2.len (t := 69) Tryz.underlying69 ty
  have cc : Ch (hgC d) w w1 := ((ch_drew _ w).trans k3 (fun j _ e => .inr (by rw [hmb, e])))
  by_cases c0 : nk - 1 = 0
  · have FIN := hidi (show Rp w (w1.setCell ⟨d.s.p, 3, none⟩ (.map none)) tb m r nf nn T d from by
      have c4 : Ch (hgC d) w (w1.setCell ⟨d.s.p, 3, none⟩ (.map none)) := cc.trans (ch_set d.s.p 3 _) (fun j _ e => .inl e)
      refine ⟨⟨.map none, h.fixed hd h.same (fun a ha ne => h.apart ha hd ne) (h.tbd hd) c4 (heap_set at1 _) (nk := 0) (kd := setG kd x none) (.inl ⟨rfl, rfl, fun k ok => ?_⟩) hK (.inr rfl), .inr rfl⟩, c4⟩
      rw [c0] at k2
      obtain ⟨K, q1, q2, q3⟩ := k2.keys
      have nk' : ¬ k ∈ K := fun c => by have := List.length_pos_of_mem c; omega
      cases e : setG kd x none k with
      | none => rfl
      | some v => exact absurd ((q3 k).2 ⟨ok, by rw [e]; rfl⟩) nk')
    have q0 : (((nk - 1 : Nat) : Int) == 0) = true := by rw [c0]; rfl
    unfold ptr at *
    clear h hd hx hm hm' hs hn hK fd R md k2 k3 he hlq hcap hgl hn' at1 cc c0 pmb plt hmb
    go_enter Tryz.func43, Tryz.ntmps43
    go_wp2_with fail
    go_region_with fail
    all_goals go_wp2_with fail
    all_goals go_end0
    all_goals exact ⟨rfl, FIN.out⟩
  · have FIN := hidi (show Rp w w1 tb m r nf nn T d from ⟨⟨.map (some mb), h.fixed hd h.same (fun a ha ne => h.apart ha hd ne) (h.tbd hd) cc at1 k2 hK (.inl hmb.symm), .inl hmb.symm⟩, cc⟩)
    have q0 : (((nk - 1 : Nat) : Int) == 0) = false := by rw [beq_eq_false_iff_ne]; omega
    unfold ptr at *
    clear h hd hx hm hm' hs hn hK fd R md k2 k3 he hlq hcap hgl hn' at1 cc c0 pmb plt hmb
    go_enter Tryz.func43, Tryz.ntmps43
    go_wp2_with fail
    go_region_with fail
    all_goals go_wp2_with fail
    all_goals go_end0
    all_goals exact ⟨rfl, FIN.out⟩
end Go.Proofs.YtepjcfhbbcaldaaGreat.Li
namespace Go.Proofs.YtepjcfhbbcaldaaGreat.Li
open Go Go.RowKit
set_option linter.unusedSimpArgs false
set_option linter.unusedVariables false
/-- Every node but the root and those at B has entries or parts two ways. -/
def FormX (T : List Fn) (B : List ByteArray) : Prop := ∀ f ∈ T, f.s.A = [] ∨ 0 < f.ne ∨ Fork T f.s.A ∨ f.s.A <+: B
/-- How many nodes have entries. -/
def CN (T : List Fn) (nf : Int) : Prop := ∃ Fs : List (List ByteArray), Fs.Nodup ∧ (∀ F, F ∈ Fs ↔ ∃ f ∈ T, f.s.A = F ∧ 0 < f.ne) ∧ nf = (Fs.length : Int)
theorem CN.congr {T T' : List Fn} {nf : Int} (h : CN T nf) (e : ∀ F, (∃ f ∈ T, f.s.A = F ∧ 0 < f.ne) ↔ ∃ f ∈ T', f.s.A = F ∧ 0 < f.ne) : CN T' nf := by
  obtain ⟨Fs, a, b, c⟩ := h
  exact ⟨Fs, a, fun F => (b F).trans (e F), c⟩
variable {w : World} {tb m r : Nat} {nf nn : Int} {T : List Fn} {d e k : Fn}
/-- No node lies between a node and the one above it. -/
theorem pre_up (h : TM w tb m r nf nn T) {f : Fn} (hf : f ∈ T) (he : e ∈ T) (hd : d ∈ T) (hk : Kid d.s e.s) (fpe : f.s.A <+: e.s.A) (ne : f.s.A ≠ e.s.A) : f.s.A <+: d.s.A := by
  have em := (h.inv.le e.s (List.mem_map_of_mem he)).1
  have dlt := hk.lt em
  have dpe : d.s.A <+: e.s.A := hk.goes
  by_cases c : f.s.A.length ≤ d.s.A.length
  · exact prefix_le fpe dpe c
  · have dpf : d.s.A <+: f.s.A := prefix_le dpe fpe (by omega)
    obtain ⟨e0, he0, k0, p0⟩ := h.inv.way f.s.A.length f.s (List.mem_map_of_mem hf) (Nat.le_refl _) d.s (List.mem_map_of_mem hd) dpf (by omega)
    have := h.inv.kid he0 (List.mem_map_of_mem he) k0 hk (L := e.s.A) (.inl (p0.trans fpe)) (.inl (List.prefix_refl _))
    subst this
    have q : e.s.A = f.s.A := by
      obtain ⟨u, hu⟩ := p0
      obtain ⟨v, hv⟩ := fpe
      have l1 := congrArg List.length hu
      have l2 := congrArg List.length hv
      rw [List.length_append] at l1 l2
      have : v = [] := List.length_eq_zero_iff.1 (by omega)
      rw [← hv, this, List.append_nil]
    exact absurd q.symm ne
theorem formx_none (h : TM w tb m r nf nn T) (fx : FormX T e.s.A) (he : e ∈ T) (hd : d ∈ T) (hk : Kid d.s e.s) : FormX (remF e.s.A T) d.s.A := fun f hf => by
  obtain ⟨hfT, fne⟩ := mem_remF.1 hf
  rcases fx f hfT with c | c | c | c
  · exact .inl c
  · exact .inr (.inl c)
  · by_cases fd : f.s.A = d.s.A
    · exact .inr (.inr (.inr (by rw [fd]; exact List.prefix_refl _)))
    · refine .inr (.inr (.inl ?_))
      have em := (h.inv.le e.s (List.mem_map_of_mem he)).1
      have to : ∀ x a, a ∈ T → (f.s.A ++ [x]) <+: a.s.A → ∃ a' ∈ remF e.s.A T, (f.s.A ++ [x]) <+: a'.s.A := fun x a ha pa => by
        by_cases ae : a.s.A = e.s.A
        · rw [ae] at pa
          have fpe : f.s.A <+: e.s.A := (List.prefix_append _ _).trans pa
          have dpe : d.s.A <+: e.s.A := hk.goes
          have dlt := hk.lt em
          have flt := pa.length_le
          simp at flt
          refine ⟨d, mem_remF.2 ⟨hd, fun q => by rw [q] at dlt; omega⟩, ?_⟩
          have : f.s.A.length < d.s.A.length := by
            refine Classical.byContradiction fun c => ?_
            have dpf : d.s.A <+: f.s.A := prefix_le dpe fpe (by omega)
            have ne : d.s.A.length ≠ f.s.A.length := fun q => fd (by rw [← prefix_take dpf, q, List.take_length])
            obtain ⟨e0, he0, k0, p0⟩ := h.inv.way f.s.A.length f.s (List.mem_map_of_mem hfT) (Nat.le_refl _) d.s (List.mem_map_of_mem hd) dpf (by omega)
            have := h.inv.kid he0 (List.mem_map_of_mem he) k0 hk (L := e.s.A) (.inl (p0.trans fpe)) (.inl (List.prefix_refl _))
            subst this
            have := p0.length_le
            omega
          exact prefix_le pa dpe (by simp; omega)
        · exact ⟨a, mem_remF.2 ⟨ha, ae⟩, pa⟩
      obtain ⟨x, y, a, b, ne, ha, hb, pa, pb⟩ := c
      obtain ⟨a', ha', pa'⟩ := to x a ha pa
      obtain ⟨b', hb', pb'⟩ := to y b hb pb
      exact ⟨x, y, a', b', ne, ha', hb', pa', pb'⟩
  · exact .inr (.inr (.inr (pre_up h hfT he hd hk c fne)))
theorem formx_one (h : TM w tb m r nf nn T) (fx : FormX T e.s.A) (he : e ∈ T) (hd : d ∈ T) (hkd : Kid d.s e.s) (hk : k ∈ T) (kk : Kid e.s k.s) (lv : Value) : FormX ((remF e.s.A T).map (upk k.s.A e.s.m lv)) d.s.A := fun f0 hf0 => by
  obtain ⟨f, hf, rfl⟩ := List.mem_map.1 hf0
  obtain ⟨hfT, fne⟩ := mem_remF.1 hf
  rw [upk_s, upm_A, (upk_en _ _ _ _).2]
  rcases fx f hfT with c | c | c | c
  · exact .inl c
  · exact .inr (.inl c)
  · refine .inr (.inr (.inl ?_))
    have klt := kk.lt (h.inv.le k.s (List.mem_map_of_mem hk)).1
    have kin : k ∈ remF e.s.A T := mem_remF.2 ⟨hk, fun q => by rw [q] at klt; omega⟩
    have to : ∀ x a, a ∈ T → (f.s.A ++ [x]) <+: a.s.A → ∃ a' ∈ (remF e.s.A T).map (upk k.s.A e.s.m lv), (f.s.A ++ [x]) <+: a'.s.A := fun x a ha pa => by
      by_cases ae : a.s.A = e.s.A
      · exact ⟨_, List.mem_map_of_mem kin, by rw [upk_s, upm_A]; rw [ae] at pa; exact pa.trans kk.goes⟩
      · exact ⟨_, List.mem_map_of_mem (mem_remF.2 ⟨ha, ae⟩), by rw [upk_s, upm_A]; exact pa⟩
    obtain ⟨x, y, a, b, ne, ha, hb, pa, pb⟩ := c
    obtain ⟨a', ha', pa'⟩ := to x a ha pa
    obtain ⟨b', hb', pb'⟩ := to y b hb pb
    exact ⟨x, y, a', b', ne, ha', hb', pa', pb'⟩
  · exact .inr (.inr (.inr (pre_up h hfT he hd hkd c fne)))
theorem formx_map {B : List ByteArray} {g : Fn → Fn} (fx : FormX T B) (hs : ∀ f, (g f).s = f.s) (hn : ∀ f ∈ T, (g f).s.A = B ∨ (g f).ne = f.ne) : FormX (T.map g) B := fun f0 hf0 => by
  obtain ⟨f, hf, rfl⟩ := List.mem_map.1 hf0
  have FK : Fork T f.s.A → Fork (T.map g) f.s.A := fun c => c.mono (fun c hc => ⟨_, List.mem_map_of_mem hc, by rw [hs]⟩)
  rcases hn f hf with q | q
  · exact .inr (.inr (.inr (by rw [q]; exact List.prefix_refl _)))
  · rw [hs, q]
    rcases fx f hf with c | c | c | c
    · exact .inl c
    · exact .inr (.inl c)
    · exact .inr (.inr (.inl (FK c)))
    · exact .inr (.inr (.inr c))
/-- What is so on the way back up. -/
structure QS (tb P : Nat) (nf : Int) (T0 T : List Fn) (F : List ByteArray → Prop) (x : ByteArray) (B : List ByteArray) : Prop where
  has : ∀ F' y z, HasE T F' y z ↔ HasE T0 F' y z ∧ ¬ (F F' ∧ y = x)
  is : ∀ j, isT tb T j → isT tb T0 j
  frm : FormX T B
  cn : CN T nf
  few : ∀ f ∈ T, f.ne ≤ P
  le : T.length ≤ T0.length
  ok : ∀ F' y z, HasE T0 F' y z → okT y
theorem QS.en0 {P : Nat} {T0 : List Fn} {F : List ByteArray → Prop} {B : List ByteArray} {x : ByteArray} (q : QS tb P nf T0 T F x B) (h : TM w tb m r nf nn T) (he : e ∈ T) (h0 : e.ne = 0) (y : ByteArray) : e.en y = none := by
  cases c : e.en y with
  | none => rfl
  | some z =>
    have oy := q.ok _ y z ((q.has e.s.A y z).1 ⟨e, he, rfl, c⟩).1
    obtain ⟨K, k1, k2, k3⟩ := (h.nd e he).ev.keys
    have := List.length_pos_of_mem ((k3 y).2 ⟨oy, by show ((e.en y).map _).isSome = true; rw [c]; rfl⟩)
    omega
theorem QS.goes {P : Nat} {T0 T' : List Fn} {F : List ByteArray → Prop} {B B' : List ByteArray} {x : ByteArray} (q : QS tb P nf T0 T F x B) (he : e ∈ T) (h0 : e.ne = 0) (e0 : ∀ y, e.en y = none) (same : ∀ f ∈ T, f.s.A = e.s.A → f = e) (fx : FormX T' B') (to : ∀ f ∈ T, f.s.A ≠ e.s.A → ∃ f' ∈ T', f'.s.A = f.s.A ∧ f'.en = f.en ∧ f'.ne = f.ne) (fr : ∀ f' ∈ T', ∃ f ∈ T, f'.s.A = f.s.A ∧ f'.en = f.en ∧ f'.ne = f.ne ∧ ∀ j, f'.has j → f.has j) (le : T'.length ≤ T.length) : QS tb P nf T0 T' F x B' := by
  refine ⟨fun F' y z => ?_, fun j c => ?_, fx, q.cn.congr (fun F' => ?_), fun f' hf' => ?_, Nat.le_trans le q.le, q.ok⟩
  · rw [← q.has]
    constructor
    · rintro ⟨f', hf', e1, e2⟩
      obtain ⟨f, hf, a1, a2, a3, _⟩ := fr f' hf'
      exact ⟨f, hf, by rw [← a1, e1], by rw [← a2]; exact e2⟩
    · rintro ⟨f, hf, e1, e2⟩
      by_cases c : f.s.A = e.s.A
      · rw [same f hf c, e0] at e2
        cases e2
      · obtain ⟨f', hf', a1, a2, a3⟩ := to f hf c
        exact ⟨f', hf', by rw [a1, e1], by rw [a2]; exact e2⟩
  · refine q.is j ?_
    rcases c with c | ⟨f', hf', c⟩
    · exact .inl c
    · obtain ⟨f, hf, _, _, _, a4⟩ := fr f' hf'
      exact .inr ⟨f, hf, a4 j c⟩
  · constructor
    · rintro ⟨f, hf, e1, e2⟩
      by_cases c : f.s.A = e.s.A
      · rw [same f hf c, h0] at e2
        omega
      · obtain ⟨f', hf', a1, a2, a3⟩ := to f hf c
        exact ⟨f', hf', by rw [a1, e1], by rw [a3]; exact e2⟩
    · rintro ⟨f', hf', e1, e2⟩
      obtain ⟨f, hf, a1, a2, a3, _⟩ := fr f' hf'
      exact ⟨f, hf, by rw [← a1, e1], by rw [← a3]; exact e2⟩
  · obtain ⟨f, hf, a1, a2, a3, _⟩ := fr f' hf'
    rw [a3]
    exact q.few f hf
end Go.Proofs.YtepjcfhbbcaldaaGreat.Li
namespace Go.Proofs.YtepjcfhbbcaldaaGreat.Li
open Go Go.RowKit
set_option linter.unusedSimpArgs false
set_option linter.unusedVariables false
variable {w : World} {tb m r P : Nat} {nf nn : Int} {T T2 : List Fn} {d e k : Fn} {F : List ByteArray → Prop} {x y0 : ByteArray}
theorem remF_len : ∀ {T : List Fn}, (T.map Fn.s).Pairwise Apart → e ∈ T → (remF e.s.A T).length + 1 = T.length
  | [], _, h => by cases h
  | f :: T, hp, h => by
    rw [List.map_cons, List.pairwise_cons] at hp
    have all : (∀ g ∈ T, g.s.A ≠ e.s.A) → (remF e.s.A T).length = T.length := fun q => by
      unfold remF
      rw [List.filter_eq_self.2 (fun g hg => decide_eq_true (q g hg))]
    by_cases c : f.s.A = e.s.A
    · have : (remF e.s.A (f :: T)) = remF e.s.A T := by
        unfold remF
        rw [List.filter_cons, if_neg (by simp [c])]
      rw [this, all (fun g hg q => hp.1 g.s (List.mem_map_of_mem hg) (c.trans q.symm))]
      rfl
    · have : (remF e.s.A (f :: T)) = f :: remF e.s.A T := by
        unfold remF
        rw [List.filter_cons, if_pos (by simp [c])]
      rw [this]
      have hin : e ∈ T := by
        rcases List.mem_cons.1 h with q | q
        · rw [q] at c; exact absurd rfl c
        · exact q
      have := remF_len hp.2 hin
      simp only [List.length_cons]
      omega
theorem PM.conv {w : World} {S0 S1 : List Nd} {B : List ByteArray} (h : PM w tb m r nf nn T B S0) (hS : ∀ a : Nd, a.A = B → ∀ y g, AtK S0 a y g ↔ AtK S1 a y g) : PM w tb m r nf nn T B S1 :=
  ⟨h.tr, h.inv, h.rt, h.nd, fun f hf e => by
    obtain ⟨N, ff⟩ := h.nd0 f hf e
    exact ⟨N, ff.keep (Ch.refl (fun _ => False) _) (fun _ _ c => c) (fun _ c => c.elim) (Nat.le_refl _) (hS f.s e)⟩, h.dis, h.ok⟩
theorem TM.pm (h : TM w tb m r nf nn T) {B : List ByteArray} {S1 : List Nd} (hS : ∀ a : Nd, a.A = B → ∀ y g, AtK (T.map Fn.s) a y g ↔ AtK S1 a y g) : PM w tb m r nf nn T B S1 :=
  PM.conv ⟨h.tr, h.inv, h.rt, fun f hf _ => ⟨_, h.nd f hf⟩, fun f hf _ => ⟨_, h.nd f hf⟩, h.dis, h.ok⟩ hS
/-- What without leaves to the node above. -/
structure WoE (w' : World) (tb m r P : Nat) (T : List Fn) (fA : List ByteArray) (fp : Nat) (d : Fn) (y0 : ByteArray) (F : List ByteArray → Prop) (x : ByteArray) (res : Value) : Prop where
  ex : ∃ T' nf', PM w' tb m r nf' (T'.length : Int) T' d.s.A (T.map Fn.s) ∧ QS tb P nf' T T' F x d.s.A ∧ (∀ a ∈ T, ¬ fA <+: a.s.A → a ∈ T') ∧ (∀ a : Nd, a.A.length < d.s.A.length → ∀ y g, AtK (T'.map Fn.s) a y g ↔ AtK (T.map Fn.s) a y g) ∧ (∀ y g, y ≠ y0 → (AtK (T'.map Fn.s) d.s y g ↔ AtK (T.map Fn.s) d.s y g)) ∧ ((res = .pointer none ∧ ∀ g, ¬ AtK (T'.map Fn.s) d.s y0 g) ∨ ∃ q ∈ T', res = ptr q.s.p ∧ AtK (T'.map Fn.s) d.s y0 q.s)
  blk : ∃ o2 lq e2 k2 n rr, w'.heap[fp]? = some (.cells #[o2, lq, e2, k2] 71 (0, 0)) ∧ w'.ownsRow 0 9 1 lq n ((y0 :: rr).map Value.string)
theorem edge_cons {q : Nd} (h : q.A[q.top]? = some y0) : ∃ rr, q.edge = y0 :: rr := by
  have := edge_at q 0
  rw [Nat.add_zero, h] at this
  cases c : q.edge with
  | nil => rw [c] at this; simp at this
  | cons a l => rw [c] at this; simp at this; exact ⟨l, by rw [this]⟩
theorem fork_kids (h : TM w tb m r nf nn T) (he : e ∈ T) {nk : Nat} {kd : ByteArray → Option Value} (hm : MG w e.kv nk kd) (hK : Kds (T.map Fn.s) e.s kd) (h1 : 1 < nk) : Fork T e.s.A := by
  obtain ⟨K, k1, k2, k3⟩ := hm.keys
  match K, k1, k2, k3 with
  | [], _, k2, _ => simp at k2; omega
  | [_], _, k2, _ => simp at k2; omega
  | a :: b :: K, k1, k2, k3 =>
    have at_ : ∀ y, y ∈ a :: b :: K → ∃ g ∈ T, (e.s.A ++ [y]) <+: g.s.A := fun y hy => by
      obtain ⟨oy, hs⟩ := (k3 y).1 hy
      obtain ⟨v, hv⟩ := Option.isSome_iff_exists.1 hs
      obtain ⟨g0, hg, _⟩ := (hK y v oy).1 hv
      obtain ⟨g, hgT, rfl⟩ := List.mem_map.1 hg.1
      refine ⟨g, hgT, ?_⟩
      rw [← atk_take hg.2.1 hg.2.2]
      exact List.take_prefix _ _
    obtain ⟨ga, ha, pa⟩ := at_ a (by simp)
    obtain ⟨gb, hb, pb⟩ := at_ b (by simp)
    have ne : a ≠ b := by
      have := (List.nodup_cons.1 k1).1
      intro q
      exact this (by rw [q]; exact List.mem_cons_self)
    exact ⟨a, b, ga, gb, ne, ha, hb, pa, pb⟩
set_option maxHeartbeats 1000000 in
theorem tidy_wo (h : TM w tb m r nf (T2.length : Int) T2) (he : e ∈ T2) (hd : d ∈ T2) (q : QS tb P nf T T2 F x e.s.A) (keepU : ∀ a ∈ T, ¬ e.s.A <+: a.s.A → a ∈ T2) (atk : ∀ a : Nd, a.A.length < e.s.A.length → ∀ y g, AtK (T2.map Fn.s) a y g ↔ AtK (T.map Fn.s) a y g) (ha : AtK (T2.map Fn.s) d.s y0 e.s) (hT : T2.length < 900000) :
    Calls Tryz.prog 42 #[ptr tb, ptr e.s.p] w fun e' w' => ∃ res, e' = .returned res ∧ WoE w' tb m r P T e.s.A e.s.p d y0 F x res ∧ Ch (isT tb T2) w w' := by
  have fe := h.nd e he
  have hkd := ha.2.1
  have em := (h.inv.le e.s (List.mem_map_of_mem he)).1
  have elt := hkd.lt em
  obtain ⟨rr, er⟩ := edge_cons ha.2.2
  obtain ⟨nk, kd, b1, b2, b3⟩ := fe.kv
  have dl : ∀ a : Nd, a.A = d.s.A → a.A.length < e.s.A.length := fun a c => by rw [c]; exact elt
  have lv := fe.lv
  rw [er] at lv
  have l1 : 1 ≤ T2.length := List.length_pos_of_mem he
  by_cases hs : 0 < e.ne ∨ 1 < nk
  · refine (tidy_stay h he b2 (.inr hs)).mono ?_
    rintro e' w' ⟨rfl, rfl⟩
    refine ⟨_, rfl, ⟨⟨T2, nf, h.pm (fun a c => atk a (dl a c)), ⟨q.has, q.is, fun f hf => ?_, q.cn, q.few, q.le, q.ok⟩, keepU, fun a c => atk a (by omega), fun y g _ => atk d.s elt y g, .inr ⟨e, he, rfl, ha⟩⟩, ⟨ptr m, e.lv, e.ev, e.kv, e.s.m, rr, fe.at_, lv⟩⟩, Ch.refl _ _⟩
    rcases q.frm f hf with c | c | c | c
    · exact .inl c
    · exact .inr (.inl c)
    · exact .inr (.inr (.inl c))
    · by_cases fe' : f.s.A = e.s.A
      · obtain rfl := h.same hf he fe'
        rcases hs with c' | c'
        · exact .inr (.inl c')
        · exact .inr (.inr (.inl (fork_kids h hf b2 b3 c')))
      · exact .inr (.inr (.inr (pre_up h hf he hd hkd c fe')))
  · have h0 : e.ne = 0 := by omega
    have e0 := q.en0 h he h0
    have sm : ∀ f ∈ T2, f.s.A = e.s.A → f = e := fun f hf c => h.same hf he c
    have rl := remF_len h.inv.dis he
    by_cases n0 : nk = 0
    · rw [n0] at b2
      refine (tidy_none h he hd hkd b2 b3 h0 (by omega) (by omega)).mono ?_
      rintro e' w' ⟨rfl, pm, hc⟩
      have hS : (remF e.s.A T2).map Fn.s = rem e.s.A (T2.map Fn.s) := remF_map _ _
      refine ⟨_, rfl, ⟨⟨remF e.s.A T2, nf, ?_, ?_, fun a hA hl => mem_remF.2 ⟨keepU a hA hl, fun c => hl (by rw [c]; exact List.prefix_refl _)⟩, fun a hl y g => ?_, fun y g hy => ?_, .inl ⟨rfl, fun g c => ?_⟩⟩, ⟨ptr m, e.lv, e.ev, e.kv, e.s.m, rr, ?_, own_ch lv hc (fun j hj c => ?_)⟩⟩, hc.mono (fun j _ c => .inl c)⟩
      · rw [show ((remF e.s.A T2).length : Int) = (T2.length : Int) - 1 by omega]
        exact pm.conv (fun a c => atk a (dl a c))
      · exact q.goes he h0 e0 sm (formx_none h q.frm he hd hkd) (fun f hf c => ⟨f, mem_remF.2 ⟨hf, c⟩, rfl, rfl, rfl⟩) (fun f' hf' => ⟨f', (mem_remF.1 hf').1, rfl, rfl, rfl, fun j c => c⟩) (by omega)
      · rw [hS, unleaf_atk, ← atk a (by omega)]
        refine ⟨fun c => c.1, fun c => ⟨c, fun z => ?_⟩⟩
        obtain rfl := h.inv.same c.1 (List.mem_map_of_mem he) z
        have := c.2.1.uniq hkd
        rw [this] at hl
        omega
      · rw [hS, unleaf_atk, ← atk d.s elt]
        refine ⟨fun c => c.1, fun c => ⟨c, fun z => ?_⟩⟩
        obtain rfl := h.inv.same c.1 (List.mem_map_of_mem he) z
        have := c.2.2
        rw [ha.2.2] at this
        injection this with this
        exact hy this.symm
      · rw [hS, unleaf_atk] at c
        have := h.inv.atk ha c.1
        exact c.2 (by rw [← this])
      · exact (hc.block _ (fe.lt (.inl rfl)) (fun c => h.tb_ne he (.inl c.symm))).trans fe.at_
      · obtain ⟨cur, q2⟩ := own_lt fe.lv hj
        rw [c, h.tr] at q2
        cases q2
    · have n1 : nk = 1 := by omega
      rw [n1] at b2
      obtain ⟨y, oy, hy⟩ := b2.some_ (by omega)
      obtain ⟨v, hv⟩ := Option.isSome_iff_exists.1 hy
      obtain ⟨k0, hk0, _⟩ := (b3 y v oy).1 hv
      obtain ⟨k, hk, rfl⟩ := List.mem_map.1 hk0.1
      have kk := hk0.2.1
      have klt := kk.lt (h.inv.le k.s hk0.1).1
      refine (tidy_one h he hd hkd hk hk0 oy b2 b3 h0 (by omega) (by omega)).mono ?_
      rintro e' w' ⟨rfl, ⟨lv', pm⟩, hc⟩
      have hS : ((remF e.s.A T2).map (upk k.s.A e.s.m lv')).map Fn.s = (rem e.s.A (T2.map Fn.s)).map (upm k.s.A e.s.m) := by rw [upk_map, remF_map]
      have kne : k.s.A ≠ e.s.A := fun c => by rw [c] at klt; omega
      have AT : ∀ a : Nd, a.A.length < e.s.A.length → ∀ y g, AtK (((remF e.s.A T2).map (upk k.s.A e.s.m lv')).map Fn.s) a y g ↔ (g = joi e.s k.s ∧ AtK (T2.map Fn.s) a y e.s) ∨ (AtK (T2.map Fn.s) a y g ∧ g.A ≠ e.s.A ∧ g.A ≠ k.s.A) := fun a hl y g => by
        rw [hS]
        exact h.inv.unpart_atk (List.mem_map_of_mem he) hkd.1 (List.mem_map_of_mem hk) kk (fun c => by rw [c] at hl; omega) y g
      have gk : ∀ a : Nd, a.A.length < e.s.A.length → ∀ y g, AtK (T2.map Fn.s) a y g → g.A ≠ k.s.A := fun a hl y g c z => by
        obtain rfl := h.inv.same c.1 (List.mem_map_of_mem hk) z
        have := c.2.1.uniq kk
        rw [this] at hl
        omega
      refine ⟨_, rfl, ⟨⟨(remF e.s.A T2).map (upk k.s.A e.s.m lv'), nf, ?_, ?_, fun a hA hl => ?_, fun a hl y g => ?_, fun y g hy => ?_, .inr ⟨upk k.s.A e.s.m lv' k, List.mem_map_of_mem (mem_remF.2 ⟨hk, kne⟩), by rw [upk_s, upm_p], ?_⟩⟩, ⟨ptr m, e.lv, e.ev, e.kv, e.s.m, rr, ?_, own_ch lv hc (fun j hj c => ?_)⟩⟩, hc.mono (fun j _ c => c.elim .inl (fun c => .inr ⟨k, hk, .inl c⟩))⟩
      · rw [List.length_map, show ((remF e.s.A T2).length : Int) = (T2.length : Int) - 1 by omega]
        exact pm.conv (fun a c => atk a (dl a c))
      · refine q.goes he h0 e0 sm (formx_one h q.frm he hd hkd hk kk lv') (fun f hf c => ⟨_, List.mem_map_of_mem (mem_remF.2 ⟨hf, c⟩), by rw [upk_s, upm_A], (upk_en _ _ _ _).1, (upk_en _ _ _ _).2⟩) (fun f' hf' => ?_) (by rw [List.length_map]; omega)
        obtain ⟨f, hf, rfl⟩ := List.mem_map.1 hf'
        exact ⟨f, (mem_remF.1 hf).1, by rw [upk_s, upm_A], (upk_en _ _ _ _).1, (upk_en _ _ _ _).2, fun j c => upk_has.1 c⟩
      · have h1 := keepU a hA hl
        refine List.mem_map.2 ⟨a, mem_remF.2 ⟨h1, fun c => hl (by rw [c]; exact List.prefix_refl _)⟩, upk_ne (fun c => hl (by rw [c]; exact kk.goes))⟩
      · rw [AT a (by omega), ← atk a (by omega)]
        constructor
        · rintro (⟨_, c⟩ | ⟨c, _⟩)
          · have := c.2.1.uniq hkd
            rw [this] at hl
            omega
          · exact c
        · intro c
          refine .inr ⟨c, fun z => ?_, gk a (by omega) y g c⟩
          obtain rfl := h.inv.same c.1 (List.mem_map_of_mem he) z
          have := c.2.1.uniq hkd
          rw [this] at hl
          omega
      · rw [AT d.s elt, ← atk d.s elt]
        constructor
        · rintro (⟨_, c⟩ | ⟨c, _⟩)
          · have := c.2.2
            rw [ha.2.2] at this
            injection this with this
            exact absurd this.symm hy
          · exact c
        · intro c
          refine .inr ⟨c, fun z => ?_, gk d.s elt y g c⟩
          obtain rfl := h.inv.same c.1 (List.mem_map_of_mem he) z
          have := c.2.2
          rw [ha.2.2] at this
          injection this with this
          exact absurd this.symm hy
      · rw [AT d.s elt]
        exact .inl ⟨by rw [upk_s, upm_at]; rfl, ha⟩
      · refine (hc.block _ (fe.lt (.inl rfl)) (fun c => ?_)).trans fe.at_
        rcases c with c | c
        · exact h.tb_ne he (.inl c.symm)
        · exact h.apart he hk (fun z => kne (by rw [z])) e.s.p (.inl rfl) (.inl c)
      · obtain ⟨cur, q2⟩ := own_lt fe.lv hj
        rcases c with c | c
        · rw [c, h.tr] at q2
          cases q2
        · rw [c, (h.nd k hk).at_] at q2
          cases q2
end Go.Proofs.YtepjcfhbbcaldaaGreat.Li
namespace Go.Proofs.YtepjcfhbbcaldaaGreat.Li
open Go Go.RowKit
set_option linter.unusedSimpArgs false
set_option linter.unusedVariables false
variable {w w1 : World} {tb m r P : Nat} {nf nf1 nn : Int} {T T1 : List Fn} {d e f k : Fn} {F : List ByteArray → Prop} {x y0 y1 : ByteArray} {B : List ByteArray}
theorem filt_len {a : List ByteArray} : ∀ {l : List (List ByteArray)}, l.Nodup → a ∈ l → (l.filter (fun F => decide (F ≠ a))).length + 1 = l.length
  | [], _, h => by cases h
  | b :: l, hn, h => by
    rw [List.nodup_cons] at hn
    by_cases c : b = a
    · have fs : l.filter (fun F => decide (F ≠ a)) = l := List.filter_eq_self.2 (fun g hg => decide_eq_true (show g ≠ a from fun q => hn.1 (by rw [c, ← q]; exact hg)))
      rw [List.filter_cons, if_neg (by simp [c]), fs]
      rfl
    · rw [List.filter_cons, if_pos (by simp [c])]
      have := filt_len hn.2 ((List.mem_cons.1 h).elim (fun q => absurd q.symm c) id)
      simp only [List.length_cons]
      omega
/-- A trie's numbers and form. -/
structure Bs (P : Nat) (nf : Int) (T : List Fn) (B : List ByteArray := []) : Prop where
  frm : FormX T B
  cn : CN T nf
  few : ∀ f ∈ T, f.ne ≤ P
  ok : ∀ F' y z, HasE T F' y z → okT y
  len : T.length < 900000
theorem CN.nf0 (h : CN T nf) : 0 ≤ nf ∧ (f ∈ T → 0 < f.ne → 1 ≤ nf) := by
  obtain ⟨Fs, a, b, c⟩ := h
  refine ⟨by omega, fun hf h0 => ?_⟩
  have := List.length_pos_of_mem ((b f.s.A).2 ⟨f, hf, rfl, h0⟩)
  omega
theorem QS.ukv (q : QS tb P nf T T1 F x f.s.A) (hf : f ∈ T1) (same : ∀ a ∈ T1, ∀ b ∈ T1, a.s.A = b.s.A → a = b) {kv : Value} (hkv : kv = f.kv ∨ kv = .map none) : QS tb P nf T (T1.map (ukv f.s.A kv)) F x f.s.A := by
  have u : ∀ g : Fn, (Li.ukv f.s.A kv g).en = g.en ∧ (Li.ukv f.s.A kv g).ne = g.ne := fun g => by unfold Li.ukv; split <;> exact ⟨rfl, rfl⟩
  refine ⟨fun F' y z => ?_, fun j c => ?_, formx_map q.frm (fun g => ukv_s _ _ _) (fun g _ => .inr (u g).2), q.cn.congr (fun F' => ?_), fun g0 hg0 => ?_, by rw [List.length_map]; exact q.le, q.ok⟩
  · rw [← q.has]
    constructor
    · rintro ⟨g0, hg0, e1, e2⟩
      obtain ⟨g, hg, rfl⟩ := List.mem_map.1 hg0
      exact ⟨g, hg, by rw [← e1, ukv_s], by rw [← (u g).1]; exact e2⟩
    · rintro ⟨g, hg, e1, e2⟩
      exact ⟨_, List.mem_map_of_mem hg, by rw [ukv_s]; exact e1, by rw [(u g).1]; exact e2⟩
  · refine q.is j ?_
    rcases c with c | ⟨g0, hg0, c⟩
    · exact .inl c
    · obtain ⟨g, hg, rfl⟩ := List.mem_map.1 hg0
      rcases ukv_has c with c | ⟨ea, c⟩
      · exact .inr ⟨g, hg, c⟩
      · rcases hkv with z | z
        · exact .inr ⟨f, hf, .inr (.inr (by rw [← z]; exact c))⟩
        · rw [z] at c; cases c
  · constructor
    · rintro ⟨g, hg, e1, e2⟩
      exact ⟨_, List.mem_map_of_mem hg, by rw [ukv_s]; exact e1, by rw [(u g).2]; exact e2⟩
    · rintro ⟨g0, hg0, e1, e2⟩
      obtain ⟨g, hg, rfl⟩ := List.mem_map.1 hg0
      exact ⟨g, hg, by rw [← e1, ukv_s], by rw [← (u g).2]; exact e2⟩
  · obtain ⟨g, hg, rfl⟩ := List.mem_map.1 hg0
    rw [(u g).2]
    exact q.few g hg
theorem qs_frg (h : TM w tb m r nf nn T) (b : Bs P nf T B) (hB : B <+: f.s.A) (hf : f ∈ T) (h0 : 0 < f.ne) {ev : Value} (hev : ev = f.ev ∨ ev = .map none) : QS tb P (if f.ne = 1 then nf - 1 else nf) T (T.map (frg f.s.A x ev)) (fun F' => F' = f.s.A) x f.s.A := by
  have ne' : ∀ g ∈ T, g.s.A ≠ f.s.A → (frg f.s.A x ev g) = g := fun g _ c => frg_ne c
  refine ⟨fun F' y z => frg_hasE h hf F' y z, fun j c => ?_, fun g0 hg0 => ?_, ?_, fun g0 hg0 => ?_, by rw [List.length_map]; exact Nat.le_refl _, b.ok⟩
  · rcases c with c | ⟨g0, hg0, c⟩
    · exact .inl c
    · obtain ⟨g, hg, rfl⟩ := List.mem_map.1 hg0
      rcases frg_has c with c | ⟨ea, c⟩
      · exact .inr ⟨g, hg, c⟩
      · rcases hev with z | z
        · exact .inr ⟨f, hf, .inr (.inl (by rw [← z]; exact c))⟩
        · rw [z] at c; cases c
  · obtain ⟨g, hg, rfl⟩ := List.mem_map.1 hg0
    have FK : Fork T g.s.A → Fork (T.map (frg f.s.A x ev)) g.s.A := fun c => c.mono (fun c hc => ⟨_, List.mem_map_of_mem hc, by rw [frg_s]⟩)
    by_cases c : g.s.A = f.s.A
    · exact .inr (.inr (.inr (by rw [frg_s, c]; exact List.prefix_refl _)))
    · rw [frg_ne c]
      rcases b.frm g hg with q | q | q | q
      · exact .inl q
      · exact .inr (.inl q)
      · exact .inr (.inr (.inl (FK q)))
      · exact .inr (.inr (.inr (q.trans hB)))
  · obtain ⟨Fs, a1, a2, a3⟩ := b.cn
    have fin : f.s.A ∈ Fs := (a2 _).2 ⟨f, hf, rfl, h0⟩
    have oth : ∀ F', F' ≠ f.s.A → ((∃ g ∈ T.map (frg f.s.A x ev), g.s.A = F' ∧ 0 < g.ne) ↔ F' ∈ Fs) := fun F' c => by
      rw [a2]
      constructor
      · rintro ⟨g0, hg0, e1, e2⟩
        obtain ⟨g, hg, rfl⟩ := List.mem_map.1 hg0
        rw [frg_s] at e1
        rw [frg_ne (by rw [e1]; exact c)] at e2
        exact ⟨g, hg, e1, e2⟩
      · rintro ⟨g, hg, e1, e2⟩
        exact ⟨_, List.mem_map_of_mem hg, by rw [frg_s]; exact e1, by rw [frg_ne (by rw [e1]; exact c)]; exact e2⟩
    have own : (∃ g ∈ T.map (frg f.s.A x ev), g.s.A = f.s.A ∧ 0 < g.ne) ↔ ¬ f.ne = 1 := by
      constructor
      · rintro ⟨g0, hg0, e1, e2⟩
        obtain ⟨g, hg, rfl⟩ := List.mem_map.1 hg0
        rw [frg_s] at e1
        obtain rfl := h.same hg hf e1
        rw [frg_at] at e2
        have e2' : 0 < g.ne - 1 := e2
        omega
      · intro c
        refine ⟨_, List.mem_map_of_mem hf, by rw [frg_s], ?_⟩
        rw [frg_at]
        show 0 < f.ne - 1
        omega
    by_cases c1 : f.ne = 1
    · rw [if_pos c1]
      refine ⟨Fs.filter (fun F => decide (F ≠ f.s.A)), List.Pairwise.sublist List.filter_sublist a1, fun F' => ?_, ?_⟩
      · rw [List.mem_filter, decide_eq_true_eq]
        by_cases c : F' = f.s.A
        · rw [c, own]
          exact ⟨fun q => absurd rfl q.2, fun q => absurd c1 q⟩
        · rw [oth F' c]
          exact ⟨fun q => q.1, fun q => ⟨q, c⟩⟩
      · have := filt_len a1 fin
        rw [a3]
        omega
    · rw [if_neg c1]
      refine ⟨Fs, a1, fun F' => ?_, a3⟩
      by_cases c : F' = f.s.A
      · rw [c, own]
        exact ⟨fun _ => c1, fun _ => fin⟩
      · rw [oth F' c]
  · obtain ⟨g, hg, rfl⟩ := List.mem_map.1 hg0
    by_cases c : g.s.A = f.s.A
    · obtain rfl := h.same hg hf c
      rw [frg_at]
      show g.ne - 1 ≤ P
      have := b.few g hg
      omega
    · rw [frg_ne c]
      exact b.few g hg
/-- The node above is told of what was left below it. -/
structure Up (w2 : World) (tb m r P : Nat) (T : List Fn) (f : Fn) (F : List ByteArray → Prop) (x : ByteArray) (T2 : List Fn) (nf2 : Int) (f2 : Fn) : Prop where
  tm : TM w2 tb m r nf2 (T2.length : Int) T2
  q : QS tb P nf2 T T2 F x f.s.A
  mem : f2 ∈ T2
  s : f2.s = f.s
  keepU : ∀ a ∈ T, ¬ f.s.A <+: a.s.A → a ∈ T2
  atk : ∀ a : Nd, a.A.length < f.s.A.length → ∀ y g, AtK (T2.map Fn.s) a y g ↔ AtK (T.map Fn.s) a y g
theorem replace_up (h : TM w tb m r nf (T.length : Int) T) (b : Bs P nf T B) (hf : f ∈ T) (hk : k ∈ T) (ka : AtK (T.map Fn.s) f.s y1 k.s) {res : Value} (wo : WoE w1 tb m r P T k.s.A k.s.p f y1 F x res) (hc : Ch (isT tb T) w w1) :
    Calls Tryz.prog 43 #[ptr f.s.p, ptr k.s.p, res] w1 fun e w2 => e = .returned (.tuple #[]) ∧ (∃ T2 nf2 f2, Up w2 tb m r P T f F x T2 nf2 f2 ∧ (∀ y g, y ≠ y1 → (AtK (T2.map Fn.s) f.s y g ↔ AtK (T.map Fn.s) f.s y g)) ∧ ∀ a ∈ T, ¬ k.s.A <+: a.s.A → a.s.A ≠ f.s.A → a ∈ T2) ∧ Ch (isT tb T) w w2 := by
  obtain ⟨⟨T1, nf1, pm, q, kU, at1, at2, rs⟩, o2, lq, e2, k2, n, rr, hblk, hrow⟩ := wo
  have klt := ka.2.1.lt (h.inv.le k.s ka.1).1
  have f1 : f ∈ T1 := kU f hf (fun p => by have := p.length_le; omega)
  obtain ⟨N, ff⟩ := pm.nd0 f f1 rfl
  obtain ⟨nk, kd, b1, b2, b3⟩ := ff.kv
  have nkl := kids_le b2 b3
  rw [List.length_map] at nkl
  have bl := b.len
  have oy : okT y1 := by have := (h.ok k hk).1 y1 (List.mem_of_getElem? ka.2.2); unfold okT maxLen; omega
  have hs : (kd y1).isSome = true := by rw [(b3 y1 _ oy).2 ⟨_, ka, rfl⟩]; rfl
  have fin : ∀ (w2 : World), Rp w1 w2 tb m r nf1 (T1.length : Int) T1 f → (∃ T2 nf2 f2, Up w2 tb m r P T f F x T2 nf2 f2 ∧ (∀ y g, y ≠ y1 → (AtK (T2.map Fn.s) f.s y g ↔ AtK (T.map Fn.s) f.s y g)) ∧ ∀ a ∈ T, ¬ k.s.A <+: a.s.A → a.s.A ≠ f.s.A → a ∈ T2) ∧ Ch (isT tb T) w w2 := fun w2 ⟨⟨kv, tm, hkv⟩, c2⟩ => by
    refine ⟨⟨T1.map (ukv f.s.A kv), nf1, f.kvd kv, ⟨by rw [List.length_map]; exact tm, q.ukv f1 pm.same hkv, List.mem_map.2 ⟨f, f1, ukv_at rfl⟩, rfl, fun a ha hl => List.mem_map.2 ⟨a, kU a ha (fun p => hl (ka.2.1.goes.trans p)), ukv_ne (fun c => hl (by rw [c]; exact List.prefix_refl _))⟩, fun a hl y g => by rw [ukv_map]; exact at1 a hl y g⟩, fun y g hy => by rw [ukv_map]; exact at2 y g hy, fun a ha hl hn => List.mem_map.2 ⟨a, kU a ha hl, ukv_ne hn⟩⟩, hc.trans c2 (fun j _ c => q.is j (.inr ⟨f, f1, hgC_has c⟩))⟩
  have other : ∀ y, y ≠ y1 → ∀ v, okT y → (kd y = some v ↔ ∃ g, AtK (T1.map Fn.s) f.s y g ∧ v = ptr g.p) := fun y hy v oy => by
    rw [b3 y v oy]
    exact ⟨fun ⟨g, c1, c2⟩ => ⟨g, (at2 y g hy).2 c1, c2⟩, fun ⟨g, c1, c2⟩ => ⟨g, (at2 y g hy).1 c1, c2⟩⟩
  rcases rs with ⟨rfl, no⟩ | ⟨g, hg, rfl, ga⟩
  · refine (replace_nil pm f1 hblk hrow oy b2 hs (by omega) (fun y v oy' => ?_)).mono ?_
    · unfold setG
      by_cases c : y = y1
      · rw [if_pos c, c]
        exact ⟨fun z => (by cases z), fun ⟨g, c1, _⟩ => absurd c1 (no g)⟩
      · rw [if_neg c]
        exact other y c v oy'
    · rintro e w2 ⟨rfl, rp⟩
      exact ⟨rfl, fin w2 rp⟩
  · have glt := ga.2.1.lt (pm.inv.le g.s ga.1).1
    refine (replace_some (q := g) pm f1 hg (fun c => by rw [c] at glt; omega) oy (edge_cons ga.2.2) b2 hs (by omega) (fun y v oy' => ?_) _).mono ?_
    · unfold setG
      by_cases c : y = y1
      · rw [if_pos c, c]
        constructor
        · intro z
          injection z with z
          exact ⟨g.s, ga, z.symm⟩
        · rintro ⟨g', c1, c2⟩
          rw [c2, pm.inv.atk c1 ga]
      · rw [if_neg c]
        exact other y c v oy'
    · rintro e w2 ⟨rfl, rp⟩
      exact ⟨rfl, fin w2 rp⟩
theorem Up.tidy {w2 : World} {T2 : List Fn} {nf2 : Int} {f2 : Fn} (u : Up w2 tb m r P T f F x T2 nf2 f2) (b : Bs P nf T B) (hd : d ∈ T) (ha : AtK (T.map Fn.s) d.s y0 f.s) (fm : f.s.m ≤ f.s.A.length) (hc : Ch (isT tb T) w w2) :
    Calls Tryz.prog 42 #[ptr tb, ptr f.s.p] w2 fun e w' => ∃ res, e = .returned res ∧ WoE w' tb m r P T f.s.A f.s.p d y0 F x res ∧ Ch (isT tb T) w w' := by
  have dlt := ha.2.1.lt fm
  have bl := b.len
  have ql := u.q.le
  have := tidy_wo (e := f2) (d := d) (y0 := y0) (F := F) (x := x) (T := T) (P := P) u.tm u.mem (u.keepU d hd (fun p => by have := p.length_le; omega)) (by rw [u.s]; exact u.q) (by rw [u.s]; exact u.keepU) (by rw [u.s]; exact u.atk) (by rw [u.s]; exact (u.atk d.s dlt y0 f.s).2 ha) (by omega)
  rw [u.s] at this
  refine this.mono ?_
  rintro e w' ⟨res, rfl, wo, c⟩
  exact ⟨res, rfl, wo, hc.trans c (fun j _ z => u.q.is j z)⟩
end Go.Proofs.YtepjcfhbbcaldaaGreat.Li
namespace Go.Proofs.YtepjcfhbbcaldaaGreat.Li
open Go Go.RowKit
set_option linter.unusedSimpArgs false
set_option linter.unusedVariables false
variable {w : World} {tb m r P : Nat} {nf : Int} {T : List Fn} {d f g k : Fn} {L : List ByteArray} {x y0 : ByteArray} {v : Value} {q : Int}
theorem Rw.head' {w : World} {g o n c : Nat} {y : ByteArray} {ys : List ByteArray} (h : Rw w (.slice (some ⟨g, o, none⟩) n c) (y :: ys)) : w.cell? ⟨g, o, none⟩ = some (.string y) := by
  obtain ⟨g', o', n', c', e, _, _, _, hc, _⟩ := h.row.cons
  injection e with e1 e2 e3
  injection e1 with e1
  injection e1 with e1 e4 e5
  subst e1 e4
  exact hc
theorem CN.le (h : CN T nf) : nf ≤ T.length := by
  obtain ⟨Fs, a, b, c⟩ := h
  have := nodup_le Fs (T.map (fun f => f.s.A)) a (fun F hF => by
    obtain ⟨f, hf, e, _⟩ := (b F).1 hF
    exact List.mem_map.2 ⟨f, hf, e⟩)
  rw [List.length_map] at this
  omega
theorem ne_pos {B : List ByteArray} (h : TM w tb m r nf (T.length : Int) T) (b : Bs P nf T B) (hf : f ∈ T) (hq : f.en x = some q) : okT x ∧ 0 < f.ne := by
  have ox := b.ok _ _ _ ⟨f, hf, rfl, hq⟩
  refine ⟨ox, ?_⟩
  obtain ⟨K, k1, k2, k3⟩ := (h.nd f hf).ev.keys
  rw [← k2]
  exact List.length_pos_of_mem ((k3 x).2 ⟨ox, by show ((f.en x).map _).isSome = true; rw [hq]; rfl⟩)
/-- The key is forgotten where the levels end. -/
theorem forget_up {B : List ByteArray} (h : TM w tb m r nf (T.length : Int) T) (b : Bs P nf T B) (hB : B <+: f.s.A) (hP : P ≤ 100000) (hf : f ∈ T) (hq : f.en x = some q) {w1 : World} (hb : Below w.heap.size w w1) :
    Calls Tryz.prog 41 #[ptr tb, ptr f.s.p, .string x] w1 fun e w2 => e = .returned (.tuple #[]) ∧ (∃ T2 nf2 f2, Up w2 tb m r P T f (fun F' => F' = f.s.A) x T2 nf2 f2 ∧ (∀ y g, AtK (T2.map Fn.s) f.s y g ↔ AtK (T.map Fn.s) f.s y g) ∧ ∀ a ∈ T, a.s.A ≠ f.s.A → a ∈ T2) ∧ Ch (isT tb T) w w2 := by
  obtain ⟨ox, h0⟩ := ne_pos h b hf hq
  have c1 := (CN.nf0 (f := f) b.cn).2 hf h0
  have c2 := b.cn.le
  have c3 := b.len
  have c4 := b.few f hf
  refine (forget_any (h.below hb) hf ox hq c1 (by omega) (by omega)).mono ?_
  rintro e w2 ⟨rfl, ⟨ev, hev, tm⟩, hc⟩
  refine ⟨rfl, ⟨T.map (frg f.s.A x ev), _, { f with en := setN f.en x, ne := f.ne - 1, ev := ev }, ⟨by rw [List.length_map]; exact tm, qs_frg h b hB hf h0 hev, List.mem_map.2 ⟨f, hf, frg_at f⟩, rfl, fun a ha hl => List.mem_map.2 ⟨a, ha, frg_ne (fun c => hl (by rw [c]; exact List.prefix_refl _))⟩, fun a _ y g => by rw [frg_map]⟩, fun y g => by rw [frg_map], fun a ha hn => List.mem_map.2 ⟨a, ha, frg_ne hn⟩⟩, (Below.ch hb).trans hc (fun j _ c => c.elim .inl (fun c => .inr ⟨f, hf, c⟩))⟩
/-- What without does below a node, with at most so many levels left. -/
def WithoutOk (tb m r P : Nat) (x : ByteArray) (N : Nat) : Prop := ∀ (w : World) (nf : Int) (T : List Fn) (f d g : Fn) (v : Value) (L : List ByteArray) (y0 : ByteArray) (q : Int), L.length ≤ N → TM w tb m r nf (T.length : Int) T → Bs P nf T → f ∈ T → d ∈ T → AtK (T.map Fn.s) d.s y0 f.s → Rw w v L → g ∈ T → g.s.A = f.s.A ++ L → g.en x = some q →
  Calls Tryz.prog 25 #[ptr tb, ptr f.s.p, v, .string x] w fun e w' => ∃ res, e = .returned res ∧ WoE w' tb m r P T f.s.A f.s.p d y0 (fun F' => F' = f.s.A ++ L) x res ∧ Ch (isT tb T) w w'
/-- The ends of both ways: what tidy is asked. -/
def TidyOk (tb m r P : Nat) (T : List Fn) (f : Fn) (F : List ByteArray → Prop) (x : ByteArray) (w : World) (Q : Value → World → Prop) : Prop := ∀ (w2 : World) (T2 : List Fn) (nf2 : Int) (f2 : Fn), Up w2 tb m r P T f F x T2 nf2 f2 → Ch (isT tb T) w w2 → Calls Tryz.prog 42 #[ptr tb, ptr f.s.p] w2 fun e w' => ∃ res, e = .returned res ∧ Q res w'
set_option maxRecDepth 100000 in
set_option maxHeartbeats 4000000 in
theorem without_zero (h : TM w tb m r nf (T.length : Int) T) (b : Bs P nf T) (hP : P ≤ 100000) (hf : f ∈ T) (R : Rw w v []) (hq : f.en x = some q) {Q : Value → World → Prop} (ti : TidyOk tb m r P T f (fun F' => F' = f.s.A) x w Q) :
    Calls Tryz.prog 25 #[ptr tb, ptr f.s.p, v, .string x] w fun e w' => ∃ res, e = .returned res ∧ Q res w' := by
  obtain ⟨a, cap, rfl⟩ := R.row.nil
  have OW := hidi (own_any h.tr (h.nd f hf).at_)
  have FO := hidi (fun (w1 : World) (hb : Below w.heap.size w w1) => forget_up h b List.nil_prefix hP hf hq hb)
  have TI := hidi ti
  unfold ptr at *
  clear h b hP hf R hq ti
  go_enter Tryz.func25, Tryz.ntmps25
  go_wp2_with (first
    | (go_at_call 20; refine OW.out.mono ?_; rintro e w1 ⟨rfl, hb⟩; have F1 := hidi (FO.out w1 hb); clear hb OW FO)
    | (go_at_call 41; refine F1.out.mono ?_; rintro e w2 ⟨rfl, ⟨T2, nf2, f2, u, _⟩, hc⟩; have T1 := hidi (TI.out w2 T2 nf2 f2 u hc); clear u hc F1 TI)
    | (go_at_call 42; refine T1.out.mono ?_; rintro e w3 ⟨res, rfl, hQ⟩; have HQ := hidi hQ; clear hQ T1))
  go_ret
  exact ⟨res, rfl, HQ.out⟩
set_option maxRecDepth 100000 in
set_option maxHeartbeats 4000000 in
theorem without_cons {z : ByteArray} {rs : List ByteArray} {N : Nat} (IH : WithoutOk tb m r P x N) (h : TM w tb m r nf (T.length : Int) T) (b : Bs P nf T) (hf : f ∈ T) (R : Rw w v (z :: rs)) (hN : rs.length ≤ N) (hg : g ∈ T) (hgA : g.s.A = f.s.A ++ z :: rs) (hq : g.en x = some q) {Q : Value → World → Prop} (ti : TidyOk tb m r P T f (fun F' => F' = f.s.A ++ z :: rs) x w Q) :
    Calls Tryz.prog 25 #[ptr tb, ptr f.s.p, v, .string x] w fun e w' => ∃ res, e = .returned res ∧ Q res w' := by
  obtain ⟨k, hk, ka, kp⟩ := atk_rest h hf hg hgA
  have fd := h.nd f hf
  have fk := h.nd k hk
  have oz : okT z := by have := (h.ok k hk).1 z (List.mem_of_getElem? ka.2.2); unfold okT maxLen; omega
  obtain ⟨nk, kd, b1, b2, b3⟩ := fd.kv
  have hkx : kd z = some (ptr k.s.p) := (b3 z _ oz).2 ⟨_, ka, rfl⟩
  obtain ⟨mo, hmo⟩ := map_of b2
  obtain ⟨g0, o, n, cap, rfl, hn, hcap, hgl, hc0, -⟩ := R.row.cons
  have km := (h.inv.le k.s ka.1).1
  have kl := len_take k.s km
  have ktop := ka.2.1.2.1
  have kle := kp.length_le
  rw [hgA, List.length_append, List.length_cons] at kle
  obtain ⟨qa, qc, hlv⟩ : ∃ qa qc, k.lv = .slice qa k.s.m qc := own_sl fk.lv
  have hmn : k.s.m ≤ n := by omega
  have k0 := ka.2.1.1
  have eA : k.s.A = f.s.A ++ (z :: rs).take k.s.m := by
    have h1 := prefix_take kp
    rw [← h1, hgA, List.take_append, List.take_of_length_le (by omega)]
    congr 2
    omega
  have eF : k.s.A ++ (z :: rs).drop k.s.m = f.s.A ++ z :: rs := by rw [eA, List.append_assoc, List.take_append_drop]
  have c3 : w.cell? ⟨f.s.p, 3, none⟩ = some (.map mo) := by rw [← hmo]; exact box_cells fd.at_ 3 _ rfl
  have OW := hidi (own_any h.tr fd.at_)
  have LK := hidi (fun (w1 : World) (hb : Below w.heap.size w w1) => (show w1.cell? ⟨f.s.p, 3, none⟩ = some (.map mo) ∧ w1.cell? ⟨g0, o, none⟩ = some (.string z) ∧ (∀ M, (Instr.lookup 69 (.map mo) (.string z) false).run Tryz.prog (w1.drewN M) = .ok (ptr k.s.p) (w1.drewN M)) from by
    refine ⟨by rw [← hmo]; exact box_cells ((h.below hb).nd f hf).at_ 3 _ rfl, Rw.head' (R.below hb), fun M => ?_⟩
    have bd : Below w.heap.size w (w1.drewN M) := below_drewN hb
    have := (b2.keep (w' := w1.drewN M) (fun b e => bd.block b (b2.lt e))).look Tryz.underlying69 zero59 oz
    rw [hkx, hmo] at this
    exact this))
  have CK := hidi (fun (w1 : World) (hb : Below w.heap.size w w1) => (show w1.cell? ⟨k.s.p, 1, none⟩ = some (.slice qa k.s.m qc) from by rw [← hlv]; exact box_cells ((h.below hb).nd k hk).at_ 1 _ rfl))
  have IC := hidi (fun (w1 : World) (hb : Below w.heap.size w w1) => (show Calls Tryz.prog 25 #[ptr tb, ptr k.s.p, .slice (if cap = k.s.m then some ⟨g0, o, none⟩ else some ⟨g0, o + k.s.m, none⟩) (n - k.s.m) (cap - k.s.m), .string x] w1 fun e w2 => ∃ res, e = .returned res ∧ WoE w2 tb m r P T k.s.A k.s.p f z (fun F' => F' = f.s.A ++ z :: rs) x res ∧ Ch (isT tb T) w w2 from by
    have := IH w1 nf T k f g _ ((z :: rs).drop k.s.m) z q (by rw [List.length_drop, List.length_cons]; omega) (h.below hb) b hk hf ka ((R.below hb).drop hmn) hg (by rw [eF]; exact hgA) hq
    rw [eF] at this
    refine this.mono ?_
    rintro e w2 ⟨res, rfl, wo, hc⟩
    exact ⟨res, rfl, wo, (Below.ch hb).then hc⟩))
  have RU := hidi (fun (w2 : World) (res : Value) (wo : WoE w2 tb m r P T k.s.A k.s.p f z (fun F' => F' = f.s.A ++ z :: rs) x res) (hc : Ch (isT tb T) w w2) => replace_up h b hf hk ka wo hc)
  have TI := hidi ti
  have e0 : ((n : Int) == 0) = false := by rw [beq_eq_false_iff_ne]; omega
  have p0 : (0 : Int) < n := by omega
  have i1 : (k.s.m : Int) ≤ n := by omega
  have i2 : (k.s.m : Int) ≤ cap := by omega
  have i3 : (0 : Int) ≤ k.s.m := by omega
  unfold ptr at *
  clear IH h b hf R hN hg hgA hq ti hk ka kp fd fk oz b1 b2 b3 hkx hmo hn hcap hgl hc0 km kl ktop kle hlv hmn k0 eA eF c3
  go_enter Tryz.func25, Tryz.ntmps25
  go_wp2_with (go_at_call 20; refine OW.out.mono ?_; rintro e w1 ⟨rfl, hb⟩; have B1 := hidi hb; obtain ⟨l1, l2, hlook⟩ := LK.out w1 hb; clear hb OW LK)
  go_quiet (fail)
  obtain ⟨w2, hw2⟩ : ∃ w2, w2 = w1.drewN nq := ⟨_, rfl⟩
  have B2 : Hid (Below w.heap.size w w2) := by show Below _ _ _; rw [hw2]; exact below_drewN B1.out
  rw [← hw2]
  clear hw2 hlook l1 l2 B1
  have l3 := CK.out w2 B2.out
  have I1 := hidi (IC.out w2 B2.out)
  clear CK IC
  go_wp2_with (first
    | (go_at_call 25; refine I1.out.mono ?_; rintro e w3 ⟨res1, rfl, wo, hc⟩; have R1 := hidi (RU.out w3 res1 wo hc); clear wo hc I1 RU l3)
    | (go_at_call 43; refine R1.out.mono ?_; rintro e w4 ⟨rfl, ⟨T2, nf2, f2, u, _⟩, hc⟩; have T1 := hidi (TI.out w4 T2 nf2 f2 u hc); clear u hc R1 TI)
    | (go_at_call 42; refine T1.out.mono ?_; rintro e w5 ⟨res, rfl, hQ⟩; have HQ := hidi hQ; clear hQ T1))
  all_goals go_ret
  all_goals exact ⟨res, rfl, HQ.out⟩
/-- WITHOUT, below the root. -/
theorem without_any (hP : P ≤ 100000) : ∀ N, WithoutOk tb m r P x N
  | 0 => fun w nf T f d g v L y0 q hL h b hf hd ha R hg hgA hq => by
    obtain rfl : L = [] := List.length_eq_zero_iff.1 (by omega)
    rw [List.append_nil] at hgA ⊢
    obtain rfl := h.same hg hf hgA
    exact without_zero h b hP hg R hq (fun w2 T2 nf2 f2 u hc => u.tidy b hd ha (h.inv.le g.s (List.mem_map_of_mem hg)).1 hc)
  | N + 1 => fun w nf T f d g v L y0 q hL h b hf hd ha R hg hgA hq => by
    cases L with
    | nil =>
      rw [List.append_nil] at hgA ⊢
      obtain rfl := h.same hg hf hgA
      exact without_zero h b hP hg R hq (fun w2 T2 nf2 f2 u hc => u.tidy b hd ha (h.inv.le g.s (List.mem_map_of_mem hg)).1 hc)
    | cons z rs => exact without_cons (without_any hP N) h b hf R (by simp at hL; omega) hg hgA hq (fun w2 T2 nf2 f2 u hc => u.tidy b hd ha (h.inv.le f.s (List.mem_map_of_mem hf)).1 hc)
end Go.Proofs.YtepjcfhbbcaldaaGreat.Li
