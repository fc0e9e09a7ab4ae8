import Derived.Test.YtepjcfhbbcaldaaKjh
namespace Go.Proofs.Ytepjcfhbbcaldaa.Li
open Go Go.RowKit
set_option linter.unusedSimpArgs false
set_option linter.unusedVariables false
variable {w : World} {tb m r P : Nat} {nf nn : Int} {T T2 : List Fn} {d e k : Fn} {F : List ByteArray} {x y0 : ByteArray}
theorem remF_len : ∀ {T : List Fn}, (T.map Fn.s).Pairwise Apart → e ∈ T → (remF e.s.A T).length + 1 = T.length
  | [], _, h => by cases h
  | f :: T, hp, h => by
    rw [List.map_cons, List.pairwise_cons] at hp
    have all : (∀ g ∈ T, g.s.A ≠ e.s.A) → (remF e.s.A T).length = T.length := fun q => by
      unfold remF
      rw [List.filter_eq_self.2 (fun g hg => decide_eq_true (q g hg))]
    by_cases c : f.s.A = e.s.A
    · have : (remF e.s.A (f :: T)) = remF e.s.A T := by
        unfold remF
        rw [List.filter_cons, if_neg (by simp [c])]
      rw [this, all (fun g hg q => hp.1 g.s (List.mem_map_of_mem hg) (c.trans q.symm))]
      rfl
    · have : (remF e.s.A (f :: T)) = f :: remF e.s.A T := by
        unfold remF
        rw [List.filter_cons, if_pos (by simp [c])]
      rw [this]
      have hin : e ∈ T := by
        rcases List.mem_cons.1 h with q | q
        · rw [q] at c; exact absurd rfl c
        · exact q
      have := remF_len hp.2 hin
      simp only [List.length_cons]
      omega
theorem PM.conv {w : World} {S0 S1 : List Nd} {B : List ByteArray} (h : PM w tb m r nf nn T B S0) (hS : ∀ a : Nd, a.A = B → ∀ y g, AtK S0 a y g ↔ AtK S1 a y g) : PM w tb m r nf nn T B S1 :=
  ⟨h.tr, h.inv, h.rt, h.nd, fun f hf e => by
    obtain ⟨N, ff⟩ := h.nd0 f hf e
    exact ⟨N, ff.keep (Ch.refl (fun _ => False) _) (fun _ _ c => c) (fun _ c => c.elim) (Nat.le_refl _) (hS f.s e)⟩, h.dis, h.ok⟩
theorem TM.pm (h : TM w tb m r nf nn T) {B : List ByteArray} {S1 : List Nd} (hS : ∀ a : Nd, a.A = B → ∀ y g, AtK (T.map Fn.s) a y g ↔ AtK S1 a y g) : PM w tb m r nf nn T B S1 :=
  PM.conv ⟨h.tr, h.inv, h.rt, fun f hf _ => ⟨_, h.nd f hf⟩, fun f hf _ => ⟨_, h.nd f hf⟩, h.dis, h.ok⟩ hS
/-- What without leaves to the node above. -/
structure WoE (w' : World) (tb m r P : Nat) (T : List Fn) (fA : List ByteArray) (fp : Nat) (d : Fn) (y0 : ByteArray) (F : List ByteArray) (x : ByteArray) (res : Value) : Prop where
  ex : ∃ T' nf', PM w' tb m r nf' (T'.length : Int) T' d.s.A (T.map Fn.s) ∧ QS tb P nf' T T' F x d.s.A ∧ (∀ a ∈ T, a.s.A.length < fA.length → a ∈ T') ∧ (∀ a : Nd, a.A.length < d.s.A.length → ∀ y g, AtK (T'.map Fn.s) a y g ↔ AtK (T.map Fn.s) a y g) ∧ (∀ y g, y ≠ y0 → (AtK (T'.map Fn.s) d.s y g ↔ AtK (T.map Fn.s) d.s y g)) ∧ ((res = .pointer none ∧ ∀ g, ¬ AtK (T'.map Fn.s) d.s y0 g) ∨ ∃ q ∈ T', res = ptr q.s.p ∧ AtK (T'.map Fn.s) d.s y0 q.s)
  blk : ∃ o2 lq e2 k2 n rr, w'.heap[fp]? = some (.cells #[o2, lq, e2, k2] 62 (0, 0)) ∧ w'.ownsRow 0 9 1 lq n ((y0 :: rr).map Value.string)
theorem edge_cons {q : Nd} (h : q.A[q.top]? = some y0) : ∃ rr, q.edge = y0 :: rr := by
  have := edge_at q 0
  rw [Nat.add_zero, h] at this
  cases c : q.edge with
  | nil => rw [c] at this; simp at this
  | cons a l => rw [c] at this; simp at this; exact ⟨l, by rw [this]⟩
theorem fork_kids (h : TM w tb m r nf nn T) (he : e ∈ T) {nk : Nat} {kd : ByteArray → Option Value} (hm : MG w e.kv nk kd) (hK : Kds (T.map Fn.s) e.s kd) (h1 : 1 < nk) : Fork T e.s.A := by
  obtain ⟨K, k1, k2, k3⟩ := hm.keys
  match K, k1, k2, k3 with
  | [], _, k2, _ => simp at k2; omega
  | [_], _, k2, _ => simp at k2; omega
  | a :: b :: K, k1, k2, k3 =>
    have at_ : ∀ y, y ∈ a :: b :: K → ∃ g ∈ T, (e.s.A ++ [y]) <+: g.s.A := fun y hy => by
      obtain ⟨oy, hs⟩ := (k3 y).1 hy
      obtain ⟨v, hv⟩ := Option.isSome_iff_exists.1 hs
      obtain ⟨g0, hg, _⟩ := (hK y v oy).1 hv
      obtain ⟨g, hgT, rfl⟩ := List.mem_map.1 hg.1
      refine ⟨g, hgT, ?_⟩
      rw [← atk_take hg.2.1 hg.2.2]
      exact List.take_prefix _ _
    obtain ⟨ga, ha, pa⟩ := at_ a (by simp)
    obtain ⟨gb, hb, pb⟩ := at_ b (by simp)
    have ne : a ≠ b := by
      have := (List.nodup_cons.1 k1).1
      intro q
      exact this (by rw [q]; exact List.mem_cons_self)
    exact ⟨a, b, ga, gb, ne, ha, hb, pa, pb⟩
set_option maxHeartbeats 1000000 in
theorem tidy_wo (h : TM w tb m r nf (T2.length : Int) T2) (he : e ∈ T2) (hd : d ∈ T2) (q : QS tb P nf T T2 F x e.s.A) (keepU : ∀ a ∈ T, a.s.A.length < e.s.A.length → a ∈ T2) (atk : ∀ a : Nd, a.A.length < e.s.A.length → ∀ y g, AtK (T2.map Fn.s) a y g ↔ AtK (T.map Fn.s) a y g) (ha : AtK (T2.map Fn.s) d.s y0 e.s) (hT : T2.length < 900000) :
    Calls Try.prog 51 #[ptr tb, ptr e.s.p] w fun e' w' => ∃ res, e' = .returned res ∧ WoE w' tb m r P T e.s.A e.s.p d y0 F x res ∧ Ch (isT tb T2) w w' := by
  have fe := h.nd e he
  have hkd := ha.2.1
  have em := (h.inv.le e.s (List.mem_map_of_mem he)).1
  have elt := hkd.lt em
  obtain ⟨rr, er⟩ := edge_cons ha.2.2
  obtain ⟨nk, kd, b1, b2, b3⟩ := fe.kv
  have dl : ∀ a : Nd, a.A = d.s.A → a.A.length < e.s.A.length := fun a c => by rw [c]; exact elt
  have lv := fe.lv
  rw [er] at lv
  have l1 : 1 ≤ T2.length := List.length_pos_of_mem he
  by_cases hs : 0 < e.ne ∨ 1 < nk
  · refine (tidy_stay h he b2 (.inr hs)).mono ?_
    rintro e' w' ⟨rfl, rfl⟩
    refine ⟨_, rfl, ⟨⟨T2, nf, h.pm (fun a c => atk a (dl a c)), ⟨q.has, q.is, fun f hf => ?_, q.cn, q.few, q.le, q.ok⟩, keepU, fun a c => atk a (by omega), fun y g _ => atk d.s elt y g, .inr ⟨e, he, rfl, ha⟩⟩, ⟨ptr m, e.lv, e.ev, e.kv, e.s.m, rr, fe.at_, lv⟩⟩, Ch.refl _ _⟩
    rcases q.frm f hf with c | c | c | c
    · exact .inl c
    · exact .inr (.inl c)
    · exact .inr (.inr (.inl c))
    · obtain rfl := h.same hf he c
      rcases hs with c' | c'
      · exact .inr (.inl c')
      · exact .inr (.inr (.inl (fork_kids h hf b2 b3 c')))
  · have h0 : e.ne = 0 := by omega
    have e0 := q.en0 h he h0
    have sm : ∀ f ∈ T2, f.s.A = e.s.A → f = e := fun f hf c => h.same hf he c
    have rl := remF_len h.inv.dis he
    by_cases n0 : nk = 0
    · rw [n0] at b2
      refine (tidy_none h he hd hkd b2 b3 h0 (by omega) (by omega)).mono ?_
      rintro e' w' ⟨rfl, pm, hc⟩
      have hS : (remF e.s.A T2).map Fn.s = rem e.s.A (T2.map Fn.s) := remF_map _ _
      refine ⟨_, rfl, ⟨⟨remF e.s.A T2, nf, ?_, ?_, fun a hA hl => mem_remF.2 ⟨keepU a hA hl, fun c => by rw [c] at hl; omega⟩, fun a hl y g => ?_, fun y g hy => ?_, .inl ⟨rfl, fun g c => ?_⟩⟩, ⟨ptr m, e.lv, e.ev, e.kv, e.s.m, rr, ?_, own_ch lv hc (fun j hj c => ?_)⟩⟩, hc.mono (fun j _ c => .inl c)⟩
      · rw [show ((remF e.s.A T2).length : Int) = (T2.length : Int) - 1 by omega]
        exact pm.conv (fun a c => atk a (dl a c))
      · exact q.goes he h0 e0 sm (formx_none h q.frm he hd hkd) (fun f hf c => ⟨f, mem_remF.2 ⟨hf, c⟩, rfl, rfl, rfl⟩) (fun f' hf' => ⟨f', (mem_remF.1 hf').1, rfl, rfl, rfl, fun j c => c⟩) (by omega)
      · rw [hS, unleaf_atk, ← atk a (by omega)]
        refine ⟨fun c => c.1, fun c => ⟨c, fun z => ?_⟩⟩
        obtain rfl := h.inv.same c.1 (List.mem_map_of_mem he) z
        have := c.2.1.uniq hkd
        rw [this] at hl
        omega
      · rw [hS, unleaf_atk, ← atk d.s elt]
        refine ⟨fun c => c.1, fun c => ⟨c, fun z => ?_⟩⟩
        obtain rfl := h.inv.same c.1 (List.mem_map_of_mem he) z
        have := c.2.2
        rw [ha.2.2] at this
        injection this with this
        exact hy this.symm
      · rw [hS, unleaf_atk] at c
        have := h.inv.atk ha c.1
        exact c.2 (by rw [← this])
      · exact (hc.block _ (fe.lt (.inl rfl)) (fun c => h.tb_ne he (.inl c.symm))).trans fe.at_
      · obtain ⟨cur, q2⟩ := own_lt fe.lv hj
        rw [c, h.tr] at q2
        cases q2
    · have n1 : nk = 1 := by omega
      rw [n1] at b2
      obtain ⟨y, oy, hy⟩ := b2.some_ (by omega)
      obtain ⟨v, hv⟩ := Option.isSome_iff_exists.1 hy
      obtain ⟨k0, hk0, _⟩ := (b3 y v oy).1 hv
      obtain ⟨k, hk, rfl⟩ := List.mem_map.1 hk0.1
      have kk := hk0.2.1
      have klt := kk.lt (h.inv.le k.s hk0.1).1
      refine (tidy_one h he hd hkd hk hk0 oy b2 b3 h0 (by omega) (by omega)).mono ?_
      rintro e' w' ⟨rfl, ⟨lv', pm⟩, hc⟩
      have hS : ((remF e.s.A T2).map (upk k.s.A e.s.m lv')).map Fn.s = (rem e.s.A (T2.map Fn.s)).map (upm k.s.A e.s.m) := by rw [upk_map, remF_map]
      have kne : k.s.A ≠ e.s.A := fun c => by rw [c] at klt; omega
      have AT : ∀ a : Nd, a.A.length < e.s.A.length → ∀ y g, AtK (((remF e.s.A T2).map (upk k.s.A e.s.m lv')).map Fn.s) a y g ↔ (g = joi e.s k.s ∧ AtK (T2.map Fn.s) a y e.s) ∨ (AtK (T2.map Fn.s) a y g ∧ g.A ≠ e.s.A ∧ g.A ≠ k.s.A) := fun a hl y g => by
        rw [hS]
        exact h.inv.unpart_atk (List.mem_map_of_mem he) hkd.1 (List.mem_map_of_mem hk) kk (fun c => by rw [c] at hl; omega) y g
      have gk : ∀ a : Nd, a.A.length < e.s.A.length → ∀ y g, AtK (T2.map Fn.s) a y g → g.A ≠ k.s.A := fun a hl y g c z => by
        obtain rfl := h.inv.same c.1 (List.mem_map_of_mem hk) z
        have := c.2.1.uniq kk
        rw [this] at hl
        omega
      refine ⟨_, rfl, ⟨⟨(remF e.s.A T2).map (upk k.s.A e.s.m lv'), nf, ?_, ?_, fun a hA hl => ?_, fun a hl y g => ?_, fun y g hy => ?_, .inr ⟨upk k.s.A e.s.m lv' k, List.mem_map_of_mem (mem_remF.2 ⟨hk, kne⟩), by rw [upk_s, upm_p], ?_⟩⟩, ⟨ptr m, e.lv, e.ev, e.kv, e.s.m, rr, ?_, own_ch lv hc (fun j hj c => ?_)⟩⟩, hc.mono (fun j _ c => c.elim .inl (fun c => .inr ⟨k, hk, .inl c⟩))⟩
      · rw [List.length_map, show ((remF e.s.A T2).length : Int) = (T2.length : Int) - 1 by omega]
        exact pm.conv (fun a c => atk a (dl a c))
      · refine q.goes he h0 e0 sm (formx_one h q.frm he hk kk lv' _) (fun f hf c => ⟨_, List.mem_map_of_mem (mem_remF.2 ⟨hf, c⟩), by rw [upk_s, upm_A], (upk_en _ _ _ _).1, (upk_en _ _ _ _).2⟩) (fun f' hf' => ?_) (by rw [List.length_map]; omega)
        obtain ⟨f, hf, rfl⟩ := List.mem_map.1 hf'
        exact ⟨f, (mem_remF.1 hf).1, by rw [upk_s, upm_A], (upk_en _ _ _ _).1, (upk_en _ _ _ _).2, fun j c => upk_has.1 c⟩
      · have h1 := keepU a hA hl
        refine List.mem_map.2 ⟨a, mem_remF.2 ⟨h1, fun c => by rw [c] at hl; omega⟩, upk_ne (fun c => by rw [c] at hl; omega)⟩
      · rw [AT a (by omega), ← atk a (by omega)]
        constructor
        · rintro (⟨_, c⟩ | ⟨c, _⟩)
          · have := c.2.1.uniq hkd
            rw [this] at hl
            omega
          · exact c
        · intro c
          refine .inr ⟨c, fun z => ?_, gk a (by omega) y g c⟩
          obtain rfl := h.inv.same c.1 (List.mem_map_of_mem he) z
          have := c.2.1.uniq hkd
          rw [this] at hl
          omega
      · rw [AT d.s elt, ← atk d.s elt]
        constructor
        · rintro (⟨_, c⟩ | ⟨c, _⟩)
          · have := c.2.2
            rw [ha.2.2] at this
            injection this with this
            exact absurd this.symm hy
          · exact c
        · intro c
          refine .inr ⟨c, fun z => ?_, gk d.s elt y g c⟩
          obtain rfl := h.inv.same c.1 (List.mem_map_of_mem he) z
          have := c.2.2
          rw [ha.2.2] at this
          injection this with this
          exact absurd this.symm hy
      · rw [AT d.s elt]
        exact .inl ⟨by rw [upk_s, upm_at]; rfl, ha⟩
      · refine (hc.block _ (fe.lt (.inl rfl)) (fun c => ?_)).trans fe.at_
        rcases c with c | c
        · exact h.tb_ne he (.inl c.symm)
        · exact h.apart he hk (fun z => kne (by rw [z])) e.s.p (.inl rfl) (.inl c)
      · obtain ⟨cur, q2⟩ := own_lt fe.lv hj
        rcases c with c | c
        · rw [c, h.tr] at q2
          cases q2
        · rw [c, (h.nd k hk).at_] at q2
          cases q2
end Go.Proofs.Ytepjcfhbbcaldaa.Li
