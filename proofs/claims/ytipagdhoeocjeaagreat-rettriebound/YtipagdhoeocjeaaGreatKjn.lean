import Derived.Test.YtipagdhoeocjeaaGreatKjh
import Derived.Test.YtipagdhoeocjeaaGreatNb
import Derived.Test.YtipagdhoeocjeaaGreatKf
import Derived.Test.YtipagdhoeocjeaaGreatKjb
namespace Go.Proofs.YtipagdhoeocjeaaGreat.Li
open Go Go.RowKit
set_option linter.unusedSimpArgs false
set_option linter.unusedVariables false
variable {w : World} {tb r : Nat} {nf nn : Int} {T T2 : List Fn} {d e k : Fn} {F : List ByteArray → Prop} {y0 : ByteArray} {cnf : Int}
theorem remF_len : ∀ {T : List Fn}, (T.map Fn.s).Pairwise Apart → e ∈ T → (remF e.s.A T).length + 1 = T.length
  | [], _, h => by cases h
  | f :: T, hp, h => by
    rw [List.map_cons, List.pairwise_cons] at hp
    have all : (∀ g ∈ T, g.s.A ≠ e.s.A) → (remF e.s.A T).length = T.length := fun q => by
      unfold remF
      rw [List.filter_eq_self.2 (fun g hg => decide_eq_true (q g hg))]
    by_cases c : f.s.A = e.s.A
    · have : (remF e.s.A (f :: T)) = remF e.s.A T := by
        unfold remF
        rw [List.filter_cons, if_neg (by simp [c])]
      rw [this, all (fun g hg q => hp.1 g.s (List.mem_map_of_mem hg) (c.trans q.symm))]
      rfl
    · have : (remF e.s.A (f :: T)) = f :: remF e.s.A T := by
        unfold remF
        rw [List.filter_cons, if_pos (by simp [c])]
      rw [this]
      have hin : e ∈ T := by
        rcases List.mem_cons.1 h with q | q
        · rw [q] at c; exact absurd rfl c
        · exact q
      have := remF_len hp.2 hin
      simp only [List.length_cons]
      omega
theorem PM.conv {w : World} {S0 S1 : List Nd} {B : List ByteArray} (h : PM w tb r nf nn T B S0) (hS : ∀ a : Nd, a.A = B → ∀ y g, AtK S0 a y g ↔ AtK S1 a y g) : PM w tb r nf nn T B S1 :=
  ⟨h.tr, h.inv, h.rt, h.nd, fun f hf e => by
    obtain ⟨N, ff⟩ := h.nd0 f hf e
    exact ⟨N, ff.keep (Ch.refl (fun _ => False) _) (fun _ _ c => c) (fun _ c => c.elim) (Nat.le_refl _) (hS f.s e)⟩, h.dis, h.ok⟩
theorem TM.pm (h : TM w tb r nf nn T) {B : List ByteArray} {S1 : List Nd} (hS : ∀ a : Nd, a.A = B → ∀ y g, AtK (T.map Fn.s) a y g ↔ AtK S1 a y g) : PM w tb r nf nn T B S1 :=
  PM.conv ⟨h.tr, h.inv, h.rt, fun f hf _ => ⟨_, h.nd f hf⟩, fun f hf _ => ⟨_, h.nd f hf⟩, h.dis, h.ok⟩ hS
/-- What without leaves to the node above. -/
structure WoE (w' : World) (tb r : Nat) (nf cnf : Int) (T : List Fn) (fA : List ByteArray) (fp : Nat) (d : Fn) (y0 : ByteArray) (F : List ByteArray → Prop) (res : Value) : Prop where
  ex : ∃ T', PM w' tb r nf (T'.length : Int) T' d.s.A (T.map Fn.s) ∧ QS tb cnf T T' F d.s.A ∧ (∀ a ∈ T, ¬ fA <+: a.s.A → a ∈ T') ∧ (∀ a : Nd, a.A.length < d.s.A.length → ∀ y g, AtK (T'.map Fn.s) a y g ↔ AtK (T.map Fn.s) a y g) ∧ (∀ y g, y ≠ y0 → (AtK (T'.map Fn.s) d.s y g ↔ AtK (T.map Fn.s) d.s y g)) ∧ ((res = .pointer none ∧ ∀ g, ¬ AtK (T'.map Fn.s) d.s y0 g) ∨ ∃ q ∈ T', res = ptr q.s.p ∧ AtK (T'.map Fn.s) d.s y0 q.s)
  blk : ∃ lq e2 k2 n rr, w'.heap[fp]? = some (.cells #[lq, e2, k2] 75 (0, 0)) ∧ w'.ownsRow 0 9 1 lq n ((y0 :: rr).map Value.string)
theorem edge_cons {q : Nd} (h : q.A[q.top]? = some y0) : ∃ rr, q.edge = y0 :: rr := by
  have := edge_at q 0
  rw [Nat.add_zero, h] at this
  cases c : q.edge with
  | nil => rw [c] at this; simp at this
  | cons a l => rw [c] at this; simp at this; exact ⟨l, by rw [this]⟩
theorem fork_kids (h : TM w tb r nf nn T) (he : e ∈ T) {nk : Nat} {kd : ByteArray → Option Value} (hm : MG w e.kv nk kd) (hK : Kds (T.map Fn.s) e.s kd) (h1 : 1 < nk) : Fork T e.s.A := by
  obtain ⟨K, k1, k2, k3⟩ := hm.keys
  match K, k1, k2, k3 with
  | [], _, k2, _ => simp at k2; omega
  | [_], _, k2, _ => simp at k2; omega
  | a :: b :: K, k1, k2, k3 =>
    have at_ : ∀ y, y ∈ a :: b :: K → ∃ g ∈ T, (e.s.A ++ [y]) <+: g.s.A := fun y hy => by
      obtain ⟨oy, hs⟩ := (k3 y).1 hy
      obtain ⟨v, hv⟩ := Option.isSome_iff_exists.1 hs
      obtain ⟨g0, hg, _⟩ := (hK y v oy).1 hv
      obtain ⟨g, hgT, rfl⟩ := List.mem_map.1 hg.1
      refine ⟨g, hgT, ?_⟩
      rw [← atk_take hg.2.1 hg.2.2]
      exact List.take_prefix _ _
    obtain ⟨ga, ha, pa⟩ := at_ a (by simp)
    obtain ⟨gb, hb, pb⟩ := at_ b (by simp)
    have ne : a ≠ b := by
      have := (List.nodup_cons.1 k1).1
      intro q
      exact this (by rw [q]; exact List.mem_cons_self)
    exact ⟨a, b, ga, gb, ne, ha, hb, pa, pb⟩
set_option maxHeartbeats 1000000 in
theorem tidy_wo (h : TM w tb r nf (T2.length : Int) T2) (he : e ∈ T2) (hd : d ∈ T2) (q : QS tb cnf T T2 F e.s.A) (keepU : ∀ a ∈ T, ¬ e.s.A <+: a.s.A → a ∈ T2) (atk : ∀ a : Nd, a.A.length < e.s.A.length → ∀ y g, AtK (T2.map Fn.s) a y g ↔ AtK (T.map Fn.s) a y g) (ha : AtK (T2.map Fn.s) d.s y0 e.s) (hT : T2.length < 900000) :
    Calls Tryz.prog 68 #[ptr tb, ptr e.s.p] w fun e' w' => ∃ res, e' = .returned res ∧ WoE w' tb r nf cnf T e.s.A e.s.p d y0 F res ∧ Ch (isT tb T2) w w' := by
  have fe := h.nd e he
  have hkd := ha.2.1
  have em := (h.inv.le e.s (List.mem_map_of_mem he)).1
  have elt := hkd.lt em
  obtain ⟨rr, er⟩ := edge_cons ha.2.2
  obtain ⟨nk, kd, b1, b2, b3⟩ := fe.kv
  have dl : ∀ a : Nd, a.A = d.s.A → a.A.length < e.s.A.length := fun a c => by rw [c]; exact elt
  have lv := fe.lv
  rw [er] at lv
  have l1 : 1 ≤ T2.length := List.length_pos_of_mem he
  by_cases hs : e.ms.isSome = true ∨ 1 < nk
  · refine (tidy_stay h he b2 (.inr hs)).mono ?_
    rintro e' w' ⟨rfl, rfl⟩
    refine ⟨_, rfl, ⟨⟨T2, h.pm (fun a c => atk a (dl a c)), ⟨q.has, q.is, fun f hf => ?_, q.cn, q.le⟩, keepU, fun a c => atk a (by omega), fun y g _ => atk d.s elt y g, .inr ⟨e, he, rfl, ha⟩⟩, ⟨e.lv, e.ev, e.kv, e.s.m, rr, fe.at_, lv⟩⟩, Ch.refl _ _⟩
    rcases q.frm f hf with c | c | c | c
    · exact .inl c
    · exact .inr (.inl c)
    · exact .inr (.inr (.inl c))
    · by_cases fe' : f.s.A = e.s.A
      · obtain rfl := h.same hf he fe'
        rcases hs with c' | c'
        · exact .inr (.inl c')
        · exact .inr (.inr (.inl (fork_kids h hf b2 b3 c')))
      · exact .inr (.inr (.inr (pre_up h hf he hd hkd c fe')))
  · have h0 : e.ms = none := by
      cases c : e.ms with
      | none => rfl
      | some m => exact absurd (.inl (by rw [c]; rfl)) hs
    have sm : ∀ f ∈ T2, f.s.A = e.s.A → f = e := fun f hf c => h.same hf he c
    have rl := remF_len h.inv.dis he
    have hs2 : ¬ 1 < nk := fun c => hs (.inr c)
    by_cases n0 : nk = 0
    · rw [n0] at b2
      refine (tidy_none h he hd hkd b2 b3 h0 (by omega) (by omega)).mono ?_
      rintro e' w' ⟨rfl, pm, hc⟩
      have hS : (remF e.s.A T2).map Fn.s = rem e.s.A (T2.map Fn.s) := remF_map _ _
      refine ⟨_, rfl, ⟨⟨remF e.s.A T2, ?_, ?_, fun a hA hl => mem_remF.2 ⟨keepU a hA hl, fun c => hl (by rw [c]; exact List.prefix_refl _)⟩, fun a hl y g => ?_, fun y g hy => ?_, .inl ⟨rfl, fun g c => ?_⟩⟩, ⟨e.lv, e.ev, e.kv, e.s.m, rr, ?_, own_ch lv hc (fun j hj c => ?_)⟩⟩, hc.mono (fun j _ c => .inl c)⟩
      · rw [show ((remF e.s.A T2).length : Int) = (T2.length : Int) - 1 by omega]
        exact pm.conv (fun a c => atk a (dl a c))
      · exact q.goes he h0 sm (formx_none h q.frm he hd hkd) (fun f hf c => ⟨f, mem_remF.2 ⟨hf, c⟩, rfl, rfl⟩) (fun f' hf' => ⟨f', (mem_remF.1 hf').1, rfl, rfl, fun j c => c⟩) (by omega)
      · rw [hS, unleaf_atk, ← atk a (by omega)]
        refine ⟨fun c => c.1, fun c => ⟨c, fun z => ?_⟩⟩
        obtain rfl := h.inv.same c.1 (List.mem_map_of_mem he) z
        have := c.2.1.uniq hkd
        rw [this] at hl
        omega
      · rw [hS, unleaf_atk, ← atk d.s elt]
        refine ⟨fun c => c.1, fun c => ⟨c, fun z => ?_⟩⟩
        obtain rfl := h.inv.same c.1 (List.mem_map_of_mem he) z
        have := c.2.2
        rw [ha.2.2] at this
        injection this with this
        exact hy this.symm
      · rw [hS, unleaf_atk] at c
        have := h.inv.atk ha c.1
        exact c.2 (by rw [← this])
      · exact (hc.block _ (fe.lt (.inl rfl)) (fun c => h.tb_ne he (.inl c.symm))).trans fe.at_
      · obtain ⟨cur, q2⟩ := own_lt fe.lv hj
        rw [c, h.tr] at q2
        simp at q2
    · have n1 : nk = 1 := by omega
      rw [n1] at b2
      obtain ⟨y, oy, hy⟩ := b2.some_ (by omega)
      obtain ⟨v, hv⟩ := Option.isSome_iff_exists.1 hy
      obtain ⟨k0, hk0, _⟩ := (b3 y v oy).1 hv
      obtain ⟨k, hk, rfl⟩ := List.mem_map.1 hk0.1
      have kk := hk0.2.1
      have klt := kk.lt (h.inv.le k.s hk0.1).1
      refine (tidy_one h he hd hkd hk hk0 oy b2 b3 h0 (by omega) (by omega)).mono ?_
      rintro e' w' ⟨rfl, ⟨lv', pm⟩, hc⟩
      have hS : ((remF e.s.A T2).map (upk k.s.A e.s.m lv')).map Fn.s = (rem e.s.A (T2.map Fn.s)).map (upm k.s.A e.s.m) := by rw [upk_map, remF_map]
      have kne : k.s.A ≠ e.s.A := fun c => by rw [c] at klt; omega
      have AT : ∀ a : Nd, a.A.length < e.s.A.length → ∀ y g, AtK (((remF e.s.A T2).map (upk k.s.A e.s.m lv')).map Fn.s) a y g ↔ (g = joi e.s k.s ∧ AtK (T2.map Fn.s) a y e.s) ∨ (AtK (T2.map Fn.s) a y g ∧ g.A ≠ e.s.A ∧ g.A ≠ k.s.A) := fun a hl y g => by
        rw [hS]
        exact h.inv.unpart_atk (List.mem_map_of_mem he) hkd.1 (List.mem_map_of_mem hk) kk (fun c => by rw [c] at hl; omega) y g
      have gk : ∀ a : Nd, a.A.length < e.s.A.length → ∀ y g, AtK (T2.map Fn.s) a y g → g.A ≠ k.s.A := fun a hl y g c z => by
        obtain rfl := h.inv.same c.1 (List.mem_map_of_mem hk) z
        have := c.2.1.uniq kk
        rw [this] at hl
        omega
      refine ⟨_, rfl, ⟨⟨(remF e.s.A T2).map (upk k.s.A e.s.m lv'), ?_, ?_, fun a hA hl => ?_, fun a hl y g => ?_, fun y g hy => ?_, .inr ⟨upk k.s.A e.s.m lv' k, List.mem_map_of_mem (mem_remF.2 ⟨hk, kne⟩), by rw [upk_s, upm_p], ?_⟩⟩, ⟨e.lv, e.ev, e.kv, e.s.m, rr, ?_, own_ch lv hc (fun j hj c => ?_)⟩⟩, hc.mono (fun j _ c => c.elim .inl (fun c => .inr ⟨k, hk, .inl c⟩))⟩
      · rw [List.length_map, show ((remF e.s.A T2).length : Int) = (T2.length : Int) - 1 by omega]
        exact pm.conv (fun a c => atk a (dl a c))
      · refine q.goes he h0 sm (formx_one h q.frm he hd hkd hk kk lv') (fun f hf c => ⟨_, List.mem_map_of_mem (mem_remF.2 ⟨hf, c⟩), by rw [upk_s, upm_A], upk_ms _ _ _ _⟩) (fun f' hf' => ?_) (by rw [List.length_map]; omega)
        obtain ⟨f, hf, rfl⟩ := List.mem_map.1 hf'
        exact ⟨f, (mem_remF.1 hf).1, by rw [upk_s, upm_A], upk_ms _ _ _ _, fun j c => upk_has.1 c⟩
      · have h1 := keepU a hA hl
        refine List.mem_map.2 ⟨a, mem_remF.2 ⟨h1, fun c => hl (by rw [c]; exact List.prefix_refl _)⟩, upk_ne (fun c => hl (by rw [c]; exact kk.goes))⟩
      · rw [AT a (by omega), ← atk a (by omega)]
        constructor
        · rintro (⟨_, c⟩ | ⟨c, _⟩)
          · have := c.2.1.uniq hkd
            rw [this] at hl
            omega
          · exact c
        · intro c
          refine .inr ⟨c, fun z => ?_, gk a (by omega) y g c⟩
          obtain rfl := h.inv.same c.1 (List.mem_map_of_mem he) z
          have := c.2.1.uniq hkd
          rw [this] at hl
          omega
      · rw [AT d.s elt, ← atk d.s elt]
        constructor
        · rintro (⟨_, c⟩ | ⟨c, _⟩)
          · have := c.2.2
            rw [ha.2.2] at this
            injection this with this
            exact absurd this.symm hy
          · exact c
        · intro c
          refine .inr ⟨c, fun z => ?_, gk d.s elt y g c⟩
          obtain rfl := h.inv.same c.1 (List.mem_map_of_mem he) z
          have := c.2.2
          rw [ha.2.2] at this
          injection this with this
          exact absurd this.symm hy
      · rw [AT d.s elt]
        exact .inl ⟨by rw [upk_s, upm_at]; rfl, ha⟩
      · refine (hc.block _ (fe.lt (.inl rfl)) (fun c => ?_)).trans fe.at_
        rcases c with c | c
        · exact h.tb_ne he (.inl c.symm)
        · exact h.apart he hk (fun z => kne (by rw [z])) e.s.p (.inl rfl) (.inl c)
      · obtain ⟨cur, q2⟩ := own_lt fe.lv hj
        rcases c with c | c
        · rw [c, h.tr] at q2
          simp at q2
        · rw [c, (h.nd k hk).at_] at q2
          simp at q2
end Go.Proofs.YtipagdhoeocjeaaGreat.Li
namespace Go.Proofs.YtipagdhoeocjeaaGreat.Li
open Go Go.RowKit
set_option linter.unusedSimpArgs false
set_option linter.unusedVariables false
variable {w w1 : World} {tb r : Nat} {nf cnf bnf nn : Int} {T T1 : List Fn} {d e f k : Fn} {F : List ByteArray → Prop} {y0 y1 : ByteArray} {B : List ByteArray}
theorem filt_len {a : List ByteArray} : ∀ {l : List (List ByteArray)}, l.Nodup → a ∈ l → (l.filter (fun F => decide (F ≠ a))).length + 1 = l.length
  | [], _, h => by cases h
  | b :: l, hn, h => by
    rw [List.nodup_cons] at hn
    by_cases c : b = a
    · have fs : l.filter (fun F => decide (F ≠ a)) = l := List.filter_eq_self.2 (fun g hg => decide_eq_true (show g ≠ a from fun q => hn.1 (by rw [c, ← q]; exact hg)))
      rw [List.filter_cons, if_neg (by simp [c]), fs]
      rfl
    · rw [List.filter_cons, if_pos (by simp [c])]
      have := filt_len hn.2 ((List.mem_cons.1 h).elim (fun q => absurd q.symm c) id)
      simp only [List.length_cons]
      omega
/-- A trie's numbers and form. -/
structure Bs (nf : Int) (T : List Fn) (B : List ByteArray := []) : Prop where
  frm : FormX T B
  cn : CN T nf
  len : T.length < 900000
theorem CN.nf0 (h : CN T nf) : 0 ≤ nf ∧ (f ∈ T → f.ms.isSome = true → 1 ≤ nf) := by
  obtain ⟨Fs, a, b, c⟩ := h
  refine ⟨by omega, fun hf h0 => ?_⟩
  have := List.length_pos_of_mem ((b f.s.A).2 ⟨f, hf, rfl, h0⟩)
  omega
theorem QS.ukv (q : QS tb cnf T T1 F f.s.A) (hf : f ∈ T1) {kv : Value} (same : ∀ a ∈ T1, ∀ b ∈ T1, a.s.A = b.s.A → a = b) (hkv : kv = f.kv ∨ kv = .map none) : QS tb cnf T (T1.map (ukv f.s.A kv)) F f.s.A := by
  have u : ∀ g : Fn, (Li.ukv f.s.A kv g).ms = g.ms := fun g => by unfold Li.ukv; split <;> rfl
  refine ⟨fun F' z => ?_, fun j c => ?_, formx_map q.frm (fun g => ukv_s _ _ _) (fun g _ => .inr (u g)), q.cn.congr (fun F' => ?_), by rw [List.length_map]; exact q.le⟩
  · rw [← q.has]
    constructor
    · rintro ⟨g0, hg0, e1, e2⟩
      obtain ⟨g, hg, rfl⟩ := List.mem_map.1 hg0
      exact ⟨g, hg, by rw [← e1, ukv_s], by rw [← u g]; exact e2⟩
    · rintro ⟨g, hg, e1, e2⟩
      exact ⟨_, List.mem_map_of_mem hg, by rw [ukv_s]; exact e1, by rw [u g]; exact e2⟩
  · refine q.is j ?_
    rcases c with c | ⟨g0, hg0, c⟩
    · exact .inl c
    · obtain ⟨g, hg, rfl⟩ := List.mem_map.1 hg0
      rcases ukv_has c with c | ⟨ea, c⟩
      · exact .inr ⟨g, hg, c⟩
      · rcases hkv with z | z
        · exact .inr ⟨f, hf, .inr (.inr (by rw [← z]; exact c))⟩
        · rw [z] at c; cases c
  · constructor
    · rintro ⟨g, hg, e1, e2⟩
      exact ⟨_, List.mem_map_of_mem hg, by rw [ukv_s]; exact e1, by rw [u g]; exact e2⟩
    · rintro ⟨g0, hg0, e1, e2⟩
      obtain ⟨g, hg, rfl⟩ := List.mem_map.1 hg0
      exact ⟨g, hg, by rw [← e1, ukv_s], by rw [← u g]; exact e2⟩
theorem qs_frg (h : TM w tb r nf nn T) (b : Bs cnf T B) (hB : B <+: f.s.A) (hf : f ∈ T) (h0 : f.ms.isSome = true) : QS tb (cnf - 1) T (T.map (frg f.s.A)) (fun F' => F' = f.s.A) f.s.A := by
  refine ⟨fun F' z => frg_hasM h hf F' z, fun j c => ?_, fun g0 hg0 => ?_, ?_, by rw [List.length_map]; exact Nat.le_refl _⟩
  · rcases c with c | ⟨g0, hg0, c⟩
    · exact .inl c
    · obtain ⟨g, hg, rfl⟩ := List.mem_map.1 hg0
      exact .inr ⟨g, hg, frg_has c⟩
  · obtain ⟨g, hg, rfl⟩ := List.mem_map.1 hg0
    have FK : Fork T g.s.A → Fork (T.map (frg f.s.A)) g.s.A := fun c => c.mono (fun c hc => ⟨_, List.mem_map_of_mem hc, by rw [frg_s]⟩)
    by_cases c : g.s.A = f.s.A
    · exact .inr (.inr (.inr (by rw [frg_s, c]; exact List.prefix_refl _)))
    · rw [frg_ne c]
      rcases b.frm g hg with q | q | q | q
      · exact .inl q
      · exact .inr (.inl q)
      · exact .inr (.inr (.inl (FK q)))
      · exact .inr (.inr (.inr (q.trans hB)))
  · obtain ⟨Fs, a1, a2, a3⟩ := b.cn
    have fin : f.s.A ∈ Fs := (a2 _).2 ⟨f, hf, rfl, h0⟩
    have oth : ∀ F', F' ≠ f.s.A → ((∃ g ∈ T.map (frg f.s.A), g.s.A = F' ∧ g.ms.isSome = true) ↔ F' ∈ Fs) := fun F' c => by
      rw [a2]
      constructor
      · rintro ⟨g0, hg0, e1, e2⟩
        obtain ⟨g, hg, rfl⟩ := List.mem_map.1 hg0
        rw [frg_s] at e1
        rw [frg_ne (by rw [e1]; exact c)] at e2
        exact ⟨g, hg, e1, e2⟩
      · rintro ⟨g, hg, e1, e2⟩
        exact ⟨_, List.mem_map_of_mem hg, by rw [frg_s]; exact e1, by rw [frg_ne (by rw [e1]; exact c)]; exact e2⟩
    have own : ¬ ∃ g ∈ T.map (frg f.s.A), g.s.A = f.s.A ∧ g.ms.isSome = true := by
      rintro ⟨g0, hg0, e1, e2⟩
      obtain ⟨g, hg, rfl⟩ := List.mem_map.1 hg0
      rw [frg_s] at e1
      obtain rfl := h.same hg hf e1
      rw [frg_at] at e2
      cases e2
    refine ⟨Fs.filter (fun F => decide (F ≠ f.s.A)), List.Pairwise.sublist List.filter_sublist a1, fun F' => ?_, ?_⟩
    · rw [List.mem_filter, decide_eq_true_eq]
      by_cases c : F' = f.s.A
      · rw [c]
        exact ⟨fun q => absurd rfl q.2, fun q => absurd q own⟩
      · rw [oth F' c]
        exact ⟨fun q => q.1, fun q => ⟨q, c⟩⟩
    · have := filt_len a1 fin
      rw [a3]
      omega
/-- The node above is told of what was left below it. -/
structure Up (w2 : World) (tb r : Nat) (nf cnf : Int) (T : List Fn) (f : Fn) (F : List ByteArray → Prop) (T2 : List Fn) (f2 : Fn) : Prop where
  tm : TM w2 tb r nf (T2.length : Int) T2
  q : QS tb cnf T T2 F f.s.A
  mem : f2 ∈ T2
  s : f2.s = f.s
  keepU : ∀ a ∈ T, ¬ f.s.A <+: a.s.A → a ∈ T2
  atk : ∀ a : Nd, a.A.length < f.s.A.length → ∀ y g, AtK (T2.map Fn.s) a y g ↔ AtK (T.map Fn.s) a y g
theorem replace_up (h : TM w tb r nf (T.length : Int) T) (b : Bs bnf T B) (hf : f ∈ T) (hk : k ∈ T) (ka : AtK (T.map Fn.s) f.s y1 k.s) {res : Value} (wo : WoE w1 tb r nf cnf T k.s.A k.s.p f y1 F res) (hc : Ch (isT tb T) w w1) :
    Calls Tryz.prog 69 #[ptr f.s.p, ptr k.s.p, res] w1 fun e w2 => e = .returned (.tuple #[]) ∧ (∃ T2 f2, Up w2 tb r nf cnf T f F T2 f2 ∧ (∀ y g, y ≠ y1 → (AtK (T2.map Fn.s) f.s y g ↔ AtK (T.map Fn.s) f.s y g)) ∧ ∀ a ∈ T, ¬ k.s.A <+: a.s.A → a.s.A ≠ f.s.A → a ∈ T2) ∧ Ch (isT tb T) w w2 := by
  obtain ⟨⟨T1, pm, q, kU, at1, at2, rs⟩, lq, e2, k2, n, rr, hblk, hrow⟩ := wo
  have klt := ka.2.1.lt (h.inv.le k.s ka.1).1
  have f1 : f ∈ T1 := kU f hf (fun p => by have := p.length_le; omega)
  obtain ⟨N, ff⟩ := pm.nd0 f f1 rfl
  obtain ⟨nk, kd, b1, b2, b3⟩ := ff.kv
  have nkl := kids_le b2 b3
  rw [List.length_map] at nkl
  have bl := b.len
  have oy : okT y1 := by have := (h.ok k hk).1 y1 (List.mem_of_getElem? ka.2.2); unfold okT maxLen; omega
  have hs : (kd y1).isSome = true := by rw [(b3 y1 _ oy).2 ⟨_, ka, rfl⟩]; rfl
  have fin : ∀ (w2 : World), Rp w1 w2 tb r nf (T1.length : Int) T1 f → (∃ T2 f2, Up w2 tb r nf cnf T f F T2 f2 ∧ (∀ y g, y ≠ y1 → (AtK (T2.map Fn.s) f.s y g ↔ AtK (T.map Fn.s) f.s y g)) ∧ ∀ a ∈ T, ¬ k.s.A <+: a.s.A → a.s.A ≠ f.s.A → a ∈ T2) ∧ Ch (isT tb T) w w2 := fun w2 ⟨⟨kv, tm, hkv⟩, c2⟩ => by
    refine ⟨⟨T1.map (ukv f.s.A kv), f.kvd kv, ⟨by rw [List.length_map]; exact tm, q.ukv f1 pm.same hkv, List.mem_map.2 ⟨f, f1, ukv_at rfl⟩, rfl, fun a ha hl => List.mem_map.2 ⟨a, kU a ha (fun p => hl (ka.2.1.goes.trans p)), ukv_ne (fun c => hl (by rw [c]; exact List.prefix_refl _))⟩, fun a hl y g => by rw [ukv_map]; exact at1 a hl y g⟩, fun y g hy => by rw [ukv_map]; exact at2 y g hy, fun a ha hl hn => List.mem_map.2 ⟨a, kU a ha hl, ukv_ne hn⟩⟩, hc.trans c2 (fun j _ c => q.is j (.inr ⟨f, f1, hgC_has c⟩))⟩
  have other : ∀ y, y ≠ y1 → ∀ v, okT y → (kd y = some v ↔ ∃ g, AtK (T1.map Fn.s) f.s y g ∧ v = ptr g.p) := fun y hy v oy => by
    rw [b3 y v oy]
    exact ⟨fun ⟨g, c1, c2⟩ => ⟨g, (at2 y g hy).2 c1, c2⟩, fun ⟨g, c1, c2⟩ => ⟨g, (at2 y g hy).1 c1, c2⟩⟩
  rcases rs with ⟨rfl, no⟩ | ⟨g, hg, rfl, ga⟩
  · refine (replace_nil pm f1 hblk hrow oy b2 hs (by omega) (fun y v oy' => ?_)).mono ?_
    · unfold setG
      by_cases c : y = y1
      · rw [if_pos c, c]
        exact ⟨fun z => (by cases z), fun ⟨g, c1, _⟩ => absurd c1 (no g)⟩
      · rw [if_neg c]
        exact other y c v oy'
    · rintro e w2 ⟨rfl, rp⟩
      exact ⟨rfl, fin w2 rp⟩
  · have glt := ga.2.1.lt (pm.inv.le g.s ga.1).1
    refine (replace_some (q := g) pm f1 hg (fun c => by rw [c] at glt; omega) oy (edge_cons ga.2.2) b2 hs (by omega) (fun y v oy' => ?_) _).mono ?_
    · unfold setG
      by_cases c : y = y1
      · rw [if_pos c, c]
        constructor
        · intro z
          injection z with z
          exact ⟨g.s, ga, z.symm⟩
        · rintro ⟨g', c1, c2⟩
          rw [c2, pm.inv.atk c1 ga]
      · rw [if_neg c]
        exact other y c v oy'
    · rintro e w2 ⟨rfl, rp⟩
      exact ⟨rfl, fin w2 rp⟩
theorem Up.tidy {w2 : World} {T2 : List Fn} {f2 : Fn} (u : Up w2 tb r nf cnf T f F T2 f2) (b : Bs bnf T B) (hd : d ∈ T) (ha : AtK (T.map Fn.s) d.s y0 f.s) (fm : f.s.m ≤ f.s.A.length) (hc : Ch (isT tb T) w w2) :
    Calls Tryz.prog 68 #[ptr tb, ptr f.s.p] w2 fun e w' => ∃ res, e = .returned res ∧ WoE w' tb r nf cnf T f.s.A f.s.p d y0 F res ∧ Ch (isT tb T) w w' := by
  have dlt := ha.2.1.lt fm
  have bl := b.len
  have ql := u.q.le
  have := tidy_wo (e := f2) (d := d) (y0 := y0) (F := F) (T := T) u.tm u.mem (u.keepU d hd (fun p => by have := p.length_le; omega)) (by rw [u.s]; exact u.q) (by rw [u.s]; exact u.keepU) (by rw [u.s]; exact u.atk) (by rw [u.s]; exact (u.atk d.s dlt y0 f.s).2 ha) (by omega)
  rw [u.s] at this
  refine this.mono ?_
  rintro e w' ⟨res, rfl, wo, c⟩
  exact ⟨res, rfl, wo, hc.trans c (fun j _ z => u.q.is j z)⟩
end Go.Proofs.YtipagdhoeocjeaaGreat.Li
namespace Go.Proofs.YtipagdhoeocjeaaGreat.Li
open Go Go.RowKit
set_option linter.unusedSimpArgs false
set_option linter.unusedVariables false
variable {w : World} {tb r : Nat} {nf bnf : Int} {T : List Fn} {d f g k : Fn} {L : List ByteArray} {y0 : ByteArray} {v : Value} {q : Msg}
theorem Rw.head' {w : World} {g o n c : Nat} {y : ByteArray} {ys : List ByteArray} (h : Rw w (.slice (some ⟨g, o, none⟩) n c) (y :: ys)) : w.cell? ⟨g, o, none⟩ = some (.string y) := by
  obtain ⟨g', o', n', c', e, _, _, _, hc, _⟩ := h.row.cons
  injection e with e1 e2 e3
  injection e1 with e1
  injection e1 with e1 e4 e5
  subst e1 e4
  exact hc
theorem atk_rest {nn : Int} (ht : TM w tb r nf nn T) {f g : Fn} (hf : f ∈ T) (hg : g ∈ T) {x : ByteArray} {rs : List ByteArray} (e : g.s.A = f.s.A ++ x :: rs) : ∃ q ∈ T, AtK (T.map Fn.s) f.s x q.s ∧ q.s.A <+: g.s.A := by
  obtain ⟨e0, he0, hk, hp⟩ := ht.inv.way g.s.A.length g.s (List.mem_map_of_mem hg) (Nat.le_refl _) f.s (List.mem_map_of_mem hf) ⟨_, e.symm⟩ (by rw [e]; simp)
  obtain ⟨q, hq, rfl⟩ := List.mem_map.1 he0
  refine ⟨q, hq, ⟨he0, hk, ?_⟩, hp⟩
  have hlt := hk.lt (ht.inv.le q.s he0).1
  obtain ⟨t, et⟩ := hp
  have : g.s.A[f.s.A.length]? = some x := by rw [e, List.getElem?_append_right (Nat.le_refl _)]; simp
  rw [← et, List.getElem?_append_left hlt] at this
  rw [hk.2.1]
  exact this
theorem CN.le (h : CN T nf) : nf ≤ T.length := by
  obtain ⟨Fs, a, b, c⟩ := h
  have := nodup_le Fs (T.map (fun f => f.s.A)) a (fun F hF => by
    obtain ⟨f, hf, e, _⟩ := (b F).1 hF
    exact List.mem_map.2 ⟨f, hf, e⟩)
  rw [List.length_map] at this
  omega
/-- The message is taken away where the levels end. -/
theorem forget_up (h : TM w tb r nf (T.length : Int) T) (b : Bs bnf T) (hf : f ∈ T) (hq : f.ms = some q) :
    (∃ T2 f2, Up (w.setCell ⟨f.s.p, 1, none⟩ (.pointer none)) tb r nf (bnf - 1) T f (fun F' => F' = f.s.A) T2 f2) ∧ Ch (isT tb T) w (w.setCell ⟨f.s.p, 1, none⟩ (.pointer none)) := by
  have fd := h.nd f hf
  have hc := ch_set (w := w) f.s.p 1 (.pointer none)
  refine ⟨⟨T.map (frg f.s.A), { f with ms := none, ev := .pointer none }, ⟨by rw [List.length_map]; exact h.forgot hf hc (heap_set fd.at_ _), qs_frg h b List.nil_prefix hf (by rw [hq]; rfl), List.mem_map.2 ⟨f, hf, frg_at f⟩, rfl, fun a ha hl => List.mem_map.2 ⟨a, ha, frg_ne (fun c => hl (by rw [c]; exact List.prefix_refl _))⟩, fun a _ y g => by rw [frg_map]⟩⟩, hc.mono (fun j _ c => .inr ⟨f, hf, .inl c⟩)⟩
/-- What without does below a node, with at most so many levels left. -/
def WithoutOk (tb r : Nat) (N : Nat) : Prop := ∀ (w : World) (nf bnf : Int) (T : List Fn) (f d g : Fn) (v : Value) (L : List ByteArray) (y0 : ByteArray) (q : Msg), L.length ≤ N → TM w tb r nf (T.length : Int) T → Bs bnf T → f ∈ T → d ∈ T → AtK (T.map Fn.s) d.s y0 f.s → Rw w v L → g ∈ T → g.s.A = f.s.A ++ L → g.ms = some q →
  Calls Tryz.prog 52 #[ptr tb, ptr f.s.p, v] w fun e w' => ∃ res, e = .returned res ∧ WoE w' tb r nf (bnf - 1) T f.s.A f.s.p d y0 (fun F' => F' = f.s.A ++ L) res ∧ Ch (isT tb T) w w'
/-- The ends of both ways: what tidy is asked. -/
def TidyOk (tb r : Nat) (nf cnf : Int) (T : List Fn) (f : Fn) (F : List ByteArray → Prop) (w : World) (Q : Value → World → Prop) : Prop := ∀ (w2 : World) (T2 : List Fn) (f2 : Fn), Up w2 tb r nf cnf T f F T2 f2 → Ch (isT tb T) w w2 → Calls Tryz.prog 68 #[ptr tb, ptr f.s.p] w2 fun e w' => ∃ res, e = .returned res ∧ Q res w'
set_option maxRecDepth 100000 in
set_option maxHeartbeats 4000000 in
theorem without_zero (h : TM w tb r nf (T.length : Int) T) (b : Bs bnf T) (hf : f ∈ T) (R : Rw w v []) (hq : f.ms = some q) {Q : Value → World → Prop} (ti : TidyOk tb r nf (bnf - 1) T f (fun F' => F' = f.s.A) w Q) :
    Calls Tryz.prog 52 #[ptr tb, ptr f.s.p, v] w fun e w' => ∃ res, e = .returned res ∧ Q res w' := by
  obtain ⟨a, cap, rfl⟩ := R.row.nil
  obtain ⟨⟨T2, f2, u⟩, hc⟩ := forget_up h b hf hq
  have T1 := hidi (ti _ T2 f2 u hc)
  have f1 := box_frozen (h.nd f hf).at_ 1
  have c1 := box_cells (h.nd f hf).at_ 1 _ rfl
  unfold ptr at *
  clear h b hf R hq ti u hc
  go_enter Tryz.func52, Tryz.ntmps52
  go_wp2_with (go_at_call 68; refine T1.out.mono ?_; rintro e w3 ⟨res, rfl, hQ⟩; have HQ := hidi hQ; clear hQ T1)
  go_ret
  exact ⟨res, rfl, HQ.out⟩
set_option maxRecDepth 100000 in
set_option maxHeartbeats 4000000 in
theorem without_cons {z : ByteArray} {rs : List ByteArray} {N : Nat} (IH : WithoutOk tb r N) (h : TM w tb r nf (T.length : Int) T) (b : Bs bnf T) (hf : f ∈ T) (R : Rw w v (z :: rs)) (hN : rs.length ≤ N) (hg : g ∈ T) (hgA : g.s.A = f.s.A ++ z :: rs) (hq : g.ms = some q) {Q : Value → World → Prop} (ti : TidyOk tb r nf (bnf - 1) T f (fun F' => F' = f.s.A ++ z :: rs) w Q) :
    Calls Tryz.prog 52 #[ptr tb, ptr f.s.p, v] w fun e w' => ∃ res, e = .returned res ∧ Q res w' := by
  obtain ⟨k, hk, ka, kp⟩ := atk_rest h hf hg hgA
  have fd := h.nd f hf
  have fk := h.nd k hk
  have oz : okT z := by have := (h.ok k hk).1 z (List.mem_of_getElem? ka.2.2); unfold okT maxLen; omega
  obtain ⟨nk, kd, b1, b2, b3⟩ := fd.kv
  have hkx : kd z = some (ptr k.s.p) := (b3 z _ oz).2 ⟨_, ka, rfl⟩
  obtain ⟨mo, hmo⟩ := map_of b2
  obtain ⟨g0, o, n, cap, rfl, hn, hcap, hgl, hc0, -⟩ := R.row.cons
  have km := (h.inv.le k.s ka.1).1
  have kl := len_take k.s km
  have ktop := ka.2.1.2.1
  have kle := kp.length_le
  rw [hgA, List.length_append, List.length_cons] at kle
  obtain ⟨qa, qc, hlv⟩ : ∃ qa qc, k.lv = .slice qa k.s.m qc := own_sl fk.lv
  have hmn : k.s.m ≤ n := by omega
  have k0 := ka.2.1.1
  have eA : k.s.A = f.s.A ++ (z :: rs).take k.s.m := by
    have h1 := prefix_take kp
    rw [← h1, hgA, List.take_append, List.take_of_length_le (by omega)]
    congr 2
    omega
  have eF : k.s.A ++ (z :: rs).drop k.s.m = f.s.A ++ z :: rs := by rw [eA, List.append_assoc, List.take_append_drop]
  have c3 : w.cell? ⟨f.s.p, 2, none⟩ = some (.map mo) := by rw [← hmo]; exact box_cells fd.at_ 2 _ rfl
  have LK := hidi (fun (w1 : World) (hb : Below w.heap.size w w1) => (show w1.cell? ⟨f.s.p, 2, none⟩ = some (.map mo) ∧ w1.cell? ⟨g0, o, none⟩ = some (.string z) ∧ (∀ M, (Instr.lookup 73 (.map mo) (.string z) false).run Tryz.prog (w1.drewN M) = .ok (ptr k.s.p) (w1.drewN M)) from by
    refine ⟨by rw [← hmo]; exact box_cells ((h.below hb).nd f hf).at_ 2 _ rfl, Rw.head' (R.below hb), fun M => ?_⟩
    have bd : Below w.heap.size w (w1.drewN M) := below_drewN hb
    have := (b2.keep (w' := w1.drewN M) (fun b e => bd.block b (b2.lt e))).look Tryz.underlying73 zero60 oz
    rw [hkx, hmo] at this
    exact this))
  have CK := hidi (fun (w1 : World) (hb : Below w.heap.size w w1) => (show w1.cell? ⟨k.s.p, 0, none⟩ = some (.slice qa k.s.m qc) from by rw [← hlv]; exact box_cells ((h.below hb).nd k hk).at_ 0 _ rfl))
  have IC := hidi (fun (w1 : World) (hb : Below w.heap.size w w1) => (show Calls Tryz.prog 52 #[ptr tb, ptr k.s.p, .slice (if cap = k.s.m then some ⟨g0, o, none⟩ else some ⟨g0, o + k.s.m, none⟩) (n - k.s.m) (cap - k.s.m)] w1 fun e w2 => ∃ res, e = .returned res ∧ WoE w2 tb r nf (bnf - 1) T k.s.A k.s.p f z (fun F' => F' = f.s.A ++ z :: rs) res ∧ Ch (isT tb T) w w2 from by
    have := IH w1 nf bnf T k f g _ ((z :: rs).drop k.s.m) z q (by rw [List.length_drop, List.length_cons]; omega) (h.below hb) b hk hf ka ((R.below hb).drop hmn) hg (by rw [eF]; exact hgA) hq
    rw [eF] at this
    refine this.mono ?_
    rintro e w2 ⟨res, rfl, wo, hc⟩
    exact ⟨res, rfl, wo, (Below.ch hb).then hc⟩))
  have RU := hidi (fun (w2 : World) (res : Value) (wo : WoE w2 tb r nf (bnf - 1) T k.s.A k.s.p f z (fun F' => F' = f.s.A ++ z :: rs) res) (hc : Ch (isT tb T) w w2) => replace_up h b hf hk ka wo hc)
  have TI := hidi ti
  have e0 : ((n : Int) == 0) = false := by rw [beq_eq_false_iff_ne]; omega
  have p0 : (0 : Int) < n := by omega
  have i1 : (k.s.m : Int) ≤ n := by omega
  have i2 : (k.s.m : Int) ≤ cap := by omega
  have i3 : (0 : Int) ≤ k.s.m := by omega
  unfold ptr at *
  clear IH h b hf R hN hg hgA hq ti hk ka kp fd fk oz b1 b2 b3 hkx hmo hn hcap hgl hc0 km kl ktop kle hlv hmn k0 eA eF c3
  go_enter Tryz.func52, Tryz.ntmps52
  obtain ⟨l1, l2, hlook⟩ := LK.out w (Below.refl _ _)
  have B1 := hidi (Below.refl w.heap.size w)
  go_wp2_with fail
  go_quiet (fail)
  obtain ⟨w2, hw2⟩ : ∃ w2, w2 = w.drewN nq := ⟨_, rfl⟩
  have B2 : Hid (Below w.heap.size w w2) := by show Below _ _ _; rw [hw2]; exact below_drewN B1.out
  rw [← hw2]
  clear hw2 hlook l1 l2 B1
  have l3 := CK.out w2 B2.out
  have I1 := hidi (IC.out w2 B2.out)
  clear CK IC
  go_wp2_with (first
    | (go_at_call 52; refine I1.out.mono ?_; rintro e w3 ⟨res1, rfl, wo, hc⟩; have R1 := hidi (RU.out w3 res1 wo hc); clear wo hc I1 RU l3)
    | (go_at_call 69; refine R1.out.mono ?_; rintro e w4 ⟨rfl, ⟨T2, f2, u, _⟩, hc⟩; have T1 := hidi (TI.out w4 T2 f2 u hc); clear u hc R1 TI)
    | (go_at_call 68; refine T1.out.mono ?_; rintro e w5 ⟨res, rfl, hQ⟩; have HQ := hidi hQ; clear hQ T1))
  all_goals go_ret
  all_goals exact ⟨res, rfl, HQ.out⟩
/-- WITHOUT, below the root. -/
theorem without_any : ∀ N, WithoutOk tb r N
  | 0 => fun w nf bnf T f d g v L y0 q hL h b hf hd ha R hg hgA hq => by
    obtain rfl : L = [] := List.length_eq_zero_iff.1 (by omega)
    rw [List.append_nil] at hgA ⊢
    obtain rfl := h.same hg hf hgA
    exact without_zero h b hg R hq (fun w2 T2 f2 u hc => u.tidy b hd ha (h.inv.le g.s (List.mem_map_of_mem hg)).1 hc)
  | N + 1 => fun w nf bnf T f d g v L y0 q hL h b hf hd ha R hg hgA hq => by
    cases L with
    | nil =>
      rw [List.append_nil] at hgA ⊢
      obtain rfl := h.same hg hf hgA
      exact without_zero h b hg R hq (fun w2 T2 f2 u hc => u.tidy b hd ha (h.inv.le g.s (List.mem_map_of_mem hg)).1 hc)
    | cons z rs => exact without_cons (without_any N) h b hf R (by simp at hL; omega) hg hgA hq (fun w2 T2 f2 u hc => u.tidy b hd ha (h.inv.le f.s (List.mem_map_of_mem hf)).1 hc)
end Go.Proofs.YtipagdhoeocjeaaGreat.Li
namespace Go.Proofs.YtipagdhoeocjeaaGreat.Li
open Go Go.RowKit
set_option linter.unusedSimpArgs false
set_option linter.unusedVariables false
variable {w : World} {tb r : Nat} {nf nn : Int} {T : List Fn}
theorem alk_pre : ∀ {a b : List ByteArray}, a <+: b → alk a b = a.length
  | [], b, _ => by cases b <;> rfl
  | x :: a, [], h => by have := h.length_le; simp at this
  | x :: a, y :: b, h => by
    obtain ⟨t, e⟩ := h
    rw [List.cons_append] at e
    injection e with e1 e2
    unfold alk
    rw [if_pos e1, alk_pre ⟨t, e2⟩]
    simp
    try omega
set_option maxRecDepth 100000 in
set_option maxHeartbeats 4000000 in
theorem alike_dr (l1 l2 : List ByteArray) (v1 v2 : Value) (w : World) (R1 : Row w v1 l1) (R2 : Row w v2 l2) (hl1 : l1.length ≤ 1000001) (hl2 : l2.length ≤ 1000001) : Calls Tryz.prog 48 #[v1, v2] w fun e w' => e = .returned (.int .i64 (alk l1 l2)) ∧ ∃ M, w' = w.drewN M := by
  obtain ⟨x, hx⟩ : ∃ x, x = alk l1 l2 := ⟨_, rfl⟩
  rw [← hx]
  have HX : Hid (x = 0 + alk (l1.drop 0) (l2.drop 0)) := by show _ = _; simpa using hx
  obtain ⟨a, n, cap, rfl, hn, hc, hrow⟩ := R1
  obtain ⟨a2, n2, cap2, rfl, hn2, hc2, hrow2⟩ := R2
  have HN : Hid (n = l1.length ∧ n ≤ cap ∧ l1.length ≤ 1000001) := ⟨hn, hc, hl1⟩
  have HM : Hid (n2 = l2.length ∧ n2 ≤ cap2 ∧ l2.length ≤ 1000001) := ⟨hn2, hc2, hl2⟩
  have HA : Hid (l1 ≠ [] → ∃ g o, a = some ⟨g, o, none⟩ ∧ g < w.heap.size ∧ ∀ k x, l1[k]? = some x → w.cell? ⟨g, o + k, none⟩ = some (.string x)) := hrow
  have HC : Hid (l2 ≠ [] → ∃ g o, a2 = some ⟨g, o, none⟩ ∧ g < w.heap.size ∧ ∀ k x, l2[k]? = some x → w.cell? ⟨g, o + k, none⟩ = some (.string x)) := hrow2
  obtain ⟨q, hq⟩ : ∃ q : Nat, q = min n n2 := ⟨_, rfl⟩
  have hqi : min (n : Int) (n2 : Int) = (q : Int) := by omega
  have HQ : Hid (q ≤ n ∧ q ≤ n2 ∧ q = min n n2) := by constructor <;> omega
  clear hx hn hc hl1 hrow hn2 hc2 hl2 hrow2 hq
  go_enter Tryz.func48, Tryz.ntmps48
  go_wp2_with fail
  go_loopg [5] q (fun gg s5 wx => ∃ k : Nat, k ≤ q ∧ gg = q - k ∧ s5 = .int .i64 k ∧ Hid (∃ M, wx = w.drewN M) ∧ Hid (x = k + alk (l1.drop k) (l2.drop k)))
  case atStart => exact ⟨0, Nat.zero_le _, rfl, rfl, ⟨0, rfl⟩, HX⟩
  case round =>
    obtain ⟨k, hk, rfl, rfl, B, HE⟩ := hrel
    by_cases hlt : k < q
    · have hlt' : (k : Int) < q := by omega
      obtain ⟨t, ht⟩ : ∃ t, l1[k]? = some t := ⟨_, List.getElem?_eq_getElem (by have := HN.out.1; have := HQ.out; omega)⟩
      obtain ⟨u, hu⟩ : ∃ u, l2[k]? = some u := ⟨_, List.getElem?_eq_getElem (by have := HM.out.1; have := HQ.out; omega)⟩
      obtain ⟨g, o, rfl, hg, hcells⟩ := HA.out (fun e => by subst e; simp at ht)
      obtain ⟨g2, o2, rfl, hg2, hcells2⟩ := HC.out (fun e => by subst e; simp at hu)
      have c1 : wr.cell? ⟨g, o + k, none⟩ = some (.string t) := by obtain ⟨M, hM⟩ := B.out; rw [hM]; exact hcells k t ht
      have c2 : wr.cell? ⟨g2, o2 + k, none⟩ = some (.string u) := by obtain ⟨M, hM⟩ := B.out; rw [hM]; exact hcells2 k u hu
      have hw : IntKind.i64.wrap ((k : Int) + 1) = (k : Int) + 1 := by rw [IntKind.wrap_i64]; have := HN.out; have := HQ.out; omega
      have i1 : (k : Int) < n := by have := HQ.out; omega
      have i2 : (k : Int) < n2 := by have := HQ.out; omega
      have HS := hidi (alk_on ht hu)
      clear ht hu hcells hcells2 hg hg2
      by_cases he : t = u
      · have hey : (t.toList == u.toList) = true := by rw [teq]; exact decide_eq_true he
        have HF : Hid (x = k + 1 + alk (l1.drop (k + 1)) (l2.drop (k + 1))) := by
          show _ = _
          have := HS.out
          rw [if_pos he] at this
          have := HE.out
          omega
        clear HS HE he
        go_wp2_with fail
        go_quiet (fail)
        go_wp2_with fail
        go_roundg (q - (k + 1))
        case measure => omega
        case rel => exact ⟨k + 1, by omega, rfl, rfl, (by obtain ⟨M, hM⟩ := B.out; exact ⟨M + nq, by rw [hM, World.drewN_drewN]⟩), HF⟩
      · have hey : (t.toList == u.toList) = false := by rw [teq]; exact decide_eq_false he
        have HF : Hid (x = k) := by
          show _ = _
          have := HS.out
          rw [if_neg he] at this
          have := HE.out
          omega
        clear HS HE he
        go_wp2_with fail
        go_quiet (fail)
        go_wp2_with fail
        go_ret
        exact ⟨by have := HF.out; subst this; rfl, (by obtain ⟨M, hM⟩ := B.out; exact ⟨M + nq, by rw [hM, World.drewN_drewN]⟩)⟩
    · have hlt' : ¬ (k : Int) < q := by omega
      have HF : Hid (x = k) := by
        show _ = _
        have h1 := HN.out
        have h2 := HM.out
        have h3 := HQ.out
        have := HE.out
        rw [alk_end (by omega)] at this
        omega
      go_wp2_with fail
      go_quiet (fail)
      go_wp2_with fail
      go_ret
      exact ⟨by have := HF.out; subst this; rfl, (by obtain ⟨M, hM⟩ := B.out; exact ⟨M + nq, by rw [hM, World.drewN_drewN]⟩)⟩
/-- Where levels end. -/
def AtR (T : List Fn) (F : List ByteArray) (pv : Option Addr) : Prop := (∃ g ∈ T, g.s.A = F ∧ Value.pointer pv = g.ev) ∨ (pv = none ∧ ∀ g ∈ T, g.s.A ≠ F)
theorem ev_ptr {w : World} {ev : Value} {ms : Option Msg} (h : MsAt w ev ms) : ∃ pv, ev = .pointer pv := by
  rcases h with ⟨h1, _⟩ | ⟨m, k, v, h1, h2, _⟩
  · exact ⟨_, h1⟩
  · exact ⟨_, h2⟩
/-- What stands in a round of at. -/
structure AJ (w : World) (T : List Fn) (F : List ByteArray) (f : Fn) (v : Value) (rest : List ByteArray) (wx : World) : Prop where
  mem : f ∈ T
  eA : f.s.A ++ rest = F
  rw_ : Rw wx v rest
  be : Below w.heap.size w wx
theorem AJ.below {F : List ByteArray} {f : Fn} {v : Value} {rest : List ByteArray} {wx w' : World} (h : AJ w T F f v rest wx) (hb : Below wx.heap.size wx w') : AJ w T F f v rest w' := ⟨h.mem, h.eA, h.rw_.below hb, h.be.trans (hb.mono h.be.size)⟩
set_option maxRecDepth 100000 in
set_option maxHeartbeats 8000000 in
/-- AT WHOLE. -/
theorem at_any (h : TM w tb r nf nn T) {v : Value} {L : List ByteArray} (R : Rw w v L) (okL : ∀ t ∈ L, okT t) (hl : L.length ≤ 1000001) :
    Calls Tryz.prog 44 #[ptr r, v] w fun e w' => ∃ pv, e = .returned (.pointer pv) ∧ AtR T L pv ∧ Below w.heap.size w w' := by
  obtain ⟨rf, hrf, rA, rp⟩ := h.rt
  have J0 := hidi (show AJ w T L rf v L w from ⟨hrf, by rw [rA]; rfl, R, Below.refl _ _⟩)
  have HH := hidi (And.intro h (And.intro okL hl))
  rw [← rp]
  clear h R okL hl hrf rA rp
  unfold ptr at *
  go_enter Tryz.func44, Tryz.ntmps44
  go_upto_region 1 with fail
  go_loopg [0, 1, 5, 6] L.length (fun gk s0 s1 s5 s6 wx => ∃ (f : Fn) (rest : List ByteArray), rest.length = gk ∧ s0 = .pointer (some ⟨f.s.p, 0, none⟩) ∧ Hid (AJ w T L f s1 rest wx))
  case atStart => exact ⟨rf, L, rfl, rfl, J0⟩
  case round =>
    obtain ⟨f, rest, hgk, rfl, J⟩ := hrel
    have tm := HH.out.1.below J.out.be
    have fd := tm.nd f J.out.mem
    cases rest with
    | nil =>
      obtain ⟨a, cap, hs1⟩ := J.out.rw_.row.nil
      subst hs1
      obtain ⟨pv, hpv⟩ := ev_ptr fd.ev
      have c1 : wr.cell? ⟨f.s.p, 1, none⟩ = some (.pointer pv) := by rw [← hpv]; exact box_cells fd.at_ 1 _ rfl
      have FIN := hidi (show AtR T L pv from .inl ⟨f, J.out.mem, by have := J.out.eA; rwa [List.append_nil] at this, hpv.symm⟩)
      clear tm fd hpv
      go_wp2_with fail
      go_ret
      exact ⟨pv, rfl, FIN.out, J.out.be⟩
    | cons z rs =>
      have eA := J.out.eA
      have lL : (z :: rs).length ≤ L.length := by rw [← eA, List.length_append]; omega
      have oz : okT z := HH.out.2.1 z (by rw [← eA]; exact List.mem_append_right _ List.mem_cons_self)
      have hl2 := HH.out.2.2
      have R := J.out.rw_
      have hf := J.out.mem
      obtain ⟨nk, kd, b1, b2, b3, b4⟩ := tm.look hf oz
      obtain ⟨ko, hko⟩ := map_of b2
      obtain ⟨g0, o, n, cap, hs1, hn, hcap, hgl, hc0, -⟩ := R.row.cons
      subst hs1
      have c3 : wr.cell? ⟨f.s.p, 2, none⟩ = some (.map ko) := by rw [← hko]; exact box_cells fd.at_ 2 _ rfl
      have LK2 : ∀ M, (Instr.lookup 73 (.map ko) (.string z) true).run Tryz.prog (wr.drewN M) = .ok (.tuple #[(kd z).getD (.pointer none), .bool (kd z).isSome]) (wr.drewN M) := fun M => by
        have bd : Below wr.heap.size wr (wr.drewN M) := below_drewN (Below.refl _ _)
        have := (b2.keep (w' := wr.drewN M) (fun b e => bd.block b (b2.lt e))).look2 Tryz.underlying73 zero60 oz
        rw [hko] at this
        exact this
      have p0 : (0 : Int) < n := by omega
      rcases b4 with ⟨k, hk, ka, hkz⟩ | ⟨hkz, no⟩
      · have hlook : ∀ M, (Instr.lookup 73 (.map ko) (.string z) true).run Tryz.prog (wr.drewN M) = .ok (.tuple #[ptr k.s.p, .bool true]) (wr.drewN M) := fun M => by rw [LK2 M, hkz]; rfl
        clear LK2
        have fk := tm.nd k hk
        have km := (HH.out.1.inv.le k.s ka.1).1
        have klen := edge_len k.s km
        have ktop := ka.2.1.2.1
        obtain ⟨qa, qc, hlv⟩ : ∃ qa qc, k.lv = .slice qa k.s.m qc := own_sl fk.lv
        obtain ⟨j, hj⟩ : ∃ j, j = alk k.s.edge (z :: rs) := ⟨_, rfl⟩
        have kle := alk_le k.s.edge (z :: rs)
        rw [← hj] at kle
        have ktk := alk_take k.s.edge (z :: rs)
        rw [← hj] at ktk
        have CQ := hidi (fun (w2 : World) (hb : Below wr.heap.size wr w2) => (show w2.cell? ⟨k.s.p, 0, none⟩ = some (.slice qa k.s.m qc) from by rw [← hlv]; exact box_cells ((tm.below hb).nd k hk).at_ 0 _ rfl))
        have AL := hidi (fun (w2 : World) (hb : Below wr.heap.size wr w2) => (show Calls Tryz.prog 48 #[.slice qa k.s.m qc, .slice (some ⟨g0, o, none⟩) n cap] w2 fun e w' => e = .returned (.int .i64 j) ∧ ∃ M, w' = w2.drewN M from by
          rw [hj, ← hlv]
          exact alike_dr k.s.edge (z :: rs) _ _ w2 (row_own ((tm.below hb).nd k hk).lv) (R.below hb).row (by have := (HH.out.1.ok k hk).2; omega) (by omega)))
        by_cases jm : j < k.s.m
        · have jmi : (j : Int) < k.s.m := by omega
          have FIN := hidi (show AtR T L none from by
            refine .inr ⟨rfl, fun g hg e => ?_⟩
            obtain ⟨k', hk', ka', kp⟩ := atk_rest HH.out.1 hf hg (e.trans eA.symm)
            have := HH.out.1.inv.atk ka ka'
            obtain rfl := HH.out.1.same hk hk' (congrArg Nd.A this)
            have pe : k.s.edge <+: z :: rs := by
              obtain ⟨t, et⟩ := kp
              refine ⟨t, ?_⟩
              have h1 := congrArg (List.drop f.s.A.length) et
              rw [e, ← eA, List.drop_left, List.drop_append_of_le_length (by have := len_take k.s km; omega)] at h1
              unfold Nd.edge
              rw [ktop]
              exact h1
            have := alk_pre pe
            omega)
          unfold ptr at *
          clear R hl2 oz b1 b2 b3 fd hko hn hcap hgl hk ka hkz fk km klen ktop hlv hj kle ktk jm hf eA lL tm
          go_wp2_with fail
          go_quiet (fail)
          obtain ⟨w1, hw1⟩ : ∃ w1, w1 = wr.drewN nq := ⟨_, rfl⟩
          have B1 : Hid (Below wr.heap.size wr w1) := by show Below _ _ _; rw [hw1]; exact below_drewN (Below.refl _ _)
          rw [← hw1]
          clear hw1 hlook c3 hc0
          have l2 := CQ.out w1 B1.out
          go_wp2_with fail
          have AQ := hidi (fun K => AL.out (w1.drewN K) (below_drewN B1.out))
          go_quiet ((go_at_call 48; exact Calls.quiet_of (AQ.out _)))
          obtain ⟨w3, hw3⟩ : ∃ w3, w3 = w1.drewN nq := ⟨_, rfl⟩
          have B3 : Hid (Below wr.heap.size wr w3) := by show Below _ _ _; rw [hw3]; exact below_drewN B1.out
          rw [← hw3]
          clear hw3 AL AQ l2
          have l2 := CQ.out w3 B3.out
          all_goals go_wp2_with fail
          all_goals go_ret
          all_goals exact ⟨none, rfl, FIN.out, J.out.be.trans (B3.out.mono J.out.be.size)⟩
        · have jmi : ¬ (j : Int) < k.s.m := by omega
          have jk : j = k.s.m := by omega
          have hmn : k.s.m ≤ n := by have := kle.2; simp at this; omega
          have eK : k.s.A = f.s.A ++ (z :: rs).take k.s.m := by
            rw [← jk, ← ktk, jk, List.take_of_length_le (by omega), ← ka.2.1.2.2]
            unfold Nd.edge
            rw [List.take_append_drop]
          have eF : k.s.A ++ (z :: rs).drop k.s.m = L := by rw [eK, List.append_assoc, List.take_append_drop]; exact eA
          have k0 := ka.2.1.1
          obtain ⟨ad, had⟩ : ∃ ad, (if cap = k.s.m then (some ⟨g0, o, none⟩ : Option Addr) else some ⟨g0, o + k.s.m, none⟩) = ad := ⟨_, rfl⟩
          have NX := hidi (fun (w2 : World) (hb : Below wr.heap.size wr w2) => (show AJ w T L k (.slice ad (n - k.s.m) (cap - k.s.m)) ((z :: rs).drop k.s.m) w2 from ⟨hk, eF, by have := (R.below hb).drop hmn; rw [had] at this; exact this, J.out.be.trans (hb.mono J.out.be.size)⟩))
          have i1 : (k.s.m : Int) ≤ n := by omega
          have i2 : (k.s.m : Int) ≤ cap := by omega
          have i3 : (0 : Int) ≤ k.s.m := by omega
          have LT := hidi (show ((z :: rs).drop k.s.m).length < (z :: rs).length from by rw [List.length_drop, List.length_cons]; omega)
          unfold ptr at *
          clear R hl2 oz b1 b2 b3 fd hko hn hcap hgl hk ka hkz fk km klen ktop hlv hj kle ktk jm jk hmn eK eF k0 hf eA lL tm
          go_wp2_with fail
          go_quiet (fail)
          obtain ⟨w1, hw1⟩ : ∃ w1, w1 = wr.drewN nq := ⟨_, rfl⟩
          have B1 : Hid (Below wr.heap.size wr w1) := by show Below _ _ _; rw [hw1]; exact below_drewN (Below.refl _ _)
          rw [← hw1]
          clear hw1 hlook c3 hc0
          have l2 := CQ.out w1 B1.out
          go_wp2_with fail
          have AQ := hidi (fun K => AL.out (w1.drewN K) (below_drewN B1.out))
          go_quiet ((go_at_call 48; exact Calls.quiet_of (AQ.out _)))
          obtain ⟨w3, hw3⟩ : ∃ w3, w3 = w1.drewN nq := ⟨_, rfl⟩
          have B3 : Hid (Below wr.heap.size wr w3) := by show Below _ _ _; rw [hw3]; exact below_drewN B1.out
          rw [← hw3]
          clear hw3 AL AQ l2
          have l2 := CQ.out w3 B3.out
          go_wp2_with fail
          have CQ2 := hidi (fun K => CQ.out (w3.drewN K) (below_drewN B3.out))
          go_quiet (fail)
          go_wp2_with fail
          go_roundg (((z :: rs).drop k.s.m).length)
          case measure => exact hgk ▸ LT.out
          case rel => exact ⟨k, _, rfl, rfl, hidi (NX.out _ (below_drewN B3.out))⟩
      · have hlook : ∀ M, (Instr.lookup 73 (.map ko) (.string z) true).run Tryz.prog (wr.drewN M) = .ok (.tuple #[.pointer none, .bool false]) (wr.drewN M) := fun M => by rw [LK2 M, hkz]; rfl
        clear LK2
        have FIN := hidi (show AtR T L none from by
          refine .inr ⟨rfl, fun g hg e => ?_⟩
          obtain ⟨k', hk', ka', kp⟩ := atk_rest HH.out.1 hf hg (e.trans eA.symm)
          exact no _ ka')
        unfold ptr at *
        clear R hl2 oz b1 b2 b3 fd hko hn hcap hgl hkz no hf eA lL tm
        go_wp2_with fail
        go_quiet (fail)
        obtain ⟨w1, hw1⟩ : ∃ w1, w1 = wr.drewN nq := ⟨_, rfl⟩
        have B1 : Hid (Below wr.heap.size wr w1) := by show Below _ _ _; rw [hw1]; exact below_drewN (Below.refl _ _)
        rw [← hw1]
        clear hw1 hlook c3 hc0
        go_wp2_with fail
        go_quiet (fail)
        go_wp2_with fail
        all_goals go_ret
        all_goals exact ⟨none, rfl, FIN.out, J.out.be.trans ((below_drewN B1.out).mono J.out.be.size)⟩
end Go.Proofs.YtipagdhoeocjeaaGreat.Li
namespace Go.Proofs.YtipagdhoeocjeaaGreat.Li
open Go Go.RowKit
set_option linter.unusedSimpArgs false
set_option linter.unusedVariables false
variable {w : World} {tb r : Nat} {nf nn bnf : Int} {T : List Fn} {f : ByteArray} {q : Msg}
/-- A trie from which a message went. -/
structure Dr (w w' : World) (tb r : Nat) (nf cnf : Int) (T : List Fn) (F : List ByteArray) : Prop where
  ex : ∃ T', TM w' tb r nf (T'.length : Int) T' ∧ QS tb cnf T T' (fun F' => F' = F) []
  ch : Ch (isT tb T) w w'
theorem root_m (h : TM w tb r nf nn T) {f : Fn} (hf : f ∈ T) (h0 : f.s.A = []) : f.s.m = 0 := (h.inv.le f.s (List.mem_map_of_mem hf)).2.1 h0
theorem without_root (h : TM w tb r nf (T.length : Int) T) (b : Bs bnf T) {v : Value} {F : List ByteArray} (hF : F ≠ []) (R : Rw w v F) {g : Fn} (hg : g ∈ T) (hgA : g.s.A = F) (hq : g.ms = some q) :
    Calls Tryz.prog 52 #[ptr tb, ptr r, v] w fun e w' => e = .returned (ptr r) ∧ Dr w w' tb r nf (bnf - 1) T F := by
  obtain ⟨f, hf, f0, fp⟩ := h.rt
  have fA : f.s.A ++ F = F := by rw [f0]; rfl
  have ti : TidyOk tb r nf (bnf - 1) T f (fun F' => F' = F) w (fun res w' => res = ptr r ∧ Dr w w' tb r nf (bnf - 1) T F) := fun w2 T2 f2 u hc => by
    obtain ⟨nk, kd, b1, b2, b3⟩ := (u.tm.nd f2 u.mem).kv
    have := tidy_stay u.tm u.mem b2 (.inl (root_m u.tm u.mem (by rw [u.s]; exact f0)))
    rw [u.s, fp] at this
    rw [fp]
    refine this.mono ?_
    rintro e w' ⟨rfl, rfl⟩
    exact ⟨_, rfl, rfl, ⟨T2, u.tm, by have := u.q; rw [f0] at this; exact this⟩, hc⟩
  cases F with
  | nil => exact absurd rfl hF
  | cons z rs =>
    have := without_cons (without_any (tb := tb) (r := r) rs.length) h b hf R (Nat.le_refl _) hg (hgA.trans fA.symm) hq (Q := fun res w' => res = ptr r ∧ Dr w w' tb r nf (bnf - 1) T (z :: rs)) (by rw [fA]; exact ti)
    rw [fp] at this
    refine this.mono ?_
    rintro e w' ⟨res, rfl, rfl, dr⟩
    exact ⟨rfl, dr⟩
/-- A trie from which a message went, its counter told. -/
theorem dr_set {w' : World} {F : List ByteArray} {nf2 : Int} (dr : Dr w w' tb r nf bnf T F) (h : TM w tb r nf nn T) : Dr w (w'.setCell ⟨tb, 1, none⟩ (.int .i64 nf2)) tb r nf2 bnf T F := by
  obtain ⟨⟨T', tm, qs⟩, hc⟩ := dr
  have c := ch_set (w := w') tb 1 (.int .i64 nf2)
  have n9 : ∀ j, j = tb → No9 w' j := fun j e => by rw [e]; exact no9_cells tm.tr (by decide)
  exact ⟨⟨T', ⟨heap_set tm.tr _, tm.inv, tm.rt, fun f hf => (tm.nd f hf).keep c (fun j c1 c2 => tm.tb_ne hf (c2 ▸ c1)) n9 (Nat.le_refl _) (fun _ _ => Iff.rfl), tm.dis, tm.ok⟩, qs⟩, hc.trans c (fun j _ q => .inl q)⟩
set_option maxRecDepth 100000 in
set_option maxHeartbeats 4000000 in
/-- DROP of what is there. -/
theorem drop_yes (h : TM w tb r nf (T.length : Int) T) (b : Bs nf T) (hfs : f.size ≤ 1000000) (hq : HasM T (levels f) q) :
    Calls Tryz.prog 29 #[ptr tb, .string f] w fun e w' => e = .returned (.bool true) ∧ Dr w w' tb r (nf - 1) (nf - 1) T (levels f) := by
  obtain ⟨g, hg, gA, gx⟩ := hq
  obtain ⟨rf, hrf, rA, rp⟩ := h.rt
  have LV := hidi (fun w => tlevels_any f hfs w)
  have okl : ∀ y ∈ levels f, okT y := fun y hy => by have := levels_size f y hy; unfold okT maxLen; omega
  have lle : (levels f).length ≤ 1000001 := by have := levels_len f; omega
  have hne : levels f ≠ [] := by obtain ⟨a, b, c, _⟩ := levels_head f; rw [c]; simp
  have n1 := (CN.nf0 (f := g) b.cn).2 hg (by rw [gx]; rfl)
  have n2 := b.cn.le
  have n3 := b.len
  have hw : IntKind.i64.wrap (nf - 1) = nf - 1 := by rw [IntKind.wrap_i64]; omega
  have AT := hidi (fun (w1 : World) (v : Value) (hb : Below w.heap.size w w1) (R : Rw w1 v (levels f)) => (show Calls Tryz.prog 44 #[ptr r, v] w1 fun e w2 => ∃ k, e = .returned (ptr k) ∧ Below w.heap.size w w2 ∧ Below w1.heap.size w1 w2 from by
    refine (at_any (h.below hb) R okl lle).mono ?_
    rintro e w2 ⟨pv, rfl, ar, b2⟩
    have bb := hb.trans (b2.mono hb.size)
    rcases ar with ⟨g', hg', e1, e2⟩ | ⟨_, no⟩
    · obtain rfl := h.same hg' hg (e1.trans gA.symm)
      rcases (h.nd g' hg).ev with ⟨e3, e4⟩ | ⟨m, k, v', e3, e4, _⟩
      · rw [e4] at gx; cases gx
      · exact ⟨k, by rw [e2, e4], bb, b2⟩
    · exact absurd gA (no g hg)))
  have CR := hidi (fun (w1 : World) (hb : Below w.heap.size w w1) => (show w1.cell? ⟨tb, 0, none⟩ = some (ptr r) from box_cells (h.below hb).tr 0 _ rfl))
  have WO := hidi (fun (w2 : World) (v : Value) (hb : Below w.heap.size w w2) (R : Rw w2 v (levels f)) => without_root (h.below hb) b hne R hg gA gx)
  have FIN := hidi (fun (w2 w3 : World) (hb : Below w.heap.size w w2) (dr : Dr w2 w3 tb r nf (nf - 1) T (levels f)) => (show Dr w (w3.setCell ⟨tb, 1, none⟩ (.int .i64 (nf - 1))) tb r (nf - 1) (nf - 1) T (levels f) ∧ w3.cell? ⟨tb, 1, none⟩ = some (.int .i64 nf) ∧ w3.frozen? ⟨tb, 1, none⟩ = false from by
    have d2 := dr_set (nf2 := nf - 1) dr (h.below hb)
    obtain ⟨⟨T', tm, qs⟩, hc⟩ := dr
    exact ⟨⟨d2.ex, (Below.ch hb).then d2.ch⟩, box_cells tm.tr 1 _ rfl, box_frozen tm.tr 1⟩))
  unfold ptr at *
  clear h b hfs hg gA gx hrf rA rp okl lle hne n1 n2 n3
  go_enter Tryz.func29, Tryz.ntmps29
  go_wp2_with (first
    | (go_at_call 28; refine (LV.out _).mono ?_; rintro e w1 ⟨v, rfl, ho, hb⟩; have B1 := hidi hb; have R1 := hidi (rw_own ho); have c0 := CR.out w1 hb; have A1 := hidi (AT.out w1 v hb R1.out); obtain ⟨va, vc, rfl⟩ := own_sl ho; clear hb ho LV AT)
    | (go_at_call 44; refine A1.out.mono ?_; rintro e w2 ⟨mo, rfl, bb, b12⟩; have B2 := hidi bb; clear c0; have c0 := CR.out w2 bb; have W2 := hidi (WO.out w2 _ bb (R1.out.below b12)); clear bb A1 CR WO b12)
    | (go_at_call 52; refine W2.out.mono ?_; rintro e w3 ⟨rfl, dr⟩; obtain ⟨d1, d2, d3⟩ := FIN.out w2 w3 B2.out dr; have D1 := hidi d1; clear dr d1 W2 FIN c0))
  go_ret
  exact ⟨rfl, D1.out⟩
end Go.Proofs.YtipagdhoeocjeaaGreat.Li
