import Derived.Test.YtepjcfhbbcaldaaKja
import Derived.Test.YtepjcfhbbcaldaaKh
namespace Go.Proofs.Ytepjcfhbbcaldaa.Li
open Go Go.RowKit
set_option linter.unusedSimpArgs false
set_option linter.unusedVariables false
theorem kids_le {w : World} {kv : Value} {nk : Nat} {kd : ByteArray → Option Value} {S : List Nd} {d : Nd} (hm : MG w kv nk kd) (hK : Kds S d kd) : nk ≤ S.length := by
  obtain ⟨K, k1, k2, k3⟩ := hm.keys
  haveI : DecidableEq Nd := fun a b => Classical.propDecidable (a = b)
  have ex : ∀ y ∈ K, ∃ e, AtK S d y e := fun y hy => by
    obtain ⟨oy, hs⟩ := (k3 y).1 hy
    obtain ⟨v, hv⟩ := Option.isSome_iff_exists.1 hs
    obtain ⟨e, he, _⟩ := (hK y v oy).1 hv
    exact ⟨e, he⟩
  haveI : Nonempty Nd := ⟨⟨0, [], 0⟩⟩
  let F : ByteArray → Nd := fun y => Classical.epsilon (fun e => AtK S d y e)
  have hF : ∀ y ∈ K, AtK S d y (F y) := fun y hy => Classical.epsilon_spec (ex y hy)
  rw [← k2, ← List.length_map (f := F)]
  refine nodup_le _ S ?_ (fun x hx => ?_)
  · refine List.pairwise_map.2 (k1.imp_of_mem (fun {a b} ha hb ne e => ne ?_))
    have h1 := (hF a ha).2.2
    have h2 := (hF b hb).2.2
    rw [e, h2] at h1
    injection h1 with h1
    exact h1.symm
  · obtain ⟨y, hy, rfl⟩ := List.mem_map.1 hx
    exact (hF y hy).1
theorem FnM.tight {w : World} {m N : Nat} {S : List Nd} {f : Fn} (h : FnM w m S N f) : FnM w m S S.length f := by
  obtain ⟨nk, kd, h1, h2, h3⟩ := h.kv
  exact ⟨h.at_, h.lv, h.ev, h.e0, ⟨nk, kd, kids_le h2 h3, h2, h3⟩, h.nb⟩
theorem TM.islt {w : World} {tb m r : Nat} {nf nn : Int} {T : List Fn} (h : TM w tb m r nf nn T) {j : Nat} (hj : isT tb T j) : j < w.heap.size := by
  rcases hj with e | ⟨f, hf, c⟩
  · rw [e]; exact (Array.getElem?_eq_some_iff.1 h.tr).1
  · exact (h.nd f hf).lt c
/-- A trie of which one node's kids are still the old ones. -/
structure PM (w : World) (tb m r : Nat) (nf nn : Int) (T : List Fn) (B : List ByteArray) (S0 : List Nd) : Prop where
  tr : w.heap[tb]? = some (.cells #[ptr r, ptr m, .int .i64 nf, .int .i64 nn] 64 (0, 0))
  inv : Inv (T.map Fn.s)
  rt : ∃ f ∈ T, f.s.A = [] ∧ f.s.p = r
  nd : ∀ f ∈ T, f.s.A ≠ B → ∃ N, FnM w m (T.map Fn.s) N f
  nd0 : ∀ f ∈ T, f.s.A = B → ∃ N, FnM w m S0 N f
  dis : T.Pairwise FA
  ok : ∀ f ∈ T, (∀ t ∈ f.s.A, t.size ≤ 65535) ∧ f.s.A.length ≤ 65536
def remF (B : List ByteArray) (T : List Fn) : List Fn := T.filter (fun f => decide (f.s.A ≠ B))
theorem mem_remF {B : List ByteArray} {T : List Fn} {f : Fn} : f ∈ remF B T ↔ f ∈ T ∧ f.s.A ≠ B := by unfold remF; rw [List.mem_filter, decide_eq_true_eq]
theorem remF_map (B : List ByteArray) : ∀ T : List Fn, (remF B T).map Fn.s = rem B (T.map Fn.s)
  | [] => rfl
  | f :: T => by
    have ih := remF_map B T
    unfold remF rem at *
    rw [List.map_cons, List.filter_cons, List.filter_cons]
    split
    · rw [List.map_cons, ih]
    · exact ih
theorem Kid.uniq {a d e : Nd} (h1 : Kid a e) (h2 : Kid d e) : a.A = d.A := by rw [← h1.2.2, ← h2.2.2]
section
variable {w w' : World} {tb m r : Nat} {nf nn : Int} {T : List Fn} {d e k : Fn}
/-- A node without kids has gone; the one above it still tells of it. -/
theorem TM.unleafed (h : TM w tb m r nf nn T) (he : e ∈ T) (hd : d ∈ T) (kd : Kid d.s e.s) (no : ∀ g ∈ T, ¬ Kid e.s g.s) (hc : Ch (fun j => j = tb) w w') (tr' : w'.heap[tb]? = some (.cells #[ptr r, ptr m, .int .i64 nf, .int .i64 (nn - 1)] 64 (0, 0))) :
    PM w' tb m r nf (nn - 1) (remF e.s.A T) d.s.A (T.map Fn.s) := by
  have no' : ∀ g ∈ T.map Fn.s, ¬ Kid e.s g := fun g hg => by
    obtain ⟨q, hq, rfl⟩ := List.mem_map.1 hg
    exact no q hq
  have inv := h.inv.unleaf (List.mem_map_of_mem he) kd.1 no'
  have kp : ∀ f ∈ T, FnM w' m (T.map Fn.s) T.length f := fun f hf => (h.nd f hf).keep hc (fun j c e => h.tb_ne hf (e ▸ c)) (fun j e => e ▸ no9_cells h.tr (by decide)) (Nat.le_refl _) (fun _ _ => Iff.rfl)
  refine ⟨tr', by rw [remF_map]; exact inv, ?_, fun f hf hB => ?_, fun f hf _ => ⟨_, kp f (mem_remF.1 hf).1⟩, h.dis.sublist List.filter_sublist, fun f hf => h.ok f (mem_remF.1 hf).1⟩
  · obtain ⟨f, hf, f1, f2⟩ := h.rt
    refine ⟨f, mem_remF.2 ⟨hf, fun c => ?_⟩, f1, f2⟩
    have := (h.inv.le e.s (List.mem_map_of_mem he)).2.1 (by rw [← c, f1])
    have := kd.1
    omega
  · refine ⟨_, (kp f (mem_remF.1 hf).1).keep (Ch.refl (fun _ => False) _) (fun _ _ c => c) (fun _ c => c.elim) (Nat.le_refl _) (fun x g => ?_)⟩
    rw [remF_map, unleaf_atk]
    refine ⟨fun c => ⟨c, fun q => hB ?_⟩, fun c => c.1⟩
    obtain rfl := h.inv.same c.1 (List.mem_map_of_mem he) q
    exact c.2.1.uniq kd
def upk (B : List ByteArray) (j : Nat) (lv : Value) (f : Fn) : Fn := if f.s.A = B then { f with s := { f.s with m := f.s.m + j }, lv := lv } else f
theorem upk_s (B : List ByteArray) (j : Nat) (lv : Value) (f : Fn) : (upk B j lv f).s = upm B j f.s := by unfold upk upm; split <;> rfl
theorem upk_has {B : List ByteArray} {j : Nat} {lv : Value} {f : Fn} {i : Nat} : (upk B j lv f).has i ↔ f.has i := by unfold upk; split <;> exact Iff.rfl
theorem upk_en (B : List ByteArray) (j : Nat) (lv : Value) (f : Fn) : (upk B j lv f).en = f.en ∧ (upk B j lv f).ne = f.ne := by unfold upk; split <;> exact ⟨rfl, rfl⟩
theorem upk_ne {B : List ByteArray} {j : Nat} {lv : Value} {f : Fn} (h : f.s.A ≠ B) : upk B j lv f = f := if_neg h
theorem upk_at (j : Nat) (lv : Value) (f : Fn) : upk f.s.A j lv f = { f with s := { f.s with m := f.s.m + j }, lv := lv } := if_pos rfl
theorem upk_map (B : List ByteArray) (j : Nat) (lv : Value) (T : List Fn) : (T.map (upk B j lv)).map Fn.s = (T.map Fn.s).map (upm B j) := by
  rw [List.map_map, List.map_map]
  refine List.map_congr_left (fun f _ => upk_s B j lv f)
theorem joi_edge' {e k : Nd} (hk : Kid e k) (lk : k.m ≤ k.A.length) : (joi e k).edge = e.edge ++ k.edge := by
  unfold Nd.edge
  rw [joi_top hk lk]
  show k.A.drop e.top = _
  have h1 : k.A = e.A ++ k.A.drop k.top := by rw [← hk.2.2, List.take_append_drop]
  conv => lhs; rw [h1]
  rw [List.drop_append_of_le_length (by unfold Nd.top; omega)]
/-- A node with one kid alone has gone; the kid's edge is longer; the node above still tells of the one that has gone. -/
theorem TM.unparted (h : TM w tb m r nf nn T) (he : e ∈ T) (hd : d ∈ T) (kd : Kid d.s e.s) (hk : k ∈ T) (kk : Kid e.s k.s) (only : ∀ g ∈ T, Kid e.s g.s → g = k) {lv : Value} (hc : Ch (fun j => j = tb ∨ j = k.s.p) w w') (tr' : w'.heap[tb]? = some (.cells #[ptr r, ptr m, .int .i64 nf, .int .i64 (nn - 1)] 64 (0, 0)))
    (at' : w'.heap[k.s.p]? = some (.cells #[ptr m, lv, k.ev, k.kv] 62 (0, 0))) (own' : w'.ownsRow 0 9 1 lv (k.s.m + e.s.m) ((e.s.edge ++ k.s.edge).map Value.string)) :
    PM w' tb m r nf (nn - 1) ((remF e.s.A T).map (upk k.s.A e.s.m lv)) d.s.A (T.map Fn.s) := by
  have heS := List.mem_map_of_mem (f := Fn.s) he
  have hkS := List.mem_map_of_mem (f := Fn.s) hk
  have only' : ∀ g ∈ T.map Fn.s, Kid e.s g → g = k.s := fun g hg c => by
    obtain ⟨q, hq, rfl⟩ := List.mem_map.1 hg
    rw [only q hq c]
  have inv := h.inv.unpart heS kd.1 hkS kk only'
  have le := h.inv.le e.s heS
  have lk := h.inv.le k.s hkS
  have elt := kd.lt le.1
  have klt := kk.lt lk.1
  have hS : ((remF e.s.A T).map (upk k.s.A e.s.m lv)).map Fn.s = (rem e.s.A (T.map Fn.s)).map (upm k.s.A e.s.m) := by rw [upk_map, remF_map]
  have kne : k.s.A ≠ e.s.A := fun c => by rw [c] at klt; omega
  have n9 : ∀ j, (j = tb ∨ j = k.s.p) → No9 w j := fun j c => by
    rcases c with c | c
    · rw [c]; exact no9_cells h.tr (by decide)
    · rw [c]; exact (h.nd k hk).no9 (.inl rfl)
  have kp : ∀ f ∈ T, f.s.A ≠ k.s.A → FnM w' m (T.map Fn.s) T.length f := fun f hf ne => (h.nd f hf).keep hc (fun j c q => by
    rcases q with q | q
    · exact h.tb_ne hf (q ▸ c)
    · exact h.apart hf hk (fun z => ne (by rw [z])) j c (.inl q)) n9 (Nat.le_refl _) (fun _ _ => Iff.rfl)
  have atk : ∀ a : Nd, a.A ≠ e.s.A → a.A ≠ d.s.A → ∀ x g, AtK (T.map Fn.s) a x g → g.A ≠ k.s.A → AtK ((rem e.s.A (T.map Fn.s)).map (upm k.s.A e.s.m)) a x g := fun a ha hB x g c gk => by
    rw [h.inv.unpart_atk heS kd.1 hkS kk ha]
    refine .inr ⟨c, fun q => hB ?_, gk⟩
    obtain rfl := h.inv.same c.1 heS q
    exact c.2.1.uniq kd
  have both : ∀ a : Nd, a.A ≠ e.s.A → a.A ≠ d.s.A → ∀ x g, AtK (T.map Fn.s) a x g ↔ AtK ((rem e.s.A (T.map Fn.s)).map (upm k.s.A e.s.m)) a x g := fun a ha hB x g => by
    constructor
    · intro c
      refine atk a ha hB x g c (fun q => ha ?_)
      obtain rfl := h.inv.same c.1 hkS q
      exact c.2.1.uniq kk
    · intro c
      rw [h.inv.unpart_atk heS kd.1 hkS kk ha] at c
      rcases c with ⟨_, c⟩ | ⟨c, _⟩
      · exact absurd (c.2.1.uniq kd) hB
      · exact c
  refine ⟨tr', by rw [hS]; exact inv, ?_, fun f0 hf0 hB => ?_, fun f0 hf0 hB => ?_, ?_, fun f0 hf0 => ?_⟩
  · obtain ⟨f, hf, f1, f2⟩ := h.rt
    refine ⟨_, List.mem_map_of_mem (mem_remF.2 ⟨hf, fun c => ?_⟩), by rw [upk_s, upm_A, f1], by rw [upk_s, upm_p, f2]⟩
    have := le.2.1 (by rw [← c, f1])
    have := kd.1
    omega
  · obtain ⟨f, hf, rfl⟩ := List.mem_map.1 hf0
    obtain ⟨hf, fne⟩ := mem_remF.1 hf
    rw [upk_s, upm_A] at hB
    rw [hS]
    by_cases c : f.s.A = k.s.A
    · obtain rfl := h.same hf hk c
      have fk := h.nd f hf
      obtain ⟨nk, kdd, h1, h2, h3⟩ := fk.kv
      have blk : ∀ j, (f.ev = .map (some j) ∨ f.kv = .map (some j)) → w'.heap[j]? = w.heap[j]? := fun j q => hc.block j (fk.lt (.inr q)) (fun z => by
        rcases z with z | z
        · exact h.tb_ne hf (z ▸ .inr q)
        · have : ∃ es cl, w.heap[j]? = some (.map es cl) := by
            rcases q with q | q
            · exact fk.ev.block q
            · exact h2.block q
          obtain ⟨es, cl, q2⟩ := this
          rw [z, fk.at_] at q2
          cases q2)
      rw [upk_at]
      refine ⟨nk, at', ?_, fk.ev.keep (fun b q => blk b (.inl q)), fk.e0, ⟨nk, kdd, Nat.le_refl _, h2.keep (fun b q => blk b (.inr q)), fun x v hx => (h3 x v hx).trans ?_⟩, fk.nb⟩
      · show w'.ownsRow 0 9 1 lv (f.s.m + e.s.m) ((joi e.s f.s).edge.map Value.string)
        rw [joi_edge' kk lk.1]
        exact own'
      · constructor
        · rintro ⟨g, c1, c2⟩
          exact ⟨g, (both f.s fne hB x g).1 c1, c2⟩
        · rintro ⟨g, c1, c2⟩
          exact ⟨g, (both f.s fne hB x g).2 c1, c2⟩
    · rw [upk_ne c]
      exact ⟨_, (kp f hf c).keep (Ch.refl (fun _ => False) _) (fun _ _ c => c) (fun _ c => c.elim) (Nat.le_refl _) (both f.s fne hB)⟩
  · obtain ⟨f, hf, rfl⟩ := List.mem_map.1 hf0
    obtain ⟨hf, fne⟩ := mem_remF.1 hf
    rw [upk_s, upm_A] at hB
    have c : f.s.A ≠ k.s.A := fun c => by
      have := congrArg List.length (hB.symm.trans c)
      omega
    rw [upk_ne c]
    exact ⟨_, kp f hf c⟩
  · refine List.pairwise_map.2 ((h.dis.sublist List.filter_sublist).imp (fun {a b} q j c1 c2 => q j (upk_has.1 c1) (upk_has.1 c2)))
  · obtain ⟨f, hf, rfl⟩ := List.mem_map.1 hf0
    rw [upk_s, upm_A]
    exact h.ok f (mem_remF.1 hf).1
/-- The node above is told. -/
theorem PM.fixed {T : List Fn} {S0 : List Nd} {kv : Value} {nk : Nat} {kd : ByteArray → Option Value} (h : PM w tb m r nf nn T d.s.A S0) (hd : d ∈ T) (same : ∀ a ∈ T, ∀ b ∈ T, a.s.A = b.s.A → a = b) (apart : ∀ a ∈ T, a ≠ d → FA a d) (tbd : ¬ d.has tb) (hc : Ch (hgC d) w w') (at' : w'.heap[d.s.p]? = some (.cells #[ptr m, d.lv, d.ev, kv] 62 (0, 0))) (hm : MG w' kv nk kd) (hK : Kds (T.map Fn.s) d.s kd) (hkv : kv = d.kv ∨ kv = .map none) :
    TM w' tb m r nf nn (T.map (ukv d.s.A kv)) := by
  obtain ⟨Nd0, fd⟩ := h.nd0 d hd rfl
  have fd' : FnM w' m (T.map Fn.s) T.length (d.kvd kv) := by
    have ev' : MG w' d.ev d.ne (fun k => (d.en k).map (.int .i64)) := fd.ev.keep (fun b e => hc.block b (fd.ev.lt e) (fun c => by
      rcases c with c | c
      · obtain ⟨es, cl, q⟩ := fd.ev.block e
        rw [c, fd.at_] at q
        cases q
      · exact fd.nb b e c))
    have lv' : w'.ownsRow 0 9 1 d.lv d.s.m (d.s.edge.map Value.string) := own_ch fd.lv hc (fun j hj c => by
      obtain ⟨cur, e⟩ := own_lt fd.lv hj
      exact fd.no9 (hgC_has c) cur e)
    refine ⟨at', lv', ev', fd.e0, ⟨nk, kd, by have := kids_le hm hK; rw [List.length_map] at this; exact this, hm, hK⟩, fun j c1 c2 => ?_⟩
    have c2' : kv = .map (some j) := c2
    rcases hkv with q | q
    · exact fd.nb j c1 (by rw [← q]; exact c2')
    · rw [q] at c2'; cases c2'
  have n9 : ∀ j, hgC d j → No9 w j := fun j c => fd.no9 (hgC_has c)
  refine ⟨(hc.block tb (Array.getElem?_eq_some_iff.1 h.tr).1 (fun c => tbd (hgC_has c))).trans h.tr, by rw [ukv_map]; exact h.inv, ?_, fun f0 hf0 => ?_, ?_, fun f0 hf0 => ?_⟩
  · obtain ⟨f, hf, f1, f2⟩ := h.rt
    exact ⟨_, List.mem_map_of_mem hf, by rw [ukv_s]; exact f1, by rw [ukv_s]; exact f2⟩
  · obtain ⟨f, hf, rfl⟩ := List.mem_map.1 hf0
    rw [ukv_map, List.length_map]
    by_cases c : f.s.A = d.s.A
    · obtain rfl := same f hf d hd c
      rw [ukv_at rfl]
      exact fd'
    · rw [ukv_ne c]
      obtain ⟨N, ff⟩ := h.nd f hf c
      have := (ff.keep hc (fun j c1 c2 => apart f hf (fun z => c (by rw [z])) j c1 (hgC_has c2)) n9 (Nat.le_refl _) (fun _ _ => Iff.rfl)).tight
      rw [List.length_map] at this
      exact this
  · refine List.pairwise_map.2 (h.dis.imp_of_mem (fun {a b} ha hb q j c1 c2 => ?_))
    have up : ∀ {f : Fn}, f ∈ T → (ukv d.s.A kv f).has j → f.has j := fun {f} hf c => by
      rcases ukv_has c with c' | ⟨e, c'⟩
      · exact c'
      · obtain rfl := same f hf d hd e
        rcases hkv with z | z
        · exact .inr (.inr (by rw [← z]; exact c'))
        · rw [z] at c'; cases c'
    exact q j (up ha c1) (up hb c2)
  · obtain ⟨f, hf, rfl⟩ := List.mem_map.1 hf0
    rw [ukv_s]
    exact h.ok f hf
end
end Go.Proofs.Ytepjcfhbbcaldaa.Li
