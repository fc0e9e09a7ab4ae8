import Derived.Test.YtepjcfhbbcaldaaGreatKja
import Derived.Test.YtepjcfhbbcaldaaGreatKh
import Derived.Test.YtepjcfhbbcaldaaGreatKe
import Derived.Lib.AppendZeros
import Derived.Laws.AppendOwnNone
import Derived.Test.YtepjcfhbbcaldaaGreatKza
import Derived.Maps.RangeWalk
namespace Go.Proofs.YtepjcfhbbcaldaaGreat.Li
open Go Go.RowKit
set_option linter.unusedSimpArgs false
set_option linter.unusedVariables false
theorem kids_le {w : World} {kv : Value} {nk : Nat} {kd : ByteArray → Option Value} {S : List Nd} {d : Nd} (hm : MG w kv nk kd) (hK : Kds S d kd) : nk ≤ S.length := by
  obtain ⟨K, k1, k2, k3⟩ := hm.keys
  haveI : DecidableEq Nd := fun a b => Classical.propDecidable (a = b)
  have ex : ∀ y ∈ K, ∃ e, AtK S d y e := fun y hy => by
    obtain ⟨oy, hs⟩ := (k3 y).1 hy
    obtain ⟨v, hv⟩ := Option.isSome_iff_exists.1 hs
    obtain ⟨e, he, _⟩ := (hK y v oy).1 hv
    exact ⟨e, he⟩
  haveI : Nonempty Nd := ⟨⟨0, [], 0⟩⟩
  let F : ByteArray → Nd := fun y => Classical.epsilon (fun e => AtK S d y e)
  have hF : ∀ y ∈ K, AtK S d y (F y) := fun y hy => Classical.epsilon_spec (ex y hy)
  rw [← k2, ← List.length_map (f := F)]
  refine nodup_le _ S ?_ (fun x hx => ?_)
  · refine List.pairwise_map.2 (k1.imp_of_mem (fun {a b} ha hb ne e => ne ?_))
    have h1 := (hF a ha).2.2
    have h2 := (hF b hb).2.2
    rw [e, h2] at h1
    injection h1 with h1
    exact h1.symm
  · obtain ⟨y, hy, rfl⟩ := List.mem_map.1 hx
    exact (hF y hy).1
theorem FnM.tight {w : World} {m N : Nat} {S : List Nd} {f : Fn} (h : FnM w m S N f) : FnM w m S S.length f := by
  obtain ⟨nk, kd, h1, h2, h3⟩ := h.kv
  exact ⟨h.at_, h.lv, h.ev, h.e0, ⟨nk, kd, kids_le h2 h3, h2, h3⟩, h.nb⟩
theorem TM.islt {w : World} {tb m r : Nat} {nf nn : Int} {T : List Fn} (h : TM w tb m r nf nn T) {j : Nat} (hj : isT tb T j) : j < w.heap.size := by
  rcases hj with e | ⟨f, hf, c⟩
  · rw [e]; exact (Array.getElem?_eq_some_iff.1 h.tr).1
  · exact (h.nd f hf).lt c
/-- A trie of which one node's kids are still the old ones. -/
structure PM (w : World) (tb m r : Nat) (nf nn : Int) (T : List Fn) (B : List ByteArray) (S0 : List Nd) : Prop where
  tr : w.heap[tb]? = some (.cells #[ptr r, ptr m, .int .i64 nf, .int .i64 nn] 56 (0, 0))
  inv : Inv (T.map Fn.s)
  rt : ∃ f ∈ T, f.s.A = [] ∧ f.s.p = r
  nd : ∀ f ∈ T, f.s.A ≠ B → ∃ N, FnM w m (T.map Fn.s) N f
  nd0 : ∀ f ∈ T, f.s.A = B → ∃ N, FnM w m S0 N f
  dis : T.Pairwise FA
  ok : ∀ f ∈ T, (∀ t ∈ f.s.A, t.size ≤ 65535) ∧ f.s.A.length ≤ 65536
def remF (B : List ByteArray) (T : List Fn) : List Fn := T.filter (fun f => decide (f.s.A ≠ B))
theorem mem_remF {B : List ByteArray} {T : List Fn} {f : Fn} : f ∈ remF B T ↔ f ∈ T ∧ f.s.A ≠ B := by unfold remF; rw [List.mem_filter, decide_eq_true_eq]
theorem remF_map (B : List ByteArray) : ∀ T : List Fn, (remF B T).map Fn.s = rem B (T.map Fn.s)
  | [] => rfl
  | f :: T => by
    have ih := remF_map B T
    unfold remF rem at *
    rw [List.map_cons, List.filter_cons, List.filter_cons]
    split
    · rw [List.map_cons, ih]
    · exact ih
theorem Kid.uniq {a d e : Nd} (h1 : Kid a e) (h2 : Kid d e) : a.A = d.A := by rw [← h1.2.2, ← h2.2.2]
section
variable {w w' : World} {tb m r : Nat} {nf nn : Int} {T : List Fn} {d e k : Fn}
/-- A node without kids has gone; the one above it still tells of it. -/
theorem TM.unleafed (h : TM w tb m r nf nn T) (he : e ∈ T) (hd : d ∈ T) (kd : Kid d.s e.s) (no : ∀ g ∈ T, ¬ Kid e.s g.s) (hc : Ch (fun j => j = tb) w w') (tr' : w'.heap[tb]? = some (.cells #[ptr r, ptr m, .int .i64 nf, .int .i64 (nn - 1)] 56 (0, 0))) :
    PM w' tb m r nf (nn - 1) (remF e.s.A T) d.s.A (T.map Fn.s) := by
  have no' : ∀ g ∈ T.map Fn.s, ¬ Kid e.s g := fun g hg => by
    obtain ⟨q, hq, rfl⟩ := List.mem_map.1 hg
    exact no q hq
  have inv := h.inv.unleaf (List.mem_map_of_mem he) kd.1 no'
  have kp : ∀ f ∈ T, FnM w' m (T.map Fn.s) T.length f := fun f hf => (h.nd f hf).keep hc (fun j c e => h.tb_ne hf (e ▸ c)) (fun j e => e ▸ no9_cells h.tr (by decide)) (Nat.le_refl _) (fun _ _ => Iff.rfl)
  refine ⟨tr', by rw [remF_map]; exact inv, ?_, fun f hf hB => ?_, fun f hf _ => ⟨_, kp f (mem_remF.1 hf).1⟩, h.dis.sublist List.filter_sublist, fun f hf => h.ok f (mem_remF.1 hf).1⟩
  · obtain ⟨f, hf, f1, f2⟩ := h.rt
    refine ⟨f, mem_remF.2 ⟨hf, fun c => ?_⟩, f1, f2⟩
    have := (h.inv.le e.s (List.mem_map_of_mem he)).2.1 (by rw [← c, f1])
    have := kd.1
    omega
  · refine ⟨_, (kp f (mem_remF.1 hf).1).keep (Ch.refl (fun _ => False) _) (fun _ _ c => c) (fun _ c => c.elim) (Nat.le_refl _) (fun x g => ?_)⟩
    rw [remF_map, unleaf_atk]
    refine ⟨fun c => ⟨c, fun q => hB ?_⟩, fun c => c.1⟩
    obtain rfl := h.inv.same c.1 (List.mem_map_of_mem he) q
    exact c.2.1.uniq kd
def upk (B : List ByteArray) (j : Nat) (lv : Value) (f : Fn) : Fn := if f.s.A = B then { f with s := { f.s with m := f.s.m + j }, lv := lv } else f
theorem upk_s (B : List ByteArray) (j : Nat) (lv : Value) (f : Fn) : (upk B j lv f).s = upm B j f.s := by unfold upk upm; split <;> rfl
theorem upk_has {B : List ByteArray} {j : Nat} {lv : Value} {f : Fn} {i : Nat} : (upk B j lv f).has i ↔ f.has i := by unfold upk; split <;> exact Iff.rfl
theorem upk_en (B : List ByteArray) (j : Nat) (lv : Value) (f : Fn) : (upk B j lv f).en = f.en ∧ (upk B j lv f).ne = f.ne := by unfold upk; split <;> exact ⟨rfl, rfl⟩
theorem upk_ne {B : List ByteArray} {j : Nat} {lv : Value} {f : Fn} (h : f.s.A ≠ B) : upk B j lv f = f := if_neg h
theorem upk_at (j : Nat) (lv : Value) (f : Fn) : upk f.s.A j lv f = { f with s := { f.s with m := f.s.m + j }, lv := lv } := if_pos rfl
theorem upk_map (B : List ByteArray) (j : Nat) (lv : Value) (T : List Fn) : (T.map (upk B j lv)).map Fn.s = (T.map Fn.s).map (upm B j) := by
  rw [List.map_map, List.map_map]
  refine List.map_congr_left (fun f _ => upk_s B j lv f)
theorem joi_edge' {e k : Nd} (hk : Kid e k) (lk : k.m ≤ k.A.length) : (joi e k).edge = e.edge ++ k.edge := by
  unfold Nd.edge
  rw [joi_top hk lk]
  show k.A.drop e.top = _
  have h1 : k.A = e.A ++ k.A.drop k.top := by rw [← hk.2.2, List.take_append_drop]
  conv => lhs; rw [h1]
  rw [List.drop_append_of_le_length (by unfold Nd.top; omega)]
/-- A node with one kid alone has gone; the kid's edge is longer; the node above still tells of the one that has gone. -/
theorem TM.unparted (h : TM w tb m r nf nn T) (he : e ∈ T) (hd : d ∈ T) (kd : Kid d.s e.s) (hk : k ∈ T) (kk : Kid e.s k.s) (only : ∀ g ∈ T, Kid e.s g.s → g = k) {lv : Value} (hc : Ch (fun j => j = tb ∨ j = k.s.p) w w') (tr' : w'.heap[tb]? = some (.cells #[ptr r, ptr m, .int .i64 nf, .int .i64 (nn - 1)] 56 (0, 0)))
    (at' : w'.heap[k.s.p]? = some (.cells #[ptr m, lv, k.ev, k.kv] 71 (0, 0))) (own' : w'.ownsRow 0 9 1 lv (k.s.m + e.s.m) ((e.s.edge ++ k.s.edge).map Value.string)) :
    PM w' tb m r nf (nn - 1) ((remF e.s.A T).map (upk k.s.A e.s.m lv)) d.s.A (T.map Fn.s) := by
  have heS := List.mem_map_of_mem (f := Fn.s) he
  have hkS := List.mem_map_of_mem (f := Fn.s) hk
  have only' : ∀ g ∈ T.map Fn.s, Kid e.s g → g = k.s := fun g hg c => by
    obtain ⟨q, hq, rfl⟩ := List.mem_map.1 hg
    rw [only q hq c]
  have inv := h.inv.unpart heS kd.1 hkS kk only'
  have le := h.inv.le e.s heS
  have lk := h.inv.le k.s hkS
  have elt := kd.lt le.1
  have klt := kk.lt lk.1
  have hS : ((remF e.s.A T).map (upk k.s.A e.s.m lv)).map Fn.s = (rem e.s.A (T.map Fn.s)).map (upm k.s.A e.s.m) := by rw [upk_map, remF_map]
  have kne : k.s.A ≠ e.s.A := fun c => by rw [c] at klt; omega
  have n9 : ∀ j, (j = tb ∨ j = k.s.p) → No9 w j := fun j c => by
    rcases c with c | c
    · rw [c]; exact no9_cells h.tr (by decide)
    · rw [c]; exact (h.nd k hk).no9 (.inl rfl)
  have kp : ∀ f ∈ T, f.s.A ≠ k.s.A → FnM w' m (T.map Fn.s) T.length f := fun f hf ne => (h.nd f hf).keep hc (fun j c q => by
    rcases q with q | q
    · exact h.tb_ne hf (q ▸ c)
    · exact h.apart hf hk (fun z => ne (by rw [z])) j c (.inl q)) n9 (Nat.le_refl _) (fun _ _ => Iff.rfl)
  have atk : ∀ a : Nd, a.A ≠ e.s.A → a.A ≠ d.s.A → ∀ x g, AtK (T.map Fn.s) a x g → g.A ≠ k.s.A → AtK ((rem e.s.A (T.map Fn.s)).map (upm k.s.A e.s.m)) a x g := fun a ha hB x g c gk => by
    rw [h.inv.unpart_atk heS kd.1 hkS kk ha]
    refine .inr ⟨c, fun q => hB ?_, gk⟩
    obtain rfl := h.inv.same c.1 heS q
    exact c.2.1.uniq kd
  have both : ∀ a : Nd, a.A ≠ e.s.A → a.A ≠ d.s.A → ∀ x g, AtK (T.map Fn.s) a x g ↔ AtK ((rem e.s.A (T.map Fn.s)).map (upm k.s.A e.s.m)) a x g := fun a ha hB x g => by
    constructor
    · intro c
      refine atk a ha hB x g c (fun q => ha ?_)
      obtain rfl := h.inv.same c.1 hkS q
      exact c.2.1.uniq kk
    · intro c
      rw [h.inv.unpart_atk heS kd.1 hkS kk ha] at c
      rcases c with ⟨_, c⟩ | ⟨c, _⟩
      · exact absurd (c.2.1.uniq kd) hB
      · exact c
  refine ⟨tr', by rw [hS]; exact inv, ?_, fun f0 hf0 hB => ?_, fun f0 hf0 hB => ?_, ?_, fun f0 hf0 => ?_⟩
  · obtain ⟨f, hf, f1, f2⟩ := h.rt
    refine ⟨_, List.mem_map_of_mem (mem_remF.2 ⟨hf, fun c => ?_⟩), by rw [upk_s, upm_A, f1], by rw [upk_s, upm_p, f2]⟩
    have := le.2.1 (by rw [← c, f1])
    have := kd.1
    omega
  · obtain ⟨f, hf, rfl⟩ := List.mem_map.1 hf0
    obtain ⟨hf, fne⟩ := mem_remF.1 hf
    rw [upk_s, upm_A] at hB
    rw [hS]
    by_cases c : f.s.A = k.s.A
    · obtain rfl := h.same hf hk c
      have fk := h.nd f hf
      obtain ⟨nk, kdd, h1, h2, h3⟩ := fk.kv
      have blk : ∀ j, (f.ev = .map (some j) ∨ f.kv = .map (some j)) → w'.heap[j]? = w.heap[j]? := fun j q => hc.block j (fk.lt (.inr q)) (fun z => by
        rcases z with z | z
        · exact h.tb_ne hf (z ▸ .inr q)
        · have : ∃ es cl, w.heap[j]? = some (.map es cl) := by
            rcases q with q | q
            · exact fk.ev.block q
            · exact h2.block q
          obtain ⟨es, cl, q2⟩ := this
          rw [z, fk.at_] at q2
          cases q2)
      rw [upk_at]
      refine ⟨nk, at', ?_, fk.ev.keep (fun b q => blk b (.inl q)), fk.e0, ⟨nk, kdd, Nat.le_refl _, h2.keep (fun b q => blk b (.inr q)), fun x v hx => (h3 x v hx).trans ?_⟩, fk.nb⟩
      · show w'.ownsRow 0 9 1 lv (f.s.m + e.s.m) ((joi e.s f.s).edge.map Value.string)
        rw [joi_edge' kk lk.1]
        exact own'
      · constructor
        · rintro ⟨g, c1, c2⟩
          exact ⟨g, (both f.s fne hB x g).1 c1, c2⟩
        · rintro ⟨g, c1, c2⟩
          exact ⟨g, (both f.s fne hB x g).2 c1, c2⟩
    · rw [upk_ne c]
      exact ⟨_, (kp f hf c).keep (Ch.refl (fun _ => False) _) (fun _ _ c => c) (fun _ c => c.elim) (Nat.le_refl _) (both f.s fne hB)⟩
  · obtain ⟨f, hf, rfl⟩ := List.mem_map.1 hf0
    obtain ⟨hf, fne⟩ := mem_remF.1 hf
    rw [upk_s, upm_A] at hB
    have c : f.s.A ≠ k.s.A := fun c => by
      have := congrArg List.length (hB.symm.trans c)
      omega
    rw [upk_ne c]
    exact ⟨_, kp f hf c⟩
  · refine List.pairwise_map.2 ((h.dis.sublist List.filter_sublist).imp (fun {a b} q j c1 c2 => q j (upk_has.1 c1) (upk_has.1 c2)))
  · obtain ⟨f, hf, rfl⟩ := List.mem_map.1 hf0
    rw [upk_s, upm_A]
    exact h.ok f (mem_remF.1 hf).1
/-- The node above is told. -/
theorem PM.fixed {T : List Fn} {S0 : List Nd} {kv : Value} {nk : Nat} {kd : ByteArray → Option Value} (h : PM w tb m r nf nn T d.s.A S0) (hd : d ∈ T) (same : ∀ a ∈ T, ∀ b ∈ T, a.s.A = b.s.A → a = b) (apart : ∀ a ∈ T, a ≠ d → FA a d) (tbd : ¬ d.has tb) (hc : Ch (hgC d) w w') (at' : w'.heap[d.s.p]? = some (.cells #[ptr m, d.lv, d.ev, kv] 71 (0, 0))) (hm : MG w' kv nk kd) (hK : Kds (T.map Fn.s) d.s kd) (hkv : kv = d.kv ∨ kv = .map none) :
    TM w' tb m r nf nn (T.map (ukv d.s.A kv)) := by
  obtain ⟨Nd0, fd⟩ := h.nd0 d hd rfl
  have fd' : FnM w' m (T.map Fn.s) T.length (d.kvd kv) := by
    have ev' : MG w' d.ev d.ne (fun k => (d.en k).map (.int .i64)) := fd.ev.keep (fun b e => hc.block b (fd.ev.lt e) (fun c => by
      rcases c with c | c
      · obtain ⟨es, cl, q⟩ := fd.ev.block e
        rw [c, fd.at_] at q
        cases q
      · exact fd.nb b e c))
    have lv' : w'.ownsRow 0 9 1 d.lv d.s.m (d.s.edge.map Value.string) := own_ch fd.lv hc (fun j hj c => by
      obtain ⟨cur, e⟩ := own_lt fd.lv hj
      exact fd.no9 (hgC_has c) cur e)
    refine ⟨at', lv', ev', fd.e0, ⟨nk, kd, by have := kids_le hm hK; rw [List.length_map] at this; exact this, hm, hK⟩, fun j c1 c2 => ?_⟩
    have c2' : kv = .map (some j) := c2
    rcases hkv with q | q
    · exact fd.nb j c1 (by rw [← q]; exact c2')
    · rw [q] at c2'; cases c2'
  have n9 : ∀ j, hgC d j → No9 w j := fun j c => fd.no9 (hgC_has c)
  refine ⟨(hc.block tb (Array.getElem?_eq_some_iff.1 h.tr).1 (fun c => tbd (hgC_has c))).trans h.tr, by rw [ukv_map]; exact h.inv, ?_, fun f0 hf0 => ?_, ?_, fun f0 hf0 => ?_⟩
  · obtain ⟨f, hf, f1, f2⟩ := h.rt
    exact ⟨_, List.mem_map_of_mem hf, by rw [ukv_s]; exact f1, by rw [ukv_s]; exact f2⟩
  · obtain ⟨f, hf, rfl⟩ := List.mem_map.1 hf0
    rw [ukv_map, List.length_map]
    by_cases c : f.s.A = d.s.A
    · obtain rfl := same f hf d hd c
      rw [ukv_at rfl]
      exact fd'
    · rw [ukv_ne c]
      obtain ⟨N, ff⟩ := h.nd f hf c
      have := (ff.keep hc (fun j c1 c2 => apart f hf (fun z => c (by rw [z])) j c1 (hgC_has c2)) n9 (Nat.le_refl _) (fun _ _ => Iff.rfl)).tight
      rw [List.length_map] at this
      exact this
  · refine List.pairwise_map.2 (h.dis.imp_of_mem (fun {a b} ha hb q j c1 c2 => ?_))
    have up : ∀ {f : Fn}, f ∈ T → (ukv d.s.A kv f).has j → f.has j := fun {f} hf c => by
      rcases ukv_has c with c' | ⟨e, c'⟩
      · exact c'
      · obtain rfl := same f hf d hd e
        rcases hkv with z | z
        · exact .inr (.inr (by rw [← z]; exact c'))
        · rw [z] at c'; cases c'
    exact q j (up ha c1) (up hb c2)
  · obtain ⟨f, hf, rfl⟩ := List.mem_map.1 hf0
    rw [ukv_s]
    exact h.ok f hf
end
end Go.Proofs.YtepjcfhbbcaldaaGreat.Li
namespace Go.Proofs.YtepjcfhbbcaldaaGreat.Li
open Go Go.RowKit
set_option linter.unusedSimpArgs false
set_option linter.unusedVariables false
set_option maxRecDepth 100000 in
set_option maxHeartbeats 1000000 in
theorem grow_any (n : Nat) (h1 : 1 ≤ n) (h2 : n ≤ 1000000) (w : World) :
    Calls Tryz.prog 72 #[.slice none 0 0, .int .i64 n] w fun e w' => ∃ g cp, e = .returned (.slice (some ⟨g, 0, none⟩) 0 cp) ∧ w'.ownsRow w.heap.size 9 1 (.slice (some ⟨g, 0, none⟩) 0 cp) 0 [] ∧ Below w.heap.size w w' := by
  obtain ⟨i0, hi, hz0, hz1, hz2⟩ := info_parts info9
  have hr : ∀ ty, (Builtin.append_ #[46, 3] ty #[.slice none 0 0, .int .i64 n]).run Tryz.prog w = _ := fun ty => Lib.run_append_nil_zeros w 46 3 ty 9 i0 (.string ⟨#[]⟩) .i64 .i64 Tryz.underlying46 Tryz.underlying3 hi hz0 n (by omega) (by omega) (by omega) (by rw [hz2]; omega)
  have hn0 : ¬ (n : Int) < 0 := by omega
  have hn1 : (0 : Int) < n := by omega
  go_enter Tryz.func72, Tryz.ntmps72
  go_wp2_with (at_builtin; refine Lib.wpList_append_run _ rfl (.tmp 20) (.tmp 21) 46 3 rfl _ _ rfl rfl _ _ (hr _) ?_)
  go_ret
  have hge := grownCap_ge w n 0 9
  have hcm : grownCap w n 0 9 ≤ maxLen := grownCap_le_maxLen w n 0 9 (by unfold maxLen; omega)
  refine ⟨_, _, rfl, World.ownsRow.drew (World.ownsRow_made w _ _ (Nat.le_refl _) hcm ?_), ((Below.refl _ _).alloc (Nat.le_refl _) _).drew⟩
  simp only [Array.size_append, size_zeroCells]
  simp [Value.cells]
  omega
theorem str_one (L : List ByteArray) (u : Value) (h : u ∈ L.map Value.string) : u.oneCell' = true := by
  obtain ⟨x, _, rfl⟩ := List.mem_map.1 h
  rfl
set_option maxRecDepth 100000 in
set_option maxHeartbeats 2000000 in
theorem concat_any (lb : Nat) (b0 b1 : Addr) (k0 k1 : Nat) (L0 L1 : List ByteArray) (w : World) (c0 : w.cell? ⟨lb, 0, none⟩ = some (.slice (some b0) L0.length k0)) (c1 : w.cell? ⟨lb, 1, none⟩ = some (.slice (some b1) L1.length k1)) (hlb : lb < w.heap.size)
    (h0 : ∀ w', Below w.heap.size w w' → ∀ j u, (L0.map Value.string)[j]? = some u → w'.cell? (b0.add j) = some u) (h1 : ∀ w', Below w.heap.size w w' → ∀ j u, (L1.map Value.string)[j]? = some u → w'.cell? (b1.add j) = some u) (hp : 1 ≤ L0.length + L1.length) (hl0 : L0.length ≤ 400000) (hl1 : L1.length ≤ 400000) :
    Calls Tryz.prog 61 #[.slice (some ⟨lb, 0, none⟩) 2 2] w fun e w' => ∃ g cp, e = .returned (.slice (some ⟨g, 0, none⟩) (L0.length + L1.length) cp) ∧ w'.ownsRow w.heap.size 9 1 (.slice (some ⟨g, 0, none⟩) (L0.length + L1.length) cp) (L0.length + L1.length) ((L0 ++ L1).map Value.string) ∧ Below w.heap.size w w' := by
  obtain ⟨i0, hi, hz0, hz1, hz2⟩ := info_parts info9
  obtain ⟨l0, hl0'⟩ : ∃ l0, l0 = L0.length := ⟨_, rfl⟩
  obtain ⟨l1, hl1'⟩ : ∃ l1, l1 = L1.length := ⟨_, rfl⟩
  have G0 : Hid (Calls Tryz.prog 72 #[.slice none 0 0, .int .i64 ((l0 : Int) + (l1 : Int))] w fun e w' => ∃ g cp, e = .returned (.slice (some ⟨g, 0, none⟩) 0 cp) ∧ w'.ownsRow w.heap.size 9 1 (.slice (some ⟨g, 0, none⟩) 0 cp) 0 [] ∧ Below w.heap.size w w') := by
    have h := grow_any (l0 + l1) (by omega) (by omega) w
    rw [Int.natCast_add] at h
    exact h
  rw [← hl0'] at c0
  rw [← hl1'] at c1
  have HC : Hid (∀ w', Below w.heap.size w w' → w'.cell? ⟨lb, 0, none⟩ = some (.slice (some b0) l0 k0) ∧ w'.cell? ⟨lb, 1, none⟩ = some (.slice (some b1) l1 k1)) := fun w' hb => ⟨by rw [hb.cell hlb]; exact c0, by rw [hb.cell hlb]; exact c1⟩
  have HL := hidi (And.intro hl0' (And.intro hl1' (And.intro hl0 hl1)))
  have H0 := hidi h0
  have H1 := hidi h1
  rw [← hl0', ← hl1']
  have hw1 : IntKind.i64.wrap ((0 : Int) + (l0 : Int)) = (l0 : Int) := by rw [IntKind.wrap_i64]; omega
  have hw1' : IntKind.i64.wrap ((l0 : Int)) = (l0 : Int) := by rw [IntKind.wrap_i64]; omega
  have hw2 : IntKind.i64.wrap ((l0 : Int) + (l1 : Int)) = (l0 : Int) + (l1 : Int) := by rw [IntKind.wrap_i64]; omega
  have hp1 : ¬ (l0 : Int) < 0 := by omega
  have hp2 : ¬ (l0 : Int) + (l1 : Int) < 0 := by omega
  clear h0 h1 hl0 hl1 hl0' hl1' hp hlb
  go_enter Tryz.func61, Tryz.ntmps61
  go_wp2
  go_loop [3, 5, 11] (fun s _ i => (i = .int .i64 0 ∧ s = .int .i64 0) ∨ (i = .int .i64 1 ∧ s = .int .i64 l0) ∨ (i = .int .i64 2 ∧ s = .int .i64 ((l0 : Int) + (l1 : Int)))) (fun _ _ i => 2 - (intOf i).toNat)
  case atStart => exact .inl ⟨rfl, rfl⟩
  case round =>
    rcases hrel with ⟨rfl, rfl⟩ | ⟨rfl, rfl⟩ | ⟨rfl, rfl⟩
    · go_wp2
      go_round
      case rel => exact .inr (.inl ⟨rfl, by first | rfl | go_num⟩)
      case measure => simp [intOf]
    · go_wp2
      go_round
      case rel => exact .inr (.inr ⟨rfl, by first | rfl | go_num⟩)
      case measure => simp [intOf]
    · clear c0 c1
      go_wp2_with (go_at_call 72; refine G0.out.mono ?_; rintro e w1 ⟨g, cp, rfl, hown, hbel⟩; have O1 : Hid (w1.ownsRow w.heap.size 9 1 (.slice (some ⟨g, 0, none⟩) 0 cp) 0 [] ∧ Below w.heap.size w w1) := ⟨hown, hbel⟩; clear hown hbel)
      go_loopw [6, 8, 27] (fun v _ i wr => Below w.heap.size w wr ∧ v ≠ .slice none 0 0 ∧ ((i = .int .i64 0 ∧ wr.ownsRow w.heap.size 9 1 v 0 []) ∨ (i = .int .i64 1 ∧ wr.ownsRow w.heap.size 9 1 v l0 (L0.map Value.string)) ∨ (i = .int .i64 2 ∧ wr.ownsRow w.heap.size 9 1 v (l0 + l1) ((L0 ++ L1).map Value.string)))) (fun _ _ i _ => 2 - (intOf i).toNat)
      case atStart => exact ⟨O1.out.2, by simp, .inl ⟨rfl, O1.out.1⟩⟩
      case round =>
        obtain ⟨hbel, hnn, hrel⟩ := hrel
        obtain ⟨d0, d1⟩ := HC.out wr hbel
        have HB : Hid (Below w.heap.size w wr) := hbel
        have HNN : Hid (u6 ≠ .slice none 0 0) := hnn
        clear hbel hnn
        rcases hrel with ⟨rfl, ho⟩ | ⟨rfl, ho⟩ | ⟨rfl, ho⟩
        · have HO : Hid (wr.ownsRow w.heap.size 9 1 u6 0 []) := ho
          clear ho
          go_wp2_with (at_builtin; refine wpList_append_own _ rfl (.tmp 31) (.tmp 32) 46 rfl w.heap.size 9 i0 (.string ⟨#[]⟩) 1 16 Tryz.underlying46 hi hz0 hz1 hz2 rfl (by decide) _ _ _ rfl HO.out b0 l0 k0 (L0.map Value.string) rfl ?c0 ?c1 ?c2 ?c3 ?c4 ?c5 ?_)
          case c0 => rw [List.length_map, HL.out.1]; omega
          case c1 => exact H0.out _ HB.out
          case c2 => exact fun u hu => str_one L0 u hu
          case c3 => have := HL.out; unfold maxLen; omega
          case c4 => have := HL.out; omega
          case c5 => exact HB.out.size
          intro v2 w2 hown2 hgrow2 hnil2
          have hb2 := HB.out.grown hgrow2 HB.out.size (fun q hq => (HO.out.lt q hq).1)
          have HS : Hid (Below w.heap.size w w2 ∧ v2 ≠ .slice none 0 0 ∧ w2.ownsRow w.heap.size 9 1 v2 l0 (L0.map Value.string)) := ⟨hb2, fun h => HNN.out (hnil2.1 h).1, by simpa using hown2⟩
          clear hown2 hgrow2 hnil2 hb2
          go_wp2
          go_roundw
          case rel => exact ⟨HS.out.1, HS.out.2.1, .inr (.inl ⟨rfl, HS.out.2.2⟩)⟩
          case measure => simp [intOf]
        · have HO : Hid (wr.ownsRow w.heap.size 9 1 u6 l0 (L0.map Value.string)) := ho
          clear ho
          go_wp2_with (at_builtin; refine wpList_append_own _ rfl (.tmp 31) (.tmp 32) 46 rfl w.heap.size 9 i0 (.string ⟨#[]⟩) 1 16 Tryz.underlying46 hi hz0 hz1 hz2 rfl (by decide) _ _ _ rfl HO.out b1 l1 k1 (L1.map Value.string) rfl ?e0 ?e1 ?e2 ?e3 ?e4 ?e5 ?_)
          case e0 => rw [List.length_map, HL.out.2.1]; omega
          case e1 => exact H1.out _ HB.out
          case e2 => exact fun u hu => str_one L1 u hu
          case e3 => have := HL.out; unfold maxLen; omega
          case e4 => have := HL.out; omega
          case e5 => exact HB.out.size
          intro v2 w2 hown2 hgrow2 hnil2
          have hb2 := HB.out.grown hgrow2 HB.out.size (fun q hq => (HO.out.lt q hq).1)
          have HS : Hid (Below w.heap.size w w2 ∧ v2 ≠ .slice none 0 0 ∧ w2.ownsRow w.heap.size 9 1 v2 (l0 + l1) ((L0 ++ L1).map Value.string)) := ⟨hb2, fun h => HNN.out (hnil2.1 h).1, by rw [List.map_append]; exact hown2⟩
          clear hown2 hgrow2 hnil2 hb2
          go_wp2
          go_roundw
          case rel => exact ⟨HS.out.1, HS.out.2.1, .inr (.inr ⟨rfl, HS.out.2.2⟩)⟩
          case measure => simp [intOf]
        · have hex : ∃ g cp, u6 = .slice (some ⟨g, 0, none⟩) (l0 + l1) cp := by
            obtain ⟨_, h | ⟨g, cp, cur, hv, _⟩⟩ := ho
            · exact absurd h.1 HNN.out
            · exact ⟨g, cp, hv⟩
          obtain ⟨g, cp, rfl⟩ := hex
          have HO : Hid (wr.ownsRow w.heap.size 9 1 (.slice (some ⟨g, 0, none⟩) (l0 + l1) cp) (l0 + l1) ((L0 ++ L1).map Value.string)) := ho
          clear ho
          go_wp2
          go_ret
          exact ⟨g, cp, rfl, HO.out, HB.out⟩
end Go.Proofs.YtepjcfhbbcaldaaGreat.Li
namespace Go.Proofs.YtepjcfhbbcaldaaGreat.Li
open Go Go.RowKit
set_option linter.unusedSimpArgs false
set_option linter.unusedVariables false
def setN (f : ByteArray → Option Int) (x : ByteArray) : ByteArray → Option Int := fun y => if y = x then none else f y
/-- A key is forgotten at a node. -/
def frg (A : List ByteArray) (x : ByteArray) (ev : Value) (f : Fn) : Fn := if f.s.A = A then { f with en := setN f.en x, ne := f.ne - 1, ev := ev } else f
theorem frg_s (A : List ByteArray) (x : ByteArray) (ev : Value) (f : Fn) : (frg A x ev f).s = f.s := by unfold frg; split <;> rfl
theorem frg_map (A : List ByteArray) (x : ByteArray) (ev : Value) (T : List Fn) : (T.map (frg A x ev)).map Fn.s = T.map Fn.s := by
  rw [List.map_map]
  exact List.map_congr_left (fun f _ => frg_s A x ev f)
theorem frg_ne {A : List ByteArray} {x : ByteArray} {ev : Value} {f : Fn} (h : f.s.A ≠ A) : frg A x ev f = f := if_neg h
theorem frg_at {x : ByteArray} {ev : Value} (f : Fn) : frg f.s.A x ev f = { f with en := setN f.en x, ne := f.ne - 1, ev := ev } := if_pos rfl
theorem frg_has {A : List ByteArray} {x : ByteArray} {ev : Value} {f : Fn} {k : Nat} (h : (frg A x ev f).has k) : f.has k ∨ (f.s.A = A ∧ ev = .map (some k)) := by
  unfold frg at h
  split at h
  · rename_i e
    rcases h with c | c | c
    · exact .inl (.inl c)
    · exact .inr ⟨e, c⟩
    · exact .inl (.inr (.inr c))
  · exact .inl h
section
variable {w w' : World} {tb m r : Nat} {nf nf' nn : Int} {T : List Fn} {f : Fn} {x : ByteArray} {ev : Value}
theorem TM.forgot (h : TM w tb m r nf nn T) (hf : f ∈ T) (hc : Ch (fun j => j = tb ∨ j = f.s.p ∨ f.ev = .map (some j)) w w') (tr' : w'.heap[tb]? = some (.cells #[ptr r, ptr m, .int .i64 nf', .int .i64 nn] 56 (0, 0)))
    (at' : w'.heap[f.s.p]? = some (.cells #[ptr m, f.lv, ev, f.kv] 71 (0, 0))) (mg' : MG w' ev (f.ne - 1) (fun k => (setN f.en x k).map (.int .i64))) (e0 : ev = .map none ∨ 0 < f.ne - 1) (hev : ev = f.ev ∨ ev = .map none) :
    TM w' tb m r nf' nn (T.map (frg f.s.A x ev)) := by
  have ff := h.nd f hf
  have nC : ∀ j, (j = tb ∨ j = f.s.p ∨ f.ev = .map (some j)) → j = tb ∨ f.has j := fun j c => c.imp id (fun c => c.elim .inl (fun c => .inr (.inl c)))
  have n9 : ∀ j, (j = tb ∨ j = f.s.p ∨ f.ev = .map (some j)) → No9 w j := fun j c => by
    rcases nC j c with c | c
    · rw [c]; exact no9_cells h.tr (by decide)
    · exact ff.no9 c
  have ff' : FnM w' m (T.map Fn.s) T.length { f with en := setN f.en x, ne := f.ne - 1, ev := ev } := by
    obtain ⟨nk, kd, h1, h2, h3⟩ := ff.kv
    refine ⟨at', own_ch ff.lv hc (fun j hj c => ?_), mg', e0, ⟨nk, kd, h1, h2.keep (fun b e => hc.block b (h2.lt e) (fun c => ?_)), h3⟩, fun k c1 c2 => ?_⟩
    · obtain ⟨cur, e⟩ := own_lt ff.lv hj
      exact n9 j c cur e
    · rcases c with c | c | c
      · exact h.tb_ne hf (c ▸ .inr (.inr e))
      · obtain ⟨es, cl, q⟩ := h2.block e
        rw [c, ff.at_] at q
        cases q
      · exact ff.nb b c e
    · have c1' : ev = .map (some k) := c1
      rcases hev with q | q
      · exact ff.nb k (by rw [← q]; exact c1') c2
      · rw [q] at c1'; cases c1'
  refine ⟨tr', by rw [frg_map]; exact h.inv, ?_, fun f0 hf0 => ?_, ?_, fun f0 hf0 => ?_⟩
  · obtain ⟨g, hg, f1, f2⟩ := h.rt
    exact ⟨_, List.mem_map_of_mem hg, by rw [frg_s]; exact f1, by rw [frg_s]; exact f2⟩
  · obtain ⟨g, hg, rfl⟩ := List.mem_map.1 hf0
    rw [frg_map, List.length_map]
    by_cases c : g.s.A = f.s.A
    · obtain rfl := h.same hg hf c
      rw [frg_at]
      exact ff'
    · rw [frg_ne c]
      exact (h.nd g hg).keep hc (fun j c1 c2 => by
        rcases nC j c2 with c2 | c2
        · exact h.tb_ne hg (c2 ▸ c1)
        · exact h.apart hg hf (fun z => c (by rw [z])) j c1 c2) n9 (Nat.le_refl _) (fun _ _ => Iff.rfl)
  · refine List.pairwise_map.2 (h.dis.imp_of_mem (fun {a b} ha hb q j c1 c2 => ?_))
    have up : ∀ {g : Fn}, g ∈ T → (frg f.s.A x ev g).has j → g.has j := fun {g} hg c => by
      rcases frg_has c with c' | ⟨e, c'⟩
      · exact c'
      · obtain rfl := h.same hg hf e
        rcases hev with z | z
        · exact .inr (.inl (by rw [← z]; exact c'))
        · rw [z] at c'; cases c'
    exact q j (up ha c1) (up hb c2)
  · obtain ⟨g, hg, rfl⟩ := List.mem_map.1 hf0
    rw [frg_s]
    exact h.ok g hg
theorem frg_hasE (h : TM w tb m r nf nn T) (hf : f ∈ T) (F : List ByteArray) (y : ByteArray) (z : Int) : HasE (T.map (frg f.s.A x ev)) F y z ↔ HasE T F y z ∧ ¬ (F = f.s.A ∧ y = x) := by
  constructor
  · rintro ⟨b0, hb0, e1, e2⟩
    obtain ⟨a, ha, rfl⟩ := List.mem_map.1 hb0
    rw [frg_s] at e1
    by_cases c : a.s.A = f.s.A
    · obtain rfl := h.same ha hf c
      rw [frg_at] at e2
      have e2' : (if y = x then none else a.en y) = some z := e2
      by_cases d : y = x
      · rw [if_pos d] at e2'; cases e2'
      · rw [if_neg d] at e2'
        exact ⟨⟨a, ha, e1, e2'⟩, fun q => d q.2⟩
    · rw [frg_ne c] at e2
      exact ⟨⟨a, ha, e1, e2⟩, fun q => c (by rw [e1, q.1])⟩
  · rintro ⟨⟨a, ha, e1, e2⟩, no⟩
    refine ⟨_, List.mem_map_of_mem ha, by rw [frg_s]; exact e1, ?_⟩
    by_cases c : a.s.A = f.s.A
    · obtain rfl := h.same ha hf c
      rw [frg_at]
      show (if y = x then none else a.en y) = some z
      rw [if_neg (fun q => no ⟨e1.symm, q⟩)]
      exact e2
    · rw [frg_ne c]
      exact e2
/-- What forget leaves. -/
structure Fg (w w' : World) (tb m r : Nat) (nf nn : Int) (T : List Fn) (f : Fn) (x : ByteArray) : Prop where
  ex : ∃ ev, (ev = f.ev ∨ ev = .map none) ∧ TM w' tb m r (if f.ne = 1 then nf - 1 else nf) nn (T.map (frg f.s.A x ev))
  ch : Ch (fun j => j = tb ∨ f.has j) w w'
set_option maxRecDepth 100000 in
set_option maxHeartbeats 4000000 in
theorem forget_any (h : TM w tb m r nf nn T) (hf : f ∈ T) (hx : okT x) {q : Int} (hq : f.en x = some q) (n1 : 1 ≤ nf) (n2 : nf < 1000000000) (hne : f.ne ≤ 1000000) :
    Calls Tryz.prog 41 #[ptr tb, ptr f.s.p, .string x] w fun e w' => e = .returned (.tuple #[]) ∧ Fg w w' tb m r nf nn T f x := by
  have ff := h.nd f hf
  obtain ⟨mb, hmb⟩ : ∃ mb, f.ev = .map (some mb) := by
    rcases ff.ev with ⟨e, _, h2⟩ | ⟨mb, D, e, _⟩
    · have : (f.en x).map (Value.int .i64) = none := h2 x hx
      rw [hq] at this
      cases this
    · exact ⟨mb, e⟩
  have hev := ff.ev
  rw [hmb] at hev
  have hpos : 0 < f.ne := by
    obtain ⟨K, k1, k2, k3⟩ := hev.keys
    have : x ∈ K := (k3 x).2 ⟨hx, by show ((f.en x).map _).isSome = true; rw [hq]; rfl⟩
    rw [← k2]
    exact List.length_pos_of_mem this
  obtain ⟨w1, k1, k2, k3⟩ := hev.del (t := 61) Tryz.underlying61 hx 0
  have hsome : (((f.en x).map (Value.int .i64)).isSome) = true := by rw [hq]; rfl
  have m1 : MG w1 (.map (some mb)) (f.ne - 1) (fun k => (setN f.en x k).map (.int .i64)) := by
    have : MG w1 (.map (some mb)) (f.ne - 1) (setG (fun k => (f.en k).map (.int .i64)) x none) := by
      simp only [hsome, if_true] at k2
      exact k2
    refine this.congr (fun k _ => ?_)
    unfold setG setN
    split <;> rfl
  have pmb : f.s.p ≠ mb := fun c => by
    obtain ⟨es, cl, e⟩ := hev.block rfl
    rw [← c, ff.at_] at e
    cases e
  have tmb : tb ≠ mb := fun c => h.tb_ne hf (c ▸ .inr (.inl hmb))
  have ptb : f.s.p ≠ tb := fun c => h.tb_ne hf (.inl c.symm)
  have plt : f.s.p < w.heap.size := ff.lt (.inl rfl)
  have tlt := h.islt (.inl rfl)
  have at1 : w1.heap[f.s.p]? = some (.cells #[ptr m, f.lv, .map (some mb), f.kv] 71 (0, 0)) := by rw [k3.block _ plt pmb, ← hmb]; exact ff.at_
  have tr1 : w1.heap[tb]? = some (.cells #[ptr r, ptr m, .int .i64 nf, .int .i64 nn] 56 (0, 0)) := by rw [k3.block _ tlt tmb]; exact h.tr
  have l0 : w.cell? ⟨f.s.p, 2, none⟩ = some (.map (some mb)) := by rw [← hmb]; exact box_cells ff.at_ 2 _ rfl
  have l1 : w1.cell? ⟨f.s.p, 2, none⟩ = some (.map (some mb)) := box_cells at1 2 _ rfl
  have t1 : w1.cell? ⟨tb, 2, none⟩ = some (.int .i64 nf) := box_cells tr1 2 _ rfl
  have z1 : w1.frozen? ⟨tb, 2, none⟩ = false := box_frozen tr1 2
  have hlen := fun ty => m1.len (t := 61) Tryz.underlying61 ty
  have hw : IntKind.i64.wrap (nf - 1) = nf - 1 := by rw [IntKind.wrap_i64]; omega
  by_cases c1 : f.ne = 1
  · have e2 : (w1.setCell ⟨tb, 2, none⟩ (.int .i64 (nf - 1))).frozen? ⟨f.s.p, 2, none⟩ = false := box_frozen ((heap_set_ne _ ptb).trans at1) 2
    have e3 : (w1.setCell ⟨tb, 2, none⟩ (.int .i64 (nf - 1))).cell? ⟨f.s.p, 2, none⟩ = some (.map (some mb)) := box_cells ((heap_set_ne _ ptb).trans at1) 2 _ rfl
    have FIN := hidi (show Fg w ((w1.setCell ⟨tb, 2, none⟩ (.int .i64 (nf - 1))).setCell ⟨f.s.p, 2, none⟩ (.map none)) tb m r nf nn T f x from by
      have cc : Ch (fun j => j = tb ∨ j = f.s.p ∨ f.ev = .map (some j)) w ((w1.setCell ⟨tb, 2, none⟩ (.int .i64 (nf - 1))).setCell ⟨f.s.p, 2, none⟩ (.map none)) :=
        ((k3.mono (fun j _ e => .inr (.inr (by rw [hmb, e])))).trans (ch_set tb 2 _) (fun j _ e => .inl e)).trans (ch_set f.s.p 2 _) (fun j _ e => .inr (.inl e))
      refine ⟨⟨.map none, .inr rfl, ?_⟩, cc.mono (fun j _ e => e.imp id (fun e => e.elim .inl (fun e => .inr (.inl e))))⟩
      rw [if_pos c1]
      refine h.forgot hf cc ?_ ?_ ?_ (.inl rfl) (.inr rfl)
      · rw [heap_set_ne _ (Ne.symm ptb)]
        exact heap_set tr1 _
      · exact heap_set ((heap_set_ne _ ptb).trans at1) _
      · rw [c1]
        refine .inl ⟨rfl, rfl, fun k ok => ?_⟩
        have := m1
        rw [c1] at this
        obtain ⟨K, q1, q2, q3⟩ := this.keys
        have nk : ¬ k ∈ K := fun c => by have := List.length_pos_of_mem c; omega
        cases d : (setN f.en x k).map (Value.int .i64) with
        | none => exact d
        | some v => exact absurd ((q3 k).2 ⟨ok, by show ((setN f.en x k).map (Value.int .i64)).isSome = true; rw [d]; rfl⟩) nk)
    have q0 : (((f.ne - 1 : Nat) : Int) == 0) = true := by rw [c1]; rfl
    unfold ptr at *
    clear h hf ff hev hq hsome k2 m1 at1 tr1 c1 hpos hne pmb tmb plt tlt hmb n1 n2 k3
    go_enter Tryz.func41, Tryz.ntmps41
    go_wp2_with fail
    go_end0
    exact ⟨rfl, FIN.out⟩
  · have FIN := hidi (show Fg w w1 tb m r nf nn T f x from by
      have cc : Ch (fun j => j = tb ∨ j = f.s.p ∨ f.ev = .map (some j)) w w1 := k3.mono (fun j _ e => .inr (.inr (by rw [hmb, e])))
      refine ⟨⟨.map (some mb), .inl hmb.symm, ?_⟩, cc.mono (fun j _ e => e.imp id (fun e => e.elim .inl (fun e => .inr (.inl e))))⟩
      rw [if_neg c1]
      exact h.forgot hf cc tr1 at1 m1 (.inr (by omega)) (.inl hmb.symm))
    have q0 : (((f.ne - 1 : Nat) : Int) == 0) = false := by rw [beq_eq_false_iff_ne]; omega
    unfold ptr at *
    clear h hf ff hev hq hsome k2 m1 at1 tr1 c1 hpos hne pmb tmb plt tlt hmb n1 n2 k3
    go_enter Tryz.func41, Tryz.ntmps41
    go_wp2_with fail
    go_end0
    exact ⟨rfl, FIN.out⟩
end
end Go.Proofs.YtepjcfhbbcaldaaGreat.Li
namespace Go.Proofs.YtepjcfhbbcaldaaGreat.Li
open Go Go.RowKit
set_option linter.unusedSimpArgs false
set_option linter.unusedVariables false
variable {w : World} {tb m r nk : Nat} {nf nn : Int} {T : List Fn} {e d k : Fn} {kd : ByteArray → Option Value}
theorem map_of {w : World} {mv : Value} {n : Nat} {f : ByteArray → Option Value} (h : MG w mv n f) : ∃ mo, mv = .map mo := by
  rcases h.mk with e | ⟨mb, e⟩
  · exact ⟨_, e⟩
  · exact ⟨_, e⟩
set_option maxRecDepth 100000 in
set_option maxHeartbeats 4000000 in
/-- A node stays. -/
theorem tidy_stay (h : TM w tb m r nf nn T) (he : e ∈ T) (hm : MG w e.kv nk kd) (hs : e.s.m = 0 ∨ 0 < e.ne ∨ 1 < nk) :
    Calls Tryz.prog 42 #[ptr tb, ptr e.s.p] w fun e' w' => e' = .returned (ptr e.s.p) ∧ w' = w := by
  have fe := h.nd e he
  obtain ⟨la, lc, hlv⟩ : ∃ la lc, e.lv = .slice la e.s.m lc := own_sl fe.lv
  obtain ⟨mo, hmo⟩ := map_of fe.ev
  obtain ⟨ko, hko⟩ := map_of hm
  have c1 : w.cell? ⟨e.s.p, 1, none⟩ = some (.slice la e.s.m lc) := by rw [← hlv]; exact box_cells fe.at_ 1 _ rfl
  have c2 : w.cell? ⟨e.s.p, 2, none⟩ = some (.map mo) := by rw [← hmo]; exact box_cells fe.at_ 2 _ rfl
  have c3 : w.cell? ⟨e.s.p, 3, none⟩ = some (.map ko) := by rw [← hko]; exact box_cells fe.at_ 3 _ rfl
  have le := fun ty => fe.ev.len (t := 61) Tryz.underlying61 ty
  have lk := fun ty => hm.len (t := 69) Tryz.underlying69 ty
  rw [hmo] at le
  rw [hko] at lk
  unfold ptr at *
  by_cases h0 : e.s.m = 0
  · have q0 : ((e.s.m : Int) == 0) = true := by rw [h0]; rfl
    clear hs h fe hm hlv hmo hko h0
    go_enter Tryz.func42, Tryz.ntmps42
    go_wp2_with fail
    go_ret
    exact ⟨rfl, rfl⟩
  · have q0 : ((e.s.m : Int) == 0) = false := by rw [beq_eq_false_iff_ne]; omega
    by_cases h1 : 0 < e.ne
    · have q1 : (0 : Int) < (e.ne : Int) := by omega
      have q1' : (e.ne : Int) > 0 := by omega
      clear hs h fe hm hlv hmo hko h0 h1
      go_enter Tryz.func42, Tryz.ntmps42
      go_wp2_with fail
      go_ret
      exact ⟨rfl, rfl⟩
    · have q1 : ¬ (0 : Int) < (e.ne : Int) := by omega
      have q1' : ¬ (e.ne : Int) > 0 := by omega
      have q2 : (1 : Int) < (nk : Int) := by omega
      have q2' : (nk : Int) > 1 := by omega
      clear hs h fe hm hlv hmo hko h0 h1
      go_enter Tryz.func42, Tryz.ntmps42
      go_wp2_with fail
      go_ret
      exact ⟨rfl, rfl⟩
theorem tr_less {w : World} (h : TM w tb m r nf nn T) (v : Int) : (w.setCell ⟨tb, 3, none⟩ (.int .i64 v)).heap[tb]? = some (.cells #[ptr r, ptr m, .int .i64 nf, .int .i64 v] 56 (0, 0)) := heap_set h.tr _
theorem ch_less {w : World} (v : Value) : Ch (fun j => j = tb) w (w.setCell ⟨tb, 3, none⟩ v) := ch_set tb 3 v
set_option maxRecDepth 100000 in
set_option maxHeartbeats 4000000 in
/-- A node that has nothing goes. -/
theorem tidy_none (h : TM w tb m r nf nn T) (he : e ∈ T) (hd : d ∈ T) (hkd : Kid d.s e.s) (hm : MG w e.kv 0 kd) (hK : Kds (T.map Fn.s) e.s kd) (h0 : e.ne = 0) (n1 : 1 ≤ nn) (n2 : nn < 1000000000) :
    Calls Tryz.prog 42 #[ptr tb, ptr e.s.p] w fun e' w' => e' = .returned (.pointer none) ∧ PM w' tb m r nf (nn - 1) (remF e.s.A T) d.s.A (T.map Fn.s) ∧ Ch (fun j => j = tb) w w' := by
  have fe := h.nd e he
  obtain ⟨la, lc, hlv⟩ : ∃ la lc, e.lv = .slice la e.s.m lc := own_sl fe.lv
  obtain ⟨mo, hmo⟩ := map_of fe.ev
  have c1 : w.cell? ⟨e.s.p, 1, none⟩ = some (.slice la e.s.m lc) := by rw [← hlv]; exact box_cells fe.at_ 1 _ rfl
  have c2 : w.cell? ⟨e.s.p, 2, none⟩ = some (.map mo) := by rw [← hmo]; exact box_cells fe.at_ 2 _ rfl
  have le := fun ty => fe.ev.len (t := 61) Tryz.underlying61 ty
  have lk := fun ty => hm.len (t := 69) Tryz.underlying69 ty
  rw [hmo, h0] at le
  have t3 : w.cell? ⟨tb, 3, none⟩ = some (.int .i64 nn) := box_cells h.tr 3 _ rfl
  have z3 : w.frozen? ⟨tb, 3, none⟩ = false := box_frozen h.tr 3
  have hw : IntKind.i64.wrap (nn - 1) = nn - 1 := by rw [IntKind.wrap_i64]; omega
  have q0 : ((e.s.m : Int) == 0) = false := by rw [beq_eq_false_iff_ne]; have := hkd.1; omega
  have petb : e.s.p ≠ tb := fun c => h.tb_ne he (.inl c.symm)
  have no : ∀ g ∈ T, ¬ Kid e.s g.s := fun g hg c => by
    have gm := h.inv.le g.s (List.mem_map_of_mem hg)
    have tl := top_lt c.1 gm.1
    obtain ⟨y, hy⟩ : ∃ y, g.s.A[g.s.top]? = some y := ⟨_, List.getElem?_eq_getElem tl⟩
    have oy : okT y := by have := (h.ok g hg).1 y (List.mem_of_getElem? hy); unfold okT maxLen; omega
    have := (hK y (ptr g.s.p) oy).2 ⟨_, ⟨List.mem_map_of_mem hg, c, hy⟩, rfl⟩
    obtain ⟨K, k1, k2, k3⟩ := hm.keys
    have := List.length_pos_of_mem ((k3 y).2 ⟨oy, by rw [this]; rfl⟩)
    omega
  have FIN := hidi (fun (w' : World) (hc : Ch (fun j => j = tb) (w.setCell ⟨tb, 3, none⟩ (.int .i64 (nn - 1))) w') (ht : w'.heap[tb]? = (w.setCell ⟨tb, 3, none⟩ (.int .i64 (nn - 1))).heap[tb]?) => (show PM w' tb m r nf (nn - 1) (remF e.s.A T) d.s.A (T.map Fn.s) ∧ Ch (fun j => j = tb) w w' from by
    have cc := (ch_less (tb := tb) (w := w) (.int .i64 (nn - 1))).then hc
    exact ⟨h.unleafed he hd hkd no cc (by rw [ht]; exact tr_less h _), cc⟩))
  have at1 : (w.setCell ⟨tb, 3, none⟩ (.int .i64 (nn - 1))).heap[e.s.p]? = some (.cells #[ptr m, e.lv, e.ev, e.kv] 71 (0, 0)) := (heap_set_ne _ petb).trans fe.at_
  obtain ⟨w1, hw1⟩ : ∃ w1, w1 = w.setCell ⟨tb, 3, none⟩ (.int .i64 (nn - 1)) := ⟨_, rfl⟩
  have tl1 : tb < w1.heap.size := by rw [hw1]; have := h.islt (.inl rfl); simpa [World.setCell] using this
  have hmk1 : MG w1 e.kv 0 kd := hm.keep (fun b q => by rw [hw1]; exact heap_set_ne _ (fun c => h.tb_ne he (c ▸ .inr (.inr q))))
  rcases hm.mk with hko | ⟨mb, hko⟩
  · have c3 : w.cell? ⟨e.s.p, 3, none⟩ = some (.map none) := by rw [← hko]; exact box_cells fe.at_ 3 _ rfl
    have l3 : w1.cell? ⟨e.s.p, 3, none⟩ = some (.map none) := by rw [← hko, hw1]; exact box_cells at1 3 _ rfl
    have hrg := run_range_nilMap (P := Tryz.prog) w1 69 9 52 Tryz.underlying69
    have hnx : ∀ ty, (Instr.next (.pointer (some ⟨w1.heap.size, 0, none⟩)) false ty).run Tryz.prog (w1.alloc (.mapIter none 0 #[] 0)) = _ := fun ty => run_next_nilMap _ ty 0 0 #[]
    rw [hko] at lk
    rw [← hw1] at FIN
    have HW := hidi hw1
    have HT := hidi tl1
    unfold ptr at *
    clear h he hd hkd hm hK h0 n1 n2 fe hlv hmo petb no at1 hw1 hko tl1 hmk1
    go_enter Tryz.func42, Tryz.ntmps42
    go_upto_region 4 with fail
    rw [← HW.out]
    go_wp2_with fail
    refine wp_loop_rounds 1 ?_
    rw [rounds_succ]
    go_wp2_with fail
    go_ret
    exact ⟨rfl, FIN.out _ (ch_alloc _ _ _) (heap_alloc_old _ _ HT.out)⟩
  · have c3 : w.cell? ⟨e.s.p, 3, none⟩ = some (.map (some mb)) := by rw [← hko]; exact box_cells fe.at_ 3 _ rfl
    have l3 : w1.cell? ⟨e.s.p, 3, none⟩ = some (.map (some mb)) := by rw [← hko, hw1]; exact box_cells at1 3 _ rfl
    rw [hko] at hmk1
    rcases hmk1 with ⟨z, _⟩ | ⟨mb', D, z, hown, hsz, hD⟩
    · cases z
    cases z
    rw [hko] at lk
    rw [← hw1] at FIN
    have HW := hidi hw1
    have HT := hidi tl1
    have HS := hidi hsz
    unfold ptr at *
    clear h he hd hkd hm hK h0 n1 n2 fe hlv hmo petb no at1 hw1 hko tl1 hD hsz
    go_enter Tryz.func42, Tryz.ntmps42
    go_upto_region 4 with fail
    rw [← HW.out]
    go_wp2_with (at_range; refine wpList_range_own _ rfl _ 69 rfl 9 52 law9 Tryz.underlying69 hv mb 0 D rfl hown ?_; intro w2 hrg0 hg0 hs0)
    have HG := hidi hg0
    have HR := hidi hrg0
    clear hg0 hs0 hown hrg0 l3
    refine wp_loop_rounds 1 ?_
    rw [rounds_succ]
    go_wp2_with (at_next; refine wpList_next_ranges _ rfl _ rfl 9 law9 hv Value.string (fun v : Value => v) (fun key kl hk => by obtain ⟨x, hx, _⟩ := Go.WideMaps.string_of_keyOf Tryz.underlying9 hk; exact ⟨x, hx⟩) (fun v y _ => ⟨v, rfl⟩) mb _ 0 D _ _ rfl HR.out ?_ ?_)
    · intro hc0 hl0
      go_wp2_with fail
      go_ret
      exact ⟨rfl, FIN.out _ ((ch_grown HG.out).mono (fun j _ c => by cases c)) (HG.out.block _ HT.out (by simp))⟩
    · intro xk cv kl yd yp w3 cnt2 hkey hlk hvv hat hrg2 hlt2 hg2 hs2 hen
      have := HS.out
      omega
end Go.Proofs.YtepjcfhbbcaldaaGreat.Li
namespace Go.Proofs.YtepjcfhbbcaldaaGreat.Li
open Go Go.RowKit
set_option linter.unusedSimpArgs false
set_option linter.unusedVariables false
variable {w : World} {tb m r : Nat} {nf nn : Int} {T : List Fn} {e d k : Fn} {kd : ByteArray → Option Value} {y : ByteArray}
theorem row_cells {w : World} {v : Value} {n : Nat} {L : List ByteArray} (h : w.ownsRow 0 9 1 v n (L.map Value.string)) (hn : 0 < n) : ∃ g c, v = .slice (some ⟨g, 0, none⟩) n c ∧ g < w.heap.size ∧ ∀ w', Below w.heap.size w w' → ∀ j u, (L.map Value.string)[j]? = some u → w'.cell? ((⟨g, 0, none⟩ : Addr).add j) = some u := by
  have R := rw_own h
  obtain ⟨a, n', c, ev, hn', hc, hrow⟩ := R.row
  have hL : L.length = n := by have := h.1; simp at this; omega
  obtain ⟨g, o, ea, hg, hcells⟩ := hrow (fun q => by rw [q] at hL; simp at hL; omega)
  rcases h.2 with ⟨_, z⟩ | ⟨g', c', cur, ev', _⟩
  · omega
  · have e1 := ev.symm.trans ev'
    injection e1 with e1 e2 e3
    rw [ea] at e1
    injection e1 with e1
    injection e1 with e1 e4
    subst e1 e4 e2 e3
    refine ⟨g, c, by rw [ev, ea], hg, fun w' hb j u hj => ?_⟩
    rw [List.getElem?_map] at hj
    obtain ⟨x, hx, rfl⟩ := Option.map_eq_some_iff.1 hj
    rw [addr_at, hb.cell hg]
    have := hcells j x hx
    rw [Nat.zero_add] at this
    exact this
/-- What tidy leaves where one node goes and its kid comes in its place. -/
structure Tj (w w' : World) (tb m r : Nat) (nf nn : Int) (T : List Fn) (e d k : Fn) : Prop where
  ex : ∃ lv, PM w' tb m r nf (nn - 1) ((remF e.s.A T).map (upk k.s.A e.s.m lv)) d.s.A (T.map Fn.s)
  ch : Ch (fun j => j = tb ∨ j = k.s.p) w w'
theorem tj_of (h : TM w tb m r nf nn T) (he : e ∈ T) (hd : d ∈ T) (hkd : Kid d.s e.s) (hk : k ∈ T) (kk : Kid e.s k.s) (only : ∀ g ∈ T, Kid e.s g.s → g = k) {w4 w6 : World} {L0 L1 : List ByteArray} (hL0 : L0 = e.s.edge) (hL1 : L1 = k.s.edge) (c4 : Ch (fun j => j = tb) w w4) (tr4 : w4.heap[tb]? = some (.cells #[ptr r, ptr m, .int .i64 nf, .int .i64 (nn - 1)] 56 (0, 0))) (b6 : Below w4.heap.size w4 w6) {g6 c6 : Nat} (o6 : w6.ownsRow w4.heap.size 9 1 (.slice (some ⟨g6, 0, none⟩) (L0.length + L1.length) c6) (L0.length + L1.length) ((L0 ++ L1).map Value.string)) : Tj w (w6.setCell ⟨k.s.p, 1, none⟩ (.slice (some ⟨g6, 0, none⟩) (L0.length + L1.length) c6)) tb m r nf nn T e d k := by
  have fk := h.nd k hk
  have kl : k.s.p < w.heap.size := fk.lt (.inl rfl)
  have ktb : k.s.p ≠ tb := fun c => h.tb_ne hk (.inl c.symm)
  have kl4 : k.s.p < w4.heap.size := Nat.lt_of_lt_of_le kl c4.size
  have at4 : w4.heap[k.s.p]? = some (.cells #[ptr m, k.lv, k.ev, k.kv] 71 (0, 0)) := (c4.block _ kl ktb).trans fk.at_
  have at6 : w6.heap[k.s.p]? = some (.cells #[ptr m, k.lv, k.ev, k.kv] 71 (0, 0)) := (b6.block _ kl4).trans at4
  have tl4 : tb < w4.heap.size := Nat.lt_of_lt_of_le (h.islt (.inl rfl)) c4.size
  have cc : Ch (fun j => j = tb ∨ j = k.s.p) w (w6.setCell ⟨k.s.p, 1, none⟩ (.slice (some ⟨g6, 0, none⟩) (L0.length + L1.length) c6)) := ((c4.mono (fun j _ q => .inl q)).trans (Below.ch (S := fun _ => False) b6) (fun j _ q => q.elim)).trans (ch_set k.s.p 1 _) (fun j _ q => .inr q)
  have le := edge_len e.s (h.inv.le e.s (List.mem_map_of_mem he)).1
  have lk := edge_len k.s (h.inv.le k.s (List.mem_map_of_mem hk)).1
  refine ⟨⟨.slice (some ⟨g6, 0, none⟩) (L0.length + L1.length) c6, h.unparted he hd hkd hk kk only cc ?_ ?_ ?_⟩, cc⟩
  · rw [heap_set_ne _ (Ne.symm ktb), b6.block _ tl4]
    exact tr4
  · exact heap_set at6 _
  · have := own_ch o6 (ch_set (w := w6) k.s.p 1 (.slice (some ⟨g6, 0, none⟩) (L0.length + L1.length) c6)) (fun j hj q => by
      obtain ⟨cur, e1⟩ := own_lt o6 hj
      rw [q, at6] at e1
      cases e1)
    have t2 := own0 this
    rw [hL0, hL1] at t2 ⊢
    rw [le, lk] at t2 ⊢
    rw [show k.s.m + e.s.m = e.s.m + k.s.m by omega]
    exact t2
set_option maxRecDepth 100000 in
set_option maxHeartbeats 8000000 in
/-- A node with one kid alone goes, and its kid comes in its place. -/
theorem tidy_one (h : TM w tb m r nf nn T) (he : e ∈ T) (hd : d ∈ T) (hkd : Kid d.s e.s) (hk : k ∈ T) (hat : AtK (T.map Fn.s) e.s y k.s) (oy : okT y) (hm : MG w e.kv 1 kd) (hK : Kds (T.map Fn.s) e.s kd) (h0 : e.ne = 0) (n1 : 1 ≤ nn) (n2 : nn < 1000000000) :
    Calls Tryz.prog 42 #[ptr tb, ptr e.s.p] w fun e' w' => e' = .returned (ptr k.s.p) ∧ Tj w w' tb m r nf nn T e d k := by
  have fe := h.nd e he
  have fk := h.nd k hk
  have kk := hat.2.1
  have em := (h.inv.le e.s (List.mem_map_of_mem he)).1
  have km := (h.inv.le k.s (List.mem_map_of_mem hk)).1
  have elen := edge_len e.s em
  have klen := edge_len k.s km
  obtain ⟨g0, lc, hlv, hg0, cl0⟩ := row_cells fe.lv hkd.1
  obtain ⟨g1, lc1, hlv1, hg1, cl1⟩ := row_cells fk.lv kk.1
  obtain ⟨mo, hmo⟩ := map_of fe.ev
  have hky : kd y = some (ptr k.s.p) := (hK y _ oy).2 ⟨_, hat, rfl⟩
  obtain ⟨mb, hko⟩ : ∃ mb, e.kv = .map (some mb) := by
    rcases hm.mk with q | q
    · rcases hm with ⟨_, z, _⟩ | ⟨mb, D, z, _⟩
      · cases z
      · rw [z] at q; cases q
    · exact q
  have only : ∀ g ∈ T, Kid e.s g.s → g = k := fun g hg c => by
    have gm := h.inv.le g.s (List.mem_map_of_mem hg)
    have tl := top_lt c.1 gm.1
    obtain ⟨z, hz⟩ : ∃ z, g.s.A[g.s.top]? = some z := ⟨_, List.getElem?_eq_getElem tl⟩
    have oz : okT z := by have := (h.ok g hg).1 z (List.mem_of_getElem? hz); unfold okT maxLen; omega
    have hkz := (hK z (ptr g.s.p) oz).2 ⟨_, ⟨List.mem_map_of_mem hg, c, hz⟩, rfl⟩
    obtain ⟨K, k1, k2, k3⟩ := hm.keys
    have m1 := (k3 y).2 ⟨oy, by rw [hky]; rfl⟩
    have m2 := (k3 z).2 ⟨oz, by rw [hkz]; rfl⟩
    have : z = y := by
      match K, k2, m1, m2 with
      | [a], _, m1, m2 =>
        rw [List.mem_singleton] at m1 m2
        rw [m1, m2]
    subst this
    have := h.inv.atk hat ⟨List.mem_map_of_mem hg, c, hz⟩
    exact (h.same hk hg (congrArg Nd.A this)).symm
  have c1 : w.cell? ⟨e.s.p, 1, none⟩ = some (.slice (some ⟨g0, 0, none⟩) e.s.m lc) := by rw [← hlv]; exact box_cells fe.at_ 1 _ rfl
  have c2 : w.cell? ⟨e.s.p, 2, none⟩ = some (.map mo) := by rw [← hmo]; exact box_cells fe.at_ 2 _ rfl
  have c3 : w.cell? ⟨e.s.p, 3, none⟩ = some (.map (some mb)) := by rw [← hko]; exact box_cells fe.at_ 3 _ rfl
  have le := fun ty => fe.ev.len (t := 61) Tryz.underlying61 ty
  have lk := fun ty => hm.len (t := 69) Tryz.underlying69 ty
  rw [hmo, h0] at le
  rw [hko] at lk
  have t3 : w.cell? ⟨tb, 3, none⟩ = some (.int .i64 nn) := box_cells h.tr 3 _ rfl
  have z3 : w.frozen? ⟨tb, 3, none⟩ = false := box_frozen h.tr 3
  have hw : IntKind.i64.wrap (nn - 1) = nn - 1 := by rw [IntKind.wrap_i64]; omega
  have q0 : ((e.s.m : Int) == 0) = false := by rw [beq_eq_false_iff_ne]; have := hkd.1; omega
  have petb : e.s.p ≠ tb := fun c => h.tb_ne he (.inl c.symm)
  have pktb : k.s.p ≠ tb := fun c => h.tb_ne hk (.inl c.symm)
  obtain ⟨w1, hw1⟩ : ∃ w1, w1 = w.setCell ⟨tb, 3, none⟩ (.int .i64 (nn - 1)) := ⟨_, rfl⟩
  have ch1 : Ch (fun j => j = tb) w w1 := by rw [hw1]; exact ch_less _
  have tr1 : w1.heap[tb]? = some (.cells #[ptr r, ptr m, .int .i64 nf, .int .i64 (nn - 1)] 56 (0, 0)) := by rw [hw1]; exact tr_less h _
  have hs1 : w1.heap.size = w.heap.size := by rw [hw1]; simp [World.setCell]
  have ate : w1.heap[e.s.p]? = some (.cells #[ptr m, e.lv, e.ev, e.kv] 71 (0, 0)) := by rw [hw1]; exact (heap_set_ne _ petb).trans fe.at_
  have atk : w1.heap[k.s.p]? = some (.cells #[ptr m, k.lv, k.ev, k.kv] 71 (0, 0)) := by rw [hw1]; exact (heap_set_ne _ pktb).trans fk.at_
  have l3 : w1.cell? ⟨e.s.p, 3, none⟩ = some (.map (some mb)) := by rw [← hko]; exact box_cells ate 3 _ rfl
  have hmk1 : MG w1 e.kv 1 kd := hm.keep (fun b q => by rw [hw1]; exact heap_set_ne _ (fun c => h.tb_ne he (c ▸ .inr (.inr q))))
  rw [hko] at hmk1
  rcases hmk1 with ⟨z, _⟩ | ⟨mb', D, z, hown, hsz, hD⟩
  · cases z
  cases z
  have ltE : e.s.p < w1.heap.size := (Array.getElem?_eq_some_iff.1 ate).1
  have ltK : k.s.p < w1.heap.size := (Array.getElem?_eq_some_iff.1 atk).1
  have CE := hidi (fun (w4 : World) (hb : Below w1.heap.size w1 w4) => (show w4.cell? ⟨e.s.p, 1, none⟩ = some (.slice (some ⟨g0, 0, none⟩) e.s.m lc) ∧ w4.cell? ⟨k.s.p, 1, none⟩ = some (.slice (some ⟨g1, 0, none⟩) k.s.m lc1) ∧ w4.frozen? ⟨k.s.p, 1, none⟩ = false from ⟨by rw [← hlv]; exact box_cells ((hb.block _ ltE).trans ate) 1 _ rfl, by rw [← hlv1]; exact box_cells ((hb.block _ ltK).trans atk) 1 _ rfl, box_frozen ((hb.block _ ltK).trans atk) 1⟩))
  have OW := hidi (fun (w3 : World) (hb : Below w1.heap.size w1 w3) => own_any (rt := ptr r) (nf := nf) (nn := nn - 1) (m := m) ((hb.block _ (by rw [hs1]; exact h.islt (.inl rfl))).trans tr1) ((hb.block _ ltK).trans atk))
  have CO := hidi (fun (w5 : World) (lb : Nat) (hlb : lb < w5.heap.size) (hb : Below w1.heap.size w1 w5) (d0 : w5.cell? ⟨lb, 0, none⟩ = some (.slice (some ⟨g0, 0, none⟩) e.s.m lc)) (d1 : w5.cell? ⟨lb, 1, none⟩ = some (.slice (some ⟨g1, 0, none⟩) k.s.m lc1)) => (show Calls Tryz.prog 61 #[.slice (some ⟨lb, 0, none⟩) 2 2] w5 fun e' w6 => ∃ g6 n6 p6 : Nat, e' = .returned (.slice (some ⟨g6, 0, none⟩) n6 p6) ∧ Tj w (w6.setCell ⟨k.s.p, 1, none⟩ (.slice (some ⟨g6, 0, none⟩) n6 p6)) tb m r nf nn T e d k ∧ w6.frozen? ⟨k.s.p, 1, none⟩ = false ∧ w6.cell? ⟨k.s.p, 1, none⟩ = some (.slice (some ⟨g1, 0, none⟩) k.s.m lc1) from by
    have lw : Ch (fun j => j = tb) w w5 := ch1.then (Below.ch hb)
    have cellsOf : ∀ (g : Nat) (L : List ByteArray), g < w.heap.size → g ≠ tb → (∀ w', Below w.heap.size w w' → ∀ j u, (L.map Value.string)[j]? = some u → w'.cell? ((⟨g, 0, none⟩ : Addr).add j) = some u) → ∀ w', Below w5.heap.size w5 w' → ∀ j u, (L.map Value.string)[j]? = some u → w'.cell? ((⟨g, 0, none⟩ : Addr).add j) = some u := fun g L hg hne hc w' hb' j u hj => by
      have h1 := hc w (Below.refl _ _) j u hj
      rw [addr_at] at h1 ⊢
      have h2 : w'.heap[g]? = w.heap[g]? := (hb'.block g (Nat.lt_of_lt_of_le hg lw.size)).trans (lw.block g hg hne)
      unfold World.cell? at h1 ⊢
      simp only [h2]
      exact h1
    have ne0 : g0 ≠ tb := fun q => by
      obtain ⟨cur, q2⟩ := own_lt fe.lv (g := g0) (by rw [hlv]; rfl)
      rw [q, h.tr] at q2
      cases q2
    have ne1 : g1 ≠ tb := fun q => by
      obtain ⟨cur, q2⟩ := own_lt fk.lv (g := g1) (by rw [hlv1]; rfl)
      rw [q, h.tr] at q2
      cases q2
    have := concat_any lb ⟨g0, 0, none⟩ ⟨g1, 0, none⟩ lc lc1 e.s.edge k.s.edge w5 (by rw [elen]; exact d0) (by rw [klen]; exact d1) hlb (cellsOf g0 _ hg0 ne0 cl0) (cellsOf g1 _ hg1 ne1 cl1) (by have := hkd.1; omega) (by have := (h.ok e he).2; omega) (by have := (h.ok k hk).2; omega)
    refine this.mono ?_
    rintro e' w6 ⟨g6, c6, rfl, o6, b6⟩
    have at6 : w6.heap[k.s.p]? = some (.cells #[ptr m, k.lv, k.ev, k.kv] 71 (0, 0)) := (b6.block _ (Nat.lt_of_lt_of_le ltK hb.size)).trans ((hb.block _ ltK).trans atk)
    exact ⟨_, _, _, rfl, tj_of h he hd hkd hk kk only rfl rfl lw ((hb.block _ (by rw [hs1]; exact h.islt (.inl rfl))).trans tr1) b6 o6, box_frozen at6 1, by rw [← hlv1]; exact box_cells at6 1 _ rfl⟩))
  have HW := hidi hw1
  have HS := hidi hsz
  have HD := hidi (fun x (ox : okT x) => (show Maps.has D (kt x) = (kd x).isSome ∧ ∀ v, kd x = some v → ∀ z, D.atKey (kt x) z = .held v from hD x ox))
  have HU := hidi (fun x v (ox : okT x) (hx : kd x = some v) => (show v = ptr k.s.p from by
    obtain ⟨q, q1, q2⟩ := (hK x v ox).1 hx
    obtain ⟨g, hg, rfl⟩ := List.mem_map.1 q1.1
    rw [q2, only g hg q1.2.1]))
  unfold ptr at *
  clear h he hd hkd hk hat hm hK h0 n1 n2 fe fk hlv hlv1 hmo petb pktb only hko hD hsz ate atk tr1 ch1 hw1 cl0 cl1 hg0 hg1 kk em km elen klen hky oy ltE ltK hs1
  go_enter Tryz.func42, Tryz.ntmps42
  go_upto_region 4 with fail
  rw [← HW.out]
  go_wp2_with (at_range; refine wpList_range_own _ rfl _ 69 rfl 9 52 law9 Tryz.underlying69 hv mb 1 D rfl hown ?_; intro w2 hrg0 hg0 hs0)
  have B2 := hidi (show Below w1.heap.size w1 w2 from ⟨hg0.os, hg0.tape, hg0.output, hg0.size, fun j hj => hg0.block j hj (by simp)⟩)
  have HR := hidi hrg0
  clear hg0 hs0 hown hrg0 l3
  refine wp_loop_rounds 1 ?_
  rw [rounds_succ]
  go_wp2_with (at_next; refine wpList_next_ranges _ rfl _ rfl 9 law9 hv Value.string (fun v : Value => v) (fun key kl hk => by obtain ⟨x, hx, _⟩ := Go.WideMaps.string_of_keyOf Tryz.underlying9 hk; exact ⟨x, hx⟩) (fun v y _ => ⟨v, rfl⟩) mb _ 1 D _ _ rfl HR.out ?_ ?_)
  · intro hc0 hl0
    have := HS.out
    omega
  · intro xk cv kl yd yp w3 cnt2 hkey hlk hvv hat hrg2 hlt2 hg2 hs2 hen
    obtain ⟨x', ex, rfl, hwx⟩ := Go.WideMaps.string_of_keyOf Tryz.underlying9 hkey
    cases ex
    have hyd : yd = .held cv := by simp [hv] at hvv; exact hvv.1.symm
    subst hyd
    have hhas : Maps.has D (kt xk) = true := Go.Maps.has_true_of_atKey hat
    obtain ⟨q, hq⟩ : ∃ q, kd xk = some q := by
      have := (HD.out xk hwx).1
      rw [hhas] at this
      exact Option.isSome_iff_exists.1 this.symm
    have hcv : cv = q := by
      have h1 := hat (.held cv)
      have h2 := (HD.out xk hwx).2 q hq (.held cv)
      rw [show D.atKey (kt xk) (.held cv) = _ from h1] at h2
      injection h2
    have hcp := HU.out xk q hwx hq
    rw [hcp] at hcv
    subst hcv
    have B3 := hidi (show Below w1.heap.size w1 w3 from B2.out.trans ⟨hg2.os, hg2.tape, hg2.output, hg2.size, fun j hj => hg2.block j (Nat.lt_of_lt_of_le hj B2.out.size) (by have := HR.out.lt; simp; omega)⟩)
    clear hkey hlk hvv hat hg2 hs2 hwx hrg2 hhas hq hlt2 HR HD HU HS B2 hcp
    go_upto_region 8 with (go_at_call 20; refine (OW.out w3 B3.out).mono ?_; rintro e' w4 ⟨rfl, hb⟩; have B4 := hidi (B3.out.trans (hb.mono B3.out.size)); obtain ⟨l1, l2, l3⟩ := CE.out w4 B4.out; clear hb OW hen)
    have b5 : Below w4.heap.size w4 (w4.drew.alloc (.cells #[.slice (some ⟨g0, 0, none⟩) e.s.m lc, .slice (some ⟨g1, 0, none⟩) k.s.m lc1] 46)) := ((Below.refl _ _).drew).alloc (Nat.le_refl _) _
    have n5 := heap_alloc_new w4.drew (.cells #[.slice (some ⟨g0, 0, none⟩) e.s.m lc, .slice (some ⟨g1, 0, none⟩) k.s.m lc1] 46)
    have CC := hidi (CO.out _ w4.drew.heap.size (by simp) (B4.out.trans (b5.mono B4.out.size)) (box_cells n5 0 _ rfl) (box_cells n5 1 _ rfl))
    clear b5 n5 CO CE B3 B4
    go_region_with (go_at_call 61; refine CC.out.mono ?_; rintro e' w6 ⟨g6, n6, p6, rfl, tj, f6, c6⟩; have TJ := hidi tj; clear tj CC l1 l2 l3)
    all_goals go_wp2_with fail
    all_goals go_ret
    all_goals exact ⟨rfl, TJ.out⟩
end Go.Proofs.YtepjcfhbbcaldaaGreat.Li
