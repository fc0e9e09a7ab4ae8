import Derived.Test.YtphofgnehdlafaaGreatDoorRfb
import Derived.Deep.Onto
import Derived.OneCell
import Derived.Deep.RegionLaw
import Derived.BigQuiet
import Derived.Deep.Cut
namespace Go.Proofs.YtphofgnehdlafaaGreatDoor.Bk
open Go Go.RowKit
set_option linter.unusedSimpArgs false
set_option linter.unusedVariables false
structure Ch (S : Nat → Prop) (w w' : World) : Prop where
 os : w'.os = w.os
 tape : w'.tape = w.tape
 output : w'.output = w.output
 size : w.heap.size ≤ w'.heap.size
 block : ∀ k, k < w.heap.size → ¬ S k → w'.heap[k]? = w.heap[k]?
theorem Ch.refl (S : Nat → Prop) (w : World) : Ch S w w := ⟨rfl, rfl, rfl, Nat.le_refl _, fun _ _ _ => rfl⟩
theorem Ch.trans {S S' : Nat → Prop} {a b c : World} (h : Ch S a b) (k : Ch S' b c) (hs : ∀ j, j < a.heap.size → S' j → S j) : Ch S a c :=
 ⟨k.os.trans h.os, k.tape.trans h.tape, k.output.trans h.output, Nat.le_trans h.size k.size, fun j hj hn => (k.block j (by have := h.size; omega) (fun q => hn (hs j hj q))).trans (h.block j hj hn)⟩
theorem Ch.mono {S S' : Nat → Prop} {a b : World} (h : Ch S a b) (hs : ∀ j, j < a.heap.size → S j → S' j) : Ch S' a b := (Ch.refl S' a).trans h hs
theorem Below.ch {S : Nat → Prop} {a b : World} (h : Below a.heap.size a b) : Ch S a b := ⟨h.os, h.tape, h.output, h.size, fun k hk _ => h.block k hk⟩
theorem ch_set {w : World} (hb i : Nat) (v : Value) : Ch (fun k => k = hb) w (w.setCell ⟨hb, i, none⟩ v) := ⟨rfl, rfl, rfl, by simp [World.setCell], fun k hk hn => Below.heap_setCell _ _ _ _ hn⟩
theorem ch_grown {w w' : World} {r : Option Nat} (h : w.grownBy w' r) : Ch (fun k => r = some k) w w' := ⟨h.os, h.tape, h.output, h.size, fun k hk hn => h.block k hk (fun e => hn e.symm)⟩
theorem blk_ne {w : World} {g g' : Nat} {c c' : Array Value} {t t' : TypeId} {f f' : Nat × Nat} (h : w.heap[g]? = some (.cells c t f)) (h' : w.heap[g']? = some (.cells c' t' f')) (ht : t ≠ t') : g ≠ g' := by
 intro e
 subst e
 rw [h] at h'
 simp at h'
 exact ht h'.2.1
theorem own_blk {w : World} {B e s n : Nat} {v : Value} {xs : List Value} (h : w.ownsRow B e s v n xs) {k : Nat} (hk : v.ownBlock = some k) : ∃ c, w.heap[k]? = some (.cells c e (0, 0)) := by
 rcases h.2 with ⟨r, _⟩ | ⟨g, cap, cur, r, _, hg, _⟩
 ·
  rw [r] at hk; cases hk
 ·
  rw [r] at hk
  have e' : g = k := by simpa [Value.ownBlock] using hk
  subst e'
  exact ⟨_, hg⟩
theorem own_keep {w w' : World} {B e s n : Nat} {v : Value} {xs : List Value} (h : w.ownsRow B e s v n xs) (hk : ∀ k, v.ownBlock = some k → w'.heap[k]? = w.heap[k]?) : w'.ownsRow B e s v n xs := by
 refine ⟨h.1, ?_⟩
 rcases h.2 with h0 | ⟨g, cap, cur, rfl, h1, hg, h2⟩
 ·
  exact .inl h0
 ·
  exact .inr ⟨g, cap, cur, rfl, h1, (hk g rfl).trans hg, h2⟩
def et (i : Nat) : Nat := if i < 5 then 22 else 3
def upd {α : Type} (f : Nat → α) (i : Nat) (x : α) : Nat → α := fun j => if j = i then x else f j
theorem upd_same {α : Type} (f : Nat → α) (i : Nat) (x : α) : upd f i x i = x := by simp [upd]
theorem upd_ne {α : Type} (f : Nat → α) {i j : Nat} (x : α) (h : j ≠ i) : upd f i x j = f j := by simp [upd, h]
structure BR (w : World) (bb B : Nat) (cs : Array Value) (rv : Nat → Value) (xs : Nat → List Value) : Prop where
 at_ : BkAt w bb cs
 fld : ∀ i, i < 8 → cs[4 + i]? = some (rv i)
 own : ∀ i, i < 8 → w.ownsRow B (et i) 1 (rv i) (xs i).length (xs i)
 sep : ∀ i j, i < 8 → j < 8 → i ≠ j → ∀ k, (rv i).ownBlock = some k → (rv j).ownBlock ≠ some k
theorem et_ne (i : Nat) : et i ≠ 55 ∧ et i ≠ 5 := by unfold et; split <;> exact ⟨by decide, by decide⟩
theorem BR.ne {w : World} {bb B : Nat} {cs : Array Value} {rv : Nat → Value} {xs : Nat → List Value} (h : BR w bb B cs rv xs) (i : Nat) (hi : i < 8) : (rv i).ownBlock ≠ some bb := by
 intro e
 obtain ⟨c, hc⟩ := own_blk (h.own i hi) e
 exact blk_ne hc h.at_ (et_ne i).1 rfl
theorem BR.keep {w w' : World} {bb B : Nat} {cs : Array Value} {rv : Nat → Value} {xs : Nat → List Value} (h : BR w bb B cs rv xs) (h1 : w'.heap[bb]? = w.heap[bb]?) (h2 : ∀ i, i < 8 → ∀ k, (rv i).ownBlock = some k → w'.heap[k]? = w.heap[k]?) : BR w' bb B cs rv xs :=
 ⟨h1.trans h.at_, h.fld, fun i hi => own_keep (h.own i hi) (h2 i hi), h.sep⟩
theorem BR.below {w w' : World} {bb B : Nat} {cs : Array Value} {rv : Nat → Value} {xs : Nat → List Value} (h : BR w bb B cs rv xs) (hb : Below w.heap.size w w') : BR w' bb B cs rv xs :=
 h.keep (hb.block _ (lt_of_block h.at_)) (fun i hi k e => hb.block _ ((h.own i hi).lt k e).2)
theorem BR.push {w w' : World} {bb B : Nat} {cs : Array Value} {rv : Nat → Value} {xs : Nat → List Value} (h : BR w bb B cs rv xs) (i : Nat) (hi : i < 8) (x v' : Value) (ho : w'.ownsRow B (et i) 1 v' ((xs i).length + 1) (xs i ++ [x])) (hg : w.grownBy w' (rv i).ownBlock) (hv : v'.ownBlock = (rv i).ownBlock ∨ v'.ownBlock = some w.heap.size) :
    BR (w'.setCell ⟨bb, 4 + i, none⟩ v') bb B (cs.setIfInBounds (4 + i) v') (upd rv i v') (upd xs i (xs i ++ [x])) := by
  have hbb : w'.heap[bb]? = some (.cells cs 55 (0, 0)) := (hg.block bb (lt_of_block h.at_) (fun e => h.ne i hi e.symm)).trans h.at_
  have hne' : v'.ownBlock ≠ some bb := by
    intro e
    obtain ⟨c, hc⟩ := own_blk ho e
    exact blk_ne hc hbb (et_ne i).1 rfl
  have hcs : 4 + i < cs.size := (Array.getElem?_eq_some_iff.1 (h.fld i hi)).1
  have others : ∀ j, j < 8 → j ≠ i → w'.ownsRow B (et j) 1 (rv j) (xs j).length (xs j) := fun j hj hji => own_keep (h.own j hj) (fun k e => hg.block k ((h.own j hj).lt k e).2 (fun q => h.sep j i hj hi hji k e q.symm))
  refine ⟨heap_set (i := 4 + i) hbb v', fun j hj => ?_, fun j hj => ?_, fun a b ha hb hab k ea eb => ?_⟩
  · by_cases e : j = i
    · subst e; rw [upd_same]; simp [hcs]
    · rw [upd_ne _ _ e, Array.getElem?_setIfInBounds_ne (by omega)]; exact h.fld j hj
  · by_cases e : j = i
    · subst e
      rw [upd_same, upd_same, List.length_append, List.length_singleton]
      exact ownsRow_setCell_other ho hne' _
    · rw [upd_ne _ _ e, upd_ne _ _ e]
      refine ownsRow_setCell_other (others j hj e) ?_ _
      exact h.ne j hj
  · by_cases e1 : a = i
    · subst e1
      rw [upd_same] at ea
      rw [upd_ne _ _ (Ne.symm hab)] at eb
      rcases hv with q | q
      · exact h.sep a b ha hb hab k (q ▸ ea) eb
      · rw [q] at ea; cases ea
        have := ((h.own b hb).lt _ eb).2
        omega
    · rw [upd_ne _ _ e1] at ea
      by_cases e2 : b = i
      · subst e2
        rw [upd_same] at eb
        rcases hv with q | q
        · exact h.sep a b ha hb hab k ea (q ▸ eb)
        · rw [q] at eb; cases eb
          have := ((h.own a ha).lt _ ea).2
          omega
      · rw [upd_ne _ _ e2] at eb
        exact h.sep a b ha hb hab k ea eb
def CL (w : World) (a : Option Addr) (l c : Nat) (L : List Value) : Prop :=
 l ≤ c ∧ L.length = l ∧ (l = 0 ∨ ∃ g off, a = some ⟨g, off, none⟩ ∧ ∀ j, j < l → w.cell? ⟨g, off + j, none⟩ = L[j]?)
def InD (D : Nat → Nat → Prop) (a : Option Addr) (l : Nat) : Prop := ∀ g off, a = some ⟨g, off, none⟩ → ∀ j, j < l → D g (off + j)
structure Dk (w : World) (D : Nat → Nat → Prop) : Prop where
 typ : ∀ g j, D g j → ∃ c, w.heap[g]? = some (.cells c 5 (0, 0))
def Keeps (D : Nat → Nat → Prop) (w w' : World) : Prop := ∀ g j, D g j → w'.cell? ⟨g, j, none⟩ = w.cell? ⟨g, j, none⟩
theorem CL.keep {w w' : World} {D : Nat → Nat → Prop} {a : Option Addr} {l c : Nat} {L : List Value} (h : CL w a l c L) (hd : InD D a l) (hk : Keeps D w w') : CL w' a l c L := by
 refine ⟨h.1, h.2.1, ?_⟩
 rcases h.2.2 with h0 | ⟨g, off, e, hc⟩
 ·
  exact .inl h0
 ·
  exact .inr ⟨g, off, e, fun j hj => (hk g (off + j) (hd g off e j hj)).trans (hc j hj)⟩
theorem InD.mono {D D' : Nat → Nat → Prop} {a : Option Addr} {l : Nat} (h : InD D a l) (hd : ∀ g j, D g j → D' g j) : InD D' a l := fun g off e j hj => hd _ _ (h g off e j hj)
def Bv (u : Value) : Prop := ∃ x : Int, u = .int .u8 x ∧ 0 ≤ x ∧ x ≤ 255
theorem Bv.one {u : Value} (h : Bv u) : u.oneCell' = true := by obtain ⟨x, rfl, _⟩ := h; rfl
def PD (w : World) (D : Nat → Nat → Prop) (xo xt : List Value) : Prop :=
 xo.length = xt.length ∧ ∀ i, i < xo.length → ∃ a b l c c' L, xo[i]? = some (.slice a l c) ∧ xt[i]? = some (.slice b l c') ∧ l ≤ 2000000 ∧ CL w a l c L ∧ CL w b l c' L ∧ InD D a l ∧ InD D b l ∧ ∀ u ∈ L, Bv u
theorem PD.keep {w w' : World} {D D' : Nat → Nat → Prop} {xo xt : List Value} (h : PD w D xo xt) (hk : Keeps D w w') (hd : ∀ g j, D g j → D' g j) : PD w' D' xo xt := by
 refine ⟨h.1, fun i hi => ?_⟩
 obtain ⟨a, b, l, c, c', L, h1, h2, h3, h4, h5, h6, h7, h8⟩ := h.2 i hi
 exact ⟨a, b, l, c, c', L, h1, h2, h3, h4.keep h6 hk, h5.keep h7 hk, h6.mono hd, h7.mono hd, h8⟩
theorem PD.snoc {w : World} {D : Nat → Nat → Prop} {xo xt : List Value} (h : PD w D xo xt) {a b : Option Addr} {l c c' : Nat} {L : List Value} (hl : l ≤ 2000000) (h1 : CL w a l c L) (h2 : CL w b l c' L) (d1 : InD D a l) (d2 : InD D b l) (hb : ∀ u ∈ L, Bv u) : PD w D (xo ++ [.slice a l c]) (xt ++ [.slice b l c']) := by
 refine ⟨by simp [h.1], fun i hi => ?_⟩
 by_cases q : i < xo.length
 ·
  obtain ⟨a', b', l', k, k', L', e1, e2, rest⟩ := h.2 i q
  exact ⟨a', b', l', k, k', L', by rw [List.getElem?_append_left q]; exact e1, by rw [List.getElem?_append_left (by rw [← h.1]; exact q)]; exact e2, rest⟩
 ·
  have hi' : i = xo.length := by simp at hi; omega
  subst hi'
  exact ⟨a, b, l, c, c', L, by simp, by rw [h.1]; simp, hl, h1, h2, d1, d2, hb⟩
theorem PD.nil (w : World) (D : Nat → Nat → Prop) : PD w D [] [] := ⟨rfl, fun i hi => by simp at hi⟩
structure Wt (w : World) (B : Nat) (D : Nat → Nat → Prop) (v vn : Value) : Prop where
 ex : ∃ n L b c', n ≤ 1900000 ∧ w.ownsRow B 5 1 v n L ∧ vn = .slice b n c' ∧ CL w b n c' L ∧ InD D b n ∧ ∀ u ∈ L, Bv u
 off : ∀ g, v.ownBlock = some g → ∀ j, ¬ D g j
theorem Wt.keep {w w' : World} {B : Nat} {D : Nat → Nat → Prop} {v vn : Value} (h : Wt w B D v vn) (h1 : ∀ k, v.ownBlock = some k → w'.heap[k]? = w.heap[k]?) (hk : Keeps D w w') {D' : Nat → Nat → Prop} (hd : ∀ g j, D g j → D' g j) (hn : ∀ g, v.ownBlock = some g → ∀ j, D' g j → D g j) : Wt w' B D' v vn := by
 obtain ⟨n, L, b, c', hn', ho, e, hc, hi, hb⟩ := h.ex
 exact ⟨⟨n, L, b, c', hn', own_keep ho h1, e, hc.keep hi hk, hi.mono hd, hb⟩, fun g e j q => h.off g e j (hn g e j q)⟩
theorem push_run {P : Program} (w : World) (base : Nat) (t ty e : TypeId) (i : TypeInfo) (z : Value) (size bytes : Nat) (ht : P.underlying t = some (.slice e)) (hi : P.info? e = some i) (hz : i.zero = some z)
    (hsize : i.size = size) (hby : i.bytes = bytes) (hzs : z.cells.size = size) (hsz : 0 < size) (v : Value) (n : Nat) (xs : List Value) (hown : w.ownsRow base e size v n xs)
    (a : Addr) (m c : Nat) (news : List Value) (hm : 0 < m) (hl : news.length = m * size) (hnews : ∀ j u, news[j]? = some u → w.cell? (a.add j) = some u) (h1 : ∀ u ∈ news, u.oneCell' = true)
    (h63 : n + m ≤ maxLen) (hbytes : (n + m) * bytes ≤ 140737488355328) (hbase : base ≤ w.heap.size) :
    ∃ v' w', (Builtin.append_ #[t, t] ty #[v, .slice (some a) m c]).run P w = .ok v' w' ∧ w'.ownsRow base e size v' (n + m) (xs ++ news) ∧ w.grownBy w' v.ownBlock ∧ v' ≠ .slice none 0 0 ∧ (v'.ownBlock = v.ownBlock ∨ v'.ownBlock = some w.heap.size) := by
  obtain ⟨v', w', hr, h2, h3, h4⟩ := run_append_own (P := P) w base t ty e i z size bytes ht hi hz hsize hby hzs hsz v n xs hown a m c news hl hnews h1 h63 hbytes hbase
  refine ⟨v', w', hr, h2, h3, fun q => by have := (h4.1 q).2; omega, ?_⟩
  subst hsize hby
  have hsm : n + m ≤ 9223372036854775807 := by simp only [maxLen] at h63; omega
  rcases hown.2 with ⟨rfl, rfl⟩ | ⟨g, cap, cur, rfl, _, hg, hnc, _, hcs, _⟩
  · have q := run_append_nil (P := P) w t ty e i z ht hi hz a m c news hl hnews hm (by omega) (by have hb := hbytes; simp only [Nat.zero_add] at hb; omega)
    rw [q] at hr
    cases hr
    exact .inr rfl
  · by_cases hroom : n + m ≤ cap
    · have q := run_append_room (P := P) w t ty e i ht hi g n cap cur hg a m c news hl hnews h1 hroom (by rw [hl, hcs, ← Nat.add_mul]; exact Nat.mul_le_mul_right _ hroom)
      rw [q] at hr
      cases hr
      exact .inl rfl
    · have q := run_append_grow (P := P) w t ty e i z ht hi hz ⟨g, 0, none⟩ n cap xs hown.1 (hown.cells (g := g) rfl) a m c news hl hnews (by omega) (by omega) (growslice_fits (by omega) hbytes)
      rw [q] at hr
      cases hr
      exact .inr rfl
theorem wpList_push {P : Program} {w : World} {ops : Array Oper} {rest : List Oper} {o : Oper} {a : Act} {Q : Exit → Act → World → Prop} (hgd : o.guard = none) (s x : Operand) (t : TypeId)
    (ho : o.op = .call { callee := .builtin .append, args := #[s, x], argTypes := #[t, t] })
    (base : Nat) (e : TypeId) (i : TypeInfo) (z : Value) (size bytes : Nat) (ht : P.underlying t = some (.slice e)) (hi : P.info? e = some i) (hz : i.zero = some z)
    (hsize : i.size = size) (hby : i.bytes = bytes) (hzs : z.cells.size = size) (hsz : 0 < size) (v : Value) (n : Nat) (xs : List Value) (hs : a.eval s = v) (hown : w.ownsRow base e size v n xs)
    (ad : Addr) (m c : Nat) (news : List Value) (hx : a.eval x = .slice (some ad) m c) (hm : 0 < m) (hl : news.length = m * size) (hnews : ∀ j u, news[j]? = some u → w.cell? (ad.add j) = some u) (h1 : ∀ u ∈ news, u.oneCell' = true)
    (h63 : n + m ≤ maxLen) (hbytes : (n + m) * bytes ≤ 140737488355328) (hbase : base ≤ w.heap.size)
    (h : ∀ v' w', w'.ownsRow base e size v' (n + m) (xs ++ news) → w.grownBy w' v.ownBlock → v' ≠ .slice none 0 0 → (v'.ownBlock = v.ownBlock ∨ v'.ownBlock = some w.heap.size) → wpList P ops Q rest (a.put o.dst v') w') : wpList P ops Q (o :: rest) a w := by
  refine wpList_plain hgd fun K hK => ?_
  obtain ⟨v', w', hr, h2, h3, h4, h5⟩ := push_run (P := P) w base t o.type e i z size bytes ht hi hz hsize hby hzs hsz v n xs hown ad m c news hm hl hnews h1 h63 hbytes hbase
  unfold Oper.wp
  simp [execOp, ho, resolve, invoke, builtin, hs, hx, hr, Result.andThen]
  exact hK _ _ (h v' w' h2 h3 h4 h5)
theorem step_push {P : Program} {w : World} {ops : Array Oper} {o : Oper} {a : Act} {K : Act → World → Prop} {Q : Exit → Act → World → Prop} {E : Prop} (hgd : o.guard = none) (s x : Operand) (t : TypeId)
    (ho : o.op = .call { callee := .builtin .append, args := #[s, x], argTypes := #[t, t] })
    (base : Nat) (e : TypeId) (i : TypeInfo) (z : Value) (size bytes : Nat) (ht : P.underlying t = some (.slice e)) (hi : P.info? e = some i) (hz : i.zero = some z)
    (hsize : i.size = size) (hby : i.bytes = bytes) (hzs : z.cells.size = size) (hsz : 0 < size) (v : Value) (n : Nat) (xs : List Value) (hs : a.eval s = v) (hown : w.ownsRow base e size v n xs)
    (ad : Addr) (m c : Nat) (news : List Value) (hx : a.eval x = .slice (some ad) m c) (hm : 0 < m) (hl : news.length = m * size) (hnews : ∀ j u, news[j]? = some u → w.cell? (ad.add j) = some u) (h1 : ∀ u ∈ news, u.oneCell' = true)
    (h63 : n + m ≤ maxLen) (hbytes : (n + m) * bytes ≤ 140737488355328) (hbase : base ≤ w.heap.size)
    (h : ∀ v' w', w'.ownsRow base e size v' (n + m) (xs ++ news) → w.grownBy w' v.ownBlock → v' ≠ .slice none 0 0 → (v'.ownBlock = v.ownBlock ∨ v'.ownBlock = some w.heap.size) → K (a.put o.dst v') w') :
    if Region.wanted o (yielded ops a.tmps) = true then Oper.wp P o a w K Q else E := by
  have hw : Region.wanted o (yielded ops a.tmps) = true := by simp [Region.wanted, hgd]
  rw [if_pos hw]
  obtain ⟨v', w', hr, h2, h3, h4, h5⟩ := push_run (P := P) w base t o.type e i z size bytes ht hi hz hsize hby hzs hsz v n xs hown ad m c news hm hl hnews h1 h63 hbytes hbase
  unfold Oper.wp
  simp [execOp, ho, resolve, invoke, builtin, hs, hx, hr, Result.andThen]
  exact h v' w' h2 h3 h4 h5
theorem binfo22 : (Tryz.prog.info? 22).map (fun i => (i.zero, i.size, i.bytes)) = some (some (.slice none 0 0), 1, 24) := by kernel_rfl
theorem binfo3 : (Tryz.prog.info? 3).map (fun i => (i.zero, i.size, i.bytes)) = some (some (.int .i64 0), 1, 8) := by kernel_rfl
theorem einfo (i : Nat) : ∃ inf z by', Tryz.prog.info? (et i) = some inf ∧ inf.zero = some z ∧ inf.size = 1 ∧ inf.bytes = by' ∧ by' ≤ 24 ∧ z.cells.size = 1 := by
 unfold et
 split
 ·
  obtain ⟨q, h1, h2, h3, h4⟩ := info_parts binfo22; exact ⟨q, _, _, h1, h2, h3, h4, by decide, rfl⟩
 ·
  obtain ⟨q, h1, h2, h3, h4⟩ := info_parts binfo3; exact ⟨q, _, _, h1, h2, h3, h4, by decide, rfl⟩
structure Pu (w w' : World) (bb B : Nat) (cs : Array Value) (rv : Nat → Value) (xs : Nat → List Value) (i : Nat) (x v' : Value) : Prop where
 br : BR (w'.setCell ⟨bb, 4 + i, none⟩ v') bb B (cs.setIfInBounds (4 + i) v') (upd rv i v') (upd xs i (xs i ++ [x]))
 gr : w.grownBy w' (rv i).ownBlock
 sl : ∃ a n c, v' = .slice a n c
 bk : BkAt w' bb cs
 wh : v'.ownBlock = (rv i).ownBlock ∨ v'.ownBlock = some w.heap.size
theorem pu_of {w w' : World} {bb B : Nat} {cs : Array Value} {rv : Nat → Value} {xs : Nat → List Value} (h : BR w bb B cs rv xs) (i : Nat) (hi : i < 8) (x v' : Value) (ho : w'.ownsRow B (et i) 1 v' ((xs i).length + 1) (xs i ++ [x])) (hg : w.grownBy w' (rv i).ownBlock) (hv : v'.ownBlock = (rv i).ownBlock ∨ v'.ownBlock = some w.heap.size) : Pu w w' bb B cs rv xs i x v' :=
 ⟨h.push i hi x v' ho hg hv, hg, by
  rcases ho.2 with ⟨h1, _⟩ | ⟨g, cp, _, h1, _⟩
  ·
   exact ⟨_, _, _, h1⟩
  ·
   exact ⟨_, _, _, h1⟩, (hg.block bb (lt_of_block h.at_) (fun e => h.ne i hi e.symm)).trans h.at_, hv⟩
theorem one_cells {w : World} {g0 t : Nat} {x : Value} (hg : w.heap[g0]? = some (.cells #[x] t (0, 0))) : ∀ (j : Nat) (u : Value), [x][j]? = some u → w.cell? ((⟨g0, 0, none⟩ : Addr).add j) = some u := by
 intro j u hu
 have hj : j = 0 := by
  have := (List.getElem?_eq_some_iff.1 hu).1
  simp at this; omega
 subst hj
 simp at hu
 subst hu
 simp [Addr.add, World.cell?, hg]
theorem wpList_bpush {w : World} {ops : Array Oper} {rest : List Oper} {o : Oper} {a : Act} {Q : Exit → Act → World → Prop} (hgd : o.guard = none) (s x : Operand) (t : TypeId) (ho : o.op = .call { callee := .builtin .append, args := #[s, x], argTypes := #[t, t] })
    {bb B : Nat} {cs : Array Value} {rv : Nat → Value} {xs : Nat → List Value} (h : BR w bb B cs rv xs) (i : Nat) (hi : i < 8) (ht : Tryz.prog.underlying t = some (.slice (et i))) (hs : a.eval s = rv i) (g0 : Nat) (xv : Value) (hx : a.eval x = .slice (some ⟨g0, 0, none⟩) 1 1) (hg0 : w.heap[g0]? = some (.cells #[xv] (et i) (0, 0))) (h1 : xv.oneCell' = true) (hlen : (xs i).length ≤ 1000000) (hB : B ≤ w.heap.size)
    (k : ∀ v' w', Pu w w' bb B cs rv xs i xv v' → wpList Tryz.prog ops Q rest (a.put o.dst v') w') : wpList Tryz.prog ops Q (o :: rest) a w := by
  obtain ⟨inf, z, by', hi1, hz, hsz, hby, hb24, hzs⟩ := einfo i
  refine wpList_push hgd s x t ho B (et i) inf z 1 by' ht hi1 hz hsz hby hzs (by decide) (rv i) (xs i).length (xs i) hs (h.own i hi) ⟨g0, 0, none⟩ 1 1 [xv] hx (by decide) rfl (one_cells hg0) (by intro u hu; simp at hu; subst hu; exact h1) (by unfold maxLen; omega) ?_ hB ?_
  · have : ((xs i).length + 1) * by' ≤ 1000001 * 24 := Nat.mul_le_mul (by omega) hb24
    omega
  · intro v' w' o1 g1 _ wh
    exact k v' w' (pu_of h i hi xv v' o1 g1 wh)
theorem step_bpush {w : World} {ops : Array Oper} {o : Oper} {a : Act} {K : Act → World → Prop} {Q : Exit → Act → World → Prop} {E : Prop} (hgd : o.guard = none) (s x : Operand) (t : TypeId) (ho : o.op = .call { callee := .builtin .append, args := #[s, x], argTypes := #[t, t] })
    {bb B : Nat} {cs : Array Value} {rv : Nat → Value} {xs : Nat → List Value} (h : BR w bb B cs rv xs) (i : Nat) (hi : i < 8) (ht : Tryz.prog.underlying t = some (.slice (et i))) (hs : a.eval s = rv i) (g0 : Nat) (xv : Value) (hx : a.eval x = .slice (some ⟨g0, 0, none⟩) 1 1) (hg0 : w.heap[g0]? = some (.cells #[xv] (et i) (0, 0))) (h1 : xv.oneCell' = true) (hlen : (xs i).length ≤ 1000000) (hB : B ≤ w.heap.size)
    (k : ∀ v' w', Pu w w' bb B cs rv xs i xv v' → K (a.put o.dst v') w') : if Region.wanted o (yielded ops a.tmps) = true then Oper.wp Tryz.prog o a w K Q else E := by
  obtain ⟨inf, z, by', hi1, hz, hsz, hby, hb24, hzs⟩ := einfo i
  refine step_push hgd s x t ho B (et i) inf z 1 by' ht hi1 hz hsz hby hzs (by decide) (rv i) (xs i).length (xs i) hs (h.own i hi) ⟨g0, 0, none⟩ 1 1 [xv] hx (by decide) rfl (one_cells hg0) (by intro u hu; simp at hu; subst hu; exact h1) (by unfold maxLen; omega) ?_ hB ?_
  · have : ((xs i).length + 1) * by' ≤ 1000001 * 24 := Nat.mul_le_mul (by omega) hb24
    omega
  · intro v' w' o1 g1 _ wh
    exact k v' w' (pu_of h i hi xv v' o1 g1 wh)
theorem BR.cell {w : World} {bb B : Nat} {cs : Array Value} {rv : Nat → Value} {xs : Nat → List Value} (h : BR w bb B cs rv xs) (i : Nat) (hi : i < 8) : w.cell? ⟨bb, 4 + i, none⟩ = some (rv i) ∧ w.frozen? ⟨bb, 4 + i, none⟩ = false := bk_cell h.at_ (h.fld i hi)
theorem BR.other {w : World} {bb B : Nat} {cs : Array Value} {rv : Nat → Value} {xs : Nat → List Value} (h : BR w bb B cs rv xs) (k : Nat) (hk : k < 4 ∨ 12 ≤ k) (v : Value) : BR (w.setCell ⟨bb, k, none⟩ v) bb B (cs.setIfInBounds k v) rv xs :=
 ⟨heap_set (i := k) h.at_ v, fun i hi => by rw [Array.getElem?_setIfInBounds_ne (by omega)]; exact h.fld i hi, fun i hi => ownsRow_setCell_other (h.own i hi) (h.ne i hi) _, h.sep⟩
theorem binfo5 : (Tryz.prog.info? 5).map (fun i => (i.zero, i.size, i.bytes)) = some (some (.int .u8 0), 1, 1) := by kernel_rfl
theorem own_empty {w : World} {b : Nat} (hb : w.heap[b]? = some (.cells #[] 5 (0, 0))) : w.ownsRow b 5 1 (.slice (some ⟨b, 0, none⟩) 0 0) 0 [] :=
 ⟨rfl, .inr ⟨b, 0, #[], rfl, Nat.le_refl _, hb, Nat.le_refl _, by unfold maxLen; omega, rfl, rfl⟩⟩
theorem run_append_none {P : Program} {w : World} (t ty e : TypeId) (i : TypeInfo) (ht : P.underlying t = some (.slice e)) (hi : P.info? e = some i) (b : Nat) (hb : w.heap[b]? = some (.cells #[] e (0, 0))) (a : Option Addr) (c : Nat) :
    (Builtin.append_ #[t, t] ty #[.slice (some ⟨b, 0, none⟩) 0 0, .slice a 0 c]).run P w = .ok (.slice (some ⟨b, 0, none⟩) 0 0) w := by
  cases a with
  | none => simp [Builtin.append_, run_underlying ht, sizeOf, typeInfo, hi, Builtin.lenOf, Builtin.firstCells, storeCells]
  | some a =>
    have hf := run_firstCells_some (P := P) w i.size 0 a 0 c [] (by simp) (by intro j v h; simp at h)
    simp [Builtin.append_, run_underlying ht, sizeOf, typeInfo, hi, Builtin.lenOf, hf, storeCells]
structure Cp (w w' : World) (b n : Nat) (L : List Value) (v' : Value) : Prop where
 own : w'.ownsRow b 5 1 v' n L
 gr : w.grownBy w' (some b)
 wh : v'.ownBlock = some b ∨ v'.ownBlock = some w.heap.size
theorem copy_run {w : World} (ty : TypeId) (b : Nat) (hb : w.heap[b]? = some (.cells #[] 5 (0, 0))) (sa : Option Addr) (n c : Nat) (L : List Value) (hc : CL w sa n c L) (h1 : ∀ u ∈ L, u.oneCell' = true) (hn : n ≤ 2000000) :
    ∃ v' w', (Builtin.append_ #[22, 22] ty #[.slice (some ⟨b, 0, none⟩) 0 0, .slice sa n c]).run Tryz.prog w = .ok v' w' ∧ Cp w w' b n L v' := by
  obtain ⟨i0, hi, hz0, hz1, hz2⟩ := info_parts binfo5
  by_cases h0 : n = 0
  · subst h0
    have hL : L = [] := List.eq_nil_of_length_eq_zero hc.2.1
    subst hL
    exact ⟨_, w, run_append_none 22 ty 5 i0 Tryz.underlying22 hi b hb sa c, own_empty hb, World.grownBy.refl _ _, .inl rfl⟩
  · obtain ⟨g, off, e, hcell⟩ := hc.2.2.resolve_left h0
    subst e
    obtain ⟨v', w', hr, ho, hg, hne, hw⟩ := push_run (P := Tryz.prog) w b 22 ty 5 i0 (.int .u8 0) 1 1 Tryz.underlying22 hi hz0 hz1 hz2 rfl (by decide) _ 0 [] (own_empty hb) ⟨g, off, none⟩ n c L (by omega) (by rw [hc.2.1, Nat.mul_one]) (fun j u hu => by
      have hj : j < n := by have := (List.getElem?_eq_some_iff.1 hu).1; rw [hc.2.1] at this; exact this
      rw [plain_add, hcell j hj, hu]) h1 (by unfold maxLen; omega) (by omega) (Nat.le_of_lt (lt_of_block hb))
    refine ⟨v', w', hr, ?_, hg, hw⟩
    rw [Nat.zero_add, List.nil_append] at ho
    exact ho
theorem step_copy {w : World} {ops : Array Oper} {o : Oper} {a : Act} {K : Act → World → Prop} {Q : Exit → Act → World → Prop} {E : Prop} (hgd : o.guard = none) (s x : Operand) (ho : o.op = .call { callee := .builtin .append, args := #[s, x], argTypes := #[22, 22] })
    (b : Nat) (hs : a.eval s = .slice (some ⟨b, 0, none⟩) 0 0) (hb : w.heap[b]? = some (.cells #[] 5 (0, 0))) (sa : Option Addr) (n c : Nat) (L : List Value) (hx : a.eval x = .slice sa n c) (hc : CL w sa n c L) (h1 : ∀ u ∈ L, u.oneCell' = true) (hn : n ≤ 2000000)
    (k : ∀ v' w', Cp w w' b n L v' → K (a.put o.dst v') w') : if Region.wanted o (yielded ops a.tmps) = true then Oper.wp Tryz.prog o a w K Q else E := by
  have hw : Region.wanted o (yielded ops a.tmps) = true := by simp [Region.wanted, hgd]
  rw [if_pos hw]
  obtain ⟨v', w', hr, hcp⟩ := copy_run (w := w) o.type b hb sa n c L hc h1 hn
  unfold Oper.wp
  simp [execOp, ho, resolve, invoke, builtin, hs, hx, hr, Result.andThen]
  exact k v' w' hcp
theorem CL.below {w w' : World} {a : Option Addr} {l c : Nat} {L : List Value} (h : CL w a l c L) (hb : Below w.heap.size w w') : CL w' a l c L := by
 refine ⟨h.1, h.2.1, ?_⟩
 rcases h.2.2 with h0 | ⟨g, off, e, hc⟩
 ·
  exact .inl h0
 ·
  refine .inr ⟨g, off, e, fun j hj => ?_⟩
  have h1 := hc j hj
  have hj' : j < L.length := by rw [h.2.1]; exact hj
  rw [List.getElem?_eq_getElem hj'] at h1 ⊢
  exact cell_later hb h1
structure Hd (cs : Array Value) (t deep seen : Int) : Prop where
 now : cs[0]? = some (.bool false)
 bad : cs[1]? = some (.bool false)
 turn : cs[2]? = some (.int .i64 t)
 dp : cs[3]? = some (.int .i64 deep)
 sn : cs[12]? = some (.int .i64 seen)
 rest : Rest cs
theorem Hd.row {cs : Array Value} {t deep seen : Int} (h : Hd cs t deep seen) (i : Nat) (hi : i < 8) (v : Value) : Hd (cs.setIfInBounds (4 + i) v) t deep seen := by
 refine ⟨?_, ?_, ?_, ?_, ?_, fun k hk hk' j hj => ?_⟩
 ·
  rw [Array.getElem?_setIfInBounds_ne (by omega)]; exact h.now
 ·
  rw [Array.getElem?_setIfInBounds_ne (by omega)]; exact h.bad
 ·
  rw [Array.getElem?_setIfInBounds_ne (by omega)]; exact h.turn
 ·
  rw [Array.getElem?_setIfInBounds_ne (by omega)]; exact h.dp
 ·
  rw [Array.getElem?_setIfInBounds_ne (by omega)]; exact h.sn
 ·
  rw [Array.getElem?_setIfInBounds_ne (by omega)]; exact h.rest k hk hk' j hj
theorem Hd.deep {cs : Array Value} {t deep seen : Int} (h : Hd cs t deep seen) (d : Int) : Hd (cs.setIfInBounds 3 (.int .i64 d)) t d seen := by
 have h3 : 3 < cs.size := (Array.getElem?_eq_some_iff.1 h.dp).1
 refine ⟨?_, ?_, ?_, by simp [h3], ?_, fun k hk hk' j hj => ?_⟩
 ·
  rw [Array.getElem?_setIfInBounds_ne (by omega)]; exact h.now
 ·
  rw [Array.getElem?_setIfInBounds_ne (by omega)]; exact h.bad
 ·
  rw [Array.getElem?_setIfInBounds_ne (by omega)]; exact h.turn
 ·
  rw [Array.getElem?_setIfInBounds_ne (by omega)]; exact h.sn
 ·
  rw [Array.getElem?_setIfInBounds_ne (by omega)]; exact h.rest k hk hk' j hj
theorem Hd.turned {cs : Array Value} {t deep seen : Int} (h : Hd cs t deep seen) (d : Int) : Hd (cs.setIfInBounds 2 (.int .i64 d)) d deep seen := by
 have h3 : 2 < cs.size := (Array.getElem?_eq_some_iff.1 h.turn).1
 refine ⟨?_, ?_, by simp [h3], ?_, ?_, fun k hk hk' j hj => ?_⟩
 ·
  rw [Array.getElem?_setIfInBounds_ne (by omega)]; exact h.now
 ·
  rw [Array.getElem?_setIfInBounds_ne (by omega)]; exact h.bad
 ·
  rw [Array.getElem?_setIfInBounds_ne (by omega)]; exact h.dp
 ·
  rw [Array.getElem?_setIfInBounds_ne (by omega)]; exact h.sn
 ·
  rw [Array.getElem?_setIfInBounds_ne (by omega)]; exact h.rest k hk hk' j hj
theorem Hd.seen {cs : Array Value} {t deep seen : Int} (h : Hd cs t deep seen) (d : Int) : Hd (cs.setIfInBounds 12 (.int .i64 d)) t deep d := by
 have h3 : 12 < cs.size := (Array.getElem?_eq_some_iff.1 h.sn).1
 refine ⟨?_, ?_, ?_, ?_, by simp [h3], fun k hk hk' j hj => ?_⟩
 ·
  rw [Array.getElem?_setIfInBounds_ne (by omega)]; exact h.now
 ·
  rw [Array.getElem?_setIfInBounds_ne (by omega)]; exact h.bad
 ·
  rw [Array.getElem?_setIfInBounds_ne (by omega)]; exact h.turn
 ·
  rw [Array.getElem?_setIfInBounds_ne (by omega)]; exact h.dp
 ·
  rw [Array.getElem?_setIfInBounds_ne (by omega)]; exact h.rest k hk hk' j hj
structure Bq (w0 wx : World) (bb B : Nat) (S : Nat → Prop) (cs : Array Value) (rv : Nat → Value) (xs : Nat → List Value) (t deep seen : Int) : Prop where
 br : BR wx bb B cs rv xs
 hd : Hd cs t deep seen
 ch : Ch S w0 wx
 sb : S bb
 ins : ∀ i, i < 8 → ∀ k, (rv i).ownBlock = some k → S k ∨ w0.heap.size ≤ k
section
variable {w0 wx w' : World} {bb B : Nat} {S : Nat → Prop} {cs : Array Value} {rv : Nat → Value} {xs : Nat → List Value} {t deep seen : Int}
theorem Bq.below (h : Bq w0 wx bb B S cs rv xs t deep seen) (hb : Below wx.heap.size wx w') : Bq w0 w' bb B S cs rv xs t deep seen :=
 ⟨h.br.below hb, h.hd, Ch.trans (S' := fun _ => False) h.ch (Below.ch hb) (fun _ _ q => q.elim), h.sb, h.ins⟩
theorem Bq.push (h : Bq w0 wx bb B S cs rv xs t deep seen) {i : Nat} (hi : i < 8) {x v' : Value} (p : Pu wx w' bb B cs rv xs i x v') : Bq w0 (w'.setCell ⟨bb, 4 + i, none⟩ v') bb B S (cs.setIfInBounds (4 + i) v') (upd rv i v') (upd xs i (xs i ++ [x])) t deep seen := by
 refine ⟨p.br, h.hd.row i hi v', ?_, h.sb, fun j hj k e => ?_⟩
 ·
  refine Ch.trans (S' := fun k => k = bb) (Ch.trans (S' := fun k => (rv i).ownBlock = some k) h.ch (ch_grown p.gr) (fun j hj q => ?_)) (ch_set bb _ _) (fun j _ q => q ▸ h.sb)
  rcases h.ins i hi j q with q | q
  ·
   exact q
  ·
   omega
 ·
  by_cases q : j = i
  ·
   subst q
   rw [upd_same] at e
   rcases p.wh with q | q
   ·
    exact h.ins j hj k (q ▸ e)
   ·
    rw [q] at e; cases e; exact .inr h.ch.size
  ·
   rw [upd_ne _ _ q] at e; exact h.ins j hj k e
theorem Bq.other (h : Bq w0 wx bb B S cs rv xs t deep seen) (k : Nat) (hk : k < 4 ∨ 12 ≤ k) (v : Value) {t' deep' seen' : Int} (hh : Hd (cs.setIfInBounds k v) t' deep' seen') : Bq w0 (wx.setCell ⟨bb, k, none⟩ v) bb B S (cs.setIfInBounds k v) rv xs t' deep' seen' :=
 ⟨h.br.other k hk v, hh, Ch.trans (S' := fun k => k = bb) h.ch (ch_set bb _ _) (fun j _ q => q ▸ h.sb), h.sb, h.ins⟩
theorem Bq.copy (h : Bq w0 wx bb B S cs rv xs t deep seen) {b n : Nat} {L : List Value} {v' : Value} (hb : wx.heap[b]? = some (.cells #[] 5 (0, 0))) (hn : w0.heap.size ≤ b) (p : Cp wx w' b n L v') : Bq w0 w' bb B S cs rv xs t deep seen := by
 refine ⟨h.br.keep (p.gr.block _ (lt_of_block h.br.at_) (fun e => by cases e; exact blk_ne hb h.br.at_ (by decide) rfl)) (fun i hi k e => p.gr.block _ ((h.br.own i hi).lt k e).2 (fun q => by cases q; obtain ⟨c, hc⟩ := own_blk (h.br.own i hi) e; exact blk_ne hb hc (Ne.symm (et_ne i).2) rfl)), h.hd, ?_, h.sb, h.ins⟩
 exact Ch.trans (S' := fun k => some b = some k) h.ch (ch_grown p.gr) (fun j hj q => by cases q; omega)
end
end Go.Proofs.YtphofgnehdlafaaGreatDoor.Bk
