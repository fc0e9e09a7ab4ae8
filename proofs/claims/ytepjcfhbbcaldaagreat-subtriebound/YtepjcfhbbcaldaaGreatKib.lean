import Derived.Test.YtepjcfhbbcaldaaGreatKh
import Derived.Test.YtepjcfhbbcaldaaGreatKe
import Derived.Test.YtepjcfhbbcaldaaGreatSrts
import Derived.Shelf.SlIter.Nil
import Derived.Shelf.SortM.Plain
import Derived.Shelf.SortM.SortNone
namespace Go.Proofs.YtepjcfhbbcaldaaGreat.Li
open Go Go.RowKit Go.Maps Go.Sort Go.Shelf
set_option linter.unusedSimpArgs false
set_option linter.unusedVariables false
theorem sortsA (m : Nat) : AnyZ.SortsIn Tryz.prog Tryz.sortedA_ren Fence.wide m :=
  ⟨fun blk off cap ss W hH hblk hsz => callsIn_wide.2 (AnyM.slices_Sort_string Tryz.sortA blk off cap ss W hH hblk hsz),
   fun p cap W => callsIn_wide.2 (AnyM.slices_Sort_string_none Tryz.sortA p cap W)⟩
theorem keysA_any (mb : Option Nat) (W : World) : Calls Tryz.prog 48 #[.map mb] W fun e w' => e = .returned (.func (.func 66) #[] #[.pointer (some ⟨W.heap.size, 0, none⟩)]) ∧ w' = W.alloc (.cells #[.map mb] 61) :=
  (callsIn_wide (n := 5)).1 (AnyZ.keys_in Tryz.keysA Fence.wide 5 trivial rfl mb W)
theorem keysB_any (mb : Option Nat) (W : World) : Calls Tryz.prog 70 #[.map mb] W fun e w' => e = .returned (.func (.func (Tryz.keysB_ren.f 10)) #[] #[.pointer (some ⟨W.heap.size, 0, none⟩)]) ∧ w' = W.alloc (.cells #[.map mb] 69) :=
  (callsIn_wide (n := 5)).1 (AnyZ.keys_in Tryz.keysB Fence.wide 5 trivial rfl mb W)
/-- The keys of a map, in order. -/
structure KsOf (f : ByteArray → Option Value) (n : Nat) (L : List ByteArray) : Prop where
  len : L.length = n
  ord : L.Pairwise fun a b => unB a < unB b
  mem : ∀ y, y ∈ L ↔ (okT y ∧ (f y).isSome = true)
theorem ks_of {f : ByteArray → Option Value} {w : World} {mb n : Nat} {D : DataW Value} (hown : w.ownsMap Tryz.prog 9 hv mb n D) (hsz : Maps.size D = n) (hD : ∀ k, okT k → Maps.has D (kt k) = (f k).isSome ∧ ∀ v, f k = some v → ∀ z, D.atKey (kt k) z = .held v) {ss : List (List UInt8)} (hp : ss.Perm (strKeys D)) :
    KsOf f n ((ss.mergeSort (fun x y => decide (x ≤ y))).map mkB) := by
  have hpm := (List.mergeSort_perm ss (fun x y => decide (x ≤ y))).trans hp
  obtain ⟨es, hD0, hpw, _⟩ := hown.entries law9
  obtain ⟨es', hD', hko⟩ := hown.keysOf
  obtain rfl : es = es' := by rw [hD0] at hD'; simpa using hD'
  have hk : ∀ p ∈ es, ∃ x : ByteArray, p.1 = kt x ∧ okT x := fun p hp => by
    obtain ⟨v, hv⟩ := hko p hp
    obtain ⟨x, _, hx, hw⟩ := Go.WideMaps.string_of_keyOf Tryz.underlying9 hv
    exact ⟨x, hx, hw⟩
  have hmem : ∀ x : ByteArray, unB x ∈ strKeys D ↔ (okT x ∧ (f x).isSome = true) := fun x => by
    rw [hD0]
    show unB x ∈ es.map (fun p => strOf p.1) ↔ _
    rw [List.mem_map]
    constructor
    · rintro ⟨p, hp', e⟩
      obtain ⟨a, ha, hw⟩ := hk p hp'
      rw [ha] at e
      obtain rfl : a = x := un_inj e
      refine ⟨hw, ?_⟩
      rw [← (hD a hw).1, hD0, has_eq, List.any_eq_true]
      exact ⟨p, hp', by rw [ha]; simp [Lit.sameKey, kt]⟩
    · rintro ⟨ox, hs⟩
      rw [← (hD x ox).1, hD0, has_eq, List.any_eq_true] at hs
      obtain ⟨p, hp', hs⟩ := hs
      obtain ⟨a, ha, hw⟩ := hk p hp'
      rw [ha] at hs
      have hs2 : (a.data.toList == x.data.toList) = true := hs
      exact ⟨p, hp', by rw [ha]; exact eq_of_beq hs2⟩
  have hnd : (strKeys D).Nodup := by
    rw [hD0]
    show (es.map fun p => strOf p.1).Nodup
    refine List.pairwise_map.2 (hpw.imp_of_mem fun {p q} hp' hq' hne e => hne ?_)
    obtain ⟨a, ha, _⟩ := hk p hp'
    obtain ⟨b, hb, _⟩ := hk q hq'
    rw [ha, hb] at e ⊢
    exact congrArg Lit.string e
  refine ⟨?_, ?_, fun y => ?_⟩
  · rw [List.length_map, hpm.length_eq, ← hsz, hD0]
    simp [strKeys, Maps.size]
  · rw [List.pairwise_map]
    have h1 : (ss.mergeSort (fun x y => decide (x ≤ y))).Pairwise (fun a b => decide (a ≤ b) = true) := List.pairwise_mergeSort (fun a b c h k => by simp only [decide_eq_true_eq] at *; exact List.le_trans h k) (fun a b => by simp only [Bool.or_eq_true, decide_eq_true_eq]; exact List.le_total a b) ss
    have h2 : (ss.mergeSort (fun x y => decide (x ≤ y))).Nodup := hpm.nodup_iff.2 hnd
    exact (h1.and h2).imp (fun {a b} q => by
      rw [un_mk, un_mk]
      have h3 := of_decide_eq_true q.1
      exact Classical.byContradiction fun c => q.2 (List.le_antisymm h3 (List.not_lt.1 c)))
  · rw [← hmem, List.mem_map]
    constructor
    · rintro ⟨x, hx, rfl⟩
      rw [un_mk]
      exact hpm.mem_iff.1 hx
    · intro c
      exact ⟨unB y, hpm.mem_iff.2 c, mk_un y⟩
theorem enc_mk (l : List (List UInt8)) : l.map encStr = (l.map mkB).map Value.string := by
  rw [List.map_map]
  rfl
/-- slices.Sorted(maps.Keys(m)), the iterator in hand. -/
theorem sortedK_any {w : World} {mv : Value} {n : Nat} {f : ByteArray → Option Value} (hm : MG w mv n f) (hn : n ≤ 1000000) (Bm : Nat) (hBm : Bm < w.heap.size) (hc : w.cell? ⟨Bm, 0, none⟩ = some mv) :
    Calls Tryz.prog 47 #[.func (.func 66) #[] #[.pointer (some ⟨Bm, 0, none⟩)]] w fun e w' => ∃ v L, e = .returned v ∧ w'.ownsRow w.heap.size 9 1 v L.length (L.map Value.string) ∧ KsOf f n L ∧ Below w.heap.size w w' := by
  rcases hm with ⟨rfl, rfl, h2⟩ | ⟨mb, D, rfl, hown, hsz, hD⟩
  · have hseq : SeqGives Fence.wide 2 Tryz.prog 66 #[.pointer (some ⟨Bm, 0, none⟩)] encStr (fun ss : List (List UInt8) => ss = []) 0 w := AnyZ.keys_gives_nil (ρ := Tryz.keysA_ren) { Tryz.keysA with } Fence.wide _ trivial rfl Bm w hBm hc
    have cS := AnyZ.sorted_in Tryz.sortedA Fence.wide 5 trivial trivial trivial trivial rfl (by omega) (sortsA _) (enters_of Tryz.func65 (by kernel_rfl) rfl) 66 #[.pointer (some ⟨Bm, 0, none⟩)] trivial (enters_of Tryz.func66 (by kernel_rfl) rfl) _ _ (by unfold maxLen; omega) (by omega) _ hseq
    change CallsIn _ _ Tryz.prog 47 _ _ _ at cS
    refine (callsIn_wide.1 cS).mono ?_
    rintro e w' ⟨v, ss, rfl, rfl, hrow, hnil, hb⟩
    refine ⟨v, [], rfl, by rw [List.mergeSort_nil] at hrow; exact hrow, ⟨rfl, List.Pairwise.nil, fun y => ⟨fun c => (by cases c), fun c => ?_⟩⟩, hb⟩
    rw [h2 y c.1] at c
    cases c.2
  · have hseq : SeqGives Fence.wide 2 Tryz.prog 66 #[.pointer (some ⟨Bm, 0, none⟩)] encStr (fun ss => ss.Perm (strKeys D)) (Maps.size D) w := AnyZ.keys_gives (ρ := Tryz.keysA_ren) { Tryz.keysA with } Fence.wide _ trivial rfl (by omega) Bm mb n D w hBm hc hown
    have cS := AnyZ.sorted_in Tryz.sortedA Fence.wide 5 trivial trivial trivial trivial rfl (by omega) (sortsA _) (enters_of Tryz.func65 (by kernel_rfl) rfl) 66 #[.pointer (some ⟨Bm, 0, none⟩)] trivial (enters_of Tryz.func66 (by kernel_rfl) rfl) _ _ (by rw [hsz]; unfold maxLen; omega) (by rw [hsz]; omega) _ hseq
    change CallsIn _ _ Tryz.prog 47 _ _ _ at cS
    refine (callsIn_wide.1 cS).mono ?_
    rintro e w' ⟨v, ss, rfl, hS, hrow, hnil, hb⟩
    refine ⟨v, (ss.mergeSort (fun x y => decide (x ≤ y))).map mkB, rfl, ?_, ks_of hown hsz hD hS, hb⟩
    rw [List.length_map, List.length_mergeSort, ← enc_mk]
    exact hrow
end Go.Proofs.YtepjcfhbbcaldaaGreat.Li
namespace Go.Proofs.YtepjcfhbbcaldaaGreat.Li
open Go Go.RowKit
set_option linter.unusedSimpArgs false
set_option linter.unusedVariables false
theorem make31 (w : World) (n : Nat) (hn : n ≤ 1000000) : ∃ wm, (Instr.makeSlice 41 (.int .i64 0) (.int .i64 (n : Int))).run Tryz.prog w = .ok (.slice (some ⟨w.heap.size, 0, none⟩) 0 n) wm ∧ wm.ownsRow w.heap.size 45 2 (.slice (some ⟨w.heap.size, 0, none⟩) 0 n) 0 [] ∧ Below w.heap.size w wm := by
  obtain ⟨i0, hi, hz0, hz1, hz2⟩ := info_parts info44
  obtain ⟨wm, hmk, hmo, hmg⟩ := run_make_own (P := Tryz.prog) w w.heap.size 41 45 i0 _ 2 Tryz.underlying41 hi hz0 hz1 .i64 .i64 n (by rw [hz2]; omega) (by unfold maxLen; omega) (Nat.le_refl _)
  exact ⟨wm, hmk, hmo, ⟨hmg.os, hmg.tape, hmg.output, hmg.size, fun j hj => hmg.block j hj (by simp)⟩⟩
theorem zeroI (w : World) : (zeroValue 3).run Tryz.prog w = .ok (.int .i64 0) w := by kernel_rfl
/-- Entries of keys. -/
def eL (f : ByteArray → Option Int) (L : List ByteArray) : List PV := L.map (fun y => (y, .int .i64 ((f y).getD 0)))
theorem eL_len (f : ByteArray → Option Int) (L : List ByteArray) : (eL f L).length = L.length := by simp [eL]
/-- While the entries are laid. -/
structure Sd (w wx : World) (mv v2 : Value) (n k : Nat) (f : ByteArray → Option Int) (KL : List ByteArray) (g c : Nat) : Prop where
  row : wx.ownsRow w.heap.size 45 2 (.slice (some ⟨g, 0, none⟩) k c) k (prow (eL f (KL.take k)))
  key : Rw wx v2 KL
  mg : MG wx mv n (fun y => (f y).map (.int .i64))
  be : Below w.heap.size w wx
theorem Sd.step {w wx : World} {mv v2 : Value} {n k : Nat} {f : ByteArray → Option Int} {KL : List ByteArray} {g c : Nat} (h : Sd w wx mv v2 n k f KL g c) {y : ByteArray} {q : Int} (hk : KL[k]? = some y) (hq : f y = some q) (hn : n ≤ 100000) (hkn : k ≤ n) (hm : ∀ b, mv = .map (some b) → b < w.heap.size) :
    ∃ g' c' w', (Builtin.append_ #[41, 41] 41 #[.slice (some ⟨g, 0, none⟩) k c, .slice (some ⟨wx.heap.size, 0, none⟩) 1 1]).run Tryz.prog (wx.alloc (.cells #[.string y, .int .i64 q] 45)) = .ok (.slice (some ⟨g', 0, none⟩) (k + 1) c') w' ∧ Sd w w' mv v2 n (k + 1) f KL g' c' := by
  obtain ⟨g', c', w', k1, k2, k3, k4⟩ := app_gen (st := 41) (e := 45) (cs := #[.string y, .int .i64 q]) Tryz.underlying41 info44 rfl (by omega) (by omega) (own0 h.row) rfl (by simp [Value.oneCell']) (by omega)
  have gg : w.heap.size ≤ g := row_ge h.row rfl
  have hs := h.be.size
  refine ⟨g', c', w', k1, ⟨?_, h.key.ch k3 (fun j hj e => ?_), h.mg.keep (fun b e => ?_), ?_⟩⟩
  · have e : prow (eL f (KL.take (k + 1))) = prow (eL f (KL.take k)) ++ #[Value.string y, Value.int .i64 q].toList := by
      rw [List.take_add_one, hk]
      unfold eL
      rw [List.map_append, prow_app]
      simp [prow, pcs, hq]
    rw [e]
    refine row_base k2 (fun g2 hg2 => ?_)
    simp [Value.ownBlock] at hg2
    subst hg2
    rcases k4 with z | z
    · simp [Value.ownBlock] at z
      omega
    · omega
  · obtain ⟨cur, e1⟩ := h.key.ty j hj
    obtain ⟨cur', e2⟩ := own_lt h.row e
    rw [e1] at e2
    cases e2
  · exact k3.block b (Nat.lt_of_lt_of_le (hm b e) hs) (fun e2 => by simp [Value.ownBlock] at e2; have := hm b e; omega)
  · exact ⟨k3.os.trans h.be.os, k3.tape.trans h.be.tape, k3.output.trans h.be.output, Nat.le_trans hs k3.size, fun j hj => (k3.block j (Nat.lt_of_lt_of_le hj hs) (fun e => by simp [Value.ownBlock] at e; omega)).trans (h.be.block j hj)⟩
set_option maxRecDepth 100000 in
set_option maxHeartbeats 4000000 in
/-- SORTED. -/
theorem sorted_any {w : World} {mv : Value} {n : Nat} {f : ByteArray → Option Int} (hm : MG w mv n (fun y => (f y).map (.int .i64))) (hn : n ≤ 100000) :
    Calls Tryz.prog 28 #[mv] w fun e w' => ∃ v L, e = .returned v ∧ w'.ownsRow w.heap.size 45 2 v L.length (prow (eL f L)) ∧ KsOf (fun y => (f y).map (.int .i64)) n L ∧ Below w.heap.size w w' := by
  obtain ⟨mo, hmo⟩ : ∃ mo, mv = .map mo := by
    rcases hm.mk with e | ⟨mb, e⟩
    · exact ⟨_, e⟩
    · exact ⟨_, e⟩
  have hml := fun b e => hm.lt (b := b) e
  have hlen := fun ty => hm.len (t := 61) Tryz.underlying61 ty
  obtain ⟨wm, hmk, hrow, hbm⟩ := make31 w n (by omega)
  have hm1 := hm.keep (w' := wm) (fun b e => hbm.block b (hm.lt e))
  subst hmo
  have ba : Below wm.heap.size wm (wm.alloc (.cells #[.map mo] 61)) := (Below.refl _ _).alloc (Nat.le_refl _) _
  have hm2 := hm1.keep (w' := wm.alloc (.cells #[.map mo] 61)) (fun b e => ba.block b (hm1.lt e))
  have KY := hidi (fun w => keysA_any mo w)
  have SK := hidi (sortedK_any hm2 (by omega) wm.heap.size (by simp) (box_cells (heap_alloc_new wm _) 0 _ rfl))
  have ST := hidi (fun (v2 : Value) (KL : List ByteArray) (w2 : World) (ho : w2.ownsRow (wm.alloc (.cells #[.map mo] 61)).heap.size 9 1 v2 KL.length (KL.map Value.string)) (hb : Below (wm.alloc (.cells #[.map mo] 61)).heap.size (wm.alloc (.cells #[.map mo] 61)) w2) => (show Sd w w2 (.map mo) v2 n 0 f KL w.heap.size n from by
    have bb := ba.trans (hb.mono ba.size)
    exact ⟨own_below hrow bb, rw_own (own0 ho), hm1.keep (fun b e => bb.block b (hm1.lt e)), hbm.trans (bb.mono hbm.size)⟩))
  have HN := hidi hn
  have HML := hidi hml
  clear hm hm1 hm2 ba hbm hrow hn hml
  go_enter Tryz.func28, Tryz.ntmps28
  go_wp2_with (first
    | (go_at_call 48; refine (KY.out _).mono ?_; rintro e w1 ⟨rfl, rfl⟩; clear KY)
    | (go_at_call 47; refine SK.out.mono ?_; rintro e w2 ⟨v2, KL, rfl, ho, ks, hb⟩; have S0 := hidi (ST.out v2 KL w2 ho hb); obtain ⟨a2, c2, rfl⟩ := own_sl ho; have HK := hidi ks; have HKL := hidi ks.len; clear ho hb ks SK ST))
  clear hlen hmk
  obtain rfl := HKL.out
  go_loopg [3, 5, 13] KL.length (fun gg s3 s5 s13 wx => ∃ k g c : Nat, k ≤ KL.length ∧ gg = KL.length - k ∧ s13 = .int .i64 k ∧ s3 = .slice (some ⟨g, 0, none⟩) k c ∧ Hid (Sd w wx (.map mo) (.slice a2 KL.length c2) KL.length k f KL g c))
  case atStart => exact ⟨0, _, _, Nat.zero_le _, rfl, rfl, rfl, S0⟩
  case round =>
    clear S0
    obtain ⟨k, g, c, hk, rfl, rfl, rfl, Z⟩ := hrel
    by_cases hlt : k < KL.length
    · have hlt' : (k : Int) < KL.length := by omega
      obtain ⟨t, ht⟩ : ∃ t, KL[k]? = some t := ⟨_, List.getElem?_eq_getElem hlt⟩
      have tm := (HK.out.mem t).1 (List.mem_of_getElem? ht)
      obtain ⟨q, hq⟩ : ∃ q, f t = some q := by
        have := tm.2
        simp only [Option.isSome_map] at this
        exact Option.isSome_iff_exists.1 this
      obtain ⟨a, n', cap, ev, hn', hc, hrow⟩ := Z.out.key.row
      obtain ⟨g2, o2, ea, hg, hcells⟩ := hrow (fun e => by subst e; simp at ht)
      injection ev with ev1 ev2 ev3
      rw [ea] at ev1
      subst ev1
      have x1 : wr.cell? ⟨g2, o2 + k, none⟩ = some (.string t) := hcells k t ht
      have hlook : (Instr.lookup 61 (.map mo) (.string t) false).run Tryz.prog wr = .ok (.int .i64 q) wr := by
        have := Z.out.mg.look Tryz.underlying61 zeroI tm.1
        rw [hq] at this
        exact this
      have hw : IntKind.i64.wrap ((k : Int) + 1) = (k : Int) + 1 := by rw [IntKind.wrap_i64]; have := HN.out; omega
      obtain ⟨g', c', w', r1, S'⟩ := Z.out.step ht hq HN.out hk (fun b e => HML.out b e)
      have R1 := hidi r1
      have ZN := hidi S'
      clear ht tm hq hcells hg ea hrow ev2 ev3 hc hn' r1 S' Z
      go_wp2_with (at_builtin; refine Lib.wpList_append_run _ rfl (.tmp 17) (.tmp 23) 41 41 rfl _ _ rfl rfl _ w' R1.out ?_)
      all_goals go_roundg (KL.length - (k + 1))
      all_goals first
        | omega
        | exact ⟨k + 1, g', c', by omega, rfl, rfl, rfl, ZN⟩
    · have hlt' : ¬ (k : Int) < KL.length := by omega
      obtain rfl : k = KL.length := by omega
      go_wp2_with fail
      go_ret
      refine ⟨_, rfl, KL, ?_, HK.out, Z.out.be⟩
      have := Z.out.row
      rw [List.take_of_length_le (Nat.le_refl _)] at this
      exact this
end Go.Proofs.YtepjcfhbbcaldaaGreat.Li
