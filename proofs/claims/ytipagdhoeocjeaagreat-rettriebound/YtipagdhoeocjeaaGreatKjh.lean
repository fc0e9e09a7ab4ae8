import Derived.Test.YtipagdhoeocjeaaGreatKjb
import Derived.Test.YtipagdhoeocjeaaGreatKf
import Derived.Lib.AppendZeros
import Derived.Laws.AppendOwnNone
import Derived.Test.YtipagdhoeocjeaaGreatNe
import Derived.Maps.RangeWalk
namespace Go.Proofs.YtipagdhoeocjeaaGreat.Li
open Go Go.RowKit
set_option linter.unusedSimpArgs false
set_option linter.unusedVariables false
set_option maxRecDepth 100000 in
set_option maxHeartbeats 1000000 in
theorem grow_any (n : Nat) (h1 : 1 ≤ n) (h2 : n ≤ 1000000) (w : World) :
    Calls Tryz.prog 92 #[.slice none 0 0, .int .i64 n] w fun e w' => ∃ g cp, e = .returned (.slice (some ⟨g, 0, none⟩) 0 cp) ∧ w'.ownsRow w.heap.size 9 1 (.slice (some ⟨g, 0, none⟩) 0 cp) 0 [] ∧ Below w.heap.size w w' := by
  obtain ⟨i0, hi, hz0, hz1, hz2⟩ := info_parts info9
  have hr : ∀ ty, (Builtin.append_ #[45, 3] ty #[.slice none 0 0, .int .i64 n]).run Tryz.prog w = _ := fun ty => Lib.run_append_nil_zeros w 45 3 ty 9 i0 (.string ⟨#[]⟩) .i64 .i64 Tryz.underlying45 Tryz.underlying3 hi hz0 n (by omega) (by omega) (by omega) (by rw [hz2]; omega)
  have hn0 : ¬ (n : Int) < 0 := by omega
  have hn1 : (0 : Int) < n := by omega
  go_enter Tryz.func92, Tryz.ntmps92
  go_wp2_with (at_builtin; refine Lib.wpList_append_run _ rfl (.tmp 20) (.tmp 21) 45 3 rfl _ _ rfl rfl _ _ (hr _) ?_)
  go_ret
  have hge := grownCap_ge w n 0 9
  have hcm : grownCap w n 0 9 ≤ maxLen := grownCap_le_maxLen w n 0 9 (by unfold maxLen; omega)
  refine ⟨_, _, rfl, World.ownsRow.drew (World.ownsRow_made w _ _ (Nat.le_refl _) hcm ?_), ((Below.refl _ _).alloc (Nat.le_refl _) _).drew⟩
  simp only [Array.size_append, size_zeroCells]
  simp [Value.cells]
  omega
theorem str_one (L : List ByteArray) (u : Value) (h : u ∈ L.map Value.string) : u.oneCell' = true := by
  obtain ⟨x, _, rfl⟩ := List.mem_map.1 h
  rfl
set_option maxRecDepth 100000 in
set_option maxHeartbeats 2000000 in
theorem concat_any (lb : Nat) (b0 b1 : Addr) (k0 k1 : Nat) (L0 L1 : List ByteArray) (w : World) (c0 : w.cell? ⟨lb, 0, none⟩ = some (.slice (some b0) L0.length k0)) (c1 : w.cell? ⟨lb, 1, none⟩ = some (.slice (some b1) L1.length k1)) (hlb : lb < w.heap.size)
    (h0 : ∀ w', Below w.heap.size w w' → ∀ j u, (L0.map Value.string)[j]? = some u → w'.cell? (b0.add j) = some u) (h1 : ∀ w', Below w.heap.size w w' → ∀ j u, (L1.map Value.string)[j]? = some u → w'.cell? (b1.add j) = some u) (hp : 1 ≤ L0.length + L1.length) (hl0 : L0.length ≤ 400000) (hl1 : L1.length ≤ 400000) :
    Calls Tryz.prog 80 #[.slice (some ⟨lb, 0, none⟩) 2 2] w fun e w' => ∃ g cp, e = .returned (.slice (some ⟨g, 0, none⟩) (L0.length + L1.length) cp) ∧ w'.ownsRow w.heap.size 9 1 (.slice (some ⟨g, 0, none⟩) (L0.length + L1.length) cp) (L0.length + L1.length) ((L0 ++ L1).map Value.string) ∧ Below w.heap.size w w' := by
  obtain ⟨i0, hi, hz0, hz1, hz2⟩ := info_parts info9
  obtain ⟨l0, hl0'⟩ : ∃ l0, l0 = L0.length := ⟨_, rfl⟩
  obtain ⟨l1, hl1'⟩ : ∃ l1, l1 = L1.length := ⟨_, rfl⟩
  have G0 : Hid (Calls Tryz.prog 92 #[.slice none 0 0, .int .i64 ((l0 : Int) + (l1 : Int))] w fun e w' => ∃ g cp, e = .returned (.slice (some ⟨g, 0, none⟩) 0 cp) ∧ w'.ownsRow w.heap.size 9 1 (.slice (some ⟨g, 0, none⟩) 0 cp) 0 [] ∧ Below w.heap.size w w') := by
    have h := grow_any (l0 + l1) (by omega) (by omega) w
    rw [Int.natCast_add] at h
    exact h
  rw [← hl0'] at c0
  rw [← hl1'] at c1
  have HC : Hid (∀ w', Below w.heap.size w w' → w'.cell? ⟨lb, 0, none⟩ = some (.slice (some b0) l0 k0) ∧ w'.cell? ⟨lb, 1, none⟩ = some (.slice (some b1) l1 k1)) := fun w' hb => ⟨by rw [hb.cell hlb]; exact c0, by rw [hb.cell hlb]; exact c1⟩
  have HL := hidi (And.intro hl0' (And.intro hl1' (And.intro hl0 hl1)))
  have H0 := hidi h0
  have H1 := hidi h1
  rw [← hl0', ← hl1']
  have hw1 : IntKind.i64.wrap ((0 : Int) + (l0 : Int)) = (l0 : Int) := by rw [IntKind.wrap_i64]; omega
  have hw1' : IntKind.i64.wrap ((l0 : Int)) = (l0 : Int) := by rw [IntKind.wrap_i64]; omega
  have hw2 : IntKind.i64.wrap ((l0 : Int) + (l1 : Int)) = (l0 : Int) + (l1 : Int) := by rw [IntKind.wrap_i64]; omega
  have hp1 : ¬ (l0 : Int) < 0 := by omega
  have hp2 : ¬ (l0 : Int) + (l1 : Int) < 0 := by omega
  clear h0 h1 hl0 hl1 hl0' hl1' hp hlb
  go_enter Tryz.func80, Tryz.ntmps80
  go_wp2
  go_loop [3, 5, 11] (fun s _ i => (i = .int .i64 0 ∧ s = .int .i64 0) ∨ (i = .int .i64 1 ∧ s = .int .i64 l0) ∨ (i = .int .i64 2 ∧ s = .int .i64 ((l0 : Int) + (l1 : Int)))) (fun _ _ i => 2 - (intOf i).toNat)
  case atStart => exact .inl ⟨rfl, rfl⟩
  case round =>
    rcases hrel with ⟨rfl, rfl⟩ | ⟨rfl, rfl⟩ | ⟨rfl, rfl⟩
    · go_wp2
      go_round
      case rel => exact .inr (.inl ⟨rfl, by first | rfl | go_num⟩)
      case measure => simp [intOf]
    · go_wp2
      go_round
      case rel => exact .inr (.inr ⟨rfl, by first | rfl | go_num⟩)
      case measure => simp [intOf]
    · clear c0 c1
      go_wp2_with (go_at_call 92; refine G0.out.mono ?_; rintro e w1 ⟨g, cp, rfl, hown, hbel⟩; have O1 : Hid (w1.ownsRow w.heap.size 9 1 (.slice (some ⟨g, 0, none⟩) 0 cp) 0 [] ∧ Below w.heap.size w w1) := ⟨hown, hbel⟩; clear hown hbel)
      go_loopw [6, 8, 27] (fun v _ i wr => Below w.heap.size w wr ∧ v ≠ .slice none 0 0 ∧ ((i = .int .i64 0 ∧ wr.ownsRow w.heap.size 9 1 v 0 []) ∨ (i = .int .i64 1 ∧ wr.ownsRow w.heap.size 9 1 v l0 (L0.map Value.string)) ∨ (i = .int .i64 2 ∧ wr.ownsRow w.heap.size 9 1 v (l0 + l1) ((L0 ++ L1).map Value.string)))) (fun _ _ i _ => 2 - (intOf i).toNat)
      case atStart => exact ⟨O1.out.2, by simp, .inl ⟨rfl, O1.out.1⟩⟩
      case round =>
        obtain ⟨hbel, hnn, hrel⟩ := hrel
        obtain ⟨d0, d1⟩ := HC.out wr hbel
        have HB : Hid (Below w.heap.size w wr) := hbel
        have HNN : Hid (u6 ≠ .slice none 0 0) := hnn
        clear hbel hnn
        rcases hrel with ⟨rfl, ho⟩ | ⟨rfl, ho⟩ | ⟨rfl, ho⟩
        · have HO : Hid (wr.ownsRow w.heap.size 9 1 u6 0 []) := ho
          clear ho
          go_wp2_with (at_builtin; refine wpList_append_own _ rfl (.tmp 31) (.tmp 32) 45 rfl w.heap.size 9 i0 (.string ⟨#[]⟩) 1 16 Tryz.underlying45 hi hz0 hz1 hz2 rfl (by decide) _ _ _ rfl HO.out b0 l0 k0 (L0.map Value.string) rfl ?c0 ?c1 ?c2 ?c3 ?c4 ?c5 ?_)
          case c0 => rw [List.length_map, HL.out.1]; omega
          case c1 => exact H0.out _ HB.out
          case c2 => exact fun u hu => str_one L0 u hu
          case c3 => have := HL.out; unfold maxLen; omega
          case c4 => have := HL.out; omega
          case c5 => exact HB.out.size
          intro v2 w2 hown2 hgrow2 hnil2
          have hb2 := HB.out.grown hgrow2 HB.out.size (fun q hq => (HO.out.lt q hq).1)
          have HS : Hid (Below w.heap.size w w2 ∧ v2 ≠ .slice none 0 0 ∧ w2.ownsRow w.heap.size 9 1 v2 l0 (L0.map Value.string)) := ⟨hb2, fun h => HNN.out (hnil2.1 h).1, by simpa using hown2⟩
          clear hown2 hgrow2 hnil2 hb2
          go_wp2
          go_roundw
          case rel => exact ⟨HS.out.1, HS.out.2.1, .inr (.inl ⟨rfl, HS.out.2.2⟩)⟩
          case measure => simp [intOf]
        · have HO : Hid (wr.ownsRow w.heap.size 9 1 u6 l0 (L0.map Value.string)) := ho
          clear ho
          go_wp2_with (at_builtin; refine wpList_append_own _ rfl (.tmp 31) (.tmp 32) 45 rfl w.heap.size 9 i0 (.string ⟨#[]⟩) 1 16 Tryz.underlying45 hi hz0 hz1 hz2 rfl (by decide) _ _ _ rfl HO.out b1 l1 k1 (L1.map Value.string) rfl ?e0 ?e1 ?e2 ?e3 ?e4 ?e5 ?_)
          case e0 => rw [List.length_map, HL.out.2.1]; omega
          case e1 => exact H1.out _ HB.out
          case e2 => exact fun u hu => str_one L1 u hu
          case e3 => have := HL.out; unfold maxLen; omega
          case e4 => have := HL.out; omega
          case e5 => exact HB.out.size
          intro v2 w2 hown2 hgrow2 hnil2
          have hb2 := HB.out.grown hgrow2 HB.out.size (fun q hq => (HO.out.lt q hq).1)
          have HS : Hid (Below w.heap.size w w2 ∧ v2 ≠ .slice none 0 0 ∧ w2.ownsRow w.heap.size 9 1 v2 (l0 + l1) ((L0 ++ L1).map Value.string)) := ⟨hb2, fun h => HNN.out (hnil2.1 h).1, by rw [List.map_append]; exact hown2⟩
          clear hown2 hgrow2 hnil2 hb2
          go_wp2
          go_roundw
          case rel => exact ⟨HS.out.1, HS.out.2.1, .inr (.inr ⟨rfl, HS.out.2.2⟩)⟩
          case measure => simp [intOf]
        · have hex : ∃ g cp, u6 = .slice (some ⟨g, 0, none⟩) (l0 + l1) cp := by
            obtain ⟨_, h | ⟨g, cp, cur, hv, _⟩⟩ := ho
            · exact absurd h.1 HNN.out
            · exact ⟨g, cp, hv⟩
          obtain ⟨g, cp, rfl⟩ := hex
          have HO : Hid (wr.ownsRow w.heap.size 9 1 (.slice (some ⟨g, 0, none⟩) (l0 + l1) cp) (l0 + l1) ((L0 ++ L1).map Value.string)) := ho
          clear ho
          go_wp2
          go_ret
          exact ⟨g, cp, rfl, HO.out, HB.out⟩
end Go.Proofs.YtipagdhoeocjeaaGreat.Li
namespace Go.Proofs.YtipagdhoeocjeaaGreat.Li
open Go Go.RowKit
set_option linter.unusedSimpArgs false
set_option linter.unusedVariables false
/-- A node's message is taken away. -/
def frg (A : List ByteArray) (f : Fn) : Fn := if f.s.A = A then { f with ms := none, ev := .pointer none } else f
theorem frg_s (A : List ByteArray) (f : Fn) : (frg A f).s = f.s := by unfold frg; split <;> rfl
theorem frg_map (A : List ByteArray) (T : List Fn) : (T.map (frg A)).map Fn.s = T.map Fn.s := by
  rw [List.map_map]
  exact List.map_congr_left (fun f _ => frg_s A f)
theorem frg_ne {A : List ByteArray} {f : Fn} (h : f.s.A ≠ A) : frg A f = f := if_neg h
theorem frg_at (f : Fn) : frg f.s.A f = { f with ms := none, ev := .pointer none } := if_pos rfl
theorem frg_has {A : List ByteArray} {f : Fn} {k : Nat} (h : (frg A f).has k) : f.has k := by
  unfold frg at h
  split at h
  · rcases h with c | c | c
    · exact .inl c
    · cases c
    · exact .inr (.inr c)
  · exact h
section
variable {w w' : World} {tb r : Nat} {nf nn : Int} {T : List Fn} {f : Fn}
theorem TM.forgot (h : TM w tb r nf nn T) (hf : f ∈ T) (hc : Ch (fun j => j = f.s.p) w w') (at' : w'.heap[f.s.p]? = some (.cells #[f.lv, .pointer none, f.kv] 75 (0, 0))) :
    TM w' tb r nf nn (T.map (frg f.s.A)) := by
  have ff := h.nd f hf
  have n9 : ∀ j, j = f.s.p → No9 w j := fun j c => ff.no9 (.inl c)
  have ff' : FnM w' (T.map Fn.s) T.length { f with ms := none, ev := .pointer none } := by
    obtain ⟨nk, kd, h1, h2, h3⟩ := ff.kv
    refine ⟨at', own_ch ff.lv hc (fun j hj c => ?_), .inl ⟨rfl, rfl⟩, ⟨nk, kd, h1, h2.keep (fun b e => hc.block b (h2.lt e) (fun c => ?_)), h3⟩⟩
    · obtain ⟨cur, e⟩ := own_lt ff.lv hj
      exact (n9 j c cur).1 e
    · obtain ⟨es, cl, q⟩ := h2.block e
      rw [c, ff.at_] at q
      cases q
  refine ⟨(hc.block tb (Array.getElem?_eq_some_iff.1 h.tr).1 (fun c => h.tb_ne hf (.inl c))).trans h.tr, by rw [frg_map]; exact h.inv, ?_, fun f0 hf0 => ?_, ?_, fun f0 hf0 => ?_⟩
  · obtain ⟨g, hg, f1, f2⟩ := h.rt
    exact ⟨_, List.mem_map_of_mem hg, by rw [frg_s]; exact f1, by rw [frg_s]; exact f2⟩
  · obtain ⟨g, hg, rfl⟩ := List.mem_map.1 hf0
    rw [frg_map, List.length_map]
    by_cases c : g.s.A = f.s.A
    · obtain rfl := h.same hg hf c
      rw [frg_at]
      exact ff'
    · rw [frg_ne c]
      exact (h.nd g hg).keep hc (fun j c1 c2 => h.apart hg hf (fun z => c (by rw [z])) j c1 (.inl c2)) n9 (Nat.le_refl _) (fun _ _ => Iff.rfl)
  · refine List.pairwise_map.2 (h.dis.imp_of_mem (fun {a b} ha hb q j c1 c2 => q j (frg_has c1) (frg_has c2)))
  · obtain ⟨g, hg, rfl⟩ := List.mem_map.1 hf0
    rw [frg_s]
    exact h.ok g hg
theorem frg_hasM (h : TM w tb r nf nn T) (hf : f ∈ T) (F : List ByteArray) (z : Msg) : HasM (T.map (frg f.s.A)) F z ↔ HasM T F z ∧ ¬ F = f.s.A := by
  constructor
  · rintro ⟨b0, hb0, e1, e2⟩
    obtain ⟨a, ha, rfl⟩ := List.mem_map.1 hb0
    rw [frg_s] at e1
    by_cases c : a.s.A = f.s.A
    · obtain rfl := h.same ha hf c
      rw [frg_at] at e2
      cases e2
    · rw [frg_ne c] at e2
      exact ⟨⟨a, ha, e1, e2⟩, fun q => c (by rw [e1, q])⟩
  · rintro ⟨⟨a, ha, e1, e2⟩, no⟩
    refine ⟨_, List.mem_map_of_mem ha, by rw [frg_s]; exact e1, ?_⟩
    rw [frg_ne (fun c => no (by rw [← e1, c]))]
    exact e2
end
end Go.Proofs.YtipagdhoeocjeaaGreat.Li
namespace Go.Proofs.YtipagdhoeocjeaaGreat.Li
open Go Go.RowKit
set_option linter.unusedSimpArgs false
set_option linter.unusedVariables false
variable {w : World} {tb r nk : Nat} {nf nn : Int} {T : List Fn} {e d k : Fn} {kd : ByteArray → Option Value}
theorem map_of {w : World} {mv : Value} {n : Nat} {f : ByteArray → Option Value} (h : MG w mv n f) : ∃ mo, mv = .map mo := by
  rcases h.mk with e | ⟨mb, e⟩
  · exact ⟨_, e⟩
  · exact ⟨_, e⟩
set_option maxRecDepth 100000 in
set_option maxHeartbeats 4000000 in
/-- A node stays. -/
theorem tidy_stay (h : TM w tb r nf nn T) (he : e ∈ T) (hm : MG w e.kv nk kd) (hs : e.s.m = 0 ∨ e.ms.isSome = true ∨ 1 < nk) :
    Calls Tryz.prog 68 #[ptr tb, ptr e.s.p] w fun e' w' => e' = .returned (ptr e.s.p) ∧ w' = w := by
  have fe := h.nd e he
  obtain ⟨la, lc, hlv⟩ : ∃ la lc, e.lv = .slice la e.s.m lc := own_sl fe.lv
  obtain ⟨ko, hko⟩ := map_of hm
  have c1 : w.cell? ⟨e.s.p, 0, none⟩ = some (.slice la e.s.m lc) := by rw [← hlv]; exact box_cells fe.at_ 0 _ rfl
  have c3 : w.cell? ⟨e.s.p, 2, none⟩ = some (.map ko) := by rw [← hko]; exact box_cells fe.at_ 2 _ rfl
  have lk := fun ty => hm.len (t := 73) Tryz.underlying73 ty
  rw [hko] at lk
  by_cases h0 : e.s.m = 0
  · have q0 : ((e.s.m : Int) == 0) = true := by rw [h0]; rfl
    unfold ptr at *
    clear hs h fe hm hlv hko h0
    go_enter Tryz.func68, Tryz.ntmps68
    go_wp2_with fail
    go_ret
    exact ⟨rfl, rfl⟩
  · have q0 : ((e.s.m : Int) == 0) = false := by rw [beq_eq_false_iff_ne]; omega
    rcases fe.ev with ⟨e1, e2⟩ | ⟨mm, k, v, e1, e2, e3, e4⟩
    · have c2 : w.cell? ⟨e.s.p, 1, none⟩ = some (.pointer none) := by rw [← e1]; exact box_cells fe.at_ 1 _ rfl
      have q2 : (1 : Int) < (nk : Int) := by
        rcases hs with c | c | c
        · exact absurd c h0
        · rw [e2] at c; cases c
        · omega
      have q2' : (nk : Int) > 1 := by omega
      unfold ptr at *
      clear hs h fe hm hlv hko h0 e1 e2
      go_enter Tryz.func68, Tryz.ntmps68
      go_wp2_with fail
      go_ret
      exact ⟨rfl, rfl⟩
    · have c2 : w.cell? ⟨e.s.p, 1, none⟩ = some (ptr k) := by rw [← e2]; exact box_cells fe.at_ 1 _ rfl
      unfold ptr at *
      clear hs h fe hm hlv hko h0 e1 e2 e3 e4
      go_enter Tryz.func68, Tryz.ntmps68
      go_wp2_with fail
      go_ret
      exact ⟨rfl, rfl⟩
theorem tr_less {w : World} (h : TM w tb r nf nn T) (v : Int) : (w.setCell ⟨tb, 2, none⟩ (.int .i64 v)).heap[tb]? = some (.cells #[ptr r, .int .i64 nf, .int .i64 v] 65 (0, 0)) := heap_set h.tr _
theorem ch_less {w : World} (v : Value) : Ch (fun j => j = tb) w (w.setCell ⟨tb, 2, none⟩ v) := ch_set tb 2 v
set_option maxRecDepth 100000 in
set_option maxHeartbeats 4000000 in
/-- A node that has nothing goes. -/
theorem tidy_none (h : TM w tb r nf nn T) (he : e ∈ T) (hd : d ∈ T) (hkd : Kid d.s e.s) (hm : MG w e.kv 0 kd) (hK : Kds (T.map Fn.s) e.s kd) (h0 : e.ms = none) (n1 : 1 ≤ nn) (n2 : nn < 1000000000) :
    Calls Tryz.prog 68 #[ptr tb, ptr e.s.p] w fun e' w' => e' = .returned (.pointer none) ∧ PM w' tb r nf (nn - 1) (remF e.s.A T) d.s.A (T.map Fn.s) ∧ Ch (fun j => j = tb) w w' := by
  have fe := h.nd e he
  obtain ⟨la, lc, hlv⟩ : ∃ la lc, e.lv = .slice la e.s.m lc := own_sl fe.lv
  have hev : e.ev = .pointer none := by
    rcases fe.ev with c | ⟨mm, k, v, c, _⟩
    · exact c.1
    · rw [h0] at c; cases c
  have c1 : w.cell? ⟨e.s.p, 0, none⟩ = some (.slice la e.s.m lc) := by rw [← hlv]; exact box_cells fe.at_ 0 _ rfl
  have c2 : w.cell? ⟨e.s.p, 1, none⟩ = some (.pointer none) := by rw [← hev]; exact box_cells fe.at_ 1 _ rfl
  have lk := fun ty => hm.len (t := 73) Tryz.underlying73 ty
  have t3 : w.cell? ⟨tb, 2, none⟩ = some (.int .i64 nn) := box_cells h.tr 2 _ rfl
  have z3 : w.frozen? ⟨tb, 2, none⟩ = false := box_frozen h.tr 2
  have hw : IntKind.i64.wrap (nn - 1) = nn - 1 := by rw [IntKind.wrap_i64]; omega
  have q0 : ((e.s.m : Int) == 0) = false := by rw [beq_eq_false_iff_ne]; have := hkd.1; omega
  have petb : e.s.p ≠ tb := fun c => h.tb_ne he (.inl c.symm)
  have no : ∀ g ∈ T, ¬ Kid e.s g.s := fun g hg c => by
    have gm := h.inv.le g.s (List.mem_map_of_mem hg)
    have tl := top_lt c.1 gm.1
    obtain ⟨y, hy⟩ : ∃ y, g.s.A[g.s.top]? = some y := ⟨_, List.getElem?_eq_getElem tl⟩
    have oy : okT y := by have := (h.ok g hg).1 y (List.mem_of_getElem? hy); unfold okT maxLen; omega
    have := (hK y (ptr g.s.p) oy).2 ⟨_, ⟨List.mem_map_of_mem hg, c, hy⟩, rfl⟩
    obtain ⟨K, k1, k2, k3⟩ := hm.keys
    have := List.length_pos_of_mem ((k3 y).2 ⟨oy, by rw [this]; rfl⟩)
    omega
  have FIN := hidi (fun (w' : World) (hc : Ch (fun j => j = tb) (w.setCell ⟨tb, 2, none⟩ (.int .i64 (nn - 1))) w') (ht : w'.heap[tb]? = (w.setCell ⟨tb, 2, none⟩ (.int .i64 (nn - 1))).heap[tb]?) => (show PM w' tb r nf (nn - 1) (remF e.s.A T) d.s.A (T.map Fn.s) ∧ Ch (fun j => j = tb) w w' from by
    have cc := (ch_less (tb := tb) (w := w) (.int .i64 (nn - 1))).then hc
    exact ⟨h.unleafed he hd hkd no cc (by rw [ht]; exact tr_less h _), cc⟩))
  have at1 : (w.setCell ⟨tb, 2, none⟩ (.int .i64 (nn - 1))).heap[e.s.p]? = some (.cells #[e.lv, e.ev, e.kv] 75 (0, 0)) := (heap_set_ne _ petb).trans fe.at_
  obtain ⟨w1, hw1⟩ : ∃ w1, w1 = w.setCell ⟨tb, 2, none⟩ (.int .i64 (nn - 1)) := ⟨_, rfl⟩
  have tl1 : tb < w1.heap.size := by rw [hw1]; have := h.islt (.inl rfl); simpa [World.setCell] using this
  have hmk1 : MG w1 e.kv 0 kd := hm.keep (fun b q => by rw [hw1]; exact heap_set_ne _ (fun c => h.tb_ne he (c ▸ .inr (.inr q))))
  rcases hm.mk with hko | ⟨mb, hko⟩
  · have c3 : w.cell? ⟨e.s.p, 2, none⟩ = some (.map none) := by rw [← hko]; exact box_cells fe.at_ 2 _ rfl
    have l3 : w1.cell? ⟨e.s.p, 2, none⟩ = some (.map none) := by rw [← hko, hw1]; exact box_cells at1 2 _ rfl
    have hrg := run_range_nilMap (P := Tryz.prog) w1 73 9 60 Tryz.underlying73
    have hnx : ∀ ty, (Instr.next (.pointer (some ⟨w1.heap.size, 0, none⟩)) false ty).run Tryz.prog (w1.alloc (.mapIter none 0 #[] 0)) = _ := fun ty => run_next_nilMap _ ty 0 0 #[]
    rw [hko] at lk
    rw [← hw1] at FIN
    have HW := hidi hw1
    have HT := hidi tl1
    unfold ptr at *
    clear h he hd hkd hm hK h0 n1 n2 fe hlv hev petb no at1 hw1 hko tl1 hmk1
    go_enter Tryz.func68, Tryz.ntmps68
    go_upto_region 4 with fail
    rw [← HW.out]
    go_wp2_with fail
    refine wp_loop_rounds 1 ?_
    rw [rounds_succ]
    go_wp2_with fail
    go_ret
    exact ⟨rfl, FIN.out _ (ch_alloc _ _ _) (heap_alloc_old _ _ HT.out)⟩
  · have c3 : w.cell? ⟨e.s.p, 2, none⟩ = some (.map (some mb)) := by rw [← hko]; exact box_cells fe.at_ 2 _ rfl
    have l3 : w1.cell? ⟨e.s.p, 2, none⟩ = some (.map (some mb)) := by rw [← hko, hw1]; exact box_cells at1 2 _ rfl
    rw [hko] at hmk1
    rcases hmk1 with ⟨z, _⟩ | ⟨mb', D, z, hown, hsz, hD⟩
    · cases z
    cases z
    rw [hko] at lk
    rw [← hw1] at FIN
    have HW := hidi hw1
    have HT := hidi tl1
    have HS := hidi hsz
    unfold ptr at *
    clear h he hd hkd hm hK h0 n1 n2 fe hlv hev petb no at1 hw1 hko tl1 hD hsz
    go_enter Tryz.func68, Tryz.ntmps68
    go_upto_region 4 with fail
    rw [← HW.out]
    go_wp2_with (at_range; refine wpList_range_own _ rfl _ 73 rfl 9 60 law9 Tryz.underlying73 hv mb 0 D rfl hown ?_; intro w2 hrg0 hg0 hs0)
    have HG := hidi hg0
    have HR := hidi hrg0
    clear hg0 hs0 hown hrg0 l3
    refine wp_loop_rounds 1 ?_
    rw [rounds_succ]
    go_wp2_with (at_next; refine wpList_next_ranges _ rfl _ rfl 9 law9 hv Value.string (fun v : Value => v) (fun key kl hk => by obtain ⟨x, hx, _⟩ := Go.WideMaps.string_of_keyOf Tryz.underlying9 hk; exact ⟨x, hx⟩) (fun v y _ => ⟨v, rfl⟩) mb _ 0 D _ _ rfl HR.out ?_ ?_)
    · intro hc0 hl0
      go_wp2_with fail
      go_ret
      exact ⟨rfl, FIN.out _ ((ch_grown HG.out).mono (fun j _ c => by cases c)) (HG.out.block _ HT.out (by simp))⟩
    · intro xk cv kl yd yp w3 cnt2 hkey hlk hvv hat hrg2 hlt2 hg2 hs2 hen
      have := HS.out
      omega
end Go.Proofs.YtipagdhoeocjeaaGreat.Li
namespace Go.Proofs.YtipagdhoeocjeaaGreat.Li
open Go Go.RowKit
set_option linter.unusedSimpArgs false
set_option linter.unusedVariables false
variable {w : World} {tb r : Nat} {nf nn : Int} {T : List Fn} {e d k : Fn} {kd : ByteArray → Option Value} {y : ByteArray}
theorem row_cells {w : World} {v : Value} {n : Nat} {L : List ByteArray} (h : w.ownsRow 0 9 1 v n (L.map Value.string)) (hn : 0 < n) : ∃ g c, v = .slice (some ⟨g, 0, none⟩) n c ∧ g < w.heap.size ∧ ∀ w', Below w.heap.size w w' → ∀ j u, (L.map Value.string)[j]? = some u → w'.cell? ((⟨g, 0, none⟩ : Addr).add j) = some u := by
  have R := rw_own h
  obtain ⟨a, n', c, ev, hn', hc, hrow⟩ := R.row
  have hL : L.length = n := by have := h.1; simp at this; omega
  obtain ⟨g, o, ea, hg, hcells⟩ := hrow (fun q => by rw [q] at hL; simp at hL; omega)
  rcases h.2 with ⟨_, z⟩ | ⟨g', c', cur, ev', _⟩
  · omega
  · have e1 := ev.symm.trans ev'
    injection e1 with e1 e2 e3
    rw [ea] at e1
    injection e1 with e1
    injection e1 with e1 e4
    subst e1 e4 e2 e3
    refine ⟨g, c, by rw [ev, ea], hg, fun w' hb j u hj => ?_⟩
    rw [List.getElem?_map] at hj
    obtain ⟨x, hx, rfl⟩ := Option.map_eq_some_iff.1 hj
    rw [addr_at, hb.cell hg]
    have := hcells j x hx
    rw [Nat.zero_add] at this
    exact this
/-- What tidy leaves where one node goes and its kid comes in its place. -/
structure Tj (w w' : World) (tb r : Nat) (nf nn : Int) (T : List Fn) (e d k : Fn) : Prop where
  ex : ∃ lv, PM w' tb r nf (nn - 1) ((remF e.s.A T).map (upk k.s.A e.s.m lv)) d.s.A (T.map Fn.s)
  ch : Ch (fun j => j = tb ∨ j = k.s.p) w w'
theorem tj_of (h : TM w tb r nf nn T) (he : e ∈ T) (hd : d ∈ T) (hkd : Kid d.s e.s) (hk : k ∈ T) (kk : Kid e.s k.s) (only : ∀ g ∈ T, Kid e.s g.s → g = k) {w4 w6 : World} {L0 L1 : List ByteArray} (hL0 : L0 = e.s.edge) (hL1 : L1 = k.s.edge) (c4 : Ch (fun j => j = tb) w w4) (tr4 : w4.heap[tb]? = some (.cells #[ptr r, .int .i64 nf, .int .i64 (nn - 1)] 65 (0, 0))) (b6 : Below w4.heap.size w4 w6) {g6 c6 : Nat} (o6 : w6.ownsRow w4.heap.size 9 1 (.slice (some ⟨g6, 0, none⟩) (L0.length + L1.length) c6) (L0.length + L1.length) ((L0 ++ L1).map Value.string)) : Tj w (w6.setCell ⟨k.s.p, 0, none⟩ (.slice (some ⟨g6, 0, none⟩) (L0.length + L1.length) c6)) tb r nf nn T e d k := by
  have fk := h.nd k hk
  have kl : k.s.p < w.heap.size := fk.lt (.inl rfl)
  have ktb : k.s.p ≠ tb := fun c => h.tb_ne hk (.inl c.symm)
  have kl4 : k.s.p < w4.heap.size := Nat.lt_of_lt_of_le kl c4.size
  have at4 : w4.heap[k.s.p]? = some (.cells #[k.lv, k.ev, k.kv] 75 (0, 0)) := (c4.block _ kl ktb).trans fk.at_
  have at6 : w6.heap[k.s.p]? = some (.cells #[k.lv, k.ev, k.kv] 75 (0, 0)) := (b6.block _ kl4).trans at4
  have tl4 : tb < w4.heap.size := Nat.lt_of_lt_of_le (h.islt (.inl rfl)) c4.size
  have cc : Ch (fun j => j = tb ∨ j = k.s.p) w (w6.setCell ⟨k.s.p, 0, none⟩ (.slice (some ⟨g6, 0, none⟩) (L0.length + L1.length) c6)) := ((c4.mono (fun j _ q => .inl q)).trans (Below.ch (S := fun _ => False) b6) (fun j _ q => q.elim)).trans (ch_set k.s.p 0 _) (fun j _ q => .inr q)
  have le := edge_len e.s (h.inv.le e.s (List.mem_map_of_mem he)).1
  have lk := edge_len k.s (h.inv.le k.s (List.mem_map_of_mem hk)).1
  refine ⟨⟨.slice (some ⟨g6, 0, none⟩) (L0.length + L1.length) c6, h.unparted he hd hkd hk kk only cc ?_ ?_ ?_⟩, cc⟩
  · rw [heap_set_ne _ (Ne.symm ktb), b6.block _ tl4]
    exact tr4
  · exact heap_set at6 _
  · have := own_ch o6 (ch_set (w := w6) k.s.p 0 (.slice (some ⟨g6, 0, none⟩) (L0.length + L1.length) c6)) (fun j hj q => by
      obtain ⟨cur, e1⟩ := own_lt o6 hj
      rw [q, at6] at e1
      simp at e1)
    have t2 := own0 this
    rw [hL0, hL1] at t2 ⊢
    rw [le, lk] at t2 ⊢
    rw [show k.s.m + e.s.m = e.s.m + k.s.m by omega]
    exact t2
set_option maxRecDepth 100000 in
set_option maxHeartbeats 8000000 in
/-- A node with one kid alone goes, and its kid comes in its place. -/
theorem tidy_one (h : TM w tb r nf nn T) (he : e ∈ T) (hd : d ∈ T) (hkd : Kid d.s e.s) (hk : k ∈ T) (hat : AtK (T.map Fn.s) e.s y k.s) (oy : okT y) (hm : MG w e.kv 1 kd) (hK : Kds (T.map Fn.s) e.s kd) (h0 : e.ms = none) (n1 : 1 ≤ nn) (n2 : nn < 1000000000) :
    Calls Tryz.prog 68 #[ptr tb, ptr e.s.p] w fun e' w' => e' = .returned (ptr k.s.p) ∧ Tj w w' tb r nf nn T e d k := by
  have fe := h.nd e he
  have fk := h.nd k hk
  have kk := hat.2.1
  have em := (h.inv.le e.s (List.mem_map_of_mem he)).1
  have km := (h.inv.le k.s (List.mem_map_of_mem hk)).1
  have elen := edge_len e.s em
  have klen := edge_len k.s km
  obtain ⟨g0, lc, hlv, hg0, cl0⟩ := row_cells fe.lv hkd.1
  obtain ⟨g1, lc1, hlv1, hg1, cl1⟩ := row_cells fk.lv kk.1
  have hev : e.ev = .pointer none := by
    rcases fe.ev with c | ⟨mm, k, v, c, _⟩
    · exact c.1
    · rw [h0] at c; cases c
  have hky : kd y = some (ptr k.s.p) := (hK y _ oy).2 ⟨_, hat, rfl⟩
  obtain ⟨mb, hko⟩ : ∃ mb, e.kv = .map (some mb) := by
    rcases hm.mk with q | q
    · rcases hm with ⟨_, z, _⟩ | ⟨mb, D, z, _⟩
      · cases z
      · rw [z] at q; cases q
    · exact q
  have only : ∀ g ∈ T, Kid e.s g.s → g = k := fun g hg c => by
    have gm := h.inv.le g.s (List.mem_map_of_mem hg)
    have tl := top_lt c.1 gm.1
    obtain ⟨z, hz⟩ : ∃ z, g.s.A[g.s.top]? = some z := ⟨_, List.getElem?_eq_getElem tl⟩
    have oz : okT z := by have := (h.ok g hg).1 z (List.mem_of_getElem? hz); unfold okT maxLen; omega
    have hkz := (hK z (ptr g.s.p) oz).2 ⟨_, ⟨List.mem_map_of_mem hg, c, hz⟩, rfl⟩
    obtain ⟨K, k1, k2, k3⟩ := hm.keys
    have m1 := (k3 y).2 ⟨oy, by rw [hky]; rfl⟩
    have m2 := (k3 z).2 ⟨oz, by rw [hkz]; rfl⟩
    have : z = y := by
      match K, k2, m1, m2 with
      | [a], _, m1, m2 =>
        rw [List.mem_singleton] at m1 m2
        rw [m1, m2]
    subst this
    have := h.inv.atk hat ⟨List.mem_map_of_mem hg, c, hz⟩
    exact (h.same hk hg (congrArg Nd.A this)).symm
  have c1 : w.cell? ⟨e.s.p, 0, none⟩ = some (.slice (some ⟨g0, 0, none⟩) e.s.m lc) := by rw [← hlv]; exact box_cells fe.at_ 0 _ rfl
  have c2 : w.cell? ⟨e.s.p, 1, none⟩ = some (.pointer none) := by rw [← hev]; exact box_cells fe.at_ 1 _ rfl
  have c3 : w.cell? ⟨e.s.p, 2, none⟩ = some (.map (some mb)) := by rw [← hko]; exact box_cells fe.at_ 2 _ rfl
  have lk := fun ty => hm.len (t := 73) Tryz.underlying73 ty
  rw [hko] at lk
  have t3 : w.cell? ⟨tb, 2, none⟩ = some (.int .i64 nn) := box_cells h.tr 2 _ rfl
  have z3 : w.frozen? ⟨tb, 2, none⟩ = false := box_frozen h.tr 2
  have hw : IntKind.i64.wrap (nn - 1) = nn - 1 := by rw [IntKind.wrap_i64]; omega
  have q0 : ((e.s.m : Int) == 0) = false := by rw [beq_eq_false_iff_ne]; have := hkd.1; omega
  have petb : e.s.p ≠ tb := fun c => h.tb_ne he (.inl c.symm)
  have pktb : k.s.p ≠ tb := fun c => h.tb_ne hk (.inl c.symm)
  obtain ⟨w1, hw1⟩ : ∃ w1, w1 = w.setCell ⟨tb, 2, none⟩ (.int .i64 (nn - 1)) := ⟨_, rfl⟩
  have ch1 : Ch (fun j => j = tb) w w1 := by rw [hw1]; exact ch_less _
  have tr1 : w1.heap[tb]? = some (.cells #[ptr r, .int .i64 nf, .int .i64 (nn - 1)] 65 (0, 0)) := by rw [hw1]; exact tr_less h _
  have hs1 : w1.heap.size = w.heap.size := by rw [hw1]; simp [World.setCell]
  have ate : w1.heap[e.s.p]? = some (.cells #[e.lv, e.ev, e.kv] 75 (0, 0)) := by rw [hw1]; exact (heap_set_ne _ petb).trans fe.at_
  have atk : w1.heap[k.s.p]? = some (.cells #[k.lv, k.ev, k.kv] 75 (0, 0)) := by rw [hw1]; exact (heap_set_ne _ pktb).trans fk.at_
  have l3 : w1.cell? ⟨e.s.p, 2, none⟩ = some (.map (some mb)) := by rw [← hko]; exact box_cells ate 2 _ rfl
  have hmk1 : MG w1 e.kv 1 kd := hm.keep (fun b q => by rw [hw1]; exact heap_set_ne _ (fun c => h.tb_ne he (c ▸ .inr (.inr q))))
  rw [hko] at hmk1
  rcases hmk1 with ⟨z, _⟩ | ⟨mb', D, z, hown, hsz, hD⟩
  · cases z
  cases z
  have ltE : e.s.p < w1.heap.size := (Array.getElem?_eq_some_iff.1 ate).1
  have ltK : k.s.p < w1.heap.size := (Array.getElem?_eq_some_iff.1 atk).1
  have CE := hidi (fun (w4 : World) (hb : Below w1.heap.size w1 w4) => (show w4.cell? ⟨e.s.p, 0, none⟩ = some (.slice (some ⟨g0, 0, none⟩) e.s.m lc) ∧ w4.cell? ⟨k.s.p, 0, none⟩ = some (.slice (some ⟨g1, 0, none⟩) k.s.m lc1) ∧ w4.frozen? ⟨k.s.p, 0, none⟩ = false from ⟨by rw [← hlv]; exact box_cells ((hb.block _ ltE).trans ate) 0 _ rfl, by rw [← hlv1]; exact box_cells ((hb.block _ ltK).trans atk) 0 _ rfl, box_frozen ((hb.block _ ltK).trans atk) 0⟩))
  have CO := hidi (fun (w5 : World) (lb : Nat) (hlb : lb < w5.heap.size) (hb : Below w1.heap.size w1 w5) (d0 : w5.cell? ⟨lb, 0, none⟩ = some (.slice (some ⟨g0, 0, none⟩) e.s.m lc)) (d1 : w5.cell? ⟨lb, 1, none⟩ = some (.slice (some ⟨g1, 0, none⟩) k.s.m lc1)) => (show Calls Tryz.prog 80 #[.slice (some ⟨lb, 0, none⟩) 2 2] w5 fun e' w6 => ∃ g6 n6 p6 : Nat, e' = .returned (.slice (some ⟨g6, 0, none⟩) n6 p6) ∧ Tj w (w6.setCell ⟨k.s.p, 0, none⟩ (.slice (some ⟨g6, 0, none⟩) n6 p6)) tb r nf nn T e d k ∧ w6.frozen? ⟨k.s.p, 0, none⟩ = false ∧ w6.cell? ⟨k.s.p, 0, none⟩ = some (.slice (some ⟨g1, 0, none⟩) k.s.m lc1) from by
    have lw : Ch (fun j => j = tb) w w5 := ch1.then (Below.ch hb)
    have cellsOf : ∀ (g : Nat) (L : List ByteArray), g < w.heap.size → g ≠ tb → (∀ w', Below w.heap.size w w' → ∀ j u, (L.map Value.string)[j]? = some u → w'.cell? ((⟨g, 0, none⟩ : Addr).add j) = some u) → ∀ w', Below w5.heap.size w5 w' → ∀ j u, (L.map Value.string)[j]? = some u → w'.cell? ((⟨g, 0, none⟩ : Addr).add j) = some u := fun g L hg hne hc w' hb' j u hj => by
      have h1 := hc w (Below.refl _ _) j u hj
      rw [addr_at] at h1 ⊢
      have h2 : w'.heap[g]? = w.heap[g]? := (hb'.block g (Nat.lt_of_lt_of_le hg lw.size)).trans (lw.block g hg hne)
      unfold World.cell? at h1 ⊢
      simp only [h2]
      exact h1
    have ne0 : g0 ≠ tb := fun q => by
      obtain ⟨cur, q2⟩ := own_lt fe.lv (g := g0) (by rw [hlv]; rfl)
      rw [q, h.tr] at q2
      cases q2
    have ne1 : g1 ≠ tb := fun q => by
      obtain ⟨cur, q2⟩ := own_lt fk.lv (g := g1) (by rw [hlv1]; rfl)
      rw [q, h.tr] at q2
      cases q2
    have := concat_any lb ⟨g0, 0, none⟩ ⟨g1, 0, none⟩ lc lc1 e.s.edge k.s.edge w5 (by rw [elen]; exact d0) (by rw [klen]; exact d1) hlb (cellsOf g0 _ hg0 ne0 cl0) (cellsOf g1 _ hg1 ne1 cl1) (by have := hkd.1; omega) (by have := (h.ok e he).2; omega) (by have := (h.ok k hk).2; omega)
    refine this.mono ?_
    rintro e' w6 ⟨g6, c6, rfl, o6, b6⟩
    have at6 : w6.heap[k.s.p]? = some (.cells #[k.lv, k.ev, k.kv] 75 (0, 0)) := (b6.block _ (Nat.lt_of_lt_of_le ltK hb.size)).trans ((hb.block _ ltK).trans atk)
    exact ⟨_, _, _, rfl, tj_of h he hd hkd hk kk only rfl rfl lw ((hb.block _ (by rw [hs1]; exact h.islt (.inl rfl))).trans tr1) b6 o6, box_frozen at6 0, by rw [← hlv1]; exact box_cells at6 0 _ rfl⟩))
  have HW := hidi hw1
  have HS := hidi hsz
  have HD := hidi (fun x (ox : okT x) => (show Maps.has D (kt x) = (kd x).isSome ∧ ∀ v, kd x = some v → ∀ z, D.atKey (kt x) z = .held v from hD x ox))
  have HU := hidi (fun x v (ox : okT x) (hx : kd x = some v) => (show v = ptr k.s.p from by
    obtain ⟨q, q1, q2⟩ := (hK x v ox).1 hx
    obtain ⟨g, hg, rfl⟩ := List.mem_map.1 q1.1
    rw [q2, only g hg q1.2.1]))
  unfold ptr at *
  clear h he hd hkd hk hat hm hK h0 n1 n2 fe fk hlv hlv1 hev petb pktb only hko hD hsz ate atk tr1 ch1 hw1 cl0 cl1 hg0 hg1 kk em km elen klen hky oy ltE ltK hs1
  go_enter Tryz.func68, Tryz.ntmps68
  go_upto_region 4 with fail
  rw [← HW.out]
  go_wp2_with (at_range; refine wpList_range_own _ rfl _ 73 rfl 9 60 law9 Tryz.underlying73 hv mb 1 D rfl hown ?_; intro w2 hrg0 hg0 hs0)
  have B2 := hidi (show Below w1.heap.size w1 w2 from ⟨hg0.os, hg0.tape, hg0.output, hg0.size, fun j hj => hg0.block j hj (by simp)⟩)
  have HR := hidi hrg0
  clear hg0 hs0 hown hrg0 l3
  refine wp_loop_rounds 1 ?_
  rw [rounds_succ]
  go_wp2_with (at_next; refine wpList_next_ranges _ rfl _ rfl 9 law9 hv Value.string (fun v : Value => v) (fun key kl hk => by obtain ⟨x, hx, _⟩ := Go.WideMaps.string_of_keyOf Tryz.underlying9 hk; exact ⟨x, hx⟩) (fun v y _ => ⟨v, rfl⟩) mb _ 1 D _ _ rfl HR.out ?_ ?_)
  · intro hc0 hl0
    have := HS.out
    omega
  · intro xk cv kl yd yp w3 cnt2 hkey hlk hvv hat hrg2 hlt2 hg2 hs2 hen
    obtain ⟨x', ex, rfl, hwx⟩ := Go.WideMaps.string_of_keyOf Tryz.underlying9 hkey
    cases ex
    have hyd : yd = .held cv := by simp [hv] at hvv; exact hvv.1.symm
    subst hyd
    have hhas : Maps.has D (kt xk) = true := Go.Maps.has_true_of_atKey hat
    obtain ⟨q, hq⟩ : ∃ q, kd xk = some q := by
      have := (HD.out xk hwx).1
      rw [hhas] at this
      exact Option.isSome_iff_exists.1 this.symm
    have hcv : cv = q := by
      have h1 := hat (.held cv)
      have h2 := (HD.out xk hwx).2 q hq (.held cv)
      rw [show D.atKey (kt xk) (.held cv) = _ from h1] at h2
      injection h2
    have hcp := HU.out xk q hwx hq
    rw [hcp] at hcv
    subst hcv
    have B3 := hidi (show Below w1.heap.size w1 w3 from B2.out.trans ⟨hg2.os, hg2.tape, hg2.output, hg2.size, fun j hj => hg2.block j (Nat.lt_of_lt_of_le hj B2.out.size) (by have := HR.out.lt; simp; omega)⟩)
    clear hkey hlk hvv hat hg2 hs2 hwx hrg2 hhas hq hlt2 HR HD HU HS B2 hcp
    obtain ⟨l1, l2, l3⟩ := CE.out w3 B3.out
    go_upto_region 7 with fail
    clear hen
    have b5 : Below w3.heap.size w3 (w3.drew.alloc (.cells #[.slice (some ⟨g0, 0, none⟩) e.s.m lc, .slice (some ⟨g1, 0, none⟩) k.s.m lc1] 45)) := ((Below.refl _ _).drew).alloc (Nat.le_refl _) _
    have n5 := heap_alloc_new w3.drew (.cells #[.slice (some ⟨g0, 0, none⟩) e.s.m lc, .slice (some ⟨g1, 0, none⟩) k.s.m lc1] 45)
    have CC := hidi (CO.out _ w3.drew.heap.size (by simp) (B3.out.trans (b5.mono B3.out.size)) (box_cells n5 0 _ rfl) (box_cells n5 1 _ rfl))
    clear b5 n5 CO CE B3
    go_region_with (go_at_call 80; refine CC.out.mono ?_; rintro e' w6 ⟨g6, n6, p6, rfl, tj, f6, c6⟩; have TJ := hidi tj; clear tj CC l1 l2 l3)
    all_goals go_wp2_with fail
    all_goals go_ret
    all_goals exact ⟨rfl, TJ.out⟩
end Go.Proofs.YtipagdhoeocjeaaGreat.Li
namespace Go.Proofs.YtipagdhoeocjeaaGreat.Li
open Go Go.RowKit
set_option linter.unusedSimpArgs false
set_option linter.unusedVariables false
variable {w : World} {tb r nk : Nat} {nf nn : Int} {T : List Fn} {S0 : List Nd} {d q : Fn} {kd : ByteArray → Option Value} {x : ByteArray}
theorem PM.same (h : PM w tb r nf nn T d.s.A S0) : ∀ a ∈ T, ∀ b ∈ T, a.s.A = b.s.A → a = b := fun a ha b hb e => by
  have := h.inv.dis
  have key : ∀ {l : List Fn}, (l.map Fn.s).Pairwise Apart → a ∈ l → b ∈ l → a = b := fun {l} => by
    induction l with
    | nil => intro _ ha; cases ha
    | cons c l ih =>
      intro hp ha hb
      rw [List.map_cons, List.pairwise_cons] at hp
      rcases List.mem_cons.1 ha with rfl | ha'
      · rcases List.mem_cons.1 hb with rfl | hb'
        · rfl
        · exact absurd e (hp.1 _ (List.mem_map_of_mem hb'))
      · rcases List.mem_cons.1 hb with rfl | hb'
        · exact absurd e.symm (hp.1 _ (List.mem_map_of_mem ha'))
        · exact ih hp.2 ha' hb'
  exact key this ha hb
theorem PM.apart (h : PM w tb r nf nn T d.s.A S0) {a b : Fn} (ha : a ∈ T) (hb : b ∈ T) (ne : a ≠ b) : FA a b := by
  have key : ∀ {l : List Fn}, l.Pairwise FA → a ∈ l → b ∈ l → FA a b := fun {l} => by
    induction l with
    | nil => intro _ ha; cases ha
    | cons c l ih =>
      intro hp ha hb
      rw [List.pairwise_cons] at hp
      rcases List.mem_cons.1 ha with rfl | ha'
      · rcases List.mem_cons.1 hb with rfl | hb'
        · exact absurd rfl ne
        · exact hp.1 _ hb'
      · rcases List.mem_cons.1 hb with rfl | hb'
        · exact fun k c1 c2 => hp.1 _ ha' k c2 c1
        · exact ih hp.2 ha' hb'
  exact key h.dis ha hb
theorem PM.tbd (h : PM w tb r nf nn T d.s.A S0) (hd : d ∈ T) : ¬ d.has tb := fun c => by
  obtain ⟨N, fd⟩ := h.nd0 d hd rfl
  have ht := h.tr
  rcases c with c | c | c
  · rw [c, fd.at_] at ht
    simp at ht
  · obtain ⟨mm, vv, _, e, _⟩ := fd.ev.block c
    rw [e] at ht
    simp at ht
  · obtain ⟨nk, kd, _, hm, _⟩ := fd.kv
    obtain ⟨es, cl, e⟩ := hm.block c
    rw [e] at ht
    cases ht
/-- What replace leaves. -/
structure Rp (w w' : World) (tb r : Nat) (nf nn : Int) (T : List Fn) (d : Fn) : Prop where
  ex : ∃ kv, TM w' tb r nf nn (T.map (ukv d.s.A kv)) ∧ (kv = d.kv ∨ kv = .map none)
  ch : Ch (hgC d) w w'
/-- A node comes in the place of another one. -/
theorem replace_some (h : PM w tb r nf nn T d.s.A S0) (hd : d ∈ T) (hq : q ∈ T) (qd : q.s.A ≠ d.s.A) (hx : okT x) (hqx : ∃ rr, q.s.edge = x :: rr) (hm : MG w d.kv nk kd) (hs : (kd x).isSome = true) (hn : nk < 1000000) (hK : Kds (T.map Fn.s) d.s (setG kd x (some (ptr q.s.p)))) (ep : Value) :
    Calls Tryz.prog 69 #[ptr d.s.p, ep, ptr q.s.p] w fun e w' => e = .returned (.tuple #[]) ∧ Rp w w' tb r nf nn T d := by
  obtain ⟨N, fd⟩ := h.nd0 d hd rfl
  obtain ⟨N', fq⟩ := h.nd q hq qd
  obtain ⟨rr, er⟩ := hqx
  have R := fq.lv
  rw [er] at R
  have nz : d.kv ≠ .map none := fun e => by
    rcases hm with ⟨_, _, c⟩ | ⟨mb, D, c, _⟩
    · rw [c x hx] at hs; cases hs
    · rw [c] at e; cases e
  have HG := hidi (show Calls Tryz.prog 50 #[ptr d.s.p, ptr q.s.p] w fun e w' => e = .returned (.tuple #[]) ∧ Rp w w' tb r nf nn T d from by
    refine (hang_any (lv := d.lv) (ev := d.ev) (kv := d.kv) (lq := q.lv) (e2 := q.ev) (k2 := q.kv) fd.at_ fq.at_ (fun c => h.apart hd hq (fun z => qd (by rw [z])) d.s.p (.inl rfl) (.inl c.symm)) R hx hm hn).mono ?_
    rintro e w' ⟨rfl, ⟨mb, g1, g2, g3⟩, hc⟩
    have ekv : d.kv = .map (some mb) := g3.elim id (fun c => (nz c.1).elim)
    exact ⟨rfl, ⟨.map (some mb), h.fixed hd h.same (fun a ha ne => h.apart ha hd ne) (h.tbd hd) hc g1 g2 hK (.inl ekv.symm), .inl ekv.symm⟩, hc⟩)
  unfold ptr at *
  clear h hd hq qd hx hm hs hn hK fd fq R er nz
  go_enter Tryz.func69, Tryz.ntmps69
  go_wp2_with (go_at_call 50; refine HG.out.mono ?_; rintro e w' ⟨rfl, hr⟩; have HR := hidi hr; clear hr HG)
  exact bodyPost_ret (results_none rfl _ _ _) rfl ⟨rfl, HR.out⟩
set_option maxRecDepth 100000 in
set_option maxHeartbeats 4000000 in
/-- A node is taken away. -/
theorem replace_nil {ep n : Nat} {lq e2 k2 : Value} {rr : List ByteArray} (h : PM w tb r nf nn T d.s.A S0) (hd : d ∈ T) (he : w.heap[ep]? = some (.cells #[lq, e2, k2] 75 (0, 0))) (R : w.ownsRow 0 9 1 lq n ((x :: rr).map Value.string)) (hx : okT x) (hm : MG w d.kv nk kd) (hs : (kd x).isSome = true) (hn : nk < 1000000) (hK : Kds (T.map Fn.s) d.s (setG kd x none)) :
    Calls Tryz.prog 69 #[ptr d.s.p, ptr ep, .pointer none] w fun e w' => e = .returned (.tuple #[]) ∧ Rp w w' tb r nf nn T d := by
  obtain ⟨N, fd⟩ := h.nd0 d hd rfl
  obtain ⟨mb, hmb⟩ : ∃ mb, d.kv = .map (some mb) := by
    rcases hm with ⟨_, _, c⟩ | ⟨mb, D, c, _⟩
    · rw [c x hx] at hs; cases hs
    · exact ⟨mb, c⟩
  have hm' := hm
  rw [hmb] at hm'
  have md : MG w.drew (.map (some mb)) nk kd := hm'.keep (fun b e => rfl)
  obtain ⟨w1, k1, k2, k3⟩ := md.del (t := 73) Tryz.underlying73 hx 0
  simp only [hs, if_true] at k2
  have c3 : w.cell? ⟨d.s.p, 2, none⟩ = some (.map (some mb)) := by rw [← hmb]; exact box_cells fd.at_ 2 _ rfl
  obtain ⟨g, o, n', cap, hlq, hn', hcap, hgl, hc0, -⟩ := (row_own R).cons
  have l1 : w.cell? ⟨ep, 0, none⟩ = some (.slice (some ⟨g, o, none⟩) n' cap) := by rw [← hlq]; exact box_cells he 0 _ rfl
  have p0 : (0 : Int) < n' := by omega
  have pmb : d.s.p ≠ mb := fun c => by
    obtain ⟨es, cl, e⟩ := hm'.block rfl
    rw [← c, fd.at_] at e
    cases e
  have plt : d.s.p < w.heap.size := fd.lt (.inl rfl)
  have at1 : w1.heap[d.s.p]? = some (.cells #[d.lv, d.ev, .map (some mb)] 75 (0, 0)) := by rw [← hmb]; exact (k3.block _ plt pmb).trans fd.at_
  have l3 : w1.cell? ⟨d.s.p, 2, none⟩ = some (.map (some mb)) := box_cells at1 2 _ rfl
  have z3 : w1.frozen? ⟨d.s.p, 2, none⟩ = false := box_frozen at1 2
  have hlen := fun ty => k2.len (t := 73) Tryz.underlying73 ty
  have cc : Ch (hgC d) w w1 := ((ch_drew _ w).trans k3 (fun j _ e => .inr (by rw [hmb, e])))
  by_cases c0 : nk - 1 = 0
  · have FIN := hidi (show Rp w (w1.setCell ⟨d.s.p, 2, none⟩ (.map none)) tb r nf nn T d from by
      have c4 : Ch (hgC d) w (w1.setCell ⟨d.s.p, 2, none⟩ (.map none)) := cc.trans (ch_set d.s.p 2 _) (fun j _ e => .inl e)
      refine ⟨⟨.map none, h.fixed hd h.same (fun a ha ne => h.apart ha hd ne) (h.tbd hd) c4 (heap_set at1 _) (nk := 0) (kd := setG kd x none) (.inl ⟨rfl, rfl, fun k ok => ?_⟩) hK (.inr rfl), .inr rfl⟩, c4⟩
      rw [c0] at k2
      obtain ⟨K, q1, q2, q3⟩ := k2.keys
      have nk' : ¬ k ∈ K := fun c => by have := List.length_pos_of_mem c; omega
      cases e : setG kd x none k with
      | none => rfl
      | some v => exact absurd ((q3 k).2 ⟨ok, by rw [e]; rfl⟩) nk')
    have q0 : (((nk - 1 : Nat) : Int) == 0) = true := by rw [c0]; rfl
    unfold ptr at *
    clear h hd hx hm hm' hs hn hK fd R md k2 k3 he hlq hcap hgl hn' at1 cc c0 pmb plt hmb
    go_enter Tryz.func69, Tryz.ntmps69
    go_wp2_with fail
    go_region_with fail
    all_goals go_wp2_with fail
    all_goals go_end0
    all_goals exact ⟨rfl, FIN.out⟩
  · have FIN := hidi (show Rp w w1 tb r nf nn T d from ⟨⟨.map (some mb), h.fixed hd h.same (fun a ha ne => h.apart ha hd ne) (h.tbd hd) cc at1 k2 hK (.inl hmb.symm), .inl hmb.symm⟩, cc⟩)
    have q0 : (((nk - 1 : Nat) : Int) == 0) = false := by rw [beq_eq_false_iff_ne]; omega
    unfold ptr at *
    clear h hd hx hm hm' hs hn hK fd R md k2 k3 he hlq hcap hgl hn' at1 cc c0 pmb plt hmb
    go_enter Tryz.func69, Tryz.ntmps69
    go_wp2_with fail
    go_region_with fail
    all_goals go_wp2_with fail
    all_goals go_end0
    all_goals exact ⟨rfl, FIN.out⟩
end Go.Proofs.YtipagdhoeocjeaaGreat.Li
namespace Go.Proofs.YtipagdhoeocjeaaGreat.Li
open Go Go.RowKit
set_option linter.unusedSimpArgs false
set_option linter.unusedVariables false
/-- Every node but the root and those at B has a message or parts two ways. -/
def FormX (T : List Fn) (B : List ByteArray) : Prop := ∀ f ∈ T, f.s.A = [] ∨ f.ms.isSome = true ∨ Fork T f.s.A ∨ f.s.A <+: B
/-- How many nodes have a message. -/
def CN (T : List Fn) (nf : Int) : Prop := ∃ Fs : List (List ByteArray), Fs.Nodup ∧ (∀ F, F ∈ Fs ↔ ∃ f ∈ T, f.s.A = F ∧ f.ms.isSome = true) ∧ nf = (Fs.length : Int)
theorem CN.congr {T T' : List Fn} {nf : Int} (h : CN T nf) (e : ∀ F, (∃ f ∈ T, f.s.A = F ∧ f.ms.isSome = true) ↔ ∃ f ∈ T', f.s.A = F ∧ f.ms.isSome = true) : CN T' nf := by
  obtain ⟨Fs, a, b, c⟩ := h
  exact ⟨Fs, a, fun F => (b F).trans (e F), c⟩
variable {w : World} {tb r : Nat} {nf nn : Int} {T : List Fn} {d e k : Fn}
/-- No node lies between a node and the one above it. -/
theorem pre_up (h : TM w tb r nf nn T) {f : Fn} (hf : f ∈ T) (he : e ∈ T) (hd : d ∈ T) (hk : Kid d.s e.s) (fpe : f.s.A <+: e.s.A) (ne : f.s.A ≠ e.s.A) : f.s.A <+: d.s.A := by
  have em := (h.inv.le e.s (List.mem_map_of_mem he)).1
  have dlt := hk.lt em
  have dpe : d.s.A <+: e.s.A := hk.goes
  by_cases c : f.s.A.length ≤ d.s.A.length
  · exact prefix_le fpe dpe c
  · have dpf : d.s.A <+: f.s.A := prefix_le dpe fpe (by omega)
    obtain ⟨e0, he0, k0, p0⟩ := h.inv.way f.s.A.length f.s (List.mem_map_of_mem hf) (Nat.le_refl _) d.s (List.mem_map_of_mem hd) dpf (by omega)
    have := h.inv.kid he0 (List.mem_map_of_mem he) k0 hk (L := e.s.A) (.inl (p0.trans fpe)) (.inl (List.prefix_refl _))
    subst this
    have q : e.s.A = f.s.A := by
      obtain ⟨u, hu⟩ := p0
      obtain ⟨v, hv⟩ := fpe
      have l1 := congrArg List.length hu
      have l2 := congrArg List.length hv
      rw [List.length_append] at l1 l2
      have : v = [] := List.length_eq_zero_iff.1 (by omega)
      rw [← hv, this, List.append_nil]
    exact absurd q.symm ne
theorem formx_none (h : TM w tb r nf nn T) (fx : FormX T e.s.A) (he : e ∈ T) (hd : d ∈ T) (hk : Kid d.s e.s) : FormX (remF e.s.A T) d.s.A := fun f hf => by
  obtain ⟨hfT, fne⟩ := mem_remF.1 hf
  rcases fx f hfT with c | c | c | c
  · exact .inl c
  · exact .inr (.inl c)
  · by_cases fd : f.s.A = d.s.A
    · exact .inr (.inr (.inr (by rw [fd]; exact List.prefix_refl _)))
    · refine .inr (.inr (.inl ?_))
      have em := (h.inv.le e.s (List.mem_map_of_mem he)).1
      have to : ∀ x a, a ∈ T → (f.s.A ++ [x]) <+: a.s.A → ∃ a' ∈ remF e.s.A T, (f.s.A ++ [x]) <+: a'.s.A := fun x a ha pa => by
        by_cases ae : a.s.A = e.s.A
        · rw [ae] at pa
          have fpe : f.s.A <+: e.s.A := (List.prefix_append _ _).trans pa
          have dpe : d.s.A <+: e.s.A := hk.goes
          have dlt := hk.lt em
          have flt := pa.length_le
          simp at flt
          refine ⟨d, mem_remF.2 ⟨hd, fun q => by rw [q] at dlt; omega⟩, ?_⟩
          have : f.s.A.length < d.s.A.length := by
            refine Classical.byContradiction fun c => ?_
            have dpf : d.s.A <+: f.s.A := prefix_le dpe fpe (by omega)
            have ne : d.s.A.length ≠ f.s.A.length := fun q => fd (by rw [← prefix_take dpf, q, List.take_length])
            obtain ⟨e0, he0, k0, p0⟩ := h.inv.way f.s.A.length f.s (List.mem_map_of_mem hfT) (Nat.le_refl _) d.s (List.mem_map_of_mem hd) dpf (by omega)
            have := h.inv.kid he0 (List.mem_map_of_mem he) k0 hk (L := e.s.A) (.inl (p0.trans fpe)) (.inl (List.prefix_refl _))
            subst this
            have := p0.length_le
            omega
          exact prefix_le pa dpe (by simp; omega)
        · exact ⟨a, mem_remF.2 ⟨ha, ae⟩, pa⟩
      obtain ⟨x, y, a, b, ne, ha, hb, pa, pb⟩ := c
      obtain ⟨a', ha', pa'⟩ := to x a ha pa
      obtain ⟨b', hb', pb'⟩ := to y b hb pb
      exact ⟨x, y, a', b', ne, ha', hb', pa', pb'⟩
  · exact .inr (.inr (.inr (pre_up h hfT he hd hk c fne)))
theorem formx_one (h : TM w tb r nf nn T) (fx : FormX T e.s.A) (he : e ∈ T) (hd : d ∈ T) (hkd : Kid d.s e.s) (hk : k ∈ T) (kk : Kid e.s k.s) (lv : Value) : FormX ((remF e.s.A T).map (upk k.s.A e.s.m lv)) d.s.A := fun f0 hf0 => by
  obtain ⟨f, hf, rfl⟩ := List.mem_map.1 hf0
  obtain ⟨hfT, fne⟩ := mem_remF.1 hf
  rw [upk_s, upm_A, upk_ms]
  rcases fx f hfT with c | c | c | c
  · exact .inl c
  · exact .inr (.inl c)
  · refine .inr (.inr (.inl ?_))
    have klt := kk.lt (h.inv.le k.s (List.mem_map_of_mem hk)).1
    have kin : k ∈ remF e.s.A T := mem_remF.2 ⟨hk, fun q => by rw [q] at klt; omega⟩
    have to : ∀ x a, a ∈ T → (f.s.A ++ [x]) <+: a.s.A → ∃ a' ∈ (remF e.s.A T).map (upk k.s.A e.s.m lv), (f.s.A ++ [x]) <+: a'.s.A := fun x a ha pa => by
      by_cases ae : a.s.A = e.s.A
      · exact ⟨_, List.mem_map_of_mem kin, by rw [upk_s, upm_A]; rw [ae] at pa; exact pa.trans kk.goes⟩
      · exact ⟨_, List.mem_map_of_mem (mem_remF.2 ⟨ha, ae⟩), by rw [upk_s, upm_A]; exact pa⟩
    obtain ⟨x, y, a, b, ne, ha, hb, pa, pb⟩ := c
    obtain ⟨a', ha', pa'⟩ := to x a ha pa
    obtain ⟨b', hb', pb'⟩ := to y b hb pb
    exact ⟨x, y, a', b', ne, ha', hb', pa', pb'⟩
  · exact .inr (.inr (.inr (pre_up h hfT he hd hkd c fne)))
theorem formx_map {B : List ByteArray} {g : Fn → Fn} (fx : FormX T B) (hs : ∀ f, (g f).s = f.s) (hn : ∀ f ∈ T, (g f).s.A = B ∨ (g f).ms = f.ms) : FormX (T.map g) B := fun f0 hf0 => by
  obtain ⟨f, hf, rfl⟩ := List.mem_map.1 hf0
  have FK : Fork T f.s.A → Fork (T.map g) f.s.A := fun c => c.mono (fun c hc => ⟨_, List.mem_map_of_mem hc, by rw [hs]⟩)
  rcases hn f hf with q | q
  · exact .inr (.inr (.inr (by rw [q]; exact List.prefix_refl _)))
  · rw [hs, q]
    rcases fx f hf with c | c | c | c
    · exact .inl c
    · exact .inr (.inl c)
    · exact .inr (.inr (.inl (FK c)))
    · exact .inr (.inr (.inr c))
/-- What is so on the way back up. -/
structure QS (tb : Nat) (nf : Int) (T0 T : List Fn) (F : List ByteArray → Prop) (B : List ByteArray) : Prop where
  has : ∀ F' z, HasM T F' z ↔ HasM T0 F' z ∧ ¬ F F'
  is : ∀ j, isT tb T j → isT tb T0 j
  frm : FormX T B
  cn : CN T nf
  le : T.length ≤ T0.length
theorem QS.goes {T0 T' : List Fn} {F : List ByteArray → Prop} {B B' : List ByteArray} (q : QS tb nf T0 T F B) (he : e ∈ T) (e0 : e.ms = none) (same : ∀ f ∈ T, f.s.A = e.s.A → f = e) (fx : FormX T' B') (to : ∀ f ∈ T, f.s.A ≠ e.s.A → ∃ f' ∈ T', f'.s.A = f.s.A ∧ f'.ms = f.ms) (fr : ∀ f' ∈ T', ∃ f ∈ T, f'.s.A = f.s.A ∧ f'.ms = f.ms ∧ ∀ j, f'.has j → f.has j) (le : T'.length ≤ T.length) : QS tb nf T0 T' F B' := by
  refine ⟨fun F' z => ?_, fun j c => ?_, fx, q.cn.congr (fun F' => ?_), Nat.le_trans le q.le⟩
  · rw [← q.has]
    constructor
    · rintro ⟨f', hf', e1, e2⟩
      obtain ⟨f, hf, a1, a2, _⟩ := fr f' hf'
      exact ⟨f, hf, by rw [← a1, e1], by rw [← a2]; exact e2⟩
    · rintro ⟨f, hf, e1, e2⟩
      by_cases c : f.s.A = e.s.A
      · rw [same f hf c, e0] at e2
        cases e2
      · obtain ⟨f', hf', a1, a2⟩ := to f hf c
        exact ⟨f', hf', by rw [a1, e1], by rw [a2]; exact e2⟩
  · refine q.is j ?_
    rcases c with c | ⟨f', hf', c⟩
    · exact .inl c
    · obtain ⟨f, hf, _, _, a4⟩ := fr f' hf'
      exact .inr ⟨f, hf, a4 j c⟩
  · constructor
    · rintro ⟨f, hf, e1, e2⟩
      by_cases c : f.s.A = e.s.A
      · rw [same f hf c, e0] at e2
        cases e2
      · obtain ⟨f', hf', a1, a2⟩ := to f hf c
        exact ⟨f', hf', by rw [a1, e1], by rw [a2]; exact e2⟩
    · rintro ⟨f', hf', e1, e2⟩
      obtain ⟨f, hf, a1, a2, _⟩ := fr f' hf'
      exact ⟨f, hf, by rw [← a1, e1], by rw [← a2]; exact e2⟩
end Go.Proofs.YtipagdhoeocjeaaGreat.Li
