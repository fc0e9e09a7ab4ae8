import Derived.Test.YtenaliaefbkbcaaGreatNc
import Derived.RangeFuncNested
import Derived.Test.YtenaliaefbkbcaaGreatMr
namespace Go.Proofs.YtenaliaefbkbcaaGreat.Li
open Go Go.RowKit Go.Maps
set_option linter.unusedSimpArgs false
set_option linter.unusedVariables false
theorem slen_any {B : Nat} {w : World} {sb : Nat} {v : Value} {L : List Fl} (h : SL B w sb v L) : Calls Tryz.prog 13 #[.pointer (some ⟨sb, 0, none⟩)] w fun e w' => e = .returned (.int .i64 (L.length : Int)) ∧ w' = w := by
  have c0 := box_cells h.at_ 0 v rfl
  obtain ⟨a, c, hv⟩ := own_sl h.own
  rw [List.length_map] at hv
  subst hv
  clear h
  go_enter Tryz.func13, Tryz.ntmps13
  go_wp2
  go_ret
  exact ⟨rfl, rfl⟩
theorem newKept_any (w : World) : Calls Tryz.prog 18 #[] w fun e w' => e = .returned (.pointer (some ⟨w.heap.size, 0, none⟩)) ∧ w' = w.alloc (.cells #[.slice none 0 0] 91) := by
  go_enter Tryz.func18, Tryz.ntmps18
  go_wp2
  go_ret
  exact ⟨rfl, rfl⟩
theorem klen_any {w : World} {kb : Nat} {a : Option Addr} {n c : Nat} (c0 : w.cell? ⟨kb, 0, none⟩ = some (.slice a n c)) : Calls Tryz.prog 21 #[.pointer (some ⟨kb, 0, none⟩)] w fun e w' => e = .returned (.int .i64 (n : Int)) ∧ w' = w := by
  go_enter Tryz.func21, Tryz.ntmps21
  go_wp2
  go_ret
  exact ⟨rfl, rfl⟩
/-- A message of a topic alone. -/
def mv (t : ByteArray) : Value := .agg #[.string t, .slice none 0 0, .int .i64 0, .bool false]
theorem apart_any (t : ByteArray) (w : World) : Calls Tryz.prog 44 #[mv t] w fun e w' => e = .returned (mv t) ∧ Below w.heap.size w w' := by
  have CL := hidi (fun w => Tryz.bytes_Clone_nil 0 0 w)
  have b1 : Below w.heap.size w (w.alloc (.cells #[.string t, .slice none 0 0, .int .i64 0, .bool false] 30)) := (Below.refl _ _).alloc (Nat.le_refl _) _
  unfold mv
  go_enter Tryz.func44, Tryz.ntmps44
  go_wp2_with (go_at_call 68; refine (CL.out _).mono ?_; rintro e w' ⟨rfl, he⟩; obtain rfl := he.symm; clear he)
  have hsz : (w.alloc (.cells #[.string t, .slice none 0 0, .int .i64 0, .bool false] 30)).heap.size = w.heap.size + 1 := size_alloc _ _
  have hh := heap_alloc_new (w.alloc (.cells #[.string t, .slice none 0 0, .int .i64 0, .bool false] 30)) (.cells #[.string t, .slice none 0 0, .int .i64 0, .bool false] 30)
  rw [hsz] at hh
  refine bodyPost_ret (results_cell_row rfl _ _ (w.heap.size + 1) 30 _ (0, 0) _ rfl hh Tryz.underlying30 rfl (by kernel_rfl)) rfl ?_
  exact ⟨rfl, b1.trans (((Below.refl _ _).alloc (Nat.le_refl _) _).mono b1.size)⟩
def mc (t : ByteArray) : List Value := [.string t, .slice none 0 0, .int .i64 0, .bool false]
def mrw (ts : List ByteArray) : List Value := ts.flatMap mc
theorem mrw_len (ts : List ByteArray) : (mrw ts).length = ts.length * 4 := by
  induction ts with
  | nil => rfl
  | cons x r ih =>
    show (mc x ++ mrw r).length = _
    rw [List.length_append, ih]
    simp [mc]
    omega
theorem mrw_get : ∀ (ts : List ByteArray) (i : Nat) (x : ByteArray), ts[i]? = some x → ∀ j, j < 4 → (mrw ts)[4 * i + j]? = (mc x)[j]?
  | [], i, x, h, j, hj => by simp at h
  | y :: r, 0, x, h, j, hj => by
    simp at h
    subst h
    show (mc y ++ mrw r)[4 * 0 + j]? = _
    rw [List.getElem?_append_left (by simp [mc]; omega)]
    simp
  | y :: r, i + 1, x, h, j, hj => by
    have := mrw_get r i x (by simpa using h) j hj
    show (mc y ++ mrw r)[4 * (i + 1) + j]? = _
    rw [List.getElem?_append_right (by simp [mc]; omega), ← this]
    congr 1
    simp [mc]
    omega
theorem mrw_cell {w : World} {B : Nat} {v : Value} {ts : List ByteArray} (h : w.ownsRow B 30 4 v ts.length (mrw ts)) (h0 : 0 < ts.length) : ∃ g c, v = .slice (some ⟨g, 0, none⟩) ts.length c ∧ ts.length ≤ c ∧ ∀ i (hi : i < ts.length), ∀ j u, j < 4 → (mc ts[i])[j]? = some u → w.cell? ⟨g, i * 4 + j, none⟩ = some u := by
  rcases h.2 with ⟨_, h2⟩ | ⟨g, cap, cur, h1, h2, h3, h4, h5, h6, h7⟩
  · omega
  · refine ⟨g, cap, h1, h4, fun i hi j u hj hu => ?_⟩
    have a := mrw_get ts i ts[i] (List.getElem?_eq_getElem hi) j hj
    have := congrArg (fun l => l[4 * i + j]?) h7
    simp only [List.getElem?_take, if_pos (show 4 * i + j < ts.length * 4 by omega)] at this
    rw [a, hu] at this
    simp [World.cell?, h3]
    rw [Nat.mul_comm i 4]
    simpa using this
structure KS (B : Nat) (w : World) (kb : Nat) (v : Value) (ts : List ByteArray) : Prop where
  at_ : w.heap[kb]? = some (.cells #[v] 91 (0, 0))
  own : w.ownsRow B 30 4 v ts.length (mrw ts)
  ge : B ≤ kb
theorem KS.below {B : Nat} {w w' : World} {kb : Nat} {v : Value} {ts : List ByteArray} (h : KS B w kb v ts) (hb : Below w.heap.size w w') : KS B w' kb v ts := ⟨later_at h.at_ hb, own_below h.own hb, h.ge⟩
theorem ks_new (w : World) : KS w.heap.size (w.alloc (.cells #[.slice none 0 0] 91)) w.heap.size (.slice none 0 0) [] := ⟨heap_alloc_new _ _, ⟨rfl, .inl ⟨rfl, rfl⟩⟩, Nat.le_refl _⟩
set_option maxRecDepth 100000 in
set_option maxHeartbeats 4000000 in
theorem place45_none {B : Nat} {w : World} {kb : Nat} {v : Value} {ts : List ByteArray} (h : KS B w kb v ts) (hm : ts.length ≤ 1000) (t : ByteArray) (ht : t ∉ ts) : Calls Tryz.prog 45 #[.pointer (some ⟨kb, 0, none⟩), .string t] w fun e w' => e = .returned (.int .i64 (-1)) ∧ w' = w := by
  have c0 := box_cells h.at_ 0 v rfl
  obtain ⟨a, c, rfl⟩ := own_sl h.own
  obtain ⟨n, hn⟩ : ∃ n, n = ts.length := ⟨_, rfl⟩
  rw [← hn] at c0
  have H := hidi (And.intro h (And.intro hm ht))
  have HN := hidi hn
  clear h hm ht hn
  go_enter Tryz.func45, Tryz.ntmps45
  go_wp2_with fail
  go_loopg [5, 11] n (fun gk s5 s11 wx => ∃ j : Nat, j + gk = n ∧ s11 = .int .i64 j ∧ wx = w)
  case atStart => exact ⟨0, by omega, rfl, rfl⟩
  case round =>
    obtain ⟨j, hj, rfl, rfl⟩ := hrel
    by_cases hjn : j < n
    · have hlt : (j : Int) < (n : Int) := by omega
      have hge : (0 : Int) ≤ (j : Int) := by omega
      have hw1 : IntKind.i64.wrap ((j : Int) + 1) = (j : Int) + 1 := by rw [IntKind.wrap_i64]; have := H.out.2.1; have := HN.out; omega
      have hjl : j < ts.length := by rw [← HN.out]; exact hjn
      obtain ⟨g, c2, hv, -, hcell⟩ := mrw_cell H.out.1.own (by omega)
      simp only [Value.slice.injEq, true_and] at hv
      obtain ⟨rfl, rfl⟩ := hv
      obtain ⟨y, hy⟩ : ∃ y, y = ts[j] := ⟨_, rfl⟩
      have k0 := hcell j hjl 0 _ (by omega) rfl
      rw [← hy] at k0
      simp only [Nat.add_zero] at k0
      have hey : (y.toList == t.toList) = false := by rw [teq]; exact decide_eq_false (fun q => H.out.2.2 (by rw [← q, hy]; exact List.getElem_mem hjl))
      clear hy hcell
      go_wp2
      go_roundg (n - (j + 1))
      case measure => omega
      case rel => exact ⟨j + 1, by omega, by first | rfl | simp, rfl⟩
    · have hlt : ¬ (j : Int) < (n : Int) := by omega
      go_wp2_with fail
      go_ret
      exact ⟨rfl, rfl⟩
end Go.Proofs.YtenaliaefbkbcaaGreat.Li
namespace Go.Proofs.YtenaliaefbkbcaaGreat.Li
open Go Go.RowKit Go.Maps
set_option linter.unusedSimpArgs false
set_option linter.unusedVariables false
theorem setCell_same {w : World} {X i : Nat} {cs : Array Value} {ty : TypeId} {v : Value} (h : w.heap[X]? = some (.cells cs ty (0, 0))) (hi : cs[i]? = some v) : w.setCell ⟨X, i, none⟩ v = w := by
  have e : (w.setCell ⟨X, i, none⟩ v).heap = w.heap := by
    apply Array.ext_getElem?
    intro k
    by_cases q : k = X
    · subst q
      rw [heap_set h v, h]
      have : cs.setIfInBounds i v = cs := by
        apply Array.ext_getElem?
        intro j
        rw [Array.getElem?_setIfInBounds]
        split
        · rename_i e
          subst e
          rw [hi]
          have := (Array.getElem?_eq_some_iff.1 hi).1
          simp [this]
        · rfl
      rw [this]
    · exact heap_set_ne _ q
  cases w
  simp only [World.setCell, World.mk.injEq] at e ⊢
  exact ⟨e, trivial, trivial, trivial, trivial⟩
/-- A message laid onto the messages. -/
theorem kap_of {w w2 : World} {B kb : Nat} {v : Value} {ts : List ByteArray} (t : ByteArray) (h : KS B w kb v ts) (hm : ts.length ≤ 1000) (hB : B ≤ w.heap.size) (b2 : Below w.heap.size w w2) :
    ∃ g' cap' w3, (Builtin.append_ #[89, 89] 89 #[v, .slice (some ⟨w2.heap.size, 0, none⟩) 1 1]).run Tryz.prog (w2.alloc (.cells #[.string t, .slice none 0 0, .int .i64 0, .bool false] 30)) = .ok (.slice (some ⟨g', 0, none⟩) (ts.length + 1) cap') w3 ∧ w3.cell? ⟨kb, 0, none⟩ = some v ∧ w3.frozen? ⟨kb, 0, none⟩ = false ∧
      KS B (w3.setCell ⟨kb, 0, none⟩ (.slice (some ⟨g', 0, none⟩) (ts.length + 1) cap')) kb (.slice (some ⟨g', 0, none⟩) (ts.length + 1) cap') (ts ++ [t]) ∧ Ch (fun j => j = kb ∨ v.ownBlock = some j) w (w3.setCell ⟨kb, 0, none⟩ (.slice (some ⟨g', 0, none⟩) (ts.length + 1) cap')) := by
  have hi : (Tryz.prog.info? 30).map (fun i => (i.zero, i.size, i.bytes)) = some (some (.agg #[.string ⟨#[]⟩, .slice none 0 0, .int .i64 0, .bool false]), 4, 56) := by kernel_rfl
  obtain ⟨g', cap', w3, k1, k2, k3, k4⟩ := app_gen (st := 89) (e := 30) (cs := #[.string t, .slice none 0 0, .int .i64 0, .bool false]) Tryz.underlying89 hi rfl (by omega) (by omega) (own0 (own_below h.own b2)) rfl (by simp [Value.oneCell']) (by omega)
  have hb := h.at_
  have hbl : kb < w.heap.size := (Array.getElem?_eq_some_iff.1 hb).1
  have hnb : ∀ g, v.ownBlock = some g → g ≠ kb := fun g hg q => by
    obtain ⟨cur, hc⟩ := own_lt h.own hg
    rw [q, hb] at hc
    simp at hc
  have hb3 : w3.heap[kb]? = some (.cells #[v] 91 (0, 0)) := (k3.block kb (Nat.lt_of_lt_of_le hbl b2.size) (fun q => hnb kb q rfl)).trans (later_at hb b2)
  have hgb : g' ≠ kb := fun q => by
    obtain ⟨cur, hc⟩ := own_lt k2 (g := g') rfl
    rw [q, hb3] at hc
    simp at hc
  have hgB : B ≤ g' := by
    rcases k4 with q | q
    · exact row_ge h.own q
    · have := b2.size; omega
  refine ⟨g', cap', w3, k1, box_cells hb3 0 v rfl, box_frozen hb3 0, ⟨heap_set hb3 _, ?_, h.ge⟩, ?_⟩
  · have := own_ch k2 (ch_set kb 0 (.slice (some ⟨g', 0, none⟩) (ts.length + 1) cap')) (fun g hg q => by simp [Value.ownBlock] at hg; omega)
    have e : mrw (ts ++ [t]) = mrw ts ++ [.string t, .slice none 0 0, .int .i64 0, .bool false] := by simp [mrw, mc]
    rw [e, List.length_append]
    exact row_base (by simpa using this) (fun g hg => by simp [Value.ownBlock] at hg; omega)
  · exact ((Below.ch (S := fun j => j = kb ∨ v.ownBlock = some j) b2).trans k3 (fun j _ q => .inr q)).trans (ch_set kb 0 _) (fun j _ q => .inl q)
set_option maxRecDepth 100000 in
set_option maxHeartbeats 4000000 in
theorem kput_new {B : Nat} {w : World} {kb : Nat} {v : Value} {ts : List ByteArray} (h : KS B w kb v ts) (hm : ts.length ≤ 1000) (t : ByteArray) (ht : t ∉ ts) (hc : tcode t = 0) (hts : t.size ≤ 1000000) (hB : B ≤ w.heap.size) :
    Calls Tryz.prog 19 #[.pointer (some ⟨kb, 0, none⟩), mv t] w fun e w' => e = .returned (.tuple #[.bool false, .int .i64 0]) ∧ ∃ v', KS B w' kb v' (ts ++ [t]) ∧ Ch (fun j => j = kb ∨ v.ownBlock = some j) w w' := by
  have TC := hidi (fun w => tcheck_any t w)
  rw [hc] at TC
  have Q := hidi (fun w => isq_any 0 w)
  have AP := hidi (fun w => apart_any t w)
  have CL := hidi (fun w => sclone_any t w hts)
  have X := hidi (fun (w1 : World) (hb : Below (w.alloc (.cells #[.string t, .slice none 0 0, .int .i64 0, .bool false] 30)).heap.size (w.alloc (.cells #[.string t, .slice none 0 0, .int .i64 0, .bool false] 30)) w1) => later_at (heap_alloc_new w (.cells #[.string t, .slice none 0 0, .int .i64 0, .bool false] 30)) hb)
  have hq : (decide ((0 : Int) ≤ 0) && decide ((0 : Int) ≤ 2)) = true := by decide
  rw [hq] at Q
  unfold mv at *
  clear hq
  go_enter Tryz.func19, Tryz.ntmps19
  go_wp2_with fail
  go_must (go_at_call 32)
  refine (TC.out _).mono ?_
  rintro e w1 ⟨rfl, hb1⟩
  have x1 := X.out w1 hb1
  have c1 := box_cells x1 0 (.string t) rfl
  have c2 := box_cells x1 1 (.slice none 0 0) rfl
  have c3 := box_cells x1 2 (.int .i64 0) rfl
  have c4 := box_cells x1 3 (.bool false) rfl
  have HB1 := hidi hb1
  have X1 := hidi x1
  clear hb1 x1
  go_wp2_with fail
  go_must (go_at_call 28)
  refine (Q.out _).mono ?_
  rintro e w' ⟨rfl, he⟩
  obtain rfl := he.symm
  clear he
  go_wp2_with fail
  go_must (go_at_call 44)
  refine (AP.out _).mono ?_
  rintro e w2 ⟨rfl, hb2⟩
  have x2 := later_at X1.out hb2
  clear c1 c2 c3 c4
  have c1 := box_cells x2 0 (.string t) rfl
  have c2 := box_cells x2 1 (.slice none 0 0) rfl
  have c3 := box_cells x2 2 (.int .i64 0) rfl
  have c4 := box_cells x2 3 (.bool false) rfl
  have f0 := box_frozen x2 0
  have f1 := box_frozen x2 1
  have f2 := box_frozen x2 2
  have f3 := box_frozen x2 3
  have s0 := setCell_same x2 (i := 0) (v := .string t) rfl
  have s1 := setCell_same x2 (i := 1) (v := .slice none 0 0) rfl
  have s2 := setCell_same x2 (i := 2) (v := .int .i64 0) rfl
  have s3 := setCell_same x2 (i := 3) (v := .bool false) rfl
  have HB2 := hidi hb2
  have X2 := hidi x2
  clear hb2 x2
  go_wp2_with fail
  go_must (go_at_call 30)
  (try simp only [s0, s1, s2, s3])
  refine (CL.out _).mono ?_
  rintro e w3 ⟨rfl, hb3⟩
  have x3 := later_at X2.out hb3
  clear c1 c2 c3 c4 f0 f1 f2 f3 s0 s1 s2 s3
  have c1 := box_cells x3 0 (.string t) rfl
  have c2 := box_cells x3 1 (.slice none 0 0) rfl
  have c3 := box_cells x3 2 (.int .i64 0) rfl
  have c4 := box_cells x3 3 (.bool false) rfl
  have f0 := box_frozen x3 0
  have s0 := setCell_same x3 (i := 0) (v := .string t) rfl
  have b0 : Below w.heap.size w (w.alloc (.cells #[.string t, .slice none 0 0, .int .i64 0, .bool false] 30)) := (Below.refl _ _).alloc (Nat.le_refl _) _
  have b1 := b0.trans (HB1.out.mono b0.size)
  have b2 := b1.trans (HB2.out.mono b1.size)
  have b3 := b2.trans (hb3.mono b2.size)
  have PL := hidi (place45_none (h.below b3) hm t ht)
  have AK := hidi (fun (w2 : World) (b2 : Below w.heap.size w w2) => kap_of t h hm hB b2)
  have ck := box_cells (h.below b3).at_ 0 v rfl
  have ck2 := box_cells (h.below (b3.alloc b3.size (.cells #[.string t, .slice none 0 0, .int .i64 0, .bool false] 30))).at_ 0 v rfl
  have HB3 := hidi b3
  obtain ⟨a, c, rfl⟩ := own_sl h.own
  obtain ⟨n, hn⟩ : ∃ n, n = ts.length := ⟨_, rfl⟩
  rw [← hn] at AK ck ck2
  have HN := hidi hn
  clear b0 b1 b2 b3 x3 hb3 h hm ht hc hts hB hn
  go_wp2_with fail
  go_must (go_at_call 45)
  (try simp only [s0])
  refine PL.out.mono ?_
  rintro e w' ⟨rfl, he⟩
  obtain rfl := he.symm
  clear he s0 CL
  obtain ⟨g', cap', w5, hrun, hk5, hf5, hks, hch⟩ := AK.out w3.drew HB3.out.drew
  have HR := hidi hrun
  have HK := hidi (And.intro hks hch)
  clear hrun hks hch
  go_wp2_with fail
  go_region_law (refine step_app rfl (.tmp 31) (.tmp 33) 89 89 rfl _ _ rfl rfl _ w5 HR.out ?_)
  all_goals go_wp2_with fail
  all_goals go_ret2
  all_goals refine ⟨rfl, .slice (some ⟨g', 0, none⟩) (n + 1) cap', ?_⟩
  all_goals rw [← HN.out]
  all_goals exact HK.out
end Go.Proofs.YtenaliaefbkbcaaGreat.Li
namespace Go.Proofs.YtenaliaefbkbcaaGreat.Li
open Go Go.RowKit
set_option linter.unusedSimpArgs false
set_option linter.unusedVariables false
/-- An iterator that goes over another one: what it turns lies behind the world of its call. -/
def SeqO {α : Type} (F : Fence) (n : Nat) (P : Program) (g : Nat) (lb : Array Value) (encs : α → Array Value) (Kc : World → World → Prop) (S : List α → Prop) (N : Nat) (W : World) : Prop :=
  ∀ (l : Nat) (J : List α → World → Prop), OwnFrom W.heap.size J →
    (∀ pre x W1, J pre W1 → pre.length < N → YieldAt F (n - 1) P l (encs x) W1 fun e W' => e = .returned (.bool true) ∧ J (pre ++ [x]) W' ∧ Kc W1 W') →
    J [] W → CallsIn F n P g (#[.func (.yield l) #[] #[]] ++ lb) W fun e W' => (∃ v, e = .returned v) ∧ ∃ xs, S xs ∧ J xs W'
theorem range_own {α : Type} {F : Fence} {n : Nat} {P : Program} {g : Operand} {ps : Array Tmp} {assign body : Code} {Q : Exit → Act → World → Prop} {a : Act} {w : World}
    (hro : F.round = none) (h1 : 1 ≤ n) {gf : Nat} {lb : Array Value} (hg : a.eval g = .func (.func gf) #[] lb) (hFg : F.fn gf) (eg : ∀ args w, (callFunc gf args).run P w = .ok (.enter gf args) w)
    {encs : α → Array Value} {Kc : World → World → Prop} {S : List α → Prop} {N : Nat} (hps : ∀ x, (encs x).size = ps.size)
    (hseq : ∀ W, Below w.heap.size w W → W.heap.size = w.heap.size + 2 → SeqO F (n - 1) P gf lb encs Kc S N W)
    (hKt : ∀ {A B C : World}, Kc A B → Kc B C → Kc A C) (hKb : ∀ (W : World) (o : Obj), w.heap.size + 1 < W.heap.size → Kc W (W.putObj (w.heap.size + 1) o))
    (I : List α → World → Prop) (hI : OwnFrom w.heap.size I) (h0 : I [] w) (Ax : α → Act → World → Prop) (hAx : ∀ x a', OwnFrom w.heap.size (fun (_ : Unit) W => Ax x a' W))
    (hassign : ∀ (l : Nat) (pre : List α) (x : α) (W : World) (K : Act → World → Prop), I pre W → w.heap.size + 2 ≤ W.heap.size → (∀ a' W', KeepsFrom w.heap.size W W' → Kc W W' → I pre W' → Ax x a' W' → K a' W') →
      assign.wpIn (F.inRound l) (n - 1 - 1) P (Exit.then K (fun _ _ _ => False)) { tmps := (ps.zip (encs x)).foldl (fun t (p, v) => t.setIfInBounds p v) a.tmps, defers := [] } W)
    (hbody : ∀ (l : Nat) (pre : List α) (x : α) (a' : Act) (W : World), I pre W → Ax x a' W → w.heap.size + 2 ≤ W.heap.size → pre.length < N → body.wpIn (F.inRound l) (n - 1 - 1) P (fun e _ W3 => e = .normal ∧ KeepsFrom w.heap.size W W3 ∧ Kc W W3 ∧ I (pre ++ [x]) W3) a' W)
    (hdone : ∀ (D : Nat) (xs : List α) (W : World), w.heap.size ≤ D → S xs → I xs W → W.heap[D]? = some (.deferred (some [])) → Q .normal { a with defers := { target := .collected D, args := #[] } :: a.defers } W) :
    (Code.rangeFunc g ps assign body).wpIn F n P Q a w := by
  refine wpIn_rangeFunc fun fn hfn => ?_
  rw [hro]
  let rec0 : Loop := { state := .ready, pending := none, fn := fn, tmps := a.tmps, params := ps, assign := assign, body := body, defers := w.heap.size }
  obtain ⟨W1, hW1⟩ : ∃ W1, (w.alloc (.deferred (some []))).alloc (.loop rec0) = W1 := ⟨_, rfl⟩
  have z1 : (w.alloc (.deferred (some []))).heap.size = w.heap.size + 1 := size_alloc _ _
  have z2 : W1.heap.size = w.heap.size + 2 := by rw [← hW1, size_alloc, z1]
  have r1 : W1.heap[w.heap.size + 1]? = some (.loop rec0) := by rw [← hW1, ← z1, heap_alloc_new]
  have d1 : W1.heap[w.heap.size]? = some (.deferred (some [])) := by rw [← hW1, heap_alloc_old _ _ (by omega), heap_alloc_new]
  have i1 : I [] W1 := by rw [← hW1]; exact hI.alloc _ (hI.alloc _ h0)
  have b1 : Below w.heap.size w W1 := by rw [← hW1]; exact ((Below.refl _ _).alloc (Nat.le_refl _) _).alloc (by omega) _
  refine ⟨w.heap.size + 1, [{ target := .collected w.heap.size, args := #[] }], W1, { target := .fn (.func gf) lb, args := #[.func (.yield (w.heap.size + 1)) #[] #[]] }, W1, gf, #[.func (.yield (w.heap.size + 1)) #[] #[]] ++ lb, W1, ?_, ?_, ?_, ?_, fun _ => h1, ?_⟩
  · rw [← hW1]; exact run_enterLoop_outer _ _ _ _ _
  · simp only [resolve, hg]
    simp [go_sem]
  · intro f' hf'
    simp [Target.leads] at hf'
    exact hf' ▸ hFg
  · simp [invoke, go_sem, eg]
  · refine (hseq W1 b1 z2 (w.heap.size + 1) (fun pre W => I pre W ∧ w.heap.size + 2 ≤ W.heap.size ∧ W.heap[w.heap.size + 1]? = some (.loop rec0) ∧ W.heap[w.heap.size]? = some (.deferred (some []))) ?_ ?_ ⟨i1, by omega, r1, d1⟩).mono ?_
    · intro s A B row hs hgr hr
      have hr' : ∀ r, row = some r → w.heap.size ≤ r ∧ ∃ o : Obj, A.heap[r]? = some o ∧ o.isCells = false := fun r e => ⟨by have := (hr r e).1; omega, (hr r e).2⟩
      have kb : ∀ k, k < w.heap.size + 2 → B.heap[k]? = A.heap[k]? := fun k hk => hgr.block k (by omega) (fun e => by have := (hr k e.symm).1; omega)
      exact ⟨hI s A B row hs.1 hgr hr', Nat.le_trans hs.2.1 hgr.size, (kb _ (by omega)).trans hs.2.2.1, (kb _ (by omega)).trans hs.2.2.2⟩
    · rintro pre x W ⟨hi, hs2, hl, hd⟩ hlen
      have hy := run_yield (P := P) (args := encs x) hl (hps x)
      refine ⟨fn, _, assign, body, hy, roundIn_of_wpIn hfn (hassign _ pre x W _ hi hs2 ?_)⟩
      intro a' Wa ka kc hia hax
      have hla := ka.same _ _ (by omega) hl rfl
      have hda := ka.same _ _ (Nat.le_refl _) hd rfl
      have hsa : w.heap.size + 1 < Wa.heap.size := (Array.getElem?_eq_some_iff.1 hla).1
      refine ⟨_, run_beginRound hla rfl, ?_⟩
      have hlb : (Wa.putObj (w.heap.size + 1) (.loop { rec0 with state := .busy })).heap[w.heap.size + 1]? = some (.loop { rec0 with state := .busy }) := World.putObj_heap_same hsa
      have hdb : (Wa.putObj (w.heap.size + 1) (.loop { rec0 with state := .busy })).heap[w.heap.size]? = some (.deferred (some [])) := (World.putObj_heap_other (by omega)).trans hda
      have hsb : w.heap.size + 2 ≤ (Wa.putObj (w.heap.size + 1) (.loop { rec0 with state := .busy })).heap.size := by simp [World.putObj]; omega
      refine wpIn_mono (hbody _ pre x a' _ (hI.putObj _ hia (by omega) hla rfl) ((hAx x a').putObj (s := ()) _ hax (by omega) hla rfl) hsb hlen) ?_
      rintro e a3 W3 ⟨rfl, k3, c3, i3⟩
      have hl3 := k3.same _ _ (by omega) hlb rfl
      have hd3 := k3.same _ _ (Nat.le_refl _) hdb rfl
      have hs3 : w.heap.size + 1 < W3.heap.size := (Array.getElem?_eq_some_iff.1 hl3).1
      have hr3 := run_endRound (P := P) none hl3
      refine ⟨_, _, hr3, rfl, ⟨hI.putObj _ i3 (by omega) hl3 rfl, by simp [World.putObj]; omega, World.putObj_heap_same hs3, (World.putObj_heap_other (by omega)).trans hd3⟩, hKt kc (hKt (hKb _ _ hsa) (hKt c3 (hKb _ _ hs3)))⟩
    · rintro e W2 ⟨⟨v, rfl⟩, xs, hS, hi, hs2, hl, hd⟩
      exact ⟨none, _, run_endLoop (P := P) hl (by simp [rec0]), hdone _ xs _ (Nat.le_refl _) hS (hI.putObj _ hi (by omega) hl rfl) ((World.putObj_heap_other (by omega)).trans hd)⟩
end Go.Proofs.YtenaliaefbkbcaaGreat.Li
namespace Go.Proofs.YtenaliaefbkbcaaGreat.Li
open Go Go.RowKit Go.Shelf
set_option linter.unusedSimpArgs false
set_option linter.unusedVariables false
attribute [local go_sem] Oper.semAt_some
theorem abides_below' {α : Type} {B : Nat} {J : List α → World → Prop} (h : AbidesFrom B J) {s : List α} {W W' : World} (hj : J s W) (hb : Below W.heap.size W W') : J s W' := h s W W' none hj ⟨hb.os, hb.tape, hb.output, hb.size, fun k hk _ => hb.block k hk⟩ (fun r e => by cases e)
set_option maxRecDepth 100000 in
set_option maxHeartbeats 2000000 in
theorem each_in (n : Nat) (hn : 1 ≤ n) (l eb n₀ kb F c : Nat) (ts : List ByteArray) (hl : ts.length ≤ 900) (J Jx : List ByteArray → World → Prop)
    (hY : ∀ pre x W, J pre W → pre.length < ts.length → YieldAt Fence.wide (n - 1) Tryz.prog l #[mv x] W fun e W' =>
      (e = .returned (.bool true) ∧ J (pre ++ [x]) W' ∧ Kq n₀ eb eb W W') ∨ (e = .returned (.bool false) ∧ Jx (pre ++ [x]) W'))
    (W : World) (hA : AbidesFrom W.heap.size J) (hs : W.heap[eb]? = some (.cells #[.pointer (some ⟨kb, 0, none⟩)] 57))
    (a : Option Addr) (hf : W.cell? ⟨kb, 0, none⟩ = some (.slice a ts.length c)) (ha : 0 < ts.length → a = some ⟨F, 0, none⟩ ∧ F < n₀) (h0n : n₀ ≤ W.heap.size) (hcell : ∀ i (hi : i < ts.length), ∀ j u, j < 4 → (mc ts[i])[j]? = some u → W.cell? ⟨F, i * 4 + j, none⟩ = some u) (h0 : J [] W) :
    CallsIn Fence.wide n Tryz.prog 92 #[.func (.yield l) #[] #[], .pointer (some ⟨eb, 0, none⟩)] W fun e W' => (∃ v, e = .returned v) ∧ (J ts W' ∨ (∃ pre, Jx pre W')) := by
  have s0 := box_cells hs 0 _ rfl
  refine callsIn_of_wp Tryz.func92 rfl trivial ?_ rfl
  simp only [Tryz.ntmps92, List.size_toArray, List.length_cons, List.length_nil, Nat.reduceAdd, Nat.reduceSub, Array.replicate_succ, Array.replicate_zero, List.push_toArray, List.append_toArray, List.nil_append, List.cons_append]
  obtain ⟨len, hlen⟩ : ∃ len, len = ts.length := ⟨_, rfl⟩
  rw [← hlen] at hf
  have HL : Hid (len = ts.length) := hlen
  have HAF := hidi ha
  have HC := hidi (And.intro hcell hl)
  have HS := hidi hs
  clear hcell hl hlen ha
  gi_wp2
  gi_loopw [10] (fun i wr => ∃ k m : Nat, k + m = len ∧ i = .int .i64 (k : Int) ∧ Hid (J (ts.take k) wr ∧ Kq n₀ eb eb W wr))
    (fun i _ => ((len : Int) - intOf i).toNat)
  case atStart => exact ⟨0, len, by omega, rfl, h0, Kq.refl _ _ _ _⟩
  case round =>
    obtain ⟨k, m, hk, rfl, HJ⟩ := hrel
    cases m with
    | zero =>
      obtain rfl : k = len := by omega
      have hq : ¬ (k : Int) < (k : Int) := by omega
      have e1 : ts.take k = ts := by rw [HL.out]; exact List.take_length
      have HJ2 := HJ.out.1
      rw [e1] at HJ2
      gi_wp2
      refine bodyPost_end (results_none rfl _ _ _) rfl ?_
      exact ⟨⟨_, rfl⟩, .inl HJ2⟩
    | succ q =>
      have hq1 : (k : Int) < len := by omega
      have hk0 : (0 : Int) ≤ (k : Int) := by omega
      have hkl : k < ts.length := by rw [← HL.out]; omega
      obtain ⟨haF, hF⟩ := HAF.out (by omega)
      subst haF
      have hw1 : IntKind.i64.wrap ((k : Int) + 1) = (k : Int) + 1 := by rw [IntKind.wrap_i64]; have := HC.out.2; have := HL.out; omega
      obtain ⟨x, hx⟩ : ∃ x, x = ts[k] := ⟨_, rfl⟩
      have d0 := (HJ.out.2.bel.cell (p := ⟨F, k * 4, none⟩) hF).trans (HC.out.1 k hkl 0 _ (by omega) rfl)
      have d1 := (HJ.out.2.bel.cell (p := ⟨F, k * 4 + 1, none⟩) hF).trans (HC.out.1 k hkl 1 _ (by omega) rfl)
      have d2 := (HJ.out.2.bel.cell (p := ⟨F, k * 4 + 2, none⟩) hF).trans (HC.out.1 k hkl 2 _ (by omega) rfl)
      have d3 := (HJ.out.2.bel.cell (p := ⟨F, k * 4 + 3, none⟩) hF).trans (HC.out.1 k hkl 3 _ (by omega) rfl)
      rw [← hx] at d0
      have b1 : Below wr.heap.size wr (wr.alloc (.cells #[.string x, .slice none 0 0, .int .i64 0, .bool false] 30)) := (Below.refl wr.heap.size wr).alloc (Nat.le_refl _) _
      have hsb : eb < wr.heap.size := (Array.getElem?_eq_some_iff.1 (HJ.out.2.s.trans HS.out)).1
      have H0 := hidi (Nat.le_trans h0n HJ.out.2.bel.size)
      have HT : Hid (ts.take (k + 1) = ts.take k ++ [x]) := by show _ = _; rw [List.take_add_one, List.getElem?_eq_getElem hkl, hx]; rfl
      have hpl : (ts.take k).length < ts.length := by rw [List.length_take]; omega
      have JB := hidi (And.intro (abides_below' hA HJ.out.1 b1) (Kq.below b1 H0.out hsb hsb))
      clear b1 hx
      obtain ⟨fn, tmps, assign, body, hy, hR⟩ := hY _ x (wr.alloc (.cells #[.string x, .slice none 0 0, .int .i64 0, .bool false] 30)) JB.out.1 hpl
      unfold mv at hy
      gi_wp2
      refine hR.mono ?_
      rintro e W3 (⟨rfl, hJ3, hk3⟩ | ⟨rfl, hJx3⟩)
      · have H3 := hidi (And.intro hJ3 hk3)
        clear hJ3 hk3
        gi_wp2
        go_roundw
        case rel => exact ⟨k + 1, q, by omega, by simp, by rw [HT.out]; exact H3.out.1, (HJ.out.2.trans JB.out.2).trans H3.out.2⟩
        case measure => simp [intOf]; omega
      · have H3 := hidi hJx3
        clear hJx3
        gi_wp2
        (try simp only [Exit.inBlock, Exit.then, Exit.noGoto])
        refine bodyPost_ret (results_none rfl _ _ _) rfl ?_
        exact ⟨⟨_, rfl⟩, .inr ⟨_, H3.out⟩⟩
end Go.Proofs.YtenaliaefbkbcaaGreat.Li
