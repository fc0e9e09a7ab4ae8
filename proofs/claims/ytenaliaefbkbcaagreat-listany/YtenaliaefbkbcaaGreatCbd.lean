import Derived.Test.YtenaliaefbkbcaaGreatUc
import Derived.Test.YtenaliaefbkbcaaGreatNc
import Derived.Test.YtenaliaefbkbcaaGreatRa
namespace Go.Proofs.YtenaliaefbkbcaaGreat.Li
open Go Go.RowKit Go.Maps
set_option linter.unusedSimpArgs false
set_option linter.unusedVariables false
theorem shE_epv (es : List En) : ∀ x ∈ es.map epv, ShE x.2 := fun x hx => by
  obtain ⟨y, -, rfl⟩ := List.mem_map.1 hx
  exact ⟨y.2, rfl⟩
set_option maxRecDepth 100000 in
set_option maxHeartbeats 4000000 in
/-- The last of several entries is forgotten. -/
theorem forget_more {B : Nat} {w : World} {sb : Nat} {v : Value} {L : List Fl} (h : SL B w sb v L) {i : Nat} {x : Fl} (hi : L[i]? = some x) {es0 : List En} {e : En} (he : x.es = es0 ++ [e]) (hne : 0 < es0.length) (hm : es0.length ≤ 900000) (hB : B ≤ w.heap.size) :
    Calls Tryz.prog 38 #[.pointer (some ⟨sb, 0, none⟩), .int .i64 (i : Int), .int .i64 (es0.length : Int)] w fun r w' => r = .returned (.tuple #[]) ∧ ∃ u, SL B w' sb v (L.set i ⟨x.f, es0, u⟩) ∧ KQ sb w w' v L v (L.set i ⟨x.f, es0, u⟩) := by
  obtain ⟨F, c, fc, hv, hF, hc, hle, -⟩ := h.row hi
  have hil : i < L.length := (List.getElem?_eq_some_iff.1 hi).1
  have hxs := h.es x (List.mem_of_getElem? hi)
  rw [he] at hxs
  obtain ⟨m, hmd⟩ : ∃ m, m = es0.length := ⟨_, rfl⟩
  have hml : ((es0 ++ [e]).map epv).length = m + 1 := by simp [hmd]
  rw [hml] at hxs
  obtain ⟨gx, cx, hvx, -, -⟩ := prow_cell (j := 0) (by rw [hml]; exact hxs) (by omega)
  rw [hml] at hvx
  rw [hvx] at hxs
  have hyl : ((es0 ++ [e]).map epv)[m]? = some (epv e) := by simp [hmd]
  have htk : ((es0 ++ [e]).map epv).take m = es0.map epv := by
    have : m = (es0.map epv).length := by simp [hmd]
    rw [List.map_append, this]
    simp
  have W1 := hidi (without62_last gx cx m w B _ _ hml (by omega) (by omega) hyl (shE_epv _) hB hxs)
  rw [htk] at W1
  have hFg : F ≠ gx := fun q => by
    obtain ⟨cu, hcu⟩ := own_lt hxs (g := gx) rfl
    rw [← q, hF] at hcu
    simp at hcu
  have ST := hidi (show ∀ w1, Ch (fun j => j = gx) w w1 → w1.heap[F]? = some (.cells fc 76 (0, 0)) from fun w1 hc1 => (hc1.block F (Array.getElem?_eq_some_iff.1 hF).1 hFg).trans hF)
  have FIN := hidi (show ∀ w1 v', Ch (fun j => j = gx) w w1 → w1.ownsRow B 44 2 v' m (prow (es0.map epv)) → (v'.ownBlock = some gx ∨ ∃ g', v'.ownBlock = some g' ∧ w.heap.size ≤ g') → ∃ u, SL B (w1.setCell ⟨F, i * 2 + 1, none⟩ v') sb v (L.set i ⟨x.f, es0, u⟩) ∧ KQ sb w (w1.setCell ⟨F, i * 2 + 1, none⟩ v') v L v (L.set i ⟨x.f, es0, u⟩) from fun w1 v' hc1 ho1 hn1 => by
    have hF1 := (hc1.block F (Array.getElem?_eq_some_iff.1 hF).1 hFg).trans hF
    refine ⟨v', h.putq (x' := ⟨x.f, es0, v'⟩) hi rfl hv ?_ ?_ ((hc1.mono (S' := fun j => j = F ∨ x.v.ownBlock = some j) (fun j _ q => .inr (by rw [hvx, q]; rfl))).trans (ch_set F _ _) (fun j _ q => .inl q)) ?_⟩
    · have hmm : (L.map fpv)[i]? = some (fpv x) := by rw [List.getElem?_map, hi]; rfl
      have ho := h.own
      rw [hv] at ho ⊢
      have e1 : L.length = (L.map fpv).length := by simp
      rw [e1] at ho ⊢
      exact own_set2 ho hmm hF (heap_set hF1 v')
    · have e1 : (es0.map epv).length = m := by simp [hmd]
      show (w1.setCell ⟨F, i * 2 + 1, none⟩ v').ownsRow B 44 2 v' (es0.map epv).length _
      rw [e1]
      exact own_ch ho1 (ch_set F _ _) (fun g hg q => by
        obtain ⟨cu, hcu⟩ := own_lt ho1 hg
        rw [q, hF1] at hcu
        simp at hcu)
    · rcases hn1 with q | ⟨g', q1, q2⟩
      · exact .inl (by rw [hvx, q]; rfl)
      · exact .inr ⟨g', q1, q2⟩)
  have cs0 : w.cell? ⟨sb, 0, none⟩ = some (.slice (some ⟨F, 0, none⟩) L.length c) := by have := box_cells h.at_ 0 v rfl; rw [this, hv]
  have cx0 : w.cell? ⟨F, i * 2 + 1, none⟩ = some (.slice (some ⟨gx, 0, none⟩) (m + 1) cx) := by rw [← hvx]; exact box_cells hF _ _ hc
  obtain ⟨n, hn⟩ : ∃ n, n = L.length := ⟨_, rfl⟩
  rw [← hn] at cs0
  have hi2 : (i : Int) < (n : Int) := by omega
  have hi3 : (0 : Int) ≤ (i : Int) := by omega
  have hmz : ((m : Int) == 0) = false := by
    have : ¬ (m : Int) = 0 := by omega
    simpa using this
  rw [← hmd]
  have HC := hidi hc
  clear h hi hv hF hc hle hil hxs he hml hyl htk hFg hne hm hB hn hmd hvx
  go_enter Tryz.func38, Tryz.ntmps38
  go_wp2_with fail
  go_must (go_at_call 62)
  refine W1.out.mono ?_
  rintro r w1 ⟨v', rfl, ho1, hc1, hn1⟩
  have hF1 := ST.out w1 hc1
  have H9 := hidi (FIN.out w1 v' hc1 ho1 hn1)
  obtain ⟨a', c', rfl⟩ := own_sl ho1
  have d2 := box_cells hF1 _ _ HC.out
  have d3 := box_frozen hF1 (i * 2 + 1)
  have s2 := cell_self (u := .slice a' m c') d2
  clear ho1 hc1 hn1 hF1 cs0 cx0 W1 ST FIN
  go_wp2_with fail
  go_end0
  exact ⟨rfl, H9.out⟩
/-- A row of filters without its last one. -/
theorem without63_end (g c n : Nat) (w : World) (B : Nat) (L : List PV) (hL : L.length = n + 1) (hn2 : n ≤ 1000000) (hsh : ∀ x ∈ L, ShK x.2) (hB : B ≤ w.heap.size) (ho : w.ownsRow B 76 2 (.slice (some ⟨g, 0, none⟩) (n + 1) c) (n + 1) (prow L)) :
    Calls Tryz.prog 63 #[.slice (some ⟨g, 0, none⟩) (n + 1) c, .int .i64 (n : Int)] w fun e w' => ∃ v', e = .returned v' ∧ w'.ownsRow B 76 2 v' n (prow (L.take n)) ∧ Ch (fun j => j = g) w w' ∧ (v'.ownBlock = none ∨ v'.ownBlock = some g ∨ ∃ g', v'.ownBlock = some g' ∧ w.heap.size ≤ g') := by
  cases n with
  | zero =>
    obtain ⟨x, rfl⟩ : ∃ x, L = [x] := by
      cases L with
      | nil => simp at hL
      | cons x r =>
        cases r with
        | nil => exact ⟨x, rfl⟩
        | cons y r => simp at hL
    refine (without63_zero g c w B x (hsh x (by simp)) ho).mono ?_
    rintro e w' ⟨rfl, hc⟩
    exact ⟨_, rfl, World.ownsRow_nil _ _ _ _, hc, .inl rfl⟩
  | succ m =>
    refine (without63_last g c (m + 1) w B L _ hL (by omega) hn2 (List.getElem?_eq_getElem (by omega)) hsh hB ho).mono ?_
    rintro e w' ⟨v', rfl, h1, h2, h3⟩
    exact ⟨v', rfl, h1, h2, .inr h3⟩
set_option maxRecDepth 100000 in
set_option maxHeartbeats 4000000 in
/-- The one entry of the last filter is forgotten, and with it the filter. -/
theorem forget_last {B : Nat} {w : World} {sb : Nat} {v : Value} {L0 : List Fl} {x : Fl} (h : SL B w sb v (L0 ++ [x])) {e : En} (he : x.es = [e]) (hm : L0.length ≤ 900000) (hB : B ≤ w.heap.size) :
    Calls Tryz.prog 38 #[.pointer (some ⟨sb, 0, none⟩), .int .i64 (L0.length : Int), .int .i64 0] w fun r w' => r = .returned (.tuple #[]) ∧ ∃ v', SL B w' sb v' L0 ∧ KQ sb w w' v (L0 ++ [x]) v' L0 := by
  obtain ⟨n, hnd⟩ : ∃ n, n = L0.length := ⟨_, rfl⟩
  have hxi : (L0 ++ [x])[n]? = some x := by simp [hnd]
  have hL : (L0 ++ [x]).length = n + 1 := by simp [hnd]
  obtain ⟨F, c, fc, hv, hF, hc, hle, -⟩ := h.row hxi
  have hxs := h.es x (by simp)
  rw [he] at hxs
  have hx1 : w.ownsRow B 44 2 x.v 1 (prow [epv e]) := hxs
  obtain ⟨gx, cx, hvx, -, -⟩ := prow_cell hxs (j := 0) (by simp)
  have hvx' : x.v = .slice (some ⟨gx, 0, none⟩) 1 cx := hvx
  rw [hvx'] at hx1
  have W1 := hidi (without62_one gx cx w B e hx1)
  have hFg : F ≠ gx := fun q => by
    obtain ⟨cu, hcu⟩ := own_lt hx1 (g := gx) rfl
    rw [← q, hF] at hcu
    simp at hcu
  have hsbF : sb ≠ F ∧ sb ≠ gx := by
    refine ⟨fun q => ?_, fun q => ?_⟩
    · have := h.at_; rw [q, hF] at this; simp at this
    · obtain ⟨cu, hcu⟩ := own_lt hx1 (g := gx) rfl
      have := h.at_; rw [q, hcu] at this; simp at this
  have hml : ((L0 ++ [x]).map fpv).length = n + 1 := by simp [hnd]
  have hv2 : v = .slice (some ⟨F, 0, none⟩) (n + 1) c := by rw [hv, hL]
  have hvo : v.ownBlock = some F := by rw [hv2]; rfl
  have ST := hidi (show ∀ w1, Ch (fun j => j = gx) w w1 → w1.cell? ⟨sb, 0, none⟩ = some (.slice (some ⟨F, 0, none⟩) (n + 1) c) ∧ w1.cell? ⟨F, n * 2 + 1, none⟩ = some x.v ∧ w1.frozen? ⟨F, n * 2 + 1, none⟩ = false ∧ (w1.setCell ⟨F, n * 2 + 1, none⟩ (.slice none 0 0)).cell? ⟨sb, 0, none⟩ = some (.slice (some ⟨F, 0, none⟩) (n + 1) c) ∧ (w1.setCell ⟨F, n * 2 + 1, none⟩ (.slice none 0 0)).ownsRow B 76 2 (.slice (some ⟨F, 0, none⟩) (n + 1) c) (n + 1) (prow (((L0 ++ [x]).map fpv).set n (x.f, .slice none 0 0))) ∧ Ch (fun j => j = gx ∨ j = F) w (w1.setCell ⟨F, n * 2 + 1, none⟩ (.slice none 0 0)) from fun w1 hc1 => by
    have a1 : w1.heap[sb]? = some (.cells #[v] 71 (0, 0)) := (hc1.block sb h.lt hsbF.2).trans h.at_
    have a2 : w1.heap[F]? = some (.cells fc 76 (0, 0)) := (hc1.block F (Array.getElem?_eq_some_iff.1 hF).1 hFg).trans hF
    have c1 : w1.cell? ⟨sb, 0, none⟩ = some (.slice (some ⟨F, 0, none⟩) (n + 1) c) := by rw [← hv2]; exact box_cells a1 0 v rfl
    have o1 : w1.ownsRow B 76 2 v ((L0 ++ [x]).map fpv).length (prow ((L0 ++ [x]).map fpv)) := own_ch h.own hc1 (fun g hg q => by rw [hvo] at hg; cases hg; exact hFg q)
    refine ⟨c1, box_cells a2 _ _ hc, box_frozen a2 _, ?_, ?_, (hc1.mono (fun j _ q => .inl q)).trans (ch_set F _ _) (fun j _ q => .inr q)⟩
    · rw [← c1]
      unfold World.cell?
      simp only [heap_set_ne _ hsbF.1]
    · have hmm : ((L0 ++ [x]).map fpv)[n]? = some (fpv x) := by rw [List.getElem?_map, hxi]; rfl
      rw [hv2, hml] at o1
      have o2 : w1.ownsRow B 76 2 (.slice (some ⟨F, 0, none⟩) ((L0 ++ [x]).map fpv).length c) ((L0 ++ [x]).map fpv).length (prow ((L0 ++ [x]).map fpv)) := by rw [hml]; exact o1
      have := own_set o2 hmm (.slice none 0 0)
      rw [hml] at this
      exact this)
  have hsl : ∀ u ∈ ((L0 ++ [x]).map fpv).set n (x.f, .slice none 0 0), ShK u.2 := fun u hu => by
    rcases List.mem_or_eq_of_mem_set hu with z | z
    · obtain ⟨l, hl, rfl⟩ := List.mem_map.1 z
      obtain ⟨a, d, hd⟩ := own_sl (h.es l hl)
      exact ⟨_, _, _, hd⟩
    · exact ⟨_, _, _, by rw [z]⟩
  have htk : (((L0 ++ [x]).map fpv).set n (x.f, .slice none 0 0)).take n = L0.map fpv := by
    have e1 : n = (L0.map fpv).length := by simp [hnd]
    rw [List.map_append, e1, List.set_append_right _ _ (Nat.le_refl _)]
    simp
  have WW := hidi (fun (w1 : World) (hs : B ≤ w1.heap.size) (ho : w1.ownsRow B 76 2 (.slice (some ⟨F, 0, none⟩) (n + 1) c) (n + 1) (prow (((L0 ++ [x]).map fpv).set n (x.f, .slice none 0 0)))) => without63_end F c n w1 B _ (by rw [List.length_set, hml]) (by omega) hsl hs ho)
  rw [htk] at WW
  have HH := hidi (And.intro h (And.intro hvx' (And.intro hvo (And.intro hsbF (And.intro hFg (And.intro hF hxi))))))
  have HBB := hidi hB
  have cs0 : w.cell? ⟨sb, 0, none⟩ = some (.slice (some ⟨F, 0, none⟩) (n + 1) c) := by have := box_cells h.at_ 0 v rfl; rw [this, hv2]
  have cx0 : w.cell? ⟨F, n * 2 + 1, none⟩ = some (.slice (some ⟨gx, 0, none⟩) 1 cx) := by rw [← hvx']; exact box_cells hF _ _ hc
  have hi2 : (n : Int) < (n : Int) + 1 := by omega
  have hi3 : (0 : Int) ≤ (n : Int) := by omega
  have HND := hidi hnd
  rw [← hnd]
  clear h hL hxi he hB hF hc hle hxs hx1 hvx hFg hsbF hml hsl htk hv hv2 hvo hm hnd
  go_enter Tryz.func38, Tryz.ntmps38
  go_wp2_with fail
  go_must (go_at_call 62)
  refine W1.out.mono ?_
  rintro r w1 ⟨rfl, hc1⟩
  obtain ⟨d1, d2, d3, d4, d5, d6⟩ := ST.out w1 hc1
  have W6 := hidi (WW.out _ (Nat.le_trans HBB.out d6.size) d5)
  have H6 := hidi d6
  rw [hvx'] at d2
  have s2 := cell_self (u := .slice none 0 0) d2
  clear hc1 d5 d6 cs0 cx0 WW ST W1 hvx'
  obtain ⟨w2, hw2⟩ : ∃ w2, w2 = w1.setCell ⟨F, n * 2 + 1, none⟩ (.slice none 0 0) := ⟨_, rfl⟩
  have hz : ((0 : Int) == 0) = true := by decide
  go_wp2_with fail
  go_must (go_at_call 63)
  refine W6.out.mono ?_
  rintro r w3 ⟨v', rfl, ho3, hc3, hn3⟩
  rw [← hw2] at hc3 H6 d4 hn3
  obtain ⟨a', c', hv'⟩ := own_sl ho3
  subst hv'
  have hsb2 : w2.heap[sb]? = some (.cells #[v] 71 (0, 0)) := (H6.out.block sb HH.out.1.lt (fun q => q.elim HH.out.2.2.2.1.2 HH.out.2.2.2.1.1)).trans HH.out.1.at_
  have hsb3 : w3.heap[sb]? = some (.cells #[v] 71 (0, 0)) := (hc3.block sb (Array.getElem?_eq_some_iff.1 hsb2).1 HH.out.2.2.2.1.1).trans hsb2
  have g1 := box_cells hsb3 0 v rfl
  have g2 := box_frozen hsb3 0
  have HZ := hidi (And.intro ho3 (And.intro hc3 (And.intro hsb3 hn3)))
  clear ho3 hc3 hsb2 hsb3 hn3
  go_wp2_with fail
  go_end0
  obtain ⟨h, hvx', hvo, hsbF, hFg, hF, hxi⟩ := HH.out
  obtain ⟨ho3, hc3, hsb3, hn3⟩ := HZ.out
  have hL : (L0 ++ [x]).length = n + 1 := by simp [HND.out]
  have hn1 : ∀ z ∈ L0, ∀ g, z.v.ownBlock = some g → g ≠ gx ∧ g ≠ F ∧ g ≠ sb := fun z hz g hg => by
    obtain ⟨j, hj⟩ := List.mem_iff_getElem?.1 hz
    have hjl : j < L0.length := (List.getElem?_eq_some_iff.1 hj).1
    have h1 : (L0 ++ [x])[j]? = some z := by rw [List.getElem?_append_left hjl]; exact hj
    obtain ⟨cu, hcu⟩ := own_lt (h.es z (List.mem_of_getElem? h1)) hg
    refine ⟨fun q => ?_, fun q => ?_, fun q => ?_⟩
    · exact h.nb j n z x h1 hxi (by have := HND.out; omega) g hg (by rw [hvx', q]; rfl)
    · rw [q, hF] at hcu
      simp at hcu
    · rw [q, h.at_] at hcu
      simp at hcu
  refine ⟨rfl, .slice a' n c', ⟨heap_set hsb3 _, ?_, fun z hz => ?_, fun i j za zb hi hj hij => ?_, h.ge⟩, ?_, ?_⟩
  · have hlen : (L0.map fpv).length = n := by simp [HND.out]
    rw [hlen]
    refine own_ch ho3 (ch_set sb 0 _) (fun g hg q => ?_)
    obtain ⟨cu, hcu⟩ := own_lt ho3 hg
    rw [q, hsb3] at hcu
    simp at hcu
  · exact own_ch (own_ch (own_ch (h.es z (by simp [hz])) H6.out (fun g hg q => q.elim (hn1 z hz g hg).1 (hn1 z hz g hg).2.1)) hc3 (fun g hg q => (hn1 z hz g hg).2.1 q)) (ch_set sb 0 _) (fun g hg q => (hn1 z hz g hg).2.2 q)
  · have k1 : (L0 ++ [x])[i]? = some za := by rw [List.getElem?_append_left (List.getElem?_eq_some_iff.1 hi).1]; exact hi
    have k2 : (L0 ++ [x])[j]? = some zb := by rw [List.getElem?_append_left (List.getElem?_eq_some_iff.1 hj).1]; exact hj
    exact h.nb i j za zb k1 k2 hij
  · refine ((H6.out.trans hc3 (fun j _ q => .inr q)).mono (S' := LB sb v (L0 ++ [x])) (fun j _ q => ?_)).trans (ch_set sb 0 _) (fun j _ q => .inl q)
    rcases q with rfl | rfl
    · exact .inr (.inr ⟨x, by simp, by rw [hvx']; rfl⟩)
    · exact .inr (.inl hvo)
  · intro j q
    rcases q with q | q | ⟨y, hy, q⟩
    · exact .inl (.inl q)
    · rcases hn3 with z | z | ⟨g', z1, z2⟩
      · rw [z] at q; cases q
      · rw [z] at q; cases q; exact .inl (.inr (.inl hvo))
      · rw [q] at z1
        cases z1
        exact .inr (Nat.le_trans H6.out.size z2)
    · exact .inl (.inr (.inr ⟨y, by simp [hy], q⟩))
/-! ### Drop -/
theorem pos_end {L : List ByteArray} {k : ByteArray} (h : k ∉ L) : pos (L ++ [k]) k = some L.length := by
  induction L with
  | nil => simp [pos]
  | cons x r ih =>
    have hx : ¬ x = k := fun q => h (by simp [q])
    simp only [List.cons_append, pos, if_neg hx, ih (fun q => h (by simp [q]))]
    simp
set_option maxRecDepth 100000 in
set_option maxHeartbeats 2000000 in
theorem drop_nofilter {B : Nat} {w : World} {sb : Nat} {v : Value} {L : List Fl} (h : SL B w sb v L) (f k : ByteArray) (hL : L.length ≤ 900000) (hf : pos ((L.map Fl.p).map (·.1)) f = none) :
    Calls Tryz.prog 15 #[.pointer (some ⟨sb, 0, none⟩), .string f, .string k] w fun r w' => r = .returned (.bool false) ∧ w' = w := by
  have PL := hidi (place29_any (box_cells h.at_ 0 v rfl) h.own (by simp; omega) f)
  have hix : ix (L.map fpv) f = none := by rw [ix_pos, List.map_map]; rw [List.map_map] at hf; exact hf
  rw [ixI_none hix] at PL
  clear h hL hf hix
  go_enter Tryz.func15, Tryz.ntmps15
  go_wp2_with (go_at_call 29; refine PL.out.mono ?_; rintro e w' ⟨rfl, he⟩; obtain rfl := he.symm; clear he)
  go_ret
  exact ⟨rfl, rfl⟩
set_option maxRecDepth 100000 in
set_option maxHeartbeats 2000000 in
theorem drop_nokey {B : Nat} {w : World} {sb : Nat} {v : Value} {L : List Fl} (h : SL B w sb v L) (f k : ByteArray) (hL : L.length ≤ 900000) (hM : ∀ x ∈ L, x.es.length ≤ 900000) {i : Nat} {x : Fl} (hf : pos ((L.map Fl.p).map (·.1)) f = some i) (hx : L[i]? = some x) (hk : pos (x.es.map (·.1)) k = none) :
    Calls Tryz.prog 15 #[.pointer (some ⟨sb, 0, none⟩), .string f, .string k] w fun r w' => r = .returned (.bool false) ∧ w' = w := by
  have PL := hidi (place29_any (box_cells h.at_ 0 v rfl) h.own (by simp; omega) f)
  have hix : ix (L.map fpv) f = some i := by rw [ix_pos, List.map_map]; rw [List.map_map] at hf; exact hf
  rw [ixI_some hix] at PL
  obtain ⟨F, c, fc, hv, hF, hc, hle, -⟩ := h.row hx
  have hxm := hM x (List.mem_of_getElem? hx)
  have PK := hidi (place37_any (o := i * 2) (box_cells hF (i * 2 + 1) _ hc) (h.es x (List.mem_of_getElem? hx)) (by simp; omega) k)
  have hik : ix (x.es.map epv) k = none := by rw [ix_pos, List.map_map]; exact hk
  rw [ixI_none hik] at PK
  have cs0 : w.cell? ⟨sb, 0, none⟩ = some (.slice (some ⟨F, 0, none⟩) L.length c) := by have := box_cells h.at_ 0 v rfl; rw [this, hv]
  have hil : i < L.length := (List.getElem?_eq_some_iff.1 hx).1
  obtain ⟨n, hn⟩ : ∃ n, n = L.length := ⟨_, rfl⟩
  rw [← hn] at cs0
  have hi2 : (i : Int) < (n : Int) := by omega
  have hi3 : (0 : Int) ≤ (i : Int) := by omega
  have hi4 : ¬ (i : Int) < 0 := by omega
  clear h hL hf hix hM hx hk hv hF hc hle hxm hik hil hn
  go_enter Tryz.func15, Tryz.ntmps15
  go_wp2_with (first | (go_at_call 29; refine PL.out.mono ?_; rintro e w' ⟨rfl, he⟩; obtain rfl := he.symm; clear he) | (go_at_call 37; refine PK.out.mono ?_; rintro e w' ⟨rfl, he⟩; obtain rfl := he.symm; clear he))
  go_ret
  exact ⟨rfl, rfl⟩
set_option maxRecDepth 100000 in
set_option maxHeartbeats 2000000 in
theorem drop_yes {B : Nat} {w : World} {sb : Nat} {v : Value} {L : List Fl} (h : SL B w sb v L) (f k : ByteArray) (hL : L.length ≤ 900000) (hM : ∀ x ∈ L, x.es.length ≤ 900000) {i j : Nat} {x : Fl} (hf : pos ((L.map Fl.p).map (·.1)) f = some i) (hx : L[i]? = some x) (hk : pos (x.es.map (·.1)) k = some j) {R : World → Prop} (hfg : Calls Tryz.prog 38 #[.pointer (some ⟨sb, 0, none⟩), .int .i64 (i : Int), .int .i64 (j : Int)] w fun r w' => r = .returned (.tuple #[]) ∧ R w') :
    Calls Tryz.prog 15 #[.pointer (some ⟨sb, 0, none⟩), .string f, .string k] w fun r w' => r = .returned (.bool true) ∧ R w' := by
  have PL := hidi (place29_any (box_cells h.at_ 0 v rfl) h.own (by simp; omega) f)
  have hix : ix (L.map fpv) f = some i := by rw [ix_pos, List.map_map]; rw [List.map_map] at hf; exact hf
  rw [ixI_some hix] at PL
  obtain ⟨F, c, fc, hv, hF, hc, hle, -⟩ := h.row hx
  have hxm := hM x (List.mem_of_getElem? hx)
  have PK := hidi (place37_any (o := i * 2) (box_cells hF (i * 2 + 1) _ hc) (h.es x (List.mem_of_getElem? hx)) (by simp; omega) k)
  have hik : ix (x.es.map epv) k = some j := by rw [ix_pos, List.map_map]; exact hk
  rw [ixI_some hik] at PK
  have cs0 : w.cell? ⟨sb, 0, none⟩ = some (.slice (some ⟨F, 0, none⟩) L.length c) := by have := box_cells h.at_ 0 v rfl; rw [this, hv]
  have hil : i < L.length := (List.getElem?_eq_some_iff.1 hx).1
  obtain ⟨n, hn⟩ : ∃ n, n = L.length := ⟨_, rfl⟩
  rw [← hn] at cs0
  have hi2 : (i : Int) < (n : Int) := by omega
  have hi3 : (0 : Int) ≤ (i : Int) := by omega
  have hi4 : ¬ (i : Int) < 0 := by omega
  have hi5 : ¬ (j : Int) < 0 := by omega
  have HG := hidi hfg
  clear h hL hf hix hM hx hk hv hF hc hle hxm hik hil hn hfg
  go_enter Tryz.func15, Tryz.ntmps15
  go_wp2_with (first | (go_at_call 29; refine PL.out.mono ?_; rintro e w' ⟨rfl, he⟩; obtain rfl := he.symm; clear he) | (go_at_call 37; refine PK.out.mono ?_; rintro e w' ⟨rfl, he⟩; obtain rfl := he.symm; clear he) | (go_at_call 38; refine HG.out.mono ?_; rintro e w9 ⟨rfl, he⟩; have H9 := hidi he; clear he))
  go_ret
  exact ⟨rfl, H9.out⟩
/-- What was laid down anew is dropped: all stands as it stood. -/
theorem drop_back {B : Nat} {w : World} {sb : Nat} {v : Value} {L : List Fl} {P : List Fp} (h : SL B w sb v L) {f k : ByteArray} {q : Int} (hP : L.map Fl.p = (pPut P f k q).1) (hw : Wf P) (hno : ∀ o, ¬ Has P f k o) (hL : L.length ≤ 900000) (hM : ∀ x ∈ L, x.es.length ≤ 900000) (hB : B ≤ w.heap.size) :
    Calls Tryz.prog 15 #[.pointer (some ⟨sb, 0, none⟩), .string f, .string k] w fun r w' => r = .returned (.bool true) ∧ ∃ v' L', SL B w' sb v' L' ∧ L'.map Fl.p = P ∧ KQ sb w w' v L v' L' := by
  cases e : pos (P.map (·.1)) f with
  | none =>
    rw [put_none k q e] at hP
    simp only at hP
    obtain ⟨L0, L1, rfl, h0, h1⟩ := List.map_eq_append_iff.1 hP
    obtain ⟨x, L2, rfl, h2, h3⟩ := List.map_eq_cons_iff.1 h1
    simp only [List.map_eq_nil_iff] at h3
    subst h3
    simp only [Fl.p, Prod.mk.injEq] at h2
    obtain ⟨hxf, hxe⟩ := h2
    have hl0 : L0.length = P.length := by rw [← h0, List.length_map]
    have hfn := pos_none.1 e
    refine drop_yes h f k hL hM (i := L0.length) (j := 0) (x := x) ?_ (by simp) (by rw [hxe]; simp [pos]) (R := fun w' => ∃ v' L', SL B w' sb v' L' ∧ L'.map Fl.p = P ∧ KQ sb w w' v (L0 ++ [x]) v' L') ((forget_last h hxe (by simp at hL; omega) hB).mono ?_)
    · rw [hP, List.map_append, hl0]
      have := pos_end hfn
      simpa using this
    · rintro r w' ⟨rfl, v', h5, h6⟩
      exact ⟨rfl, v', L0, h5, h0, h6⟩
  | some i =>
    obtain ⟨es, hi⟩ := pos_pair e
    rw [put_some k q e hi] at hP
    simp only at hP
    have hkn : pos (es.map (·.1)) k = none := pos_none.2 (fun z => by
      obtain ⟨⟨k', o⟩, z1, z2⟩ := List.mem_map.1 z
      simp only at z2
      subst z2
      exact hno o ⟨es, List.mem_of_getElem? hi, z1⟩)
    rw [note_none q hkn] at hP
    simp only at hP
    have hil : i < P.length := (List.getElem?_eq_some_iff.1 hi).1
    have hli : i < L.length := by
      have := congrArg List.length hP
      simp at this
      omega
    obtain ⟨x, hx⟩ : ∃ x, L[i]? = some x := ⟨_, List.getElem?_eq_getElem hli⟩
    have hxp : x.p = (f, es ++ [(k, q)]) := by
      have := congrArg (fun l => l[i]?) hP
      simp only [List.getElem?_map, hx, List.getElem?_set_self hil, Option.map_some, Option.some.injEq] at this
      exact this
    simp only [Fl.p, Prod.mk.injEq] at hxp
    obtain ⟨hxf, hxe⟩ := hxp
    have hne := (hw.es _ (List.mem_of_getElem? hi)).2
    have hesl := hM x (List.mem_of_getElem? hx)
    rw [hxe] at hesl
    simp at hesl
    refine drop_yes h f k hL hM (i := i) (j := es.length) (x := x) ?_ hx ?_ (R := fun w' => ∃ v' L', SL B w' sb v' L' ∧ L'.map Fl.p = P ∧ KQ sb w w' v L v' L') ((forget_more h hx hxe (List.length_pos_iff.2 hne) (by omega) hB).mono ?_)
    · rw [hP, set_keys (pos_some e)]
      exact e
    · rw [hxe, List.map_append]
      have := pos_end (pos_none.1 hkn)
      simpa using this
    · rintro r w' ⟨rfl, u, h5, h6⟩
      refine ⟨rfl, v, _, h5, ?_, h6⟩
      rw [List.map_set, hP, List.set_set]
      apply List.ext_getElem?
      intro j
      rw [List.getElem?_set]
      split
      · rename_i z
        subst z
        first | rw [if_pos hil, hi, hxf.symm] | rw [hi, hxf.symm]
        rfl
      · rfl
theorem drop_none {B : Nat} {w : World} {sb : Nat} {v : Value} {L : List Fl} (h : SL B w sb v L) {f k : ByteArray} (hno : ∀ o, ¬ Has (L.map Fl.p) f k o) (hL : L.length ≤ 900000) (hM : ∀ x ∈ L, x.es.length ≤ 900000) :
    Calls Tryz.prog 15 #[.pointer (some ⟨sb, 0, none⟩), .string f, .string k] w fun r w' => r = .returned (.bool false) ∧ w' = w := by
  cases e : pos ((L.map Fl.p).map (·.1)) f with
  | none => exact drop_nofilter h f k hL e
  | some i =>
    obtain ⟨es, hi⟩ := pos_pair e
    rw [List.getElem?_map] at hi
    obtain ⟨x, hx, hxp⟩ := Option.map_eq_some_iff.1 hi
    simp only [Fl.p, Prod.mk.injEq] at hxp
    refine drop_nokey h f k hL hM e hx (pos_none.2 (fun z => ?_))
    obtain ⟨⟨k', o⟩, z1, z2⟩ := List.mem_map.1 z
    simp only at z2
    subst z2
    exact hno o ⟨es, List.mem_map.2 ⟨x, List.mem_of_getElem? hx, by rw [← hxp.1, ← hxp.2]; rfl⟩, by rw [← hxp.2]; exact z1⟩
end Go.Proofs.YtenaliaefbkbcaaGreat.Li
namespace Go.Proofs.YtenaliaefbkbcaaGreat
open Go Go.RowKit
set_option linter.unusedSimpArgs false
set_option linter.unusedVariables false

/-! ### Texts in topic's order -/
def cmpB (a b : ByteArray) : Int := cmpL (unB a) (unB b)
theorem cmpB_flip (a b : ByteArray) : cmpB b a = - cmpB a b := cmpL_flip _ _
theorem cmpB_zero {a b : ByteArray} (h : cmpB a b = 0) : a = b := by
  have := (cmpL_zero _ _).1 h
  rw [← mk_un a, ← mk_un b, this]
theorem cmpB_trans {a b c : ByteArray} (h : cmpB a b ≤ 0) (k : cmpB b c ≤ 0) : cmpB a c ≤ 0 := cmpL_trans _ _ _ h k
/-- In order. -/
theorem cmpB_self (a : ByteArray) : cmpB a a = 0 := by have := cmpB_flip a a; omega
/-! ### topic.Compare: it draws, and does nothing else to the world -/
def Dr (w w' : World) : Prop := ∃ q, w' = w.drewN q
theorem Dr.refl (w : World) : Dr w w := ⟨0, rfl⟩
theorem dr_drewN {w w' : World} (h : Dr w w') (n : Nat) : Dr w (w'.drewN n) := by
  obtain ⟨q, rfl⟩ := h
  exact ⟨q + n, by simp [World.drewN, Nat.add_assoc]⟩
set_option maxRecDepth 100000 in
set_option maxHeartbeats 1000000 in
theorem compare_le_dr (a b : ByteArray) (ha : a.size ≤ 1000000) (hb : b.size ≤ 1000000) (hm : ¬ b.size < a.size) (w : World) : Calls Tryz.prog 67 #[.string a, .string b] w fun e w' => e = .returned (.int .i64 (cmpL (unB a) (unB b))) ∧ Dr w w' := by
  have HA : Hid (a.size ≤ 1000000) := ha
  have HB : Hid (b.size ≤ 1000000) := hb
  obtain ⟨x, hx⟩ : ∃ x, x = cmpL (unB a) (unB b) := ⟨_, rfl⟩
  rw [← hx]
  have HX : Hid (x = cmpL (unB a) (unB b)) := hx
  have HM : Hid (a.size ≤ a.size ∧ a.size ≤ b.size ∧ a.size = min a.size b.size) := ⟨by omega, by omega, by omega⟩
  clear hx ha hb
  go_enter Tryz.func67, Tryz.ntmps67
  go_wp2_with fail
  clear hm
  go_loopg [11] a.size (fun g s11 wx => ∃ k : Nat, k ≤ a.size ∧ g = a.size - k ∧ s11 = .int .i64 k ∧ Hid (Dr w wx) ∧ Hid (∀ i, i < k → (unB a)[i]? = (unB b)[i]?))
  case atStart => exact ⟨0, Nat.zero_le _, rfl, rfl, Dr.refl _, fun i hi => absurd hi (Nat.not_lt_zero i)⟩
  case round =>
    obtain ⟨k, hk, rfl, rfl, B, HE⟩ := hrel
    by_cases hlt : k < a.size
    · have hlt' : (k : Int) < a.size := by omega
      have la : k < a.size := by have := HM.out; omega
      have lb : k < b.size := by have := HM.out; omega
      have la' : (k : Int) < a.size := by omega
      have lb' : (k : Int) < b.size := by omega
      have hw : IntKind.i64.wrap ((k : Int) + 1) = (k : Int) + 1 := by rw [IntKind.wrap_i64]; have := HA.out; omega
      obtain ⟨p, hp⟩ : ∃ p, a[k]'la = p := ⟨_, rfl⟩
      obtain ⟨q, hq⟩ : ∃ q, b[k]'lb = q := ⟨_, rfl⟩
      have HP : Hid ((unB a)[k]? = some p) := by show _ = _; rw [un_get a k la, hp]
      have HQ : Hid ((unB b)[k]? = some q) := by show _ = _; rw [un_get b k lb, hq]
      by_cases hpq : p = q
      · subst hpq
        have HE2 : Hid (∀ i, i < k + 1 → (unB a)[i]? = (unB b)[i]?) := fun i hi => by
          by_cases e : i = k
          · subst e; rw [HP.out, HQ.out]
          · exact HE.out i (by omega)
        have hne : ((p.toNat : Int) != (p.toNat : Int)) = false := by simp
        go_wp2
        go_quiet (fail)
        have hb1 : Dr w (wr.drewN nq) := dr_drewN B.out nq
        have B1 : Hid (Dr w (wr.drewN nq)) := hb1
        clear hb1
        go_wp2
        go_roundg (a.size - (k + 1))
        case measure => omega
        case rel => exact ⟨k + 1, by omega, by omega, by first | rfl | simp, B1, HE2⟩
      · have hne : ((p.toNat : Int) != (q.toNat : Int)) = true := by
          have : ¬ p.toNat = q.toNat := fun e => hpq (UInt8.toNat_inj.1 e)
          simp; omega
        have HR : Hid (x = sg (rk p) (rk q)) := by show _ = _; rw [HX.out]; exact cmpL_part _ _ k p q HE.out HP.out HQ.out hpq
        clear hpq
        go_wp2
        go_quiet (fail)
        obtain ⟨w1, hw1⟩ : ∃ w1, w1 = wr.drewN nq := ⟨_, rfl⟩
        have hb1 : Dr w (wr.drewN nq) := dr_drewN B.out nq
        rw [← hw1] at hb1 ⊢
        have B1 : Hid (Dr w w1) := hb1
        clear hw1 hb1 B
        go_wp2
        go_quiet (first | (go_at_call 89; exact Calls.quiet_of_same (rank_any _ _)) | (go_at_call 84; exact Calls.quiet_of_same (cmpInt_any _ _ _)))
        have hb2 : Dr w (w1.drewN nq) := dr_drewN B1.out nq
        have B2 : Hid (Dr w (w1.drewN nq)) := hb2
        clear hb2
        go_wp2
        go_ret
        exact ⟨by rw [HR.out]; rfl, B2.out⟩
    · obtain rfl : k = a.size := by omega
      have hlt' : ¬ (a.size : Int) < a.size := by omega
      have HR : Hid (x = sg a.size b.size) := by
        show _ = _
        have h1 := HM.out
        rw [HX.out, cmpL_len _ _ (fun i hi => HE.out i (by rw [un_size, un_size] at hi; omega)), un_size, un_size]
      go_wp2_with (go_at_call 84; refine (cmpInt_any _ _ _).mono ?_; rintro e w' ⟨rfl, hee⟩; obtain rfl := hee.symm; clear hee)
      go_ret
      exact ⟨by rw [HR.out]; rfl, B.out⟩
set_option maxRecDepth 100000 in
set_option maxHeartbeats 1000000 in
theorem compare_gt_dr (a b : ByteArray) (ha : a.size ≤ 1000000) (hb : b.size ≤ 1000000) (hm : b.size < a.size) (w : World) : Calls Tryz.prog 67 #[.string a, .string b] w fun e w' => e = .returned (.int .i64 (cmpL (unB a) (unB b))) ∧ Dr w w' := by
  have HA : Hid (a.size ≤ 1000000) := ha
  have HB : Hid (b.size ≤ 1000000) := hb
  obtain ⟨x, hx⟩ : ∃ x, x = cmpL (unB a) (unB b) := ⟨_, rfl⟩
  rw [← hx]
  have HX : Hid (x = cmpL (unB a) (unB b)) := hx
  have HM : Hid (b.size ≤ a.size ∧ b.size ≤ b.size ∧ b.size = min a.size b.size) := ⟨by omega, by omega, by omega⟩
  clear hx ha hb
  go_enter Tryz.func67, Tryz.ntmps67
  go_wp2_with fail
  clear hm
  go_loopg [11] b.size (fun g s11 wx => ∃ k : Nat, k ≤ b.size ∧ g = b.size - k ∧ s11 = .int .i64 k ∧ Hid (Dr w wx) ∧ Hid (∀ i, i < k → (unB a)[i]? = (unB b)[i]?))
  case atStart => exact ⟨0, Nat.zero_le _, rfl, rfl, Dr.refl _, fun i hi => absurd hi (Nat.not_lt_zero i)⟩
  case round =>
    obtain ⟨k, hk, rfl, rfl, B, HE⟩ := hrel
    by_cases hlt : k < b.size
    · have hlt' : (k : Int) < b.size := by omega
      have la : k < a.size := by have := HM.out; omega
      have lb : k < b.size := by have := HM.out; omega
      have la' : (k : Int) < a.size := by omega
      have lb' : (k : Int) < b.size := by omega
      have hw : IntKind.i64.wrap ((k : Int) + 1) = (k : Int) + 1 := by rw [IntKind.wrap_i64]; have := HA.out; omega
      obtain ⟨p, hp⟩ : ∃ p, a[k]'la = p := ⟨_, rfl⟩
      obtain ⟨q, hq⟩ : ∃ q, b[k]'lb = q := ⟨_, rfl⟩
      have HP : Hid ((unB a)[k]? = some p) := by show _ = _; rw [un_get a k la, hp]
      have HQ : Hid ((unB b)[k]? = some q) := by show _ = _; rw [un_get b k lb, hq]
      by_cases hpq : p = q
      · subst hpq
        have HE2 : Hid (∀ i, i < k + 1 → (unB a)[i]? = (unB b)[i]?) := fun i hi => by
          by_cases e : i = k
          · subst e; rw [HP.out, HQ.out]
          · exact HE.out i (by omega)
        have hne : ((p.toNat : Int) != (p.toNat : Int)) = false := by simp
        go_wp2
        go_quiet (fail)
        have hb1 : Dr w (wr.drewN nq) := dr_drewN B.out nq
        have B1 : Hid (Dr w (wr.drewN nq)) := hb1
        clear hb1
        go_wp2
        go_roundg (b.size - (k + 1))
        case measure => omega
        case rel => exact ⟨k + 1, by omega, by omega, by first | rfl | simp, B1, HE2⟩
      · have hne : ((p.toNat : Int) != (q.toNat : Int)) = true := by
          have : ¬ p.toNat = q.toNat := fun e => hpq (UInt8.toNat_inj.1 e)
          simp; omega
        have HR : Hid (x = sg (rk p) (rk q)) := by show _ = _; rw [HX.out]; exact cmpL_part _ _ k p q HE.out HP.out HQ.out hpq
        clear hpq
        go_wp2
        go_quiet (fail)
        obtain ⟨w1, hw1⟩ : ∃ w1, w1 = wr.drewN nq := ⟨_, rfl⟩
        have hb1 : Dr w (wr.drewN nq) := dr_drewN B.out nq
        rw [← hw1] at hb1 ⊢
        have B1 : Hid (Dr w w1) := hb1
        clear hw1 hb1 B
        go_wp2
        go_quiet (first | (go_at_call 89; exact Calls.quiet_of_same (rank_any _ _)) | (go_at_call 84; exact Calls.quiet_of_same (cmpInt_any _ _ _)))
        have hb2 : Dr w (w1.drewN nq) := dr_drewN B1.out nq
        have B2 : Hid (Dr w (w1.drewN nq)) := hb2
        clear hb2
        go_wp2
        go_ret
        exact ⟨by rw [HR.out]; rfl, B2.out⟩
    · obtain rfl : k = b.size := by omega
      have hlt' : ¬ (b.size : Int) < b.size := by omega
      have HR : Hid (x = sg a.size b.size) := by
        show _ = _
        have h1 := HM.out
        rw [HX.out, cmpL_len _ _ (fun i hi => HE.out i (by rw [un_size, un_size] at hi; omega)), un_size, un_size]
      go_wp2_with (go_at_call 84; refine (cmpInt_any _ _ _).mono ?_; rintro e w' ⟨rfl, hee⟩; obtain rfl := hee.symm; clear hee)
      go_ret
      exact ⟨by rw [HR.out]; rfl, B.out⟩

theorem compare_dr (a b : ByteArray) (ha : a.size ≤ 1000000) (hb : b.size ≤ 1000000) (w : World) : Calls Tryz.prog 67 #[.string a, .string b] w fun e w' => e = .returned (.int .i64 (cmpL (unB a) (unB b))) ∧ Dr w w' := by
  by_cases h : b.size < a.size
  · exact compare_gt_dr a b ha hb h w
  · exact compare_le_dr a b ha hb h w
end Go.Proofs.YtenaliaefbkbcaaGreat
