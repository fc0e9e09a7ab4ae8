import Derived.Test.YtglnldopnoafoaaGreatDoorZb
import Derived.Deep.LoopGhost
import Derived.Deep.RegionHeldLaw
import Derived.Laws.OwnMore
namespace Go.Proofs.YtglnldopnoafoaaGreatDoor
open Go Go.RowKit
set_option linter.unusedSimpArgs false
set_option linter.unusedVariables false

/-! ### crierref6.Least -/
theorem hidi {p : Prop} (h : p) : Hid p := h
theorem Row.len {w : World} {v : Value} {xs : List ByteArray} (h : Row w v xs) : ∃ a c, v = .slice a xs.length c ∧ xs.length ≤ c := by
  obtain ⟨a, n, cap, rfl, rfl, hc, _⟩ := h
  exact ⟨a, cap, rfl, hc⟩
theorem Row.cell {w : World} {a : Option Addr} {n c : Nat} {xs : List ByteArray} (h : Row w (.slice a n c) xs) {i : Nat} (hi : i < xs.length) : ∃ g o, a = some ⟨g, o, none⟩ ∧ w.cell? ⟨g, o + i, none⟩ = some (.string xs[i]) := by
  obtain ⟨a1, n1, c1, e, hn, hc, hx⟩ := h
  injection e with e1 e2 e3
  subst e1 e2 e3
  obtain ⟨g, o, rfl, _, h1⟩ := hx (fun q => by rw [q] at hi; simp at hi)
  exact ⟨g, o, rfl, h1 i _ (List.getElem?_eq_getElem hi)⟩
theorem own_slz {w : World} {B e n : Nat} {v : Value} {xs : List Value} (h : w.ownsRow B e 1 v n xs) : ∃ a c, v = .slice a n c := by
  rcases h.2 with ⟨rfl, h0⟩ | ⟨g, cap, cur, rfl, _⟩
  · exact ⟨none, 0, by rw [h0]⟩
  · exact ⟨_, _, rfl⟩
/-- The marks in memory. -/
def GnAt (W : World) (gb : Nat) (G : List Bool) : Prop := W.heap[gb]? = some (.cells (G.map Value.bool).toArray 4 (0, 0))
theorem GnAt.cell {W : World} {gb : Nat} {G : List Bool} (h : GnAt W gb G) {j : Nat} {b : Bool} (hj : G[j]? = some b) : W.cell? ⟨gb, j, none⟩ = some (.bool b) := by
  unfold GnAt at h
  simp [World.cell?, h, hj]
theorem GnAt.frozen {W : World} {gb : Nat} {G : List Bool} (h : GnAt W gb G) (j : Nat) : W.frozen? ⟨gb, j, none⟩ = false := by
  unfold GnAt at h
  simp [World.frozen?, h]
theorem GnAt.set {W : World} {gb : Nat} {G : List Bool} (h : GnAt W gb G) (j : Nat) (b : Bool) : GnAt (W.setCell ⟨gb, j, none⟩ (.bool b)) gb (G.set j b) := by
  unfold GnAt at *
  simp only [World.setCell, Array.getElem?_modify, if_pos, h, Option.map_some]
  simp
theorem GnAt.below {W W' : World} {gb : Nat} {G : List Bool} (h : GnAt W gb G) (hb : Below W.heap.size W W') : GnAt W' gb G := (hb.block gb (Array.getElem?_eq_some_iff.1 h).1).trans h
/-- What stands while Least goes through the marks: so far back. -/
structure Gs (w : World) (gb n : Nat) (l : List ByteArray) (gk : Nat) (G : List Bool) (W : World) : Prop where
  at_ : GnAt W gb G
  len : G.length = n
  lo : ∀ j, j < gk → G[j]? = some false
  eq : gR l gk G = gR l n (List.replicate n false)
  be : Below w.heap.size w W
  gl : w.heap.size ≤ gb
/-- .. and while one text is held against the others. -/
structure Gi (w : World) (gb n : Nat) (l : List ByteArray) (q k : Nat) (G : List Bool) (b : Bool) (W : World) : Prop where
  at_ : GnAt W gb (G.set q b)
  yes : b = true → liesG l G q = true
  no : b = false → ∀ j, j < k → (decide (j ≠ q) && !(G[j]?.getD false) && inP (l[q]?.getD ⟨#[]⟩) (l[j]?.getD ⟨#[]⟩)) = false
  be : Below w.heap.size w W
/-- What the region that marks a text reads. -/
def Sz (gb k q gl ol : Nat) (cv : Bool) (xq xk : ByteArray) (W : World) : Prop := W.cell? ⟨gb, k, none⟩ = some (.bool cv) ∧ (∃ u, W.cell? ⟨gb, q, none⟩ = some (.bool u)) ∧ W.frozen? ⟨gb, q, none⟩ = false ∧ W.cell? ⟨gl, ol + q, none⟩ = some (.string xq) ∧ W.cell? ⟨gl, ol + k, none⟩ = some (.string xk)
theorem set_sameG {G : List Bool} {q : Nat} {b : Bool} (h : G[q]? = some b) : G.set q b = G := by
  apply List.ext_getElem?
  intro i
  rw [List.getElem?_set]
  by_cases e : q = i
  · subst e
    have h2 := (List.getElem?_eq_some_iff.1 h).1
    rw [if_pos rfl, if_pos h2, h]
  · rw [if_neg e]
theorem liesG_no {l : List ByteArray} {G : List Bool} {q : Nat} (h : ∀ j, j < l.length → (decide (j ≠ q) && !(G[j]?.getD false) && inP (l[q]?.getD ⟨#[]⟩) (l[j]?.getD ⟨#[]⟩)) = false) : liesG l G q = false := by
  unfold liesG
  rw [List.any_eq_false]
  intro j hj
  rw [h j (List.mem_range.1 hj)]
  simp
theorem liesG_yes {l : List ByteArray} {G : List Bool} {q j : Nat} (hj : j < l.length) (h : (decide (j ≠ q) && !(G[j]?.getD false) && inP (l[q]?.getD ⟨#[]⟩) (l[j]?.getD ⟨#[]⟩)) = true) : liesG l G q = true := by
  unfold liesG
  rw [List.any_eq_true]
  exact ⟨j, List.mem_range.2 hj, h⟩
/-- One text is through. -/
theorem Gi.out {w : World} {gb n q k : Nat} {l : List ByteArray} {G : List Bool} {b : Bool} {W W' : World} (hS : Gs w gb n l (q + 1) G W') (h : Gi w gb n l q k G b W) (hn : l.length = n) (hk : b = true ∨ k = n) : ∃ G', Gs w gb n l q G' W := by
  have hq : G[q]? = some false := hS.lo q (by omega)
  cases b with
  | true =>
    refine ⟨G.set q true, h.at_, by rw [List.length_set]; exact hS.len, fun j hj => ?_, ?_, h.be, hS.gl⟩
    · rw [List.getElem?_set_ne (by omega)]
      exact hS.lo j (by omega)
    · rw [← hS.eq, gR, if_pos (h.yes rfl)]
  | false =>
    have e : k = n := by rcases hk with q | q; cases q; exact q
    have h1 := h.at_
    rw [set_sameG hq] at h1
    refine ⟨G, h1, hS.len, fun j hj => hS.lo j (by omega), ?_, h.be, hS.gl⟩
    rw [← hS.eq, gR, liesG_no (fun j hj => h.no rfl j (by omega))]
    rfl
theorem kpt_snoc : ∀ (B : List ByteArray) (H : List Bool) (x : ByteArray) (b : Bool), B.length = H.length → kpt (B ++ [x]) (H ++ [b]) = kpt B H ++ (if b then [] else [x])
  | [], [], x, b, _ => by cases b <;> rfl
  | [], _ :: _, x, b, h => by simp at h
  | _ :: _, [], x, b, h => by simp at h
  | y :: B, c :: H, x, b, h => by
    have ih := kpt_snoc B H x b (by simpa using h)
    simp only [List.cons_append, kpt, ih]
    cases c <;> simp
theorem kpt_le : ∀ (B : List ByteArray) (H : List Bool), (kpt B H).length ≤ B.length
  | [], _ => by simp [kpt]
  | _ :: _, [] => by simp [kpt]
  | y :: B, c :: H => by
    have ih := kpt_le B H
    cases c <;> simp [kpt] <;> omega
/-- What is kept of the first ones. -/
def kp (l : List ByteArray) (G : List Bool) (i : Nat) : List ByteArray := kpt (l.take i) (G.take i)
theorem kp_next {l : List ByteArray} {G : List Bool} {i : Nat} {x : ByteArray} {b : Bool} (hl : l[i]? = some x) (hg : G[i]? = some b) : kp l G (i + 1) = kp l G i ++ (if b then [] else [x]) := by
  have h1 := (List.getElem?_eq_some_iff.1 hl)
  have h2 := (List.getElem?_eq_some_iff.1 hg)
  obtain ⟨q1, e1⟩ := h1
  obtain ⟨q2, e2⟩ := h2
  unfold kp
  rw [List.take_succ_eq_append_getElem q1, List.take_succ_eq_append_getElem q2, e1, e2]
  exact kpt_snoc _ _ _ _ (by simp; omega)
set_option maxRecDepth 100000 in
set_option maxHeartbeats 8000000 in
theorem rleast_any (l : List ByteArray) (v : Value) (w : World) (R : Row w v l) (hl : l.length ≤ 100000) : Calls Tryz.prog 10 #[v] w fun e w' => ∃ v', e = .returned v' ∧ w'.ownsRow w.heap.size 9 1 v' (lea l.length l).length ((lea l.length l).map Value.string) ∧ Below w.heap.size w w' := by
  obtain ⟨i0, hi0, hz0, hz1, hz2⟩ : ∃ i0, Tryz.prog.info? 9 = some i0 ∧ i0.zero = some (.string ⟨#[]⟩) ∧ i0.size = 1 ∧ i0.bytes = 16 := ⟨_, rfl, rfl, rfl, rfl⟩
  obtain ⟨b0, hb0, hy0, hy1, hy2⟩ : ∃ i0, Tryz.prog.info? 4 = some i0 ∧ i0.zero = some (.bool false) ∧ i0.size = 1 ∧ i0.bytes = 1 := ⟨_, rfl, rfl, rfl, rfl⟩
  obtain ⟨a, cap, rfl, hcap⟩ := R.len
  have HX : Hid (∀ W, Below w.heap.size w W → ∀ i (hi : i < l.length), ∃ g o, a = some ⟨g, o, none⟩ ∧ W.cell? ⟨g, o + i, none⟩ = some (.string l[i])) := fun W hW i hi => (R.later hW).cell hi
  obtain ⟨n, hnl⟩ : ∃ n, l.length = n := ⟨_, rfl⟩
  have HN : Hid (l.length = n ∧ n ≤ 100000) := ⟨hnl, by omega⟩
  rw [lea_ref, hnl]
  rw [hnl] at hcap
  clear R hl hnl
  have MK : Hid ((Instr.makeSlice 63 (.int .i64 (n : Int)) (.int .i64 (n : Int))).run Tryz.prog w = .ok (.slice (some ⟨w.heap.size, 0, none⟩) n n) (w.alloc (.cells (madeCells #[.bool false] n) 4))) := by
    have := run_make (P := Tryz.prog) w 63 4 b0 (.bool false) Tryz.underlying63 hb0 hy0 .i64 .i64 n n (by have := HN.out; omega) (by have := HN.out; omega) (by rw [hy2]; have := HN.out; omega) (by have := HN.out; omega)
    rw [hy1] at this
    rw [show (Value.bool false).cells = #[Value.bool false] from rfl] at this
    show _ = _
    simpa using this
  have G0 : Hid (Gs w w.heap.size n l n (List.replicate n false) (w.alloc (.cells (madeCells #[.bool false] n) 4))) := by
    refine ⟨?_, by simp, fun j hj => by simp [hj], rfl, (Below.refl _ _).alloc (Nat.le_refl _) _, Nat.le_refl _⟩
    unfold GnAt
    rw [World.alloc_heap_new]
    congr 2
    apply Array.ext
    · rw [size_madeCells]
      simp
    · intro i q1 q2
      simp [madeCells, Nat.mod_one]
  clear hb0 hy0 hy1 hy2
  obtain ⟨gb, hgb⟩ : ∃ gb, gb = w.heap.size := ⟨_, rfl⟩
  have hmk := MK.out
  rw [← hgb] at hmk G0
  have HGB := hidi hgb
  have hwn : IntKind.i64.wrap ((n : Int) - 1) = (n : Int) - 1 := by rw [IntKind.wrap_i64]; have := HN.out; omega
  clear MK hgb
  go_enter Tryz.func10, Tryz.ntmps10
  go_wp2_with fail
  clear hmk
  try rw [← HGB.out]
  go_loopg [4] n (fun gk s4 wx => ∃ G : List Bool, s4 = .int .i64 ((gk : Int) - 1) ∧ gk ≤ n ∧ Hid (Gs w gb n l gk G wx))
  case atStart => exact ⟨_, rfl, Nat.le_refl _, G0⟩
  case round =>
    obtain ⟨G, rfl, hgn, HG⟩ := hrel
    clear G0
    cases gk with
    | zero =>
      have hz : ¬ (0 : Int) ≤ ((0 : Nat) : Int) - 1 := by omega
      have O0 : Hid (wr.ownsRow w.heap.size 9 1 (.slice none 0 0) (kp l G 0).length ((kp l G 0).map Value.string)) := World.ownsRow_nil _ _ _ _
      have hEQ : gR l n (List.replicate n false) = G := by have := HG.out.eq; rw [← this]; rfl
      have hkp : kpt l G = kp l G n := by
        unfold kp
        rw [List.take_of_length_le (by have := HN.out; omega), List.take_of_length_le (by have := HG.out.len; omega)]
      have HEQ : Hid (kpt l (gR l n (List.replicate n false)) = kp l G n) := by show _ = _; rw [hEQ, hkp]
      clear hEQ hkp
      have HA : Hid (GnAt wr gb G ∧ G.length = n) := ⟨HG.out.at_, HG.out.len⟩
      have HB : Hid (Below w.heap.size w wr) := HG.out.be
      clear HG
      go_wp2_with fail
      go_loopg [6, 7] n (fun gk s6 s7 wx => ∃ i : Nat, i + gk = n ∧ s7 = .int .i64 i ∧ Hid (wx.ownsRow w.heap.size 9 1 s6 (kp l G i).length ((kp l G i).map Value.string)) ∧ Hid (GnAt wx gb G ∧ G.length = n) ∧ Hid (Below w.heap.size w wx))
      case atStart => exact ⟨0, by omega, rfl, O0, HA, HB⟩
      case round =>
        obtain ⟨i, hi, rfl, HO, HA, HB⟩ := hrel
        clear O0
        cases gk with
        | zero =>
          obtain rfl : i = n := by omega
          have hz : ¬ (i : Int) < (i : Int) := by omega
          have Z := hidi (And.intro HO.out HB.out)
          clear HO HA HB
          go_wp2_with fail
          go_ret
          rw [HEQ.out]
          exact ⟨_, rfl, Z.out⟩
        | succ gt =>
          have hz : (i : Int) < (n : Int) := by omega
          have hzp : (0 : Int) ≤ (i : Int) := by omega
          have hwi : IntKind.i64.wrap ((i : Int) + 1) = (i : Int) + 1 := by rw [IntKind.wrap_i64]; have := HN.out; omega
          have hi2 : i < l.length := by have := HN.out; omega
          obtain ⟨gl, ol, ea, ce⟩ := HX.out _ HB.out i hi2
          subst ea
          obtain ⟨x, hx⟩ : ∃ x, l[i] = x := ⟨_, rfl⟩
          rw [hx] at ce
          obtain ⟨b, hb⟩ : ∃ b, G[i]? = some b := ⟨_, List.getElem?_eq_getElem (by have := HA.out.2; omega)⟩
          have cg := HA.out.1.cell hb
          have hkn := kp_next (l := l) (G := G) (i := i) (x := x) (b := b) (by rw [List.getElem?_eq_getElem hi2, hx]) hb
          have HK : Hid (kp l G (i + 1) = kp l G i ++ (if b then [] else [x]) ∧ (kp l G i).length ≤ 100000) := ⟨hkn, by have h1 := kpt_le (l.take i) (G.take i); rw [List.length_take] at h1; have := HN.out; unfold kp; omega⟩
          obtain ⟨ao, co, ho⟩ := own_slz HO.out
          subst ho
          clear hkn hb hx hi2
          cases b with
          | true =>
            have HO1 : Hid (wr.ownsRow w.heap.size 9 1 (.slice ao (kp l G i).length co) (kp l G (i + 1)).length ((kp l G (i + 1)).map Value.string)) := by
              have h1 := HO.out
              show wr.ownsRow _ _ _ _ _ _
              rw [HK.out.1]
              simpa using h1
            go_wp2_with fail
            go_roundg gt
            case measure => omega
            case rel => exact ⟨i + 1, by omega, by first | rfl | simp, HO1, HA, HB⟩
          | false =>
            obtain ⟨m, hm⟩ : ∃ m, (kp l G i).length = m := ⟨_, rfl⟩
            have HM : Hid ((kp l G i).length = m) := hm
            rw [hm] at HO HK ⊢
            clear hm
            go_wp2_with (at_builtin; refine wpList_append_own _ rfl (.tmp 66) (.tmp 71) 22 rfl w.heap.size 9 i0 (.string ⟨#[]⟩) 1 16 Tryz.underlying22 hi0 hz0 hz1 hz2 rfl (by decide) _ _ _ rfl (HO.out.alloc _) ⟨_, 0, none⟩ 1 1 [.string x] rfl rfl ?d1 ?d2 ?d3 ?d4 ?d5 ?_)
            case d1 => exact cell_one_new _ _ _
            case d2 => intro u hu; simp at hu; subst hu; rfl
            case d3 => have := HK.out.2; unfold maxLen; omega
            case d4 => have := HK.out.2; omega
            case d5 => have := HB.out.size; simp; omega
            intro v2 w2 hown2 hgrow2 hnil2
            have hb2 := (HB.out.alloc HB.out.size _).grown hgrow2 (by have := HB.out.size; simp; omega) (by intro q hq; exact (HO.out.lt _ hq).1)
            have HO1 : Hid (w2.ownsRow w.heap.size 9 1 v2 (kp l G (i + 1)).length ((kp l G (i + 1)).map Value.string)) := by
              rw [HK.out.1]
              simp only [Bool.false_eq_true, if_false, List.map_append, List.length_append, List.map_cons, List.map_nil, List.length_cons, List.length_nil]
              rw [HM.out]
              exact hown2
            have HA1 : Hid (GnAt w2 gb G ∧ G.length = n) := ⟨(hgrow2.block gb (by have := (Array.getElem?_eq_some_iff.1 HA.out.1).1; simp; omega) (fun e => by
                rcases HO.out.2 with ⟨q, _⟩ | ⟨g', cap', cur, q, _, q3, _⟩
                · rw [q] at e; cases e
                · rw [q] at e
                  have e' : gb = g' := by simpa [Value.ownBlock] using e
                  subst e'
                  have h3 : wr.heap[gb]? = _ := HA.out.1
                  rw [q3] at h3
                  cases h3)).trans ((Below.heap_alloc _ _ _ (Array.getElem?_eq_some_iff.1 HA.out.1).1).trans HA.out.1), HA.out.2⟩
            have HB1 := hidi hb2
            clear hown2 hgrow2 hnil2 hb2 HO HA HB HM
            go_wp2_with fail
            go_roundg gt
            case measure => omega
            case rel => exact ⟨i + 1, by omega, by first | rfl | simp, HO1, HA1, HB1⟩
    | succ q =>
      have eq1 : (((q + 1 : Nat) : Int) - 1) = (q : Int) := by omega
      rw [eq1]
      have hq0 : (0 : Int) ≤ (q : Int) := by omega
      have hqn : (q : Int) < (n : Int) := by omega
      have hwq : IntKind.i64.wrap ((q : Int) - 1) = (q : Int) - 1 := by rw [IntKind.wrap_i64]; have := HN.out; omega
      have I0 : Hid (Gi w gb n l q 0 G false wr) := ⟨by rw [set_sameG (HG.out.lo q (by omega))]; exact HG.out.at_, fun h => (by cases h), fun _ j hj => absurd hj (Nat.not_lt_zero _), HG.out.be⟩
      go_wp2_with fail
      go_loopg [5] n (fun g2 s5 wy => ∃ k : Nat, k + g2 = n ∧ s5 = .int .i64 k ∧ Hid (∃ b, Gi w gb n l q k G b wy))
      case atStart => exact ⟨0, by omega, rfl, ⟨false, I0.out⟩⟩
      case round =>
        obtain ⟨k, hk, rfl, HI⟩ := hrel
        clear I0
        obtain ⟨b, hI⟩ := HI.out
        have hqG : q < G.length := by have := HG.out.len; omega
        have cq : wr.cell? ⟨gb, q, none⟩ = some (.bool b) := hI.at_.cell (by rw [List.getElem?_set_self hqG])
        have hwk : IntKind.i64.wrap ((k : Int) + 1) = (k : Int) + 1 := by rw [IntKind.wrap_i64]; have := HN.out; omega
        cases gk with
        | zero =>
          have hkz : ¬ (k : Int) < (n : Int) := by omega
          obtain ⟨G', hG'⟩ := hI.out HG.out HN.out.1 (.inr (by omega))
          have HG' := hidi hG'
          clear hG' hI HI cq
          go_wp2_with fail
          go_roundg q
          case measure => omega
          case rel => exact ⟨G', by first | rfl | simp, by omega, HG'⟩
        | succ g2 =>
          have hkz : (k : Int) < (n : Int) := by omega
          have hk0 : (0 : Int) ≤ (k : Int) := by omega
          cases b with
          | true =>
            obtain ⟨G', hG'⟩ := hI.out HG.out HN.out.1 (.inl rfl)
            have HG' := hidi hG'
            clear hG' hI HI
            go_wp2_with fail
            go_roundg q
            case measure => omega
            case rel => exact ⟨G', by first | rfl | simp, by omega, HG'⟩
          | false =>
            have hgG : GnAt wr gb G := by have := hI.at_; rw [set_sameG (HG.out.lo q (by omega))] at this; exact this
            have hlq : q < l.length := by have := HN.out; omega
            have hlk : k < l.length := by have := HN.out; omega
            obtain ⟨gl, ol, ea, ce⟩ := HX.out _ hI.be q hlq
            subst ea
            obtain ⟨xq, hxq⟩ : ∃ x, l[q] = x := ⟨_, rfl⟩
            obtain ⟨xk, hxk⟩ : ∃ x, l[k] = x := ⟨_, rfl⟩
            have HC : Hid (∀ W, Below w.heap.size w W → W.cell? ⟨gl, ol + q, none⟩ = some (.string xq) ∧ W.cell? ⟨gl, ol + k, none⟩ = some (.string xk)) := fun W hW => by
              obtain ⟨g1, o1, e1, c1⟩ := HX.out W hW q hlq
              obtain ⟨g2, o2, e2, c2⟩ := HX.out W hW k hlk
              injection e1 with e1
              injection e1 with e3 e4 _
              subst e3 e4
              injection e2 with e2
              injection e2 with e3 e4 _
              subst e3 e4
              rw [hxq] at c1
              rw [hxk] at c2
              exact ⟨c1, c2⟩
            obtain ⟨cv, hcv⟩ : ∃ cv, G[k]? = some cv := ⟨_, List.getElem?_eq_getElem (by have := HG.out.len; omega)⟩
            have KEY : Hid (∀ W bw, GnAt W gb (G.set q bw) → Below w.heap.size w W → (k = q → bw = cv) → Sz gb k q gl ol cv xq xk W) := fun W bw h1 h2 h3 => by
              refine ⟨h1.cell ?_, ⟨bw, h1.cell (List.getElem?_set_self hqG)⟩, h1.frozen q, HC.out W h2⟩
              by_cases e : k = q
              · rw [← h3 e, e]
                exact List.getElem?_set_self hqG
              · rw [List.getElem?_set_ne (fun e' => e e'.symm)]
                exact hcv
            have hset : G.set q false = G := set_sameG (HG.out.lo q (by omega))
            have HST := hidi hset
            have SF := hidi (KEY.out wr.drew false hI.at_ hI.be.drew (fun e => by rw [e] at hcv; have := HG.out.lo q (by omega); rw [this] at hcv; injection hcv))
            have hlqx : l[q]?.getD ⟨#[]⟩ = xq := by rw [List.getElem?_eq_getElem hlq, hxq]; rfl
            have hlkx : l[k]?.getD ⟨#[]⟩ = xk := by rw [List.getElem?_eq_getElem hlk, hxk]; rfl
            have hqlo := HG.out.lo q (by omega)
            have hglo := HG.out.gl
            have hnl := HN.out.1
            have NX : Hid (∀ W bw, GnAt W gb G → Below w.heap.size w W → bw = (decide (k ≠ q) && !cv && inP xq xk) → GnAt (W.setCell ⟨gb, q, none⟩ (.bool bw)) gb (G.set q bw) ∧ ∃ b, Gi w gb n l q (k + 1) G b (W.setCell ⟨gb, q, none⟩ (.bool bw))) := fun W bw h1 h2 h3 => by
              have hcond : (decide (k ≠ q) && !(G[k]?.getD false) && inP (l[q]?.getD ⟨#[]⟩) (l[k]?.getD ⟨#[]⟩)) = bw := by rw [hcv, hlqx, hlkx, h3]; rfl
              refine ⟨h1.set q bw, bw, h1.set q bw, fun e => ?_, fun e j hj => ?_, h2.setCell hglo _⟩
              · exact liesG_yes hlk (by rw [hcond, e])
              · by_cases ej : j = k
                · rw [ej, hcond, e]
                · exact hI.no rfl j (by omega)
            clear HI hxq hxk hlq hlk hlqx hlkx ce hqlo hnl hset
            have BW : Hid (GnAt wr.drew gb G ∧ Below w.heap.size w wr.drew) := ⟨hgG, hI.be.drew⟩
            clear hI hgG
            by_cases hkq : k = q
            · have hne : ((k : Int) != (q : Int)) = false := by simp [hkq]
              have hcf : cv = false := by rw [hkq] at hcv; have := HG.out.lo q (by omega); rw [this] at hcv; injection hcv with e; exact e.symm
              subst hcf
              have SA : Hid (Sz gb k q gl ol false xq xk (wr.drew.setCell ⟨gb, q, none⟩ (.bool false)) ∧ Hid (∃ b, Gi w gb n l q (k + 1) G b (wr.drew.setCell ⟨gb, q, none⟩ (.bool false)))) := by
                have h1 := NX.out wr.drew false BW.out.1 BW.out.2 (by simp [hkq])
                exact ⟨KEY.out _ false h1.1 (BW.out.2.setCell hglo _) (fun _ => rfl), h1.2⟩
              clear NX KEY BW hkq hcv HC hglo hqG
              go_wp2_with fail
              refine wp_region_held_drew (S := Sz gb k q gl ol false xq xk) (by kernel_rfl) (SF.out) (fun hHeld => ?_)
              change wpAnyH _ _ _ _ _ 25 #[false, false, false, false, false, false, false, false, false, false, false, false, false, false, false, false, false, false, false, false, false, false, false, false, false] _ (World.drew _)
              refine wpAnyH_take (i := 0) (oi := { dst := some 31, op := Go.Op.move (Go.Operand.tmp 3), type := 63, pos := "crierref6.go:173", after := #[], guard := none }) (v := .slice (some ⟨gb, 0, none⟩) n n) rfl (by kernel_rfl) (by kernel_rfl) (by kernel_rfl) (fun _ _ _ h => h) (Or.inl ⟨by kernel_rfl, by intro wq hSw; obtain ⟨s1, ⟨su, s2⟩, s3, s4, s5⟩ := hSw; clear hHeld; go_simp⟩) hHeld ?_
              simp only [Act.put, List.setIfInBounds_toArray, List.set_cons_zero, List.set_cons_succ]
              refine wpAnyH_take (i := 1) (oi := { dst := some 32, op := Go.Op.move (Go.Operand.tmp 4), type := 3, pos := "crierref6.go:173", after := #[], guard := none }) (v := .int .i64 (q : Int)) rfl (by kernel_rfl) (by kernel_rfl) (by kernel_rfl) (fun _ _ _ h => h) (Or.inl ⟨by kernel_rfl, by intro wq hSw; obtain ⟨s1, ⟨su, s2⟩, s3, s4, s5⟩ := hSw; clear hHeld; go_simp⟩) hHeld ?_
              simp only [Act.put, List.setIfInBounds_toArray, List.set_cons_zero, List.set_cons_succ]
              refine wpAnyH_take (i := 2) (oi := { dst := some 33, op := Go.Op.move (Go.Operand.tmp 5), type := 3, pos := "crierref6.go:173", after := #[], guard := none }) (v := .int .i64 (k : Int)) rfl (by kernel_rfl) (by kernel_rfl) (by kernel_rfl) (fun _ _ _ h => h) (Or.inl ⟨by kernel_rfl, by intro wq hSw; obtain ⟨s1, ⟨su, s2⟩, s3, s4, s5⟩ := hSw; clear hHeld; go_simp⟩) hHeld ?_
              simp only [Act.put, List.setIfInBounds_toArray, List.set_cons_zero, List.set_cons_succ]
              refine wpAnyH_take (i := 3) (oi := { dst := some 34, op := Go.Op.move (Go.Operand.tmp 4), type := 3, pos := "crierref6.go:173", after := #[], guard := none }) (v := .int .i64 (q : Int)) rfl (by kernel_rfl) (by kernel_rfl) (by kernel_rfl) (fun _ _ _ h => h) (Or.inl ⟨by kernel_rfl, by intro wq hSw; obtain ⟨s1, ⟨su, s2⟩, s3, s4, s5⟩ := hSw; clear hHeld; go_simp⟩) hHeld ?_
              simp only [Act.put, List.setIfInBounds_toArray, List.set_cons_zero, List.set_cons_succ]
              refine wpAnyH_take (i := 4) (oi := { dst := some 35, op := Go.Op.binOp Go.BinOp.neq 3 (Go.Operand.tmp 33) (Go.Operand.tmp 34) 3, type := 4, pos := "crierref6.go:173", after := #[{ on := 2, ground := Go.Ground.data }, { on := 3, ground := Go.Ground.data }], guard := none }) (v := .bool false) rfl (by kernel_rfl) (by kernel_rfl) (by kernel_rfl) (fun _ _ _ h => h) (Or.inl ⟨by kernel_rfl, by intro wq hSw; obtain ⟨s1, ⟨su, s2⟩, s3, s4, s5⟩ := hSw; clear hHeld; go_simp⟩) hHeld ?_
              simp only [Act.put, List.setIfInBounds_toArray, List.set_cons_zero, List.set_cons_succ]
              refine wpAnyH_take (i := 5) (oi := { dst := some 36, op := Go.Op.move (Go.Operand.tmp 35), type := 4, pos := "crierref6.go:173", after := #[{ on := 4, ground := Go.Ground.data }], guard := none }) (v := .bool false) rfl (by kernel_rfl) (by kernel_rfl) (by kernel_rfl) (fun _ _ _ h => h) (Or.inl ⟨by kernel_rfl, by intro wq hSw; obtain ⟨s1, ⟨su, s2⟩, s3, s4, s5⟩ := hSw; clear hHeld; go_simp⟩) hHeld ?_
              simp only [Act.put, List.setIfInBounds_toArray, List.set_cons_zero, List.set_cons_succ]
              refine wpAnyH_take (i := 6) (oi := { dst := some 37, op := Go.Op.move (Go.Operand.tmp 3), type := 63, pos := "crierref6.go:173", after := #[{ on := 5, ground := Go.Ground.guard }], guard := some (5, true) }) (v := undef) rfl (by kernel_rfl) (by kernel_rfl) (by kernel_rfl) (fun _ _ _ h => h) (Or.inr ⟨by kernel_rfl, rfl⟩) hHeld ?_
              simp only [Act.put, List.setIfInBounds_toArray, List.set_cons_zero, List.set_cons_succ]
              refine wpAnyH_take (i := 7) (oi := { dst := some 38, op := Go.Op.move (Go.Operand.tmp 5), type := 3, pos := "crierref6.go:173", after := #[{ on := 5, ground := Go.Ground.guard }], guard := some (5, true) }) (v := undef) rfl (by kernel_rfl) (by kernel_rfl) (by kernel_rfl) (fun _ _ _ h => h) (Or.inr ⟨by kernel_rfl, rfl⟩) hHeld ?_
              simp only [Act.put, List.setIfInBounds_toArray, List.set_cons_zero, List.set_cons_succ]
              refine wpAnyH_take (i := 8) (oi := { dst := some 39, op := Go.Op.indexAddr 63 (Go.Operand.tmp 37) (Go.Operand.tmp 38), type := 0, pos := "crierref6.go:173", after := #[{ on := 6, ground := Go.Ground.data }, { on := 7, ground := Go.Ground.data }, { on := 5, ground := Go.Ground.guard }], guard := some (5, true) }) (v := undef) rfl (by kernel_rfl) (by kernel_rfl) (by kernel_rfl) (fun _ _ _ h => h) (Or.inr ⟨by kernel_rfl, rfl⟩) hHeld ?_
              simp only [Act.put, List.setIfInBounds_toArray, List.set_cons_zero, List.set_cons_succ]
              refine wpAnyH_take (i := 9) (oi := { dst := some 40, op := Go.Op.load 4 (Go.Operand.tmp 39), type := 4, pos := "crierref6.go:173", after := #[{ on := 8, ground := Go.Ground.data }, { on := 5, ground := Go.Ground.guard }], guard := some (5, true) }) (v := undef) rfl (by kernel_rfl) (by kernel_rfl) (by kernel_rfl) (fun _ _ _ h => h) (Or.inr ⟨by kernel_rfl, rfl⟩) hHeld ?_
              simp only [Act.put, List.setIfInBounds_toArray, List.set_cons_zero, List.set_cons_succ]
              refine wpAnyH_take (i := 10) (oi := { dst := some 41, op := Go.Op.unOp Go.UnOp.not 4 (Go.Operand.tmp 40), type := 4, pos := "crierref6.go:173", after := #[{ on := 9, ground := Go.Ground.data }, { on := 5, ground := Go.Ground.guard }], guard := some (5, true) }) (v := undef) rfl (by kernel_rfl) (by kernel_rfl) (by kernel_rfl) (fun _ _ _ h => h) (Or.inr ⟨by kernel_rfl, rfl⟩) hHeld ?_
              simp only [Act.put, List.setIfInBounds_toArray, List.set_cons_zero, List.set_cons_succ]
              refine wpAnyH_take (i := 11) (oi := { dst := some 42, op := Go.Op.pick (Go.Operand.tmp 36) (Go.Operand.tmp 41) (Go.Operand.const (Go.Value.bool false)), type := 4, pos := "crierref6.go:173", after := #[{ on := 5, ground := Go.Ground.data }, { on := 10, ground := Go.Ground.data }], guard := none }) (v := .bool false) rfl (by kernel_rfl) (by kernel_rfl) (by kernel_rfl) (fun _ _ _ h => h) (Or.inl ⟨by kernel_rfl, by intro wq hSw; obtain ⟨s1, ⟨su, s2⟩, s3, s4, s5⟩ := hSw; clear hHeld; go_simp⟩) hHeld ?_
              simp only [Act.put, List.setIfInBounds_toArray, List.set_cons_zero, List.set_cons_succ]
              refine wpAnyH_take (i := 12) (oi := { dst := some 43, op := Go.Op.move (Go.Operand.tmp 42), type := 4, pos := "crierref6.go:173", after := #[{ on := 11, ground := Go.Ground.data }, { on := 5, ground := Go.Ground.chain }], guard := none }) (v := .bool false) rfl (by kernel_rfl) (by kernel_rfl) (by kernel_rfl) (fun _ _ _ h => h) (Or.inl ⟨by kernel_rfl, by intro wq hSw; obtain ⟨s1, ⟨su, s2⟩, s3, s4, s5⟩ := hSw; clear hHeld; go_simp⟩) hHeld ?_
              simp only [Act.put, List.setIfInBounds_toArray, List.set_cons_zero, List.set_cons_succ]
              refine wpAnyH_take (i := 13) (oi := { dst := some 44, op := Go.Op.move (Go.Operand.tmp 0), type := 22, pos := "crierref6.go:173", after := #[{ on := 12, ground := Go.Ground.guard }], guard := some (12, true) }) (v := undef) rfl (by kernel_rfl) (by kernel_rfl) (by kernel_rfl) (fun _ _ _ h => h) (Or.inr ⟨by kernel_rfl, rfl⟩) hHeld ?_
              simp only [Act.put, List.setIfInBounds_toArray, List.set_cons_zero, List.set_cons_succ]
              refine wpAnyH_take (i := 14) (oi := { dst := some 45, op := Go.Op.move (Go.Operand.tmp 4), type := 3, pos := "crierref6.go:173", after := #[{ on := 12, ground := Go.Ground.guard }], guard := some (12, true) }) (v := undef) rfl (by kernel_rfl) (by kernel_rfl) (by kernel_rfl) (fun _ _ _ h => h) (Or.inr ⟨by kernel_rfl, rfl⟩) hHeld ?_
              simp only [Act.put, List.setIfInBounds_toArray, List.set_cons_zero, List.set_cons_succ]
              refine wpAnyH_take (i := 15) (oi := { dst := some 46, op := Go.Op.indexAddr 22 (Go.Operand.tmp 44) (Go.Operand.tmp 45), type := 0, pos := "crierref6.go:173", after := #[{ on := 13, ground := Go.Ground.data }, { on := 14, ground := Go.Ground.data }, { on := 12, ground := Go.Ground.guard }], guard := some (12, true) }) (v := undef) rfl (by kernel_rfl) (by kernel_rfl) (by kernel_rfl) (fun _ _ _ h => h) (Or.inr ⟨by kernel_rfl, rfl⟩) hHeld ?_
              simp only [Act.put, List.setIfInBounds_toArray, List.set_cons_zero, List.set_cons_succ]
              refine wpAnyH_take (i := 16) (oi := { dst := some 47, op := Go.Op.load 9 (Go.Operand.tmp 46), type := 9, pos := "crierref6.go:173", after := #[{ on := 15, ground := Go.Ground.data }, { on := 12, ground := Go.Ground.guard }], guard := some (12, true) }) (v := undef) rfl (by kernel_rfl) (by kernel_rfl) (by kernel_rfl) (fun _ _ _ h => h) (Or.inr ⟨by kernel_rfl, rfl⟩) hHeld ?_
              simp only [Act.put, List.setIfInBounds_toArray, List.set_cons_zero, List.set_cons_succ]
              refine wpAnyH_take (i := 17) (oi := { dst := some 48, op := Go.Op.move (Go.Operand.tmp 0), type := 22, pos := "crierref6.go:173", after := #[{ on := 12, ground := Go.Ground.guard }], guard := some (12, true) }) (v := undef) rfl (by kernel_rfl) (by kernel_rfl) (by kernel_rfl) (fun _ _ _ h => h) (Or.inr ⟨by kernel_rfl, rfl⟩) hHeld ?_
              simp only [Act.put, List.setIfInBounds_toArray, List.set_cons_zero, List.set_cons_succ]
              refine wpAnyH_take (i := 18) (oi := { dst := some 49, op := Go.Op.move (Go.Operand.tmp 5), type := 3, pos := "crierref6.go:173", after := #[{ on := 12, ground := Go.Ground.guard }], guard := some (12, true) }) (v := undef) rfl (by kernel_rfl) (by kernel_rfl) (by kernel_rfl) (fun _ _ _ h => h) (Or.inr ⟨by kernel_rfl, rfl⟩) hHeld ?_
              simp only [Act.put, List.setIfInBounds_toArray, List.set_cons_zero, List.set_cons_succ]
              refine wpAnyH_take (i := 19) (oi := { dst := some 50, op := Go.Op.indexAddr 22 (Go.Operand.tmp 48) (Go.Operand.tmp 49), type := 0, pos := "crierref6.go:173", after := #[{ on := 17, ground := Go.Ground.data }, { on := 18, ground := Go.Ground.data }, { on := 12, ground := Go.Ground.guard }], guard := some (12, true) }) (v := undef) rfl (by kernel_rfl) (by kernel_rfl) (by kernel_rfl) (fun _ _ _ h => h) (Or.inr ⟨by kernel_rfl, rfl⟩) hHeld ?_
              simp only [Act.put, List.setIfInBounds_toArray, List.set_cons_zero, List.set_cons_succ]
              refine wpAnyH_take (i := 20) (oi := { dst := some 51, op := Go.Op.load 9 (Go.Operand.tmp 50), type := 9, pos := "crierref6.go:173", after := #[{ on := 19, ground := Go.Ground.data }, { on := 12, ground := Go.Ground.guard }], guard := some (12, true) }) (v := undef) rfl (by kernel_rfl) (by kernel_rfl) (by kernel_rfl) (fun _ _ _ h => h) (Or.inr ⟨by kernel_rfl, rfl⟩) hHeld ?_
              simp only [Act.put, List.setIfInBounds_toArray, List.set_cons_zero, List.set_cons_succ]
              refine wpAnyH_take (i := 21) (oi := { dst := some 52, op := Go.Op.call { callee := Go.Callee.value (Go.Operand.func 21), args := #[Go.Operand.tmp 47, Go.Operand.tmp 51], argTypes := #[9, 9] }, type := 4, pos := "crierref6.go:173", after := #[{ on := 16, ground := Go.Ground.data }, { on := 20, ground := Go.Ground.data }, { on := 12, ground := Go.Ground.chain }, { on := 12, ground := Go.Ground.guard }], guard := some (12, true) }) (v := undef) rfl (by kernel_rfl) (by kernel_rfl) (by kernel_rfl) (fun _ _ _ h => h) (Or.inr ⟨by kernel_rfl, rfl⟩) hHeld ?_
              simp only [Act.put, List.setIfInBounds_toArray, List.set_cons_zero, List.set_cons_succ]
              refine wpAnyH_take (i := 22) (oi := { dst := some 53, op := Go.Op.pick (Go.Operand.tmp 43) (Go.Operand.tmp 52) (Go.Operand.const (Go.Value.bool false)), type := 4, pos := "crierref6.go:173", after := #[{ on := 12, ground := Go.Ground.data }, { on := 21, ground := Go.Ground.data }], guard := none }) (v := .bool false) rfl (by kernel_rfl) (by kernel_rfl) (by kernel_rfl) (fun _ _ _ h => h) (Or.inl ⟨by kernel_rfl, by intro wq hSw; obtain ⟨s1, ⟨su, s2⟩, s3, s4, s5⟩ := hSw; clear hHeld; go_simp⟩) hHeld ?_
              simp only [Act.put, List.setIfInBounds_toArray, List.set_cons_zero, List.set_cons_succ]
              refine wpAnyH_take (i := 23) (oi := { dst := some 54, op := Go.Op.indexAddr 63 (Go.Operand.tmp 31) (Go.Operand.tmp 32), type := 0, pos := "crierref6.go:173", after := #[{ on := 0, ground := Go.Ground.data }, { on := 1, ground := Go.Ground.data }, { on := 0, ground := Go.Ground.phase }, { on := 1, ground := Go.Ground.phase }, { on := 2, ground := Go.Ground.phase }, { on := 3, ground := Go.Ground.phase }, { on := 4, ground := Go.Ground.phase }, { on := 5, ground := Go.Ground.phase }, { on := 6, ground := Go.Ground.phase }, { on := 7, ground := Go.Ground.phase }, { on := 8, ground := Go.Ground.phase }, { on := 9, ground := Go.Ground.phase }, { on := 10, ground := Go.Ground.phase }, { on := 11, ground := Go.Ground.phase }, { on := 12, ground := Go.Ground.phase }, { on := 13, ground := Go.Ground.phase }, { on := 14, ground := Go.Ground.phase }, { on := 15, ground := Go.Ground.phase }, { on := 16, ground := Go.Ground.phase }, { on := 17, ground := Go.Ground.phase }, { on := 18, ground := Go.Ground.phase }, { on := 19, ground := Go.Ground.phase }, { on := 20, ground := Go.Ground.phase }, { on := 21, ground := Go.Ground.phase }, { on := 22, ground := Go.Ground.phase }], guard := none }) (v := .pointer (some ⟨gb, q, none⟩)) rfl (by kernel_rfl) (by kernel_rfl) (by kernel_rfl) (fun _ _ _ h => h) (Or.inl ⟨by kernel_rfl, by intro wq hSw; obtain ⟨s1, ⟨su, s2⟩, s3, s4, s5⟩ := hSw; clear hHeld; go_simp⟩) hHeld ?_
              simp only [Act.put, List.setIfInBounds_toArray, List.set_cons_zero, List.set_cons_succ]
              refine wpAnyH_ready (rs := [24]) (by kernel_rfl) (by simp) ?_
              refine AllReadyH.cons (o := { dst := none, op := Go.Op.store 4 (Go.Operand.tmp 54) (Go.Operand.tmp 53), type := 0, pos := "crierref6.go:173", after := #[{ on := 23, ground := Go.Ground.data }, { on := 22, ground := Go.Ground.data }, { on := 21, ground := Go.Ground.chain }, { on := 0, ground := Go.Ground.phase }, { on := 1, ground := Go.Ground.phase }, { on := 2, ground := Go.Ground.phase }, { on := 3, ground := Go.Ground.phase }, { on := 4, ground := Go.Ground.phase }, { on := 5, ground := Go.Ground.phase }, { on := 6, ground := Go.Ground.phase }, { on := 7, ground := Go.Ground.phase }, { on := 8, ground := Go.Ground.phase }, { on := 9, ground := Go.Ground.phase }, { on := 10, ground := Go.Ground.phase }, { on := 11, ground := Go.Ground.phase }, { on := 12, ground := Go.Ground.phase }, { on := 13, ground := Go.Ground.phase }, { on := 14, ground := Go.Ground.phase }, { on := 15, ground := Go.Ground.phase }, { on := 16, ground := Go.Ground.phase }, { on := 17, ground := Go.Ground.phase }, { on := 18, ground := Go.Ground.phase }, { on := 19, ground := Go.Ground.phase }, { on := 20, ground := Go.Ground.phase }, { on := 21, ground := Go.Ground.phase }, { on := 22, ground := Go.Ground.phase }], guard := none }) (by rfl) (fun K hK => ?_) AllReadyH.nil
              have hHd := hHeld
              obtain ⟨-, ⟨ug, g1⟩, gfz, -, -⟩ := hHd
              have SN := hidi (SA.out)
              clear hHeld
              go_simp
              refine hK.out _ _ SN.out.1 (fun hHeld => ?_)
              clear hK K
              (try simp only [Act.put, List.setIfInBounds_toArray, List.set_cons_zero, List.set_cons_succ])
              refine wpAnyH_done (by kernel_rfl) ?_ _
              clear hHeld
              have ST := SN.out.2
              clear SN
              go_wp2_with fail
              go_roundg g2
              case measure => omega
              case rel => exact ⟨k + 1, by omega, by first | rfl | simp, ST⟩
            · have hne : ((k : Int) != (q : Int)) = true := by simp; omega
              cases cv with
              | true =>
                have SA : Hid (Sz gb k q gl ol true xq xk (wr.drew.setCell ⟨gb, q, none⟩ (.bool false)) ∧ Hid (∃ b, Gi w gb n l q (k + 1) G b (wr.drew.setCell ⟨gb, q, none⟩ (.bool false)))) := by
                  have h1 := NX.out wr.drew false BW.out.1 BW.out.2 (by simp)
                  exact ⟨KEY.out _ false h1.1 (BW.out.2.setCell hglo _) (fun e => absurd e hkq), h1.2⟩
                clear NX KEY BW hkq hcv HC hglo hqG
                go_wp2_with fail
                refine wp_region_held_drew (S := Sz gb k q gl ol true xq xk) (by kernel_rfl) (SF.out) (fun hHeld => ?_)
                change wpAnyH _ _ _ _ _ 25 #[false, false, false, false, false, false, false, false, false, false, false, false, false, false, false, false, false, false, false, false, false, false, false, false, false] _ (World.drew _)
                refine wpAnyH_take (i := 0) (oi := { dst := some 31, op := Go.Op.move (Go.Operand.tmp 3), type := 63, pos := "crierref6.go:173", after := #[], guard := none }) (v := .slice (some ⟨gb, 0, none⟩) n n) rfl (by kernel_rfl) (by kernel_rfl) (by kernel_rfl) (fun _ _ _ h => h) (Or.inl ⟨by kernel_rfl, by intro wq hSw; obtain ⟨s1, ⟨su, s2⟩, s3, s4, s5⟩ := hSw; clear hHeld; go_simp⟩) hHeld ?_
                simp only [Act.put, List.setIfInBounds_toArray, List.set_cons_zero, List.set_cons_succ]
                refine wpAnyH_take (i := 1) (oi := { dst := some 32, op := Go.Op.move (Go.Operand.tmp 4), type := 3, pos := "crierref6.go:173", after := #[], guard := none }) (v := .int .i64 (q : Int)) rfl (by kernel_rfl) (by kernel_rfl) (by kernel_rfl) (fun _ _ _ h => h) (Or.inl ⟨by kernel_rfl, by intro wq hSw; obtain ⟨s1, ⟨su, s2⟩, s3, s4, s5⟩ := hSw; clear hHeld; go_simp⟩) hHeld ?_
                simp only [Act.put, List.setIfInBounds_toArray, List.set_cons_zero, List.set_cons_succ]
                refine wpAnyH_take (i := 2) (oi := { dst := some 33, op := Go.Op.move (Go.Operand.tmp 5), type := 3, pos := "crierref6.go:173", after := #[], guard := none }) (v := .int .i64 (k : Int)) rfl (by kernel_rfl) (by kernel_rfl) (by kernel_rfl) (fun _ _ _ h => h) (Or.inl ⟨by kernel_rfl, by intro wq hSw; obtain ⟨s1, ⟨su, s2⟩, s3, s4, s5⟩ := hSw; clear hHeld; go_simp⟩) hHeld ?_
                simp only [Act.put, List.setIfInBounds_toArray, List.set_cons_zero, List.set_cons_succ]
                refine wpAnyH_take (i := 3) (oi := { dst := some 34, op := Go.Op.move (Go.Operand.tmp 4), type := 3, pos := "crierref6.go:173", after := #[], guard := none }) (v := .int .i64 (q : Int)) rfl (by kernel_rfl) (by kernel_rfl) (by kernel_rfl) (fun _ _ _ h => h) (Or.inl ⟨by kernel_rfl, by intro wq hSw; obtain ⟨s1, ⟨su, s2⟩, s3, s4, s5⟩ := hSw; clear hHeld; go_simp⟩) hHeld ?_
                simp only [Act.put, List.setIfInBounds_toArray, List.set_cons_zero, List.set_cons_succ]
                refine wpAnyH_take (i := 4) (oi := { dst := some 35, op := Go.Op.binOp Go.BinOp.neq 3 (Go.Operand.tmp 33) (Go.Operand.tmp 34) 3, type := 4, pos := "crierref6.go:173", after := #[{ on := 2, ground := Go.Ground.data }, { on := 3, ground := Go.Ground.data }], guard := none }) (v := .bool true) rfl (by kernel_rfl) (by kernel_rfl) (by kernel_rfl) (fun _ _ _ h => h) (Or.inl ⟨by kernel_rfl, by intro wq hSw; obtain ⟨s1, ⟨su, s2⟩, s3, s4, s5⟩ := hSw; clear hHeld; go_simp⟩) hHeld ?_
                simp only [Act.put, List.setIfInBounds_toArray, List.set_cons_zero, List.set_cons_succ]
                refine wpAnyH_take (i := 5) (oi := { dst := some 36, op := Go.Op.move (Go.Operand.tmp 35), type := 4, pos := "crierref6.go:173", after := #[{ on := 4, ground := Go.Ground.data }], guard := none }) (v := .bool true) rfl (by kernel_rfl) (by kernel_rfl) (by kernel_rfl) (fun _ _ _ h => h) (Or.inl ⟨by kernel_rfl, by intro wq hSw; obtain ⟨s1, ⟨su, s2⟩, s3, s4, s5⟩ := hSw; clear hHeld; go_simp⟩) hHeld ?_
                simp only [Act.put, List.setIfInBounds_toArray, List.set_cons_zero, List.set_cons_succ]
                refine wpAnyH_take (i := 6) (oi := { dst := some 37, op := Go.Op.move (Go.Operand.tmp 3), type := 63, pos := "crierref6.go:173", after := #[{ on := 5, ground := Go.Ground.guard }], guard := some (5, true) }) (v := .slice (some ⟨gb, 0, none⟩) n n) rfl (by kernel_rfl) (by kernel_rfl) (by kernel_rfl) (fun _ _ _ h => h) (Or.inl ⟨by kernel_rfl, by intro wq hSw; obtain ⟨s1, ⟨su, s2⟩, s3, s4, s5⟩ := hSw; clear hHeld; go_simp⟩) hHeld ?_
                simp only [Act.put, List.setIfInBounds_toArray, List.set_cons_zero, List.set_cons_succ]
                refine wpAnyH_take (i := 7) (oi := { dst := some 38, op := Go.Op.move (Go.Operand.tmp 5), type := 3, pos := "crierref6.go:173", after := #[{ on := 5, ground := Go.Ground.guard }], guard := some (5, true) }) (v := .int .i64 (k : Int)) rfl (by kernel_rfl) (by kernel_rfl) (by kernel_rfl) (fun _ _ _ h => h) (Or.inl ⟨by kernel_rfl, by intro wq hSw; obtain ⟨s1, ⟨su, s2⟩, s3, s4, s5⟩ := hSw; clear hHeld; go_simp⟩) hHeld ?_
                simp only [Act.put, List.setIfInBounds_toArray, List.set_cons_zero, List.set_cons_succ]
                refine wpAnyH_take (i := 8) (oi := { dst := some 39, op := Go.Op.indexAddr 63 (Go.Operand.tmp 37) (Go.Operand.tmp 38), type := 0, pos := "crierref6.go:173", after := #[{ on := 6, ground := Go.Ground.data }, { on := 7, ground := Go.Ground.data }, { on := 5, ground := Go.Ground.guard }], guard := some (5, true) }) (v := .pointer (some ⟨gb, k, none⟩)) rfl (by kernel_rfl) (by kernel_rfl) (by kernel_rfl) (fun _ _ _ h => h) (Or.inl ⟨by kernel_rfl, by intro wq hSw; obtain ⟨s1, ⟨su, s2⟩, s3, s4, s5⟩ := hSw; clear hHeld; go_simp⟩) hHeld ?_
                simp only [Act.put, List.setIfInBounds_toArray, List.set_cons_zero, List.set_cons_succ]
                refine wpAnyH_take (i := 9) (oi := { dst := some 40, op := Go.Op.load 4 (Go.Operand.tmp 39), type := 4, pos := "crierref6.go:173", after := #[{ on := 8, ground := Go.Ground.data }, { on := 5, ground := Go.Ground.guard }], guard := some (5, true) }) (v := .bool true) rfl (by kernel_rfl) (by kernel_rfl) (by kernel_rfl) (fun _ _ _ h => h) (Or.inl ⟨by kernel_rfl, by intro wq hSw; obtain ⟨s1, ⟨su, s2⟩, s3, s4, s5⟩ := hSw; clear hHeld; go_simp⟩) hHeld ?_
                simp only [Act.put, List.setIfInBounds_toArray, List.set_cons_zero, List.set_cons_succ]
                refine wpAnyH_take (i := 10) (oi := { dst := some 41, op := Go.Op.unOp Go.UnOp.not 4 (Go.Operand.tmp 40), type := 4, pos := "crierref6.go:173", after := #[{ on := 9, ground := Go.Ground.data }, { on := 5, ground := Go.Ground.guard }], guard := some (5, true) }) (v := .bool false) rfl (by kernel_rfl) (by kernel_rfl) (by kernel_rfl) (fun _ _ _ h => h) (Or.inl ⟨by kernel_rfl, by intro wq hSw; obtain ⟨s1, ⟨su, s2⟩, s3, s4, s5⟩ := hSw; clear hHeld; go_simp⟩) hHeld ?_
                simp only [Act.put, List.setIfInBounds_toArray, List.set_cons_zero, List.set_cons_succ]
                refine wpAnyH_take (i := 11) (oi := { dst := some 42, op := Go.Op.pick (Go.Operand.tmp 36) (Go.Operand.tmp 41) (Go.Operand.const (Go.Value.bool false)), type := 4, pos := "crierref6.go:173", after := #[{ on := 5, ground := Go.Ground.data }, { on := 10, ground := Go.Ground.data }], guard := none }) (v := .bool false) rfl (by kernel_rfl) (by kernel_rfl) (by kernel_rfl) (fun _ _ _ h => h) (Or.inl ⟨by kernel_rfl, by intro wq hSw; obtain ⟨s1, ⟨su, s2⟩, s3, s4, s5⟩ := hSw; clear hHeld; go_simp⟩) hHeld ?_
                simp only [Act.put, List.setIfInBounds_toArray, List.set_cons_zero, List.set_cons_succ]
                refine wpAnyH_take (i := 12) (oi := { dst := some 43, op := Go.Op.move (Go.Operand.tmp 42), type := 4, pos := "crierref6.go:173", after := #[{ on := 11, ground := Go.Ground.data }, { on := 5, ground := Go.Ground.chain }], guard := none }) (v := .bool false) rfl (by kernel_rfl) (by kernel_rfl) (by kernel_rfl) (fun _ _ _ h => h) (Or.inl ⟨by kernel_rfl, by intro wq hSw; obtain ⟨s1, ⟨su, s2⟩, s3, s4, s5⟩ := hSw; clear hHeld; go_simp⟩) hHeld ?_
                simp only [Act.put, List.setIfInBounds_toArray, List.set_cons_zero, List.set_cons_succ]
                refine wpAnyH_take (i := 13) (oi := { dst := some 44, op := Go.Op.move (Go.Operand.tmp 0), type := 22, pos := "crierref6.go:173", after := #[{ on := 12, ground := Go.Ground.guard }], guard := some (12, true) }) (v := undef) rfl (by kernel_rfl) (by kernel_rfl) (by kernel_rfl) (fun _ _ _ h => h) (Or.inr ⟨by kernel_rfl, rfl⟩) hHeld ?_
                simp only [Act.put, List.setIfInBounds_toArray, List.set_cons_zero, List.set_cons_succ]
                refine wpAnyH_take (i := 14) (oi := { dst := some 45, op := Go.Op.move (Go.Operand.tmp 4), type := 3, pos := "crierref6.go:173", after := #[{ on := 12, ground := Go.Ground.guard }], guard := some (12, true) }) (v := undef) rfl (by kernel_rfl) (by kernel_rfl) (by kernel_rfl) (fun _ _ _ h => h) (Or.inr ⟨by kernel_rfl, rfl⟩) hHeld ?_
                simp only [Act.put, List.setIfInBounds_toArray, List.set_cons_zero, List.set_cons_succ]
                refine wpAnyH_take (i := 15) (oi := { dst := some 46, op := Go.Op.indexAddr 22 (Go.Operand.tmp 44) (Go.Operand.tmp 45), type := 0, pos := "crierref6.go:173", after := #[{ on := 13, ground := Go.Ground.data }, { on := 14, ground := Go.Ground.data }, { on := 12, ground := Go.Ground.guard }], guard := some (12, true) }) (v := undef) rfl (by kernel_rfl) (by kernel_rfl) (by kernel_rfl) (fun _ _ _ h => h) (Or.inr ⟨by kernel_rfl, rfl⟩) hHeld ?_
                simp only [Act.put, List.setIfInBounds_toArray, List.set_cons_zero, List.set_cons_succ]
                refine wpAnyH_take (i := 16) (oi := { dst := some 47, op := Go.Op.load 9 (Go.Operand.tmp 46), type := 9, pos := "crierref6.go:173", after := #[{ on := 15, ground := Go.Ground.data }, { on := 12, ground := Go.Ground.guard }], guard := some (12, true) }) (v := undef) rfl (by kernel_rfl) (by kernel_rfl) (by kernel_rfl) (fun _ _ _ h => h) (Or.inr ⟨by kernel_rfl, rfl⟩) hHeld ?_
                simp only [Act.put, List.setIfInBounds_toArray, List.set_cons_zero, List.set_cons_succ]
                refine wpAnyH_take (i := 17) (oi := { dst := some 48, op := Go.Op.move (Go.Operand.tmp 0), type := 22, pos := "crierref6.go:173", after := #[{ on := 12, ground := Go.Ground.guard }], guard := some (12, true) }) (v := undef) rfl (by kernel_rfl) (by kernel_rfl) (by kernel_rfl) (fun _ _ _ h => h) (Or.inr ⟨by kernel_rfl, rfl⟩) hHeld ?_
                simp only [Act.put, List.setIfInBounds_toArray, List.set_cons_zero, List.set_cons_succ]
                refine wpAnyH_take (i := 18) (oi := { dst := some 49, op := Go.Op.move (Go.Operand.tmp 5), type := 3, pos := "crierref6.go:173", after := #[{ on := 12, ground := Go.Ground.guard }], guard := some (12, true) }) (v := undef) rfl (by kernel_rfl) (by kernel_rfl) (by kernel_rfl) (fun _ _ _ h => h) (Or.inr ⟨by kernel_rfl, rfl⟩) hHeld ?_
                simp only [Act.put, List.setIfInBounds_toArray, List.set_cons_zero, List.set_cons_succ]
                refine wpAnyH_take (i := 19) (oi := { dst := some 50, op := Go.Op.indexAddr 22 (Go.Operand.tmp 48) (Go.Operand.tmp 49), type := 0, pos := "crierref6.go:173", after := #[{ on := 17, ground := Go.Ground.data }, { on := 18, ground := Go.Ground.data }, { on := 12, ground := Go.Ground.guard }], guard := some (12, true) }) (v := undef) rfl (by kernel_rfl) (by kernel_rfl) (by kernel_rfl) (fun _ _ _ h => h) (Or.inr ⟨by kernel_rfl, rfl⟩) hHeld ?_
                simp only [Act.put, List.setIfInBounds_toArray, List.set_cons_zero, List.set_cons_succ]
                refine wpAnyH_take (i := 20) (oi := { dst := some 51, op := Go.Op.load 9 (Go.Operand.tmp 50), type := 9, pos := "crierref6.go:173", after := #[{ on := 19, ground := Go.Ground.data }, { on := 12, ground := Go.Ground.guard }], guard := some (12, true) }) (v := undef) rfl (by kernel_rfl) (by kernel_rfl) (by kernel_rfl) (fun _ _ _ h => h) (Or.inr ⟨by kernel_rfl, rfl⟩) hHeld ?_
                simp only [Act.put, List.setIfInBounds_toArray, List.set_cons_zero, List.set_cons_succ]
                refine wpAnyH_take (i := 21) (oi := { dst := some 52, op := Go.Op.call { callee := Go.Callee.value (Go.Operand.func 21), args := #[Go.Operand.tmp 47, Go.Operand.tmp 51], argTypes := #[9, 9] }, type := 4, pos := "crierref6.go:173", after := #[{ on := 16, ground := Go.Ground.data }, { on := 20, ground := Go.Ground.data }, { on := 12, ground := Go.Ground.chain }, { on := 12, ground := Go.Ground.guard }], guard := some (12, true) }) (v := undef) rfl (by kernel_rfl) (by kernel_rfl) (by kernel_rfl) (fun _ _ _ h => h) (Or.inr ⟨by kernel_rfl, rfl⟩) hHeld ?_
                simp only [Act.put, List.setIfInBounds_toArray, List.set_cons_zero, List.set_cons_succ]
                refine wpAnyH_take (i := 22) (oi := { dst := some 53, op := Go.Op.pick (Go.Operand.tmp 43) (Go.Operand.tmp 52) (Go.Operand.const (Go.Value.bool false)), type := 4, pos := "crierref6.go:173", after := #[{ on := 12, ground := Go.Ground.data }, { on := 21, ground := Go.Ground.data }], guard := none }) (v := .bool false) rfl (by kernel_rfl) (by kernel_rfl) (by kernel_rfl) (fun _ _ _ h => h) (Or.inl ⟨by kernel_rfl, by intro wq hSw; obtain ⟨s1, ⟨su, s2⟩, s3, s4, s5⟩ := hSw; clear hHeld; go_simp⟩) hHeld ?_
                simp only [Act.put, List.setIfInBounds_toArray, List.set_cons_zero, List.set_cons_succ]
                refine wpAnyH_take (i := 23) (oi := { dst := some 54, op := Go.Op.indexAddr 63 (Go.Operand.tmp 31) (Go.Operand.tmp 32), type := 0, pos := "crierref6.go:173", after := #[{ on := 0, ground := Go.Ground.data }, { on := 1, ground := Go.Ground.data }, { on := 0, ground := Go.Ground.phase }, { on := 1, ground := Go.Ground.phase }, { on := 2, ground := Go.Ground.phase }, { on := 3, ground := Go.Ground.phase }, { on := 4, ground := Go.Ground.phase }, { on := 5, ground := Go.Ground.phase }, { on := 6, ground := Go.Ground.phase }, { on := 7, ground := Go.Ground.phase }, { on := 8, ground := Go.Ground.phase }, { on := 9, ground := Go.Ground.phase }, { on := 10, ground := Go.Ground.phase }, { on := 11, ground := Go.Ground.phase }, { on := 12, ground := Go.Ground.phase }, { on := 13, ground := Go.Ground.phase }, { on := 14, ground := Go.Ground.phase }, { on := 15, ground := Go.Ground.phase }, { on := 16, ground := Go.Ground.phase }, { on := 17, ground := Go.Ground.phase }, { on := 18, ground := Go.Ground.phase }, { on := 19, ground := Go.Ground.phase }, { on := 20, ground := Go.Ground.phase }, { on := 21, ground := Go.Ground.phase }, { on := 22, ground := Go.Ground.phase }], guard := none }) (v := .pointer (some ⟨gb, q, none⟩)) rfl (by kernel_rfl) (by kernel_rfl) (by kernel_rfl) (fun _ _ _ h => h) (Or.inl ⟨by kernel_rfl, by intro wq hSw; obtain ⟨s1, ⟨su, s2⟩, s3, s4, s5⟩ := hSw; clear hHeld; go_simp⟩) hHeld ?_
                simp only [Act.put, List.setIfInBounds_toArray, List.set_cons_zero, List.set_cons_succ]
                refine wpAnyH_ready (rs := [24]) (by kernel_rfl) (by simp) ?_
                refine AllReadyH.cons (o := { dst := none, op := Go.Op.store 4 (Go.Operand.tmp 54) (Go.Operand.tmp 53), type := 0, pos := "crierref6.go:173", after := #[{ on := 23, ground := Go.Ground.data }, { on := 22, ground := Go.Ground.data }, { on := 21, ground := Go.Ground.chain }, { on := 0, ground := Go.Ground.phase }, { on := 1, ground := Go.Ground.phase }, { on := 2, ground := Go.Ground.phase }, { on := 3, ground := Go.Ground.phase }, { on := 4, ground := Go.Ground.phase }, { on := 5, ground := Go.Ground.phase }, { on := 6, ground := Go.Ground.phase }, { on := 7, ground := Go.Ground.phase }, { on := 8, ground := Go.Ground.phase }, { on := 9, ground := Go.Ground.phase }, { on := 10, ground := Go.Ground.phase }, { on := 11, ground := Go.Ground.phase }, { on := 12, ground := Go.Ground.phase }, { on := 13, ground := Go.Ground.phase }, { on := 14, ground := Go.Ground.phase }, { on := 15, ground := Go.Ground.phase }, { on := 16, ground := Go.Ground.phase }, { on := 17, ground := Go.Ground.phase }, { on := 18, ground := Go.Ground.phase }, { on := 19, ground := Go.Ground.phase }, { on := 20, ground := Go.Ground.phase }, { on := 21, ground := Go.Ground.phase }, { on := 22, ground := Go.Ground.phase }], guard := none }) (by rfl) (fun K hK => ?_) AllReadyH.nil
                have hHd := hHeld
                obtain ⟨-, ⟨ug, g1⟩, gfz, -, -⟩ := hHd
                have SN := hidi (SA.out)
                clear hHeld
                go_simp
                refine hK.out _ _ SN.out.1 (fun hHeld => ?_)
                clear hK K
                (try simp only [Act.put, List.setIfInBounds_toArray, List.set_cons_zero, List.set_cons_succ])
                refine wpAnyH_done (by kernel_rfl) ?_ _
                clear hHeld
                have ST := SN.out.2
                clear SN
                go_wp2_with fail
                go_roundg g2
                case measure => omega
                case rel => exact ⟨k + 1, by omega, by first | rfl | simp, ST⟩
              | false =>
                have SCF : Hid (∀ w4, Below wr.drew.heap.size wr.drew w4 → Sz gb k q gl ol false xq xk w4 ∧ (Sz gb k q gl ol false xq xk (w4.setCell ⟨gb, q, none⟩ (.bool (inP xq xk))) ∧ Hid (∃ b, Gi w gb n l q (k + 1) G b (w4.setCell ⟨gb, q, none⟩ (.bool (inP xq xk)))))) := fun w4 hb4 => by
                  have g4 := BW.out.1.below hb4
                  have b4 := BW.out.2.trans (hb4.mono BW.out.2.size)
                  have h1 := NX.out w4 (inP xq xk) g4 b4 (by simp [hkq])
                  exact ⟨KEY.out _ false (by rw [HST.out]; exact g4) b4 (fun e => absurd e hkq), KEY.out _ _ h1.1 (b4.setCell hglo _) (fun e => absurd e hkq), h1.2⟩
                clear NX KEY BW hkq hcv HC hglo hqG
                go_wp2_with fail
                refine wp_region_held_drew (S := Sz gb k q gl ol false xq xk) (by kernel_rfl) (SF.out) (fun hHeld => ?_)
                change wpAnyH _ _ _ _ _ 25 #[false, false, false, false, false, false, false, false, false, false, false, false, false, false, false, false, false, false, false, false, false, false, false, false, false] _ (World.drew _)
                refine wpAnyH_take (i := 0) (oi := { dst := some 31, op := Go.Op.move (Go.Operand.tmp 3), type := 63, pos := "crierref6.go:173", after := #[], guard := none }) (v := .slice (some ⟨gb, 0, none⟩) n n) rfl (by kernel_rfl) (by kernel_rfl) (by kernel_rfl) (fun _ _ _ h => h) (Or.inl ⟨by kernel_rfl, by intro wq hSw; obtain ⟨s1, ⟨su, s2⟩, s3, s4, s5⟩ := hSw; clear hHeld; go_simp⟩) hHeld ?_
                simp only [Act.put, List.setIfInBounds_toArray, List.set_cons_zero, List.set_cons_succ]
                refine wpAnyH_take (i := 1) (oi := { dst := some 32, op := Go.Op.move (Go.Operand.tmp 4), type := 3, pos := "crierref6.go:173", after := #[], guard := none }) (v := .int .i64 (q : Int)) rfl (by kernel_rfl) (by kernel_rfl) (by kernel_rfl) (fun _ _ _ h => h) (Or.inl ⟨by kernel_rfl, by intro wq hSw; obtain ⟨s1, ⟨su, s2⟩, s3, s4, s5⟩ := hSw; clear hHeld; go_simp⟩) hHeld ?_
                simp only [Act.put, List.setIfInBounds_toArray, List.set_cons_zero, List.set_cons_succ]
                refine wpAnyH_take (i := 2) (oi := { dst := some 33, op := Go.Op.move (Go.Operand.tmp 5), type := 3, pos := "crierref6.go:173", after := #[], guard := none }) (v := .int .i64 (k : Int)) rfl (by kernel_rfl) (by kernel_rfl) (by kernel_rfl) (fun _ _ _ h => h) (Or.inl ⟨by kernel_rfl, by intro wq hSw; obtain ⟨s1, ⟨su, s2⟩, s3, s4, s5⟩ := hSw; clear hHeld; go_simp⟩) hHeld ?_
                simp only [Act.put, List.setIfInBounds_toArray, List.set_cons_zero, List.set_cons_succ]
                refine wpAnyH_take (i := 3) (oi := { dst := some 34, op := Go.Op.move (Go.Operand.tmp 4), type := 3, pos := "crierref6.go:173", after := #[], guard := none }) (v := .int .i64 (q : Int)) rfl (by kernel_rfl) (by kernel_rfl) (by kernel_rfl) (fun _ _ _ h => h) (Or.inl ⟨by kernel_rfl, by intro wq hSw; obtain ⟨s1, ⟨su, s2⟩, s3, s4, s5⟩ := hSw; clear hHeld; go_simp⟩) hHeld ?_
                simp only [Act.put, List.setIfInBounds_toArray, List.set_cons_zero, List.set_cons_succ]
                refine wpAnyH_take (i := 4) (oi := { dst := some 35, op := Go.Op.binOp Go.BinOp.neq 3 (Go.Operand.tmp 33) (Go.Operand.tmp 34) 3, type := 4, pos := "crierref6.go:173", after := #[{ on := 2, ground := Go.Ground.data }, { on := 3, ground := Go.Ground.data }], guard := none }) (v := .bool true) rfl (by kernel_rfl) (by kernel_rfl) (by kernel_rfl) (fun _ _ _ h => h) (Or.inl ⟨by kernel_rfl, by intro wq hSw; obtain ⟨s1, ⟨su, s2⟩, s3, s4, s5⟩ := hSw; clear hHeld; go_simp⟩) hHeld ?_
                simp only [Act.put, List.setIfInBounds_toArray, List.set_cons_zero, List.set_cons_succ]
                refine wpAnyH_take (i := 5) (oi := { dst := some 36, op := Go.Op.move (Go.Operand.tmp 35), type := 4, pos := "crierref6.go:173", after := #[{ on := 4, ground := Go.Ground.data }], guard := none }) (v := .bool true) rfl (by kernel_rfl) (by kernel_rfl) (by kernel_rfl) (fun _ _ _ h => h) (Or.inl ⟨by kernel_rfl, by intro wq hSw; obtain ⟨s1, ⟨su, s2⟩, s3, s4, s5⟩ := hSw; clear hHeld; go_simp⟩) hHeld ?_
                simp only [Act.put, List.setIfInBounds_toArray, List.set_cons_zero, List.set_cons_succ]
                refine wpAnyH_take (i := 6) (oi := { dst := some 37, op := Go.Op.move (Go.Operand.tmp 3), type := 63, pos := "crierref6.go:173", after := #[{ on := 5, ground := Go.Ground.guard }], guard := some (5, true) }) (v := .slice (some ⟨gb, 0, none⟩) n n) rfl (by kernel_rfl) (by kernel_rfl) (by kernel_rfl) (fun _ _ _ h => h) (Or.inl ⟨by kernel_rfl, by intro wq hSw; obtain ⟨s1, ⟨su, s2⟩, s3, s4, s5⟩ := hSw; clear hHeld; go_simp⟩) hHeld ?_
                simp only [Act.put, List.setIfInBounds_toArray, List.set_cons_zero, List.set_cons_succ]
                refine wpAnyH_take (i := 7) (oi := { dst := some 38, op := Go.Op.move (Go.Operand.tmp 5), type := 3, pos := "crierref6.go:173", after := #[{ on := 5, ground := Go.Ground.guard }], guard := some (5, true) }) (v := .int .i64 (k : Int)) rfl (by kernel_rfl) (by kernel_rfl) (by kernel_rfl) (fun _ _ _ h => h) (Or.inl ⟨by kernel_rfl, by intro wq hSw; obtain ⟨s1, ⟨su, s2⟩, s3, s4, s5⟩ := hSw; clear hHeld; go_simp⟩) hHeld ?_
                simp only [Act.put, List.setIfInBounds_toArray, List.set_cons_zero, List.set_cons_succ]
                refine wpAnyH_take (i := 8) (oi := { dst := some 39, op := Go.Op.indexAddr 63 (Go.Operand.tmp 37) (Go.Operand.tmp 38), type := 0, pos := "crierref6.go:173", after := #[{ on := 6, ground := Go.Ground.data }, { on := 7, ground := Go.Ground.data }, { on := 5, ground := Go.Ground.guard }], guard := some (5, true) }) (v := .pointer (some ⟨gb, k, none⟩)) rfl (by kernel_rfl) (by kernel_rfl) (by kernel_rfl) (fun _ _ _ h => h) (Or.inl ⟨by kernel_rfl, by intro wq hSw; obtain ⟨s1, ⟨su, s2⟩, s3, s4, s5⟩ := hSw; clear hHeld; go_simp⟩) hHeld ?_
                simp only [Act.put, List.setIfInBounds_toArray, List.set_cons_zero, List.set_cons_succ]
                refine wpAnyH_take (i := 9) (oi := { dst := some 40, op := Go.Op.load 4 (Go.Operand.tmp 39), type := 4, pos := "crierref6.go:173", after := #[{ on := 8, ground := Go.Ground.data }, { on := 5, ground := Go.Ground.guard }], guard := some (5, true) }) (v := .bool false) rfl (by kernel_rfl) (by kernel_rfl) (by kernel_rfl) (fun _ _ _ h => h) (Or.inl ⟨by kernel_rfl, by intro wq hSw; obtain ⟨s1, ⟨su, s2⟩, s3, s4, s5⟩ := hSw; clear hHeld; go_simp⟩) hHeld ?_
                simp only [Act.put, List.setIfInBounds_toArray, List.set_cons_zero, List.set_cons_succ]
                refine wpAnyH_take (i := 10) (oi := { dst := some 41, op := Go.Op.unOp Go.UnOp.not 4 (Go.Operand.tmp 40), type := 4, pos := "crierref6.go:173", after := #[{ on := 9, ground := Go.Ground.data }, { on := 5, ground := Go.Ground.guard }], guard := some (5, true) }) (v := .bool true) rfl (by kernel_rfl) (by kernel_rfl) (by kernel_rfl) (fun _ _ _ h => h) (Or.inl ⟨by kernel_rfl, by intro wq hSw; obtain ⟨s1, ⟨su, s2⟩, s3, s4, s5⟩ := hSw; clear hHeld; go_simp⟩) hHeld ?_
                simp only [Act.put, List.setIfInBounds_toArray, List.set_cons_zero, List.set_cons_succ]
                refine wpAnyH_take (i := 11) (oi := { dst := some 42, op := Go.Op.pick (Go.Operand.tmp 36) (Go.Operand.tmp 41) (Go.Operand.const (Go.Value.bool false)), type := 4, pos := "crierref6.go:173", after := #[{ on := 5, ground := Go.Ground.data }, { on := 10, ground := Go.Ground.data }], guard := none }) (v := .bool true) rfl (by kernel_rfl) (by kernel_rfl) (by kernel_rfl) (fun _ _ _ h => h) (Or.inl ⟨by kernel_rfl, by intro wq hSw; obtain ⟨s1, ⟨su, s2⟩, s3, s4, s5⟩ := hSw; clear hHeld; go_simp⟩) hHeld ?_
                simp only [Act.put, List.setIfInBounds_toArray, List.set_cons_zero, List.set_cons_succ]
                refine wpAnyH_take (i := 12) (oi := { dst := some 43, op := Go.Op.move (Go.Operand.tmp 42), type := 4, pos := "crierref6.go:173", after := #[{ on := 11, ground := Go.Ground.data }, { on := 5, ground := Go.Ground.chain }], guard := none }) (v := .bool true) rfl (by kernel_rfl) (by kernel_rfl) (by kernel_rfl) (fun _ _ _ h => h) (Or.inl ⟨by kernel_rfl, by intro wq hSw; obtain ⟨s1, ⟨su, s2⟩, s3, s4, s5⟩ := hSw; clear hHeld; go_simp⟩) hHeld ?_
                simp only [Act.put, List.setIfInBounds_toArray, List.set_cons_zero, List.set_cons_succ]
                refine wpAnyH_take (i := 13) (oi := { dst := some 44, op := Go.Op.move (Go.Operand.tmp 0), type := 22, pos := "crierref6.go:173", after := #[{ on := 12, ground := Go.Ground.guard }], guard := some (12, true) }) (v := .slice (some ⟨gl, ol, none⟩) n cap) rfl (by kernel_rfl) (by kernel_rfl) (by kernel_rfl) (fun _ _ _ h => h) (Or.inl ⟨by kernel_rfl, by intro wq hSw; obtain ⟨s1, ⟨su, s2⟩, s3, s4, s5⟩ := hSw; clear hHeld; go_simp⟩) hHeld ?_
                simp only [Act.put, List.setIfInBounds_toArray, List.set_cons_zero, List.set_cons_succ]
                refine wpAnyH_take (i := 14) (oi := { dst := some 45, op := Go.Op.move (Go.Operand.tmp 4), type := 3, pos := "crierref6.go:173", after := #[{ on := 12, ground := Go.Ground.guard }], guard := some (12, true) }) (v := .int .i64 (q : Int)) rfl (by kernel_rfl) (by kernel_rfl) (by kernel_rfl) (fun _ _ _ h => h) (Or.inl ⟨by kernel_rfl, by intro wq hSw; obtain ⟨s1, ⟨su, s2⟩, s3, s4, s5⟩ := hSw; clear hHeld; go_simp⟩) hHeld ?_
                simp only [Act.put, List.setIfInBounds_toArray, List.set_cons_zero, List.set_cons_succ]
                refine wpAnyH_take (i := 15) (oi := { dst := some 46, op := Go.Op.indexAddr 22 (Go.Operand.tmp 44) (Go.Operand.tmp 45), type := 0, pos := "crierref6.go:173", after := #[{ on := 13, ground := Go.Ground.data }, { on := 14, ground := Go.Ground.data }, { on := 12, ground := Go.Ground.guard }], guard := some (12, true) }) (v := .pointer (some ⟨gl, ol + q, none⟩)) rfl (by kernel_rfl) (by kernel_rfl) (by kernel_rfl) (fun _ _ _ h => h) (Or.inl ⟨by kernel_rfl, by intro wq hSw; obtain ⟨s1, ⟨su, s2⟩, s3, s4, s5⟩ := hSw; clear hHeld; go_simp⟩) hHeld ?_
                simp only [Act.put, List.setIfInBounds_toArray, List.set_cons_zero, List.set_cons_succ]
                refine wpAnyH_take (i := 16) (oi := { dst := some 47, op := Go.Op.load 9 (Go.Operand.tmp 46), type := 9, pos := "crierref6.go:173", after := #[{ on := 15, ground := Go.Ground.data }, { on := 12, ground := Go.Ground.guard }], guard := some (12, true) }) (v := .string xq) rfl (by kernel_rfl) (by kernel_rfl) (by kernel_rfl) (fun _ _ _ h => h) (Or.inl ⟨by kernel_rfl, by intro wq hSw; obtain ⟨s1, ⟨su, s2⟩, s3, s4, s5⟩ := hSw; clear hHeld; go_simp⟩) hHeld ?_
                simp only [Act.put, List.setIfInBounds_toArray, List.set_cons_zero, List.set_cons_succ]
                refine wpAnyH_take (i := 17) (oi := { dst := some 48, op := Go.Op.move (Go.Operand.tmp 0), type := 22, pos := "crierref6.go:173", after := #[{ on := 12, ground := Go.Ground.guard }], guard := some (12, true) }) (v := .slice (some ⟨gl, ol, none⟩) n cap) rfl (by kernel_rfl) (by kernel_rfl) (by kernel_rfl) (fun _ _ _ h => h) (Or.inl ⟨by kernel_rfl, by intro wq hSw; obtain ⟨s1, ⟨su, s2⟩, s3, s4, s5⟩ := hSw; clear hHeld; go_simp⟩) hHeld ?_
                simp only [Act.put, List.setIfInBounds_toArray, List.set_cons_zero, List.set_cons_succ]
                refine wpAnyH_take (i := 18) (oi := { dst := some 49, op := Go.Op.move (Go.Operand.tmp 5), type := 3, pos := "crierref6.go:173", after := #[{ on := 12, ground := Go.Ground.guard }], guard := some (12, true) }) (v := .int .i64 (k : Int)) rfl (by kernel_rfl) (by kernel_rfl) (by kernel_rfl) (fun _ _ _ h => h) (Or.inl ⟨by kernel_rfl, by intro wq hSw; obtain ⟨s1, ⟨su, s2⟩, s3, s4, s5⟩ := hSw; clear hHeld; go_simp⟩) hHeld ?_
                simp only [Act.put, List.setIfInBounds_toArray, List.set_cons_zero, List.set_cons_succ]
                refine wpAnyH_take (i := 19) (oi := { dst := some 50, op := Go.Op.indexAddr 22 (Go.Operand.tmp 48) (Go.Operand.tmp 49), type := 0, pos := "crierref6.go:173", after := #[{ on := 17, ground := Go.Ground.data }, { on := 18, ground := Go.Ground.data }, { on := 12, ground := Go.Ground.guard }], guard := some (12, true) }) (v := .pointer (some ⟨gl, ol + k, none⟩)) rfl (by kernel_rfl) (by kernel_rfl) (by kernel_rfl) (fun _ _ _ h => h) (Or.inl ⟨by kernel_rfl, by intro wq hSw; obtain ⟨s1, ⟨su, s2⟩, s3, s4, s5⟩ := hSw; clear hHeld; go_simp⟩) hHeld ?_
                simp only [Act.put, List.setIfInBounds_toArray, List.set_cons_zero, List.set_cons_succ]
                refine wpAnyH_take (i := 20) (oi := { dst := some 51, op := Go.Op.load 9 (Go.Operand.tmp 50), type := 9, pos := "crierref6.go:173", after := #[{ on := 19, ground := Go.Ground.data }, { on := 12, ground := Go.Ground.guard }], guard := some (12, true) }) (v := .string xk) rfl (by kernel_rfl) (by kernel_rfl) (by kernel_rfl) (fun _ _ _ h => h) (Or.inl ⟨by kernel_rfl, by intro wq hSw; obtain ⟨s1, ⟨su, s2⟩, s3, s4, s5⟩ := hSw; clear hHeld; go_simp⟩) hHeld ?_
                simp only [Act.put, List.setIfInBounds_toArray, List.set_cons_zero, List.set_cons_succ]
                refine wpAnyH_ready (rs := [21]) (by kernel_rfl) (by simp) ?_
                refine AllReadyH.cons (o := { dst := some 52, op := Go.Op.call { callee := Go.Callee.value (Go.Operand.func 21), args := #[Go.Operand.tmp 47, Go.Operand.tmp 51], argTypes := #[9, 9] }, type := 4, pos := "crierref6.go:173", after := #[{ on := 16, ground := Go.Ground.data }, { on := 20, ground := Go.Ground.data }, { on := 12, ground := Go.Ground.chain }, { on := 12, ground := Go.Ground.guard }], guard := some (12, true) }) (by rfl) (fun K hK => ?_) AllReadyH.nil
                clear hHeld
                go_simp
                go_wp2_with (go_at_call 21; refine (refWithin_any xq xk wr.drew).mono ?_; rintro e w4 ⟨rfl, hb4⟩)
                have SC := hidi (SCF.out w4 hb4)
                clear hb4 SCF
                refine hK.out _ _ SC.out.1 (fun hHeld => ?_)
                clear hK K
                (try simp only [Act.put, List.setIfInBounds_toArray, List.set_cons_zero, List.set_cons_succ])
                obtain ⟨bw, hbw⟩ : ∃ bw, inP xq xk = bw := ⟨_, rfl⟩
                rw [hbw] at SC ⊢
                have SD := hidi SC.out.2
                clear SC hbw
                refine wpAnyH_take (i := 22) (oi := { dst := some 53, op := Go.Op.pick (Go.Operand.tmp 43) (Go.Operand.tmp 52) (Go.Operand.const (Go.Value.bool false)), type := 4, pos := "crierref6.go:173", after := #[{ on := 12, ground := Go.Ground.data }, { on := 21, ground := Go.Ground.data }], guard := none }) (v := .bool bw) rfl (by kernel_rfl) (by kernel_rfl) (by kernel_rfl) (fun _ _ _ h => h) (Or.inl ⟨by kernel_rfl, by intro wq hSw; obtain ⟨s1, ⟨su, s2⟩, s3, s4, s5⟩ := hSw; clear hHeld; go_simp⟩) hHeld ?_
                simp only [Act.put, List.setIfInBounds_toArray, List.set_cons_zero, List.set_cons_succ]
                refine wpAnyH_take (i := 23) (oi := { dst := some 54, op := Go.Op.indexAddr 63 (Go.Operand.tmp 31) (Go.Operand.tmp 32), type := 0, pos := "crierref6.go:173", after := #[{ on := 0, ground := Go.Ground.data }, { on := 1, ground := Go.Ground.data }, { on := 0, ground := Go.Ground.phase }, { on := 1, ground := Go.Ground.phase }, { on := 2, ground := Go.Ground.phase }, { on := 3, ground := Go.Ground.phase }, { on := 4, ground := Go.Ground.phase }, { on := 5, ground := Go.Ground.phase }, { on := 6, ground := Go.Ground.phase }, { on := 7, ground := Go.Ground.phase }, { on := 8, ground := Go.Ground.phase }, { on := 9, ground := Go.Ground.phase }, { on := 10, ground := Go.Ground.phase }, { on := 11, ground := Go.Ground.phase }, { on := 12, ground := Go.Ground.phase }, { on := 13, ground := Go.Ground.phase }, { on := 14, ground := Go.Ground.phase }, { on := 15, ground := Go.Ground.phase }, { on := 16, ground := Go.Ground.phase }, { on := 17, ground := Go.Ground.phase }, { on := 18, ground := Go.Ground.phase }, { on := 19, ground := Go.Ground.phase }, { on := 20, ground := Go.Ground.phase }, { on := 21, ground := Go.Ground.phase }, { on := 22, ground := Go.Ground.phase }], guard := none }) (v := .pointer (some ⟨gb, q, none⟩)) rfl (by kernel_rfl) (by kernel_rfl) (by kernel_rfl) (fun _ _ _ h => h) (Or.inl ⟨by kernel_rfl, by intro wq hSw; obtain ⟨s1, ⟨su, s2⟩, s3, s4, s5⟩ := hSw; clear hHeld; go_simp⟩) hHeld ?_
                simp only [Act.put, List.setIfInBounds_toArray, List.set_cons_zero, List.set_cons_succ]
                refine wpAnyH_ready (rs := [24]) (by kernel_rfl) (by simp) ?_
                refine AllReadyH.cons (o := { dst := none, op := Go.Op.store 4 (Go.Operand.tmp 54) (Go.Operand.tmp 53), type := 0, pos := "crierref6.go:173", after := #[{ on := 23, ground := Go.Ground.data }, { on := 22, ground := Go.Ground.data }, { on := 21, ground := Go.Ground.chain }, { on := 0, ground := Go.Ground.phase }, { on := 1, ground := Go.Ground.phase }, { on := 2, ground := Go.Ground.phase }, { on := 3, ground := Go.Ground.phase }, { on := 4, ground := Go.Ground.phase }, { on := 5, ground := Go.Ground.phase }, { on := 6, ground := Go.Ground.phase }, { on := 7, ground := Go.Ground.phase }, { on := 8, ground := Go.Ground.phase }, { on := 9, ground := Go.Ground.phase }, { on := 10, ground := Go.Ground.phase }, { on := 11, ground := Go.Ground.phase }, { on := 12, ground := Go.Ground.phase }, { on := 13, ground := Go.Ground.phase }, { on := 14, ground := Go.Ground.phase }, { on := 15, ground := Go.Ground.phase }, { on := 16, ground := Go.Ground.phase }, { on := 17, ground := Go.Ground.phase }, { on := 18, ground := Go.Ground.phase }, { on := 19, ground := Go.Ground.phase }, { on := 20, ground := Go.Ground.phase }, { on := 21, ground := Go.Ground.phase }, { on := 22, ground := Go.Ground.phase }], guard := none }) (by rfl) (fun K hK => ?_) AllReadyH.nil
                obtain ⟨-, ⟨ug, g1⟩, gfz, -, -⟩ := hHeld
                go_simp
                refine hK.out _ _ SD.out.1 (fun hHeld => ?_)
                clear hK K
                (try simp only [Act.put, List.setIfInBounds_toArray, List.set_cons_zero, List.set_cons_succ])
                refine wpAnyH_done (by kernel_rfl) ?_ _
                clear hHeld
                have ST := SD.out.2
                clear SD
                go_wp2_with fail
                go_roundg g2
                case measure => omega
                case rel => exact ⟨k + 1, by omega, by first | rfl | simp, ST⟩
end Go.Proofs.YtglnldopnoafoaaGreatDoor
