import Derived.Test.YtbjhblnagmpnfaaDoorQc
namespace Go.Proofs.YtbjhblnagmpnfaaDoor
open Go Go.RowKit Go.Shelf Go.Maps Go.Sort
set_option linter.unusedSimpArgs false
set_option linter.unusedVariables false
/-! ### hear -/
theorem prow_at (S : List Pq) (i : Nat) (hi : i < S.length) (c : Nat) (hc : c < 25) : (prow S)[i * 25 + c]? = S[i].cs[c]? := by
  induction S generalizing i with
  | nil => simp at hi
  | cons x S ih =>
    have e : prow (x :: S) = x.cs.toList ++ prow S := rfl
    have hl : x.cs.toList.length = 25 := rfl
    cases i with
    | zero =>
      rw [e, List.getElem?_append_left (by rw [hl]; omega)]
      simp
    | succ i =>
      have h := ih i (by simpa using hi)
      rw [e, List.getElem?_append_right (by rw [hl]; omega), hl, show (i + 1) * 25 + c - 25 = i * 25 + c by omega]
      simpa using h
theorem prow_cell {w : World} {B k : Nat} {v : Value} {S : List Pq} (h : w.ownsRow B 51 25 v k (prow S)) {j : Nat} (hj : j < k) (hl : j < S.length) : ∃ g c, v = .slice (some ⟨g, 0, none⟩) k c ∧ ∀ x, x < 25 → w.cell? ⟨g, j * 25 + x, none⟩ = S[j].cs[x]? := by
  rcases h.2 with ⟨_, h2⟩ | ⟨g, cap, cur, h1, h2, h3, h4, h5, h6, h7⟩
  · omega
  · refine ⟨g, cap, h1, fun x hx => ?_⟩
    rw [← prow_at S j hl x hx, ← h7]
    have : j * 25 + x < k * 25 := by omega
    simp [List.getElem?_take, this, World.cell?, h3]
def newQ (p : Pq) : Bool := decide (p.k = 3) && !p.d
def newMs (S : List Pq) : List Ms := (S.filter newQ).map (·.m)
theorem newMs_p (S : List Pq) : (newMs S).map Ms.p = msgsOf (S.map Pq.p) := by
  unfold newMs msgsOf
  rw [List.filter_map, List.map_map, List.map_map]
  rfl
structure HeI (W wx : World) (sbx : Nat) (sv lv : Value) (MS : List Ms) (S : List Pq) : Prop where
  own : wx.ownsRow 0 30 4 lv (MS ++ newMs S).length (mrow (MS ++ newMs S))
  box : wx.heap[sbx]? = some (.cells #[lv] 39 (0, 0))
  ch : Ch (fun j => j = sbx ∨ sv.ownBlock = some j) W wx
  nb : ∀ g, lv.ownBlock = some g → sv.ownBlock = some g ∨ W.heap.size ≤ g
theorem newMs_snoc_yes {S : List Pq} {p : Pq} (h : newQ p = true) : newMs (S ++ [p]) = newMs S ++ [p.m] := by simp [newMs, h]
theorem newMs_snoc_no {S : List Pq} {p : Pq} (h : newQ p = false) : newMs (S ++ [p]) = newMs S := by simp [newMs, h]
theorem HeI.arm {W wr : World} {sbx : Nat} {sv lv : Value} {MS : List Ms} {S : List Pq} (h : HeI W wr sbx sv lv MS S) (p : Pq) (hq : newQ p = true) (hv : ∃ a k c, p.m.v = .slice a k c) (hl : (MS ++ newMs S).length ≤ 1000000) :
    ∃ g' cap' w2, (Builtin.append_ #[39, 39] 39 #[lv, .slice (some ⟨wr.heap.size, 0, none⟩) 1 1]).run Tryd.prog (wr.drew.alloc (.cells #[.string p.m.t, p.m.v, .int .i64 p.m.q, .bool p.m.r] 30)) = .ok (.slice (some ⟨g', 0, none⟩) ((MS ++ newMs S).length + 1) cap') w2 ∧ w2.cell? ⟨sbx, 0, none⟩ = some lv ∧ w2.frozen? ⟨sbx, 0, none⟩ = false ∧ HeI W (w2.setCell ⟨sbx, 0, none⟩ (.slice (some ⟨g', 0, none⟩) ((MS ++ newMs S).length + 1) cap')) sbx sv (.slice (some ⟨g', 0, none⟩) ((MS ++ newMs S).length + 1) cap') MS (S ++ [p]) := by
  obtain ⟨pa, pk, pc, hv⟩ := hv
  obtain ⟨g', cap', w2, k1, k2, k3, k4⟩ := app_gen (w := wr.drew) (st := 39) (e := 30) (cs := #[.string p.m.t, p.m.v, .int .i64 p.m.q, .bool p.m.r]) Tryd.underlying39 info30 rfl (by omega) (by omega) h.own rfl (by rw [hv]; simp [Value.oneCell']) hl
  have hbl : sbx < wr.heap.size := (Array.getElem?_eq_some_iff.1 h.box).1
  have hne : lv.ownBlock ≠ some sbx := fun e => by obtain ⟨cur, z⟩ := own_lt h.own e; rw [h.box] at z; simp at z
  have hb2 : w2.heap[sbx]? = some (.cells #[lv] 39 (0, 0)) := (k3.block sbx hbl hne).trans h.box
  have hgs : g' ≠ sbx := fun e => by obtain ⟨cur, z⟩ := own_lt k2 (g := g') rfl; rw [e, hb2] at z; simp at z
  refine ⟨g', cap', w2, k1, box_cells hb2 0 _ rfl, box_frozen hb2 0, ⟨?_, ?_, ?_, ?_⟩⟩
  · have e : (MS ++ newMs S ++ [p.m]).length = (MS ++ newMs S).length + 1 := by rw [List.length_append, List.length_singleton]
    rw [newMs_snoc_yes hq, ← List.append_assoc, mrow_snoc, e]
    exact own_ch k2 (ch_set sbx 0 _) (fun g hg => by simp [Value.ownBlock] at hg; subst hg; exact hgs)
  · rw [heap_set hb2]
    rfl
  · refine ((h.ch.trans (ch_drew (fun _ => False) wr) (fun j _ q => q.elim)).trans k3 (fun j hj q => ?_)).trans (ch_set sbx 0 _) (fun j _ q => .inl q)
    rcases h.nb j q with z | z
    · exact .inr z
    · omega
  · intro g hg
    simp [Value.ownBlock] at hg
    subst hg
    rcases k4 with z | z
    · exact h.nb _ z
    · exact .inr (Nat.le_trans h.ch.size z)
set_option maxRecDepth 100000 in
set_option maxHeartbeats 4000000 in
theorem hear_any {W : World} {sbx : Nat} {sv v : Value} {MS : List Ms} {S : List Pq} {B B' : Nat} (hv : W.ownsRow B 51 25 v S.length (prow S)) (hp : ∀ p ∈ S, PB W p.m.v p.m.xs) (ho : W.ownsRow B' 30 4 sv MS.length (mrow MS)) (hb : W.heap[sbx]? = some (.cells #[sv] 39 (0, 0))) (hl : MS.length + S.length ≤ 1000000) :
    Calls Tryd.prog 16 #[v, .pointer (some ⟨sbx, 0, none⟩)] W fun e w' => e = .returned (.tuple #[]) ∧ ∃ lv, HeI W w' sbx sv lv MS S := by
  obtain ⟨va, vc, hvv⟩ := own_sl hv
  obtain ⟨n, hn⟩ : ∃ n, n = S.length := ⟨_, rfl⟩
  rw [← hn] at hvv hv hl
  subst hvv
  have HV := hidi (And.intro hv (And.intro hp (And.intro hn hl)))
  have I0 := hidi (show HeI W W sbx sv sv MS (S.take 0) from ⟨by simpa [newMs] using own0 ho, hb, Ch.refl _ _, fun g hg => .inl hg⟩)
  have hW : ∀ {wx : World} {lv : Value} {j : Nat}, HeI W wx sbx sv lv MS (S.take j) → wx.ownsRow B 51 25 (.slice va n vc) n (prow S) := fun hx => own_ch hv hx.ch (fun g hg q => by
    obtain ⟨cur, e⟩ := own_lt hv hg
    rcases q with q | q
    · rw [q, hb] at e; simp at e
    · obtain ⟨cur', e'⟩ := own_lt ho q; rw [e'] at e; simp at e)
  have HW := hidi (fun (wx : World) (lv : Value) (j : Nat) (hx : HeI W wx sbx sv lv MS (S.take j)) => hW hx)
  clear hv hp hn ho hb hl hW
  go_enter Tryd.func16, Tryd.ntmps16
  go_wp2_with fail
  go_loopg [3] n (fun gk s3 wx => ∃ (j : Nat) (lv : Value), j + gk = n ∧ s3 = .int .i64 j ∧ Hid (HeI W wx sbx sv lv MS (S.take j)))
  case atStart => exact ⟨0, sv, by omega, rfl, I0.out⟩
  case round =>
    obtain ⟨j, lv, hj, rfl, HI⟩ := hrel
    clear I0
    by_cases hjn : j < n
    · have hlt : (j : Int) < (n : Int) := by omega
      have hge : (0 : Int) ≤ (j : Int) := by omega
      have hjf : j < S.length := by rw [← HV.out.2.2.1]; exact hjn
      have hw1 : IntKind.i64.wrap ((j : Int) + 1) = (j : Int) + 1 := by rw [IntKind.wrap_i64]; have := HV.out.2.2.2; omega
      obtain ⟨g, c, hv, hcell⟩ := prow_cell (HW.out _ _ _ HI.out) hjn hjf
      have hva : va = some ⟨g, 0, none⟩ := by injection hv
      subst hva
      have hpy := HV.out.2.1 _ (List.getElem_mem hjf)
      have htk : S.take (j + 1) = S.take j ++ [S[j]] := List.take_succ_eq_append_getElem hjf
      have hll : (MS ++ newMs (S.take j)).length ≤ 1000000 := by
        have h1 : (newMs (S.take j)).length ≤ (S.take j).length := by unfold newMs; rw [List.length_map]; exact List.length_filter_le _ _
        have h2 : (S.take j).length = j := by rw [List.length_take]; omega
        have h3 := HV.out.2.2.2
        rw [List.length_append]
        omega
      have ARM := hidi (fun (hq : newQ (S[j]'hjf) = true) => HI.out.arm (S[j]'hjf) hq hpy.sl hll)
      have NO := hidi (fun (hq : newQ S[j] = false) (wx : World) (hx : HeI W wx sbx sv lv MS (S.take j)) => (show HeI W wx sbx sv lv MS (S.take (j + 1)) from by rw [htk]; exact ⟨by rw [newMs_snoc_no hq]; exact hx.own, hx.box, hx.ch, hx.nb⟩))
      obtain ⟨p, hpe⟩ : ∃ p, p = S[j] := ⟨_, rfl⟩
      rw [← hpe] at hcell hpy htk ARM NO
      have HTK := hidi htk
      clear hv hll hjf htk hpe
      obtain ⟨k, d, id, ⟨t, pv, q, r, xs⟩⟩ := p
      obtain ⟨pa, pn, pc, rfl⟩ := hpy.sl
      have k0 : wr.cell? ⟨g, j * 25, none⟩ = some (.int .i64 k) := hcell 0 (by omega)
      have k16 : wr.cell? ⟨g, j * 25 + 16, none⟩ = some (.bool d) := hcell 16 (by omega)
      have k17 : wr.cell? ⟨g, j * 25 + 17, none⟩ = some (.string t) := hcell 17 (by omega)
      have k18 : wr.cell? ⟨g, j * 25 + 18, none⟩ = some (.slice pa pn pc) := hcell 18 (by omega)
      have k19 : wr.cell? ⟨g, j * 25 + 19, none⟩ = some (.int .i64 q) := hcell 19 (by omega)
      have k20 : wr.cell? ⟨g, j * 25 + 20, none⟩ = some (.bool r) := hcell 20 (by omega)
      have kb : wr.cell? ⟨sbx, 0, none⟩ = some lv := box_cells HI.out.box 0 _ rfl
      have hsbl : sbx < wr.heap.size := World.block_lt_of_cell? _ _ kb
      have hgl : g < wr.heap.size := World.block_lt_of_cell? _ _ k0
      clear hcell hpy
      by_cases hk : k = 3
      · subst hk
        cases d
        · obtain ⟨g', cap', w2, hr, c2, f2, hH⟩ := ARM.out rfl
          obtain ⟨la, lc, rfl⟩ := own_sl HI.out.own
          obtain ⟨nl, hnl⟩ : ∃ nl, nl = (MS ++ newMs (S.take j)).length := ⟨_, rfl⟩
          rw [← hnl] at hr c2 hH kb
          have HR := hidi hr
          have HH := hidi hH
          clear hr hH ARM NO HI hnl
          go_wp2_with fail
          go_region_law (refine step_app rfl (.tmp 24) (.tmp 30) 39 39 rfl _ _ rfl rfl _ w2 HR.out ?_)
          all_goals go_wp2_with fail
          all_goals go_roundg (n - (j + 1))
          all_goals first | omega | exact ⟨j + 1, _, by omega, by first | rfl | simp, by rw [HTK.out]; exact HH.out⟩
        · have HH := hidi (NO.out rfl wr HI.out)
          clear ARM NO HI
          go_wp2_with fail
          go_roundg (n - (j + 1))
          case measure => omega
          case rel => exact ⟨j + 1, lv, by omega, by first | rfl | simp, HH.out⟩
      · have e3 : (k == 3) = false := by simpa using hk
        have HH := hidi (NO.out (by unfold newQ; rw [decide_eq_false hk]; rfl) wr HI.out)
        clear ARM NO HI hk
        go_wp2_with fail
        go_roundg (n - (j + 1))
        case measure => omega
        case rel => exact ⟨j + 1, lv, by omega, by first | rfl | simp, HH.out⟩
    · have hlt : ¬ (j : Int) < (n : Int) := by omega
      have hz : S.take j = S := List.take_of_length_le (by have := HV.out.2.2.1; omega)
      have HH := hidi (show HeI W wr sbx sv lv MS S by have h := HI.out; rw [hz] at h; exact h)
      clear hz HI
      go_wp2_with fail
      first | go_end0 | refine bodyPost_ret (results_none rfl _ _ _) rfl ?_
      exact ⟨rfl, lv, HH.out⟩
end Go.Proofs.YtbjhblnagmpnfaaDoor
