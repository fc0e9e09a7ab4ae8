import Derived.Test.YtdhinpmjbcohaaaGreatQaQ
namespace Go.Proofs.YtdhinpmjbcohaaaGreat.Qa
open Go Go.RowKit
set_option linter.unusedSimpArgs false
set_option linter.unusedVariables false

theorem wa_below (w : World) (k : Kt) : Below w.heap.size w ((w.alloc (.cells #[.int .u8 k.1, .int .u8 k.2] 43)).alloc (.cells #[.int .u8 0, .int .u8 0] 43)) := ((Below.refl _ _).alloc (Nat.le_refl _) _).alloc (by simp) _
theorem wa_key (w : World) (k : Kt) : ((w.alloc (.cells #[.int .u8 k.1, .int .u8 k.2] 43)).alloc (.cells #[.int .u8 0, .int .u8 0] 43)).heap[w.heap.size]? = some (.cells #[.int .u8 k.1, .int .u8 k.2] 43 (0, 0)) :=
 (Below.heap_alloc _ _ _ (by simp)).trans (heap_alloc_new w _)
theorem below_drewN' {B : Nat} {w0 w : World} (h : Below B w0 w) (m : Nat) : Below B w0 (w.drewN m) := ⟨h.os, h.tape, h.output, h.size, h.block⟩
theorem ch_drewN {S : Nat → Prop} {w0 w : World} (h : Ch S w0 w) (m : Nat) : Ch S w0 (w.drewN m) := ⟨h.os, h.tape, h.output, h.size, h.block⟩
theorem of_any {w : World} {kb : Nat} {C : List Kt} {G : Nat → Prop} (h : CD w kb C G) (k : Kt) (hl : C.length ≤ 900000) : Calls Tryz.prog 41 #[pt kb, mk k] w fun r w' => r = .returned (.int .i64 (ix k (ext z0 C k))) ∧ (∃ G', CD w' kb (ext z0 C k) G' ∧ ∀ j, G' j → G j ∨ w.heap.size ≤ j) ∧ Ch G w w' := by
 obtain ⟨v, hb, ho, hG, hnil⟩ := h
 have hkb := (Array.getElem?_eq_some_iff.1 hb).1
 have hwb := wa_below w k
 have hws : ((w.alloc (.cells #[.int .u8 k.1, .int .u8 k.2] 43)).alloc (.cells #[.int .u8 0, .int .u8 0] 43)).heap.size = w.heap.size + 1 + 1 := by simp
 cases C with
 | nil =>
  obtain rfl := hnil rfl
  have hbA : ((w.alloc (.cells #[.int .u8 k.1, .int .u8 k.2] 43)).alloc (.cells #[.int .u8 0, .int .u8 0] 43)).drew.heap[kb]? = some (.cells #[.slice none 0 0] 72 (0, 0)) := (hwb.block kb hkb).trans hb
  have hoA : ((w.alloc (.cells #[.int .u8 k.1, .int .u8 k.2] 43)).alloc (.cells #[.int .u8 0, .int .u8 0] 43)).drew.ownsRow 0 43 2 (.slice none 0 0) ([] : List Kt).length (k2 []) := World.ownsRow_nil _ _ _ _
  obtain ⟨g, cap, wa, hrun, ho2, hc2, hg2⟩ := app_one (C := []) hoA z0 (by simp)
  obtain ⟨hba, v1, hb1, ho1, hG1, hnl1⟩ := CD.more hbA hoA ho2 hc2
  have hgn : w.heap.size ≤ g := by
   have := hg2.resolve_left (by simp [Value.ownBlock])
   have h3 : ((w.alloc (.cells #[.int .u8 k.1, .int .u8 k.2] 43)).alloc (.cells #[.int .u8 0, .int .u8 0] 43)).drew.heap.size = w.heap.size + 1 + 1 := hws
   omega
  have hcA : Ch G w wa := (Below.ch hwb.drew).then (hc2.mono (fun j _ q => by simp [Value.ownBlock] at q))
  have hc1 : Ch G w (wa.setCell ⟨kb, 0, none⟩ (.slice (some ⟨g, 0, none⟩) 1 cap)) := hcA.then ((ch_set kb 0 _).mono (fun j _ q => (hG j).2 (.inl q)))
  have hb1' : (wa.setCell ⟨kb, 0, none⟩ (.slice (some ⟨g, 0, none⟩) 1 cap)).heap[kb]? = some (.cells #[.slice (some ⟨g, 0, none⟩) 1 cap] 72 (0, 0)) := by
   rw [heap_set hba]
   simp
  obtain rfl : v1 = .slice (some ⟨g, 0, none⟩) 1 cap := by
   have := hb1.symm.trans hb1'
   simpa using this
  have hx1 : (wa.setCell ⟨kb, 0, none⟩ (.slice (some ⟨g, 0, none⟩) 1 cap)).heap[w.heap.size]? = some (.cells #[.int .u8 k.1, .int .u8 k.2] 43 (0, 0)) := by
   rw [heap_set_ne _ (by omega)]
   exact (hc2.block w.heap.size (by show w.heap.size < ((w.alloc (.cells #[.int .u8 k.1, .int .u8 k.2] 43)).alloc (.cells #[.int .u8 0, .int .u8 0] 43)).heap.size; omega) (by simp [Value.ownBlock])).trans (wa_key w k)
  refine of_walk (D := [z0]) (w := w) (k := k) _ hb1' ho1 hx1 (by simp) (by simp) (.inr ⟨wa, hb, ?_, hba, rfl⟩) _ (fun j m h1 h2 => ?_) (fun hn m g' cap' w2 h1 h2 h3 => ?_)
  ·
   have e1 : ((w.alloc (.cells #[.int .u8 k.1, .int .u8 k.2] 43)).alloc (.cells #[.int .u8 0, .int .u8 0] 43)).drew.heap.size = w.heap.size + 1 + 1 := hws
   rw [e1] at hrun
   exact hrun
  ·
   have hk : k ∈ [z0] := List.mem_of_getElem? h1
   have he : ext z0 [] k = [z0] := ext_in rfl hk
   rw [he, ix_first h1 h2]
   refine ⟨rfl, ⟨_, CD.keep ⟨_, hb1', ho1, hG1, fun q => absurd q (by simp)⟩ (fun _ _ => rfl), fun j q => ?_⟩, ch_drewN hc1 m⟩
   rcases q with q | q
   ·
    exact .inl ((hG j).2 (.inl q))
   ·
    exact .inr (q ▸ hgn)
  ·
   have he : ext z0 [] k = [z0] ++ [k] := ext_out rfl hn
   rw [he, ix_new hn]
   have hm := CD.more (w' := w2) (w := (wa.setCell ⟨kb, 0, none⟩ (.slice (some ⟨g, 0, none⟩) 1 cap)).drewN m) (C := [z0]) hb1' ho1 h1 (h2.mono (fun j _ q => by rw [q]; rfl))
   have hs1 := hc1.size
   refine ⟨rfl, ⟨_, hm.2, fun j q => ?_⟩, ?_⟩
   ·
    rcases q with q | q
    ·
     exact .inl ((hG j).2 (.inl q))
    ·
     rcases h3 with r | r
     ·
      exact .inr (by omega)
     ·
      exact .inr (by omega)
   ·
    refine ((ch_drewN hc1 m).trans h2 (fun j hj q => ?_)).then ((ch_set kb 0 _).mono (fun j _ q => (hG j).2 (.inl q)))
    omega
 | cons x t =>
  rcases ho.2 with ⟨_, q⟩ | ⟨g, cap, cur, rfl, _, hgh, _⟩
  ·
   simp at q
  ·
   have hbA : ((w.alloc (.cells #[.int .u8 k.1, .int .u8 k.2] 43)).alloc (.cells #[.int .u8 0, .int .u8 0] 43)).heap[kb]? = some (.cells #[.slice (some ⟨g, 0, none⟩) (x :: t).length cap] 72 (0, 0)) := (hwb.block kb hkb).trans hb
   have hgG : G g := (hG g).2 (.inr rfl)
   have hoA : ((w.alloc (.cells #[.int .u8 k.1, .int .u8 k.2] 43)).alloc (.cells #[.int .u8 0, .int .u8 0] 43)).ownsRow 0 43 2 (.slice (some ⟨g, 0, none⟩) (x :: t).length cap) (x :: t).length (k2 (x :: t)) := (ho.alloc _).alloc _
   refine of_walk (D := x :: t) (w := w) (k := k) _ hbA hoA (wa_key w k) (by omega) (by simp) (.inl ⟨rfl, box_cells hb 0 _ rfl⟩) _ (fun j m h1 h2 => ?_) (fun hn m g' cap' w2 h1 h2 h3 => ?_)
   ·
    have hk : k ∈ x :: t := List.mem_of_getElem? h1
    have he : ext z0 (x :: t) k = x :: t := ext_in rfl hk
    rw [he, ix_first h1 h2]
    exact ⟨rfl, ⟨G, CD.keep ⟨_, hbA, hoA, hG, hnil⟩ (fun _ _ => rfl), fun j q => .inl q⟩, ch_drewN (Below.ch hwb) m⟩
   ·
    have he : ext z0 (x :: t) k = (x :: t) ++ [k] := ext_out rfl hn
    rw [he, ix_new hn]
    have hm := CD.more (w' := w2) (w := ((w.alloc (.cells #[.int .u8 k.1, .int .u8 k.2] 43)).alloc (.cells #[.int .u8 0, .int .u8 0] 43)).drewN m) (C := x :: t) hbA hoA h1 (h2.mono (fun j _ q => by rw [q]; rfl))
    refine ⟨rfl, ⟨_, hm.2, fun j q => ?_⟩, ?_⟩
    ·
     rcases q with q | q
     ·
      exact .inl ((hG j).2 (.inl q))
     ·
      rcases h3 with r | r
      ·
       exact .inl (by rw [q, ← r]; exact hgG)
      ·
       exact .inr (by omega)
    ·
     exact ((ch_drewN (Below.ch hwb) m).then (h2.mono (fun j _ q => q ▸ hgG))).then ((ch_set kb 0 _).mono (fun j _ q => (hG j).2 (.inl q)))
theorem of_known {w : World} {kb : Nat} {C : List Kt} {G : Nat → Prop} (h : CD w kb C G) {k : Kt} (hk : k ∈ C) (hl : C.length ≤ 900000) : Calls Tryz.prog 41 #[pt kb, mk k] w fun r w' => r = .returned (.int .i64 (ix k C)) ∧ Below w.heap.size w w' := by
 obtain ⟨v, hb, ho, hG, hnil⟩ := h
 have hkb := (Array.getElem?_eq_some_iff.1 hb).1
 have hwb := wa_below w k
 rcases ho.2 with ⟨_, q⟩ | ⟨g, cap, cur, rfl, _⟩
 ·
  rw [List.length_eq_zero_iff.1 q] at hk
  cases hk
 ·
  have hbA : ((w.alloc (.cells #[.int .u8 k.1, .int .u8 k.2] 43)).alloc (.cells #[.int .u8 0, .int .u8 0] 43)).heap[kb]? = some (.cells #[.slice (some ⟨g, 0, none⟩) C.length cap] 72 (0, 0)) := (hwb.block kb hkb).trans hb
  have hoA : ((w.alloc (.cells #[.int .u8 k.1, .int .u8 k.2] 43)).alloc (.cells #[.int .u8 0, .int .u8 0] 43)).ownsRow 0 43 2 (.slice (some ⟨g, 0, none⟩) C.length cap) C.length (k2 C) := (ho.alloc _).alloc _
  refine of_walk (D := C) (w := w) (k := k) _ hbA hoA (wa_key w k) (by omega) (List.length_pos_of_mem hk) (.inl ⟨rfl, box_cells hb 0 _ rfl⟩) _ (fun j m h1 h2 => ?_) (fun hn => absurd hk hn)
  rw [ix_first h1 h2]
  exact ⟨rfl, below_drewN' hwb m⟩
end Go.Proofs.YtdhinpmjbcohaaaGreat.Qa
