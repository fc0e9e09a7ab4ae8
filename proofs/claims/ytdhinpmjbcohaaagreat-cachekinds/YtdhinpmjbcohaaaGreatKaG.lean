import Derived.Deep.RegionHeldLaw
import Derived.Test.YtdhinpmjbcohaaaGreatCc
import Derived.LaidEqlPtr
namespace Go.Proofs.YtdhinpmjbcohaaaGreat
open Go Go.RowKit
set_option linter.unusedSimpArgs false
set_option linter.unusedVariables false

section
variable {P : Program} {ops : Array Oper} {Q : Exit → Act → World → Prop} {md : Region.Mode} {S : World → Prop} {T : Nat}
def wpAnyT (P : Program) (md : Region.Mode) (ops : Array Oper) (Q : Exit → Act → World → Prop) (S : World → Prop) (T : Nat) : Nat → Array Bool → Act → World → Prop
 | 0, listed, a, w => Region.ready md ops listed = [] ∧ Q .normal a w
 | fuel + 1, listed, a, w =>
  (Region.ready md ops listed = [] → Q .normal a w) ∧
  ∀ i ∈ Region.ready md ops listed, wpOp P ops Q i (fun a' w' => (i ≠ T → S w') ∧ wpAnyT P md ops Q S T fuel (listed.setIfInBounds i true) a' w') a w
theorem wpAny_of_T : ∀ (fuel : Nat) (listed : Array Bool) (a : Act) (w : World), wpAnyT P md ops Q S T fuel listed a w → wpAny P md ops Q fuel listed a w
 | 0, _, _, _, h => h
 | fuel + 1, _, _, _, h => ⟨h.1, fun i hi => wpOp_mono (fun a' w' h' => wpAny_of_T fuel _ a' w' h'.2) (h.2 i hi)⟩
def waitsT (md : Region.Mode) (ops : Array Oper) (T i : Nat) : Bool := match ops[T]? with
 | some o => o.after.toList.any (fun e => Region.binds md e && e.on == i)
 | none => true
theorem wpAnyT_first {i : Nat} {oi : Oper} {v : Value} (hi : ops[i]? = some oi) (hT : waitsT md ops T i = true) (hsel : ∀ (j : Nat) (o : Oper) cs b, ops[j]? = some o → o.op ≠ .select cs b)
  (hQ : ∀ c a w, Q (.panic c) (a.put oi.dst v) w → Q (.panic c) a w) :
  ∀ (fuel : Nat) (listed : Array Bool) (a : Act) (w : World),
   (∀ j oj, ops[j]? = some oj → j ≠ i → listed.getD j true = false → (∀ e ∈ oj.after, Region.binds md e = true → e.on ≠ i) → oi.apart ops oj = true) →
   i ∈ Region.ready md ops listed → YieldsIf P ops S oi v a → S w →
   wpAnyT P md ops Q S T fuel (listed.setIfInBounds i true) (a.put oi.dst v) w → wpAnyT P md ops Q S T (fuel + 1) listed a w := by
 intro fuel
 induction fuel with
 | zero =>
  intro listed a w _ hr hy hS H
  refine ⟨fun h => (by rw [h] at hr; cases hr), fun j hj => ?_⟩
  by_cases hji : j = i
  ·
   subst hji; exact hy.wpOp hi hS ⟨fun _ => hS, H⟩
  ·
   have := ready_mono hj hji
   rw [H.1] at this
   cases this
 | succ fuel ih =>
  intro listed a w hfree hr hy hS H
  refine ⟨fun h => (by rw [h] at hr; cases hr), fun j hj => ?_⟩
  by_cases hji : j = i
  ·
   subst hji; exact hy.wpOp hi hS ⟨fun _ => hS, H⟩
  ·
   have h1 := H.2 j (ready_mono hj hji)
   obtain ⟨hjun, oj, hoj, hall⟩ := mem_ready.1 hj
   have hnot : ∀ e ∈ oj.after, Region.binds md e = true → e.on ≠ i := fun e he hb heq => by
    have h1 := hall e he hb
    have h0 := (mem_ready.1 hr).1
    rw [heq] at h1
    rcases Nat.lt_or_ge i listed.size with h' | h'
    ·
     simp [h'] at h0 h1; rw [h0] at h1; cases h1
    ·
     simp [Array.getElem?_eq_none h'] at h1
   have hjT : j ≠ T := fun e => by
    subst e
    unfold waitsT at hT
    rw [hoj] at hT
    simp only [List.any_eq_true, Bool.and_eq_true, beq_iff_eq] at hT
    obtain ⟨e, he, hb, ho⟩ := hT
    exact hnot e (Array.mem_toList_iff.1 he) hb ho
   have h2 := wpOp_putIf hoj (hfree j oj hoj hji hjun hnot) (fun cs b => hsel i oi cs b hi) (fun cs b => hsel j oj cs b hoj) hQ hy h1
   have hfree' : ∀ k ok, ops[k]? = some ok → k ≠ i → (listed.setIfInBounds j true).getD k true = false →
     (∀ e ∈ ok.after, Region.binds md e = true → e.on ≠ i) → oi.apart ops ok = true := fun k ok hk hki hun hno => by
    refine hfree k ok hk hki ?_ hno
    by_cases hjk : j = k
    ·
     subst hjk; exact hjun
    ·
     rw [getD_set_ne true hjk] at hun; exact hun
   refine wpOp_mono (fun a' w' h3 => ⟨fun _ => h3.2.1 hjT, ih (listed.setIfInBounds j true) a' w' hfree' (ready_mono hr (Ne.symm hji)) h3.1 (h3.2.1 hjT) ?_⟩) h2
   rw [Array.setIfInBounds_comm _ _ hji]
   exact h3.2.2
theorem wpAnyT_take {i : Nat} {oi : Oper} {v : Value} {fuel : Nat} {listed : Array Bool} {a : Act} {w : World} (hi : ops[i]? = some oi) (hT : waitsT md ops T i = true)
  (hs : Region.noSelect ops = true) (hf : Region.free md ops listed i = true) (hr : (Region.ready md ops listed).contains i = true)
  (hQ : ∀ c a w, Q (.panic c) (a.put oi.dst v) w → Q (.panic c) a w) (hy : YieldsIf P ops S oi v a) (hS : S w)
  (h : wpAnyT P md ops Q S T fuel (listed.setIfInBounds i true) (a.put oi.dst v) w) : wpAnyT P md ops Q S T (fuel + 1) listed a w :=
 wpAnyT_first hi hT (Region.noSelect_spec hs) hQ fuel listed a w (Region.free_spec hi hf) (by simpa using hr) hy hS h
def AllReadyT (P : Program) (md : Region.Mode) (ops : Array Oper) (Q : Exit → Act → World → Prop) (S : World → Prop) (T fuel : Nat) (listed : Array Bool) (a : Act) (w : World) (rs : List Nat) : Prop :=
 ∀ i ∈ rs, wpOp P ops Q i (fun a' w' => (i ≠ T → S w') ∧ wpAnyT P md ops Q S T fuel (listed.setIfInBounds i true) a' w') a w
theorem AllReadyT.nil {fuel : Nat} {listed : Array Bool} {a : Act} {w : World} : AllReadyT P md ops Q S T fuel listed a w [] := fun _ h => by cases h
theorem AllReadyT.cons {fuel : Nat} {listed : Array Bool} {a : Act} {w : World} {i : Nat} {o : Oper} {rs : List Nat} (ho : ops[i]? = some o)
  (h : ∀ K' : Act → World → Prop, Shut (∀ a w, S w → (S w → wpAnyT P md ops Q S T fuel (listed.setIfInBounds i true) a w) → K' a w) → if Region.wanted o (yielded ops a.tmps) = true then Oper.wp P o a w K' Q else K' (a.put o.dst undef) w)
  (hs : AllReadyT P md ops Q S T fuel listed a w rs) : AllReadyT P md ops Q S T fuel listed a w (i :: rs) := fun j hj => by
 rcases List.mem_cons.1 hj with rfl | hj
 ·
  exact wpOp_step ho (fun K' hK => h K' (fun a w hS hW => hK a w ⟨fun _ => hS, hW hS⟩))
 ·
  exact hs j hj
theorem AllReadyT.last {fuel : Nat} {listed : Array Bool} {a : Act} {w : World} {o : Oper} (ho : ops[T]? = some o)
  (h : ∀ K' : Act → World → Prop, Shut (∀ a w, wpAnyT P md ops Q S T fuel (listed.setIfInBounds T true) a w → K' a w) → if Region.wanted o (yielded ops a.tmps) = true then Oper.wp P o a w K' Q else K' (a.put o.dst undef) w) :
  AllReadyT P md ops Q S T fuel listed a w [T] := fun j hj => by
 rcases List.mem_cons.1 hj with rfl | hj
 ·
  exact wpOp_step ho (fun K' hK => h K' (fun a w hW => hK a w ⟨fun q => absurd rfl q, hW⟩))
 ·
  cases hj
theorem wpAnyT_ready {rs : List Nat} {fuel : Nat} {listed : Array Bool} {a : Act} {w : World} (hr : Region.ready md ops listed = rs) (hne : rs ≠ [])
  (h : AllReadyT P md ops Q S T fuel listed a w rs) : wpAnyT P md ops Q S T (fuel + 1) listed a w := ⟨fun h0 => absurd (hr ▸ h0) hne, hr ▸ h⟩
theorem wpAnyT_done {listed : Array Bool} {a : Act} {w : World} (hr : Region.ready md ops listed = []) (h : Q .normal a w) : ∀ fuel, wpAnyT P md ops Q S T fuel listed a w
 | 0 => ⟨hr, h⟩
 | _ + 1 => ⟨fun _ => h, by rw [hr]; simp⟩
theorem wp_region_T {id : Nat} {a : Act} {w : World} (S : World → Prop) (T : Nat) (hm : P.follows .mixedOrders = true) (hS : S w.drew)
  (h : S w.drew → wpAnyT P .any ops Q S T ops.size (Array.replicate ops.size false) a w.drew) : (Code.region id ops true).wp P Q a w :=
 wp_region_any hm (wpAny_of_T _ _ _ _ (h hS))
end
end Go.Proofs.YtdhinpmjbcohaaaGreat
namespace Go.Proofs.YtdhinpmjbcohaaaGreat.Ka
open Go Go.RowKit
set_option linter.unusedSimpArgs false
set_option linter.unusedVariables false
set_option maxRecDepth 100000
set_option maxHeartbeats 4000000
abbrev Ky := ByteArray × Int
abbrev Vt := ByteArray
def kc (k : Ky) : Value := .agg #[.string k.1, .int .i64 k.2]
def vc (v : Vt) : Value := .string v
def ec (n o : Nat) (k : Ky) (v : Vt) : Array Value := #[pt n, pt o, .string k.1, .int .i64 k.2, vc v]
def EB (w : World) (S : Nat → Prop) (n o : Nat → Nat) (ky : Nat → Ky) (vl : Nat → Vt) : Prop := ∀ b, S b → w.heap[b]? = some (.cells (ec (n b) (o b) (ky b) (vl b)) 157 (0, 0))
theorem EB.setO {w : World} {S : Nat → Prop} {n o : Nat → Nat} {ky : Nat → Ky} {vl : Nat → Vt} (h : EB w S n o ky vl) {p : Nat} (hp : S p) (q : Nat) : EB (w.setCell ⟨p, 1, none⟩ (pt q)) S n (upd o p q) ky vl := by
 intro b hb
 by_cases e : b = p
 ·
  subst e
  rw [heap_set (h b hb), upd_same]
  simp [ec]
 ·
  rw [heap_set_ne _ e, upd_ne _ _ e]
  exact h b hb
theorem EB.setN {w : World} {S : Nat → Prop} {n o : Nat → Nat} {ky : Nat → Ky} {vl : Nat → Vt} (h : EB w S n o ky vl) {p : Nat} (hp : S p) (q : Nat) : EB (w.setCell ⟨p, 0, none⟩ (pt q)) S (upd n p q) o ky vl := by
 intro b hb
 by_cases e : b = p
 ·
  subst e
  rw [heap_set (h b hb), upd_same]
  simp [ec]
 ·
  rw [heap_set_ne _ e, upd_ne _ _ e]
  exact h b hb
theorem EB.setV {w : World} {S : Nat → Prop} {n o : Nat → Nat} {ky : Nat → Ky} {vl : Nat → Vt} (h : EB w S n o ky vl) {p : Nat} (hp : S p) (v : Vt) : EB (w.setCell ⟨p, 4, none⟩ (vc v)) S n o ky (upd vl p v) := by
 intro b hb
 by_cases e : b = p
 ·
  subst e
  rw [heap_set (h b hb), upd_same]
  simp [ec]
 ·
  rw [heap_set_ne _ e, upd_ne _ _ e]
  exact h b hb
theorem EB.drewN {w : World} {S : Nat → Prop} {n o : Nat → Nat} {ky : Nat → Ky} {vl : Nat → Vt} (h : EB w S n o ky vl) (k : Nat) : EB (w.drewN k) S n o ky vl := fun b hb => by
 have := h b hb
 simpa using this

theorem EB.drew {w : World} {S : Nat → Prop} {n o : Nat → Nat} {ky : Nat → Ky} {vl : Nat → Vt} (h : EB w S n o ky vl) : EB w.drew S n o ky vl := h
theorem EB.sub {w : World} {S S' : Nat → Prop} {n o : Nat → Nat} {ky : Nat → Ky} {vl : Nat → Vt} (h : EB w S n o ky vl) (hs : ∀ b, S' b → S b) : EB w S' n o ky vl := fun b hb => h b (hs b hb)
theorem EB.keep {w w' : World} {S : Nat → Prop} {n o : Nat → Nat} {ky : Nat → Ky} {vl : Nat → Vt} (h : EB w S n o ky vl) (hs : ∀ b, S b → w'.heap[b]? = w.heap[b]?) : EB w' S n o ky vl := fun b hb => (hs b hb).trans (h b hb)

theorem unhang_run {p q e : Nat} {xp xq : Value} (w : World) (c0 : w.cell? ⟨e, 0, none⟩ = some (pt p)) (c1 : w.cell? ⟨e, 1, none⟩ = some (pt q)) (cp : w.cell? ⟨p, 1, none⟩ = some xp) (cq : w.cell? ⟨q, 0, none⟩ = some xq) (fp : w.frozen? ⟨p, 1, none⟩ = false) (fq : w.frozen? ⟨q, 0, none⟩ = false) : Calls Tryz.prog 95 #[pt e] w fun r w' => r = .returned (.tuple #[]) ∧ w' = ((w.setCell ⟨p, 1, none⟩ (pt q)).setCell ⟨q, 0, none⟩ (pt p)).drew := by
 unfold pt at *
 go_enter Tryz.func95, Tryz.ntmps95
 go_wp2_with fail
 go_region
 all_goals go_wp2_with fail
 all_goals first | go_end0 | refine bodyPost_ret (results_none rfl _ _ _) rfl ?_
 all_goals exact ⟨rfl, rfl⟩
theorem hang_run {p x e : Nat} {x0 x1 x3 : Value} (w : World) (c0 : w.cell? ⟨e, 0, none⟩ = some x0) (c1 : w.cell? ⟨e, 1, none⟩ = some x1) (cx : w.cell? ⟨x, 0, none⟩ = some (pt p)) (cp : w.cell? ⟨p, 1, none⟩ = some x3) (f0 : w.frozen? ⟨e, 0, none⟩ = false) (f1 : w.frozen? ⟨e, 1, none⟩ = false) (fx : w.frozen? ⟨x, 0, none⟩ = false) (fp : w.frozen? ⟨p, 1, none⟩ = false) (hxe : x ≠ e) (hpe : p ≠ e) : Calls Tryz.prog 96 #[pt e, pt x] w fun r w' => r = .returned (.tuple #[]) ∧ w' = ((((w.setCell ⟨e, 1, none⟩ (pt x)).setCell ⟨e, 0, none⟩ (pt p)).setCell ⟨x, 0, none⟩ (pt e)).setCell ⟨p, 1, none⟩ (pt e)).drew := by
 unfold pt at *
 have hex : e ≠ x := hxe.symm
 have hep : e ≠ p := hpe.symm
 go_enter Tryz.func96, Tryz.ntmps96
 go_wp2_with fail
 go_region
 all_goals go_wp2_with fail
 all_goals first | go_end0 | refine bodyPost_ret (results_none rfl _ _ _) rfl ?_
 all_goals exact ⟨rfl, rfl⟩
theorem hang_nil {e : Nat} {x0 x1 : Value} (w : World) (c0 : w.cell? ⟨e, 0, none⟩ = some x0) (c1 : w.cell? ⟨e, 1, none⟩ = some x1) (f0 : w.frozen? ⟨e, 0, none⟩ = false) (f1 : w.frozen? ⟨e, 1, none⟩ = false) : Calls Tryz.prog 96 #[pt e, .pointer none] w fun r w' => r = .returned (.tuple #[]) ∧ w' = ((w.setCell ⟨e, 0, none⟩ (pt e)).setCell ⟨e, 1, none⟩ (pt e)) := by
 unfold pt at *
 go_enter Tryz.func96, Tryz.ntmps96
 go_wp2_with fail
 all_goals first | go_end0 | refine bodyPost_ret (results_none rfl _ _ _) rfl ?_
 all_goals exact ⟨rfl, rfl⟩

theorem unhang_any {w : World} {S : Nat → Prop} {n o : Nat → Nat} {ky : Nat → Ky} {vl : Nat → Vt} {e : Nat} (h : EB w S n o ky vl) (he : S e) (hn : S (n e)) (ho : S (o e)) : Calls Tryz.prog 95 #[pt e] w fun r w' => r = .returned (.tuple #[]) ∧ EB w' S (upd n (o e) (n e)) (upd o (n e) (o e)) ky vl ∧ Ch S w w' := by
 refine (unhang_run w (box_cells (h e he) 0 _ rfl) (box_cells (h e he) 1 _ rfl) (box_cells (h _ hn) 1 _ rfl) (box_cells (h _ ho) 0 _ rfl) (box_frozen (h _ hn) 1) (box_frozen (h _ ho) 0)).mono ?_
 rintro r w' ⟨rfl, rfl⟩
 refine ⟨rfl, ((h.setO hn (o e)).setN ho (n e)).drew, ?_⟩
 exact (((ch_set _ _ _).mono (fun j _ q => by subst q; exact hn)).trans ((ch_set _ _ _).mono (S' := S) (fun j _ q => by subst q; exact ho)) (fun j _ q => q)).trans (ch_drew S _) (fun j _ q => q)
def EC (w : World) (e : Nat) (k : Ky) (v : Vt) : Prop := ∃ a0 a1, w.heap[e]? = some (.cells #[a0, a1, .string k.1, .int .i64 k.2, vc v] 157 (0, 0))
theorem EC.links {w : World} {e : Nat} {k : Ky} {v : Vt} (h : EC w e k v) (n o : Nat) : EB ((w.setCell ⟨e, 1, none⟩ (pt o)).setCell ⟨e, 0, none⟩ (pt n)) (fun b => b = e) (fun _ => n) (fun _ => o) (fun _ => k) (fun _ => v) := by
 obtain ⟨a0, a1, h⟩ := h
 intro b hb
 subst hb
 rw [heap_set (heap_set h _)]
 simp [ec]
theorem hang_any {w : World} {S : Nat → Prop} {n o : Nat → Nat} {ky : Nat → Ky} {vl : Nat → Vt} {e x : Nat} {k : Ky} {v : Vt} (h : EB w S n o ky vl) (hx : S x) (hn : S (n x)) (he : ¬ S e) (hE : EC w e k v) : Calls Tryz.prog 96 #[pt e, pt x] w fun r w' => r = .returned (.tuple #[]) ∧ EB w' (fun b => S b ∨ b = e) (upd (upd n e (n x)) x e) (upd (upd o e x) (n x) e) (upd ky e k) (upd vl e v) ∧ Ch (fun b => S b ∨ b = e) w w' := by
 obtain ⟨a0, a1, hE0⟩ := id hE
 have hxe : x ≠ e := fun q => he (q ▸ hx)
 have hpe : n x ≠ e := fun q => he (q ▸ hn)
 refine (hang_run w (box_cells hE0 0 _ rfl) (box_cells hE0 1 _ rfl) (box_cells (h _ hx) 0 _ rfl) (box_cells (h _ hn) 1 _ rfl) (box_frozen hE0 0) (box_frozen hE0 1) (box_frozen (h _ hx) 0) (box_frozen (h _ hn) 1) hxe hpe).mono ?_
 rintro r w' ⟨rfl, rfl⟩
 have h1 : EB ((w.setCell ⟨e, 1, none⟩ (pt x)).setCell ⟨e, 0, none⟩ (pt (n x))) (fun b => S b ∨ b = e) (upd n e (n x)) (upd o e x) (upd ky e k) (upd vl e v) := by
  intro b hb
  by_cases q : b = e
  ·
   subst q
   simp only [upd_same]
   exact hE.links (n x) x b rfl
  ·
   have hb' : S b := hb.resolve_right q
   rw [heap_set_ne _ q, heap_set_ne _ q]
   simp only [upd_ne _ _ q]
   exact h b hb'
 refine ⟨rfl, ((h1.setN (.inl hx) e).setO (.inl hn) e).drew, ?_⟩
 have k1 : ∀ (w1 : World) (i j : Nat) (u : Value), (S i ∨ i = e) → Ch (fun b => S b ∨ b = e) w1 (w1.setCell ⟨i, j, none⟩ u) := fun w1 i j u hi => (ch_set _ _ _).mono (fun j _ q => by subst q; exact hi)
 exact (((((k1 _ _ _ _ (.inr rfl)).trans (k1 _ _ _ _ (.inr rfl)) (fun j _ q => q)).trans (k1 _ _ _ _ (.inl hx)) (fun j _ q => q)).trans (k1 _ _ _ _ (.inl hn)) (fun j _ q => q)).trans (ch_drew _ _) (fun j _ q => q))
theorem hang_first {w : World} {e : Nat} {k : Ky} {v : Vt} (n o : Nat → Nat) (ky : Nat → Ky) (vl : Nat → Vt) (hE : EC w e k v) : Calls Tryz.prog 96 #[pt e, .pointer none] w fun r w' => r = .returned (.tuple #[]) ∧ EB w' (fun b => b = e) (upd n e e) (upd o e e) (upd ky e k) (upd vl e v) ∧ Ch (fun b => b = e) w w' := by
 obtain ⟨a0, a1, hE0⟩ := id hE
 refine (hang_nil w (box_cells hE0 0 _ rfl) (box_cells hE0 1 _ rfl) (box_frozen hE0 0) (box_frozen hE0 1)).mono ?_
 rintro r w' ⟨rfl, rfl⟩
 refine ⟨rfl, fun b hb => ?_, ((ch_set _ _ _).trans (ch_set _ _ _) (fun j _ q => q))⟩
 subst hb
 rw [heap_set (heap_set hE0 _)]
 simp only [upd_same]
 simp [ec]

def okK (k : Ky) : Prop := k.1.size ≤ maxLen ∧ (Lit.int .i64 k.2).wf = true
def kl (k : Ky) : Lit := .string (keyBytes [.string k.1.data.toList, .int .i64 k.2])
theorem laidOut : laidOutB Tryz.prog = true := by kernel_rfl
theorem row31 : (31 : TypeId) < Tryz.prog.types.size := of_decide_eq_true (by kernel_rfl)
theorem wide31 : (match Tryz.prog.underlying 31 with | some (.array _ _) | some (.struct _) => true | _ => false) = true := by rw [Tryz.underlying31]
theorem law : Maps.Keyed Tryz.prog 31 := Maps.Keyed.of_law (deep_law_laid laidOut (m := 2) (by omega) row31 (by kernel_rfl) wide31)
theorem cells31 : Tryz.prog.cellsOf 31 = 2 := by kernel_rfl
theorem cells9 : Tryz.prog.cellsOf 9 = 1 := by kernel_rfl
theorem cells3 : Tryz.prog.cellsOf 3 = 1 := by kernel_rfl
theorem ktype31 : Tryz.prog.keyType 31 = true := by kernel_rfl
theorem keyOf_kc {k : Ky} (h : okK k) : keyOf Tryz.prog 31 (kc k) = some (kl k) := by
 obtain ⟨d, hd⟩ : ∃ d, Tryz.prog.types.size = d + 1 := ⟨Tryz.prog.types.size - 1, by have h31 : 31 < Tryz.prog.types.size := row31; omega⟩
 have hf : (kc k).formed Tryz.prog 31 = true := by simp [kc, Value.formed, Tryz.underlying31, cells31]
 have h1 : Tryz.prog.keyLits (d + 1 + 1) 31 [.string k.1, .int .i64 k.2] = some [.string k.1.data.toList, .int .i64 k.2] := by
  simp [Program.keyLits, Tryz.underlying31, Tryz.underlying9, Tryz.underlying3, cells31, cells9, cells3, h.1, h.2]
 unfold keyOf
 rw [Tryz.underlying31]
 simp only [ktype31, hf, Bool.and_self, if_true]
 rw [hd]
 show (Tryz.prog.keyLits (d + 1 + 1) 31 [.string k.1, .int .i64 k.2]).map _ = _
 rw [h1]
 rfl
theorem kl_inj {a b : Ky} (ha : okK a) (hb : okK b) (h : kl a = kl b) : a = b := by
 have h1 := keyOf_kc ha
 rw [h] at h1
 have := law.inj h1 (keyOf_kc hb)
 simp [kc] at this
 exact Prod.ext this.1 this.2
theorem zero_ptr (w : World) : (zeroValue 137).run Tryz.prog w = .ok (.pointer none) w := by kernel_rfl

def MapL (w : World) (mv : Value) (L : List Nat) (ky : Nat → Ky) : Prop :=
 (mv = .map none ∧ L = []) ∨ ∃ mb D, mv = .map (some mb) ∧ w.ownsMap Tryz.prog 31 hv mb L.length D ∧ Maps.size D = L.length ∧ (∀ b ∈ L, Maps.has D (kl (ky b)) = true ∧ ∀ z, D.atKey (kl (ky b)) z = .held (pt b)) ∧ (∀ k, okK k → (∀ b ∈ L, ky b ≠ k) → Maps.has D (kl k) = false)
theorem MapL.perm {w : World} {mv : Value} {L L' : List Nat} {ky : Nat → Ky} (h : MapL w mv L ky) (hp : L.Perm L') : MapL w mv L' ky := by
 rcases h with ⟨h1, rfl⟩ | ⟨mb, D, h1, h2, h3, h4, h5⟩
 ·
  exact .inl ⟨h1, by simpa using hp⟩
 ·
  refine .inr ⟨mb, D, h1, hp.length_eq ▸ h2, hp.length_eq ▸ h3, fun b hb => h4 b (hp.mem_iff.2 hb), fun k hk hn => h5 k hk (fun b hb => hn b (hp.mem_iff.1 hb))⟩
theorem MapL.congr {w : World} {mv : Value} {L : List Nat} {ky ky' : Nat → Ky} (h : MapL w mv L ky) (hk : ∀ b ∈ L, ky' b = ky b) : MapL w mv L ky' := by
 rcases h with h | ⟨mb, D, h1, h2, h3, h4, h5⟩
 ·
  exact .inl h
 ·
  exact .inr ⟨mb, D, h1, h2, h3, fun b hb => by rw [hk b hb]; exact h4 b hb, fun k ok hn => h5 k ok (fun b hb => by rw [← hk b hb]; exact hn b hb)⟩
theorem MapL.keep {w w' : World} {mv : Value} {L : List Nat} {ky : Nat → Ky} (h : MapL w mv L ky) (hs : ∀ b, mv = .map (some b) → w'.heap[b]? = w.heap[b]?) : MapL w' mv L ky := by
 rcases h with h | ⟨mb, D, h1, h2, h3, h4, h5⟩
 ·
  exact .inl h
 ·
  refine .inr ⟨mb, D, h1, ?_, h3, h4, h5⟩
  obtain ⟨es, clock, hb, F, hs', hD⟩ := h2
  exact ⟨es, clock, (hs mb h1).trans hb, F, hs', hD⟩
theorem MapL.block {w : World} {mv : Value} {L : List Nat} {ky : Nat → Ky} (h : MapL w mv L ky) {b : Nat} (hb : mv = .map (some b)) : ∃ es clock, w.heap[b]? = some (.map es clock) := by
 rcases h with ⟨h, _⟩ | ⟨mb, D, h1, ⟨es, clock, hm, _⟩, _⟩
 ·
  rw [h] at hb; cases hb
 ·
  rw [h1] at hb
  cases hb
  exact ⟨es, clock, hm⟩
theorem MapL.hit {w : World} {mv : Value} {L : List Nat} {ky : Nat → Ky} (h : MapL w mv L ky) {b : Nat} (hb : b ∈ L) (hk : okK (ky b)) : (Instr.lookup 138 mv (kc (ky b)) false).run Tryz.prog w = .ok (pt b) w := by
 rcases h with ⟨_, rfl⟩ | ⟨mb, D, rfl, h2, h3, h4, h5⟩
 ·
  cases hb
 ·
  obtain ⟨v, ps, hrun, hv'⟩ := h2.lookup law Tryz.underlying138 (zero_ptr w) (zd := .held (.pointer none)) (zp := []) rfl (keyOf_kc hk)
  rw [(h4 b hb).2] at hv'
  simp [hv] at hv'
  rw [hrun, hv'.1]
theorem MapL.miss {w : World} {mv : Value} {L : List Nat} {ky : Nat → Ky} (h : MapL w mv L ky) {k : Ky} (hk : okK k) (hn : ∀ b ∈ L, ky b ≠ k) : (Instr.lookup 138 mv (kc k) false).run Tryz.prog w = .ok (.pointer none) w := by
 rcases h with ⟨rfl, _⟩ | ⟨mb, D, rfl, h2, h3, h4, h5⟩
 ·
  exact Maps.look_nil false law Tryz.underlying138 (zero_ptr w) (keyOf_kc hk)
 ·
  obtain ⟨v, ps, hrun, hv'⟩ := h2.lookup law Tryz.underlying138 (zero_ptr w) (zd := .held (.pointer none)) (zp := []) rfl (keyOf_kc hk)
  rw [Maps.atKey_of_not_has (h5 k hk hn)] at hv'
  simp [hv] at hv'
  rw [hrun, hv'.1]
theorem MapL.len {w : World} {mv : Value} {L : List Nat} {ky : Nat → Ky} (h : MapL w mv L ky) (ty : TypeId) : (Builtin.len_ #[138] ty #[mv]).run Tryz.prog w = .ok (.int .i64 L.length) w := by
 rcases h with ⟨rfl, rfl⟩ | ⟨mb, D, rfl, h2, h3, h4, h5⟩
 ·
  exact Maps.len_nil Tryz.underlying138 ty
 ·
  rw [h2.len Tryz.underlying138 ty, h3]
theorem MapL.put {w : World} {mb : Nat} {L : List Nat} {ky : Nat → Ky} (h : MapL w (.map (some mb)) L ky) {k : Ky} {e : Nat} (hk : okK k) (hn : ∀ b ∈ L, ky b ≠ k) (he : e ∉ L) (hok : ∀ b ∈ L, okK (ky b)) (hl : L.length < maxLen) :
  ∃ w', (Instr.mapUpdate 138 (.map (some mb)) (kc k) (pt e)).run Tryz.prog w = .ok () w' ∧ MapL w' (.map (some mb)) (e :: L) (upd ky e k) ∧ w.mapTurned w' mb := by
 rcases h with ⟨h, _⟩ | ⟨mb', D, h1, h2, h3, h4, h5⟩
 ·
  cases h
 ·
  cases h1
  obtain ⟨w', hrun, ho, ht⟩ := h2.store law Tryz.underlying138 hl (keyOf_kc hk) (val := pt e) (d := .held (pt e)) (ps := []) rfl
  have hD := h2.tidy law
  have hne : ∀ b ∈ L, kl (ky b) ≠ kl k := fun b hb q => hn b hb (kl_inj (hok b hb) hk q)
  refine ⟨w', hrun, .inr ⟨mb, _, rfl, by simpa using ho, ?_, fun b hb => ?_, fun k' hk' hn' => ?_⟩, ht⟩
  ·
   rw [Maps.size_put hD, h5 k hk hn, h3]
   simp
  ·
   by_cases q : b = e
   ·
    subst q
    rw [upd_same]
    exact ⟨Maps.has_put_same hD.isMap (law.key (keyOf_kc hk)) _, fun z => Maps.atKey_put_same hD.isMap (law.key (keyOf_kc hk)) _ z⟩
   ·
    have hb' : b ∈ L := (List.mem_cons.1 hb).resolve_left q
    rw [upd_ne _ _ q]
    refine ⟨?_, fun z => ?_⟩
    ·
     rw [Maps.has_put_other (hne b hb')]
     exact (h4 b hb').1
    ·
     rw [Maps.atKey_put_other (hne b hb')]
     exact (h4 b hb').2 z
  ·
   have h1 := hn' e (by simp)
   rw [upd_same] at h1
   rw [Maps.has_put_other (fun q => h1 (kl_inj hk' hk q).symm)]
   refine h5 k' hk' (fun b hb => ?_)
   have := hn' b (by simp [hb])
   rwa [upd_ne _ _ (fun q => he (by rw [← q]; exact hb))] at this
theorem MapL.made (w : World) (ky : Nat → Ky) : MapL (w.alloc (.map #[] 0)) (.map (some w.heap.size)) [] ky :=
 .inr ⟨w.heap.size, .map [], rfl, World.ownsMap_made w Tryz.prog 31 hv, rfl, by simp, fun k _ _ => rfl⟩
theorem own_tight {w : World} {mb n : Nat} {D : DataW Value} (h : w.ownsMap Tryz.prog 31 hv mb n D) : w.ownsMap Tryz.prog 31 hv mb (Maps.size D) D := by
 obtain ⟨es, clock, hb, F, hs, rfl⟩ := h
 exact ⟨es, clock, hb, F, by simp [Maps.size, length_sorted], rfl⟩
theorem MapL.drop {w : World} {mv : Value} {A B : List Nat} {ky : Nat → Ky} {e : Nat} (h : MapL w mv (A ++ e :: B) ky) (hks : ∀ a ∈ A ++ e :: B, ∀ b ∈ A ++ e :: B, ky a = ky b → a = b) (hnd : (A ++ e :: B).Nodup) (hok : ∀ b ∈ A ++ e :: B, okK (ky b)) (ty : TypeId) :
  ∃ w' mb, mv = .map (some mb) ∧ (Builtin.delete_ #[138, 31] ty #[mv, kc (ky e)]).run Tryz.prog w = .ok (.tuple #[]) w' ∧ MapL w' mv (A ++ B) ky ∧ w.mapTurned w' mb := by
 have hm : e ∈ A ++ e :: B := by simp
 rcases h with ⟨_, h⟩ | ⟨mb, D, rfl, h2, h3, h4, h5⟩
 ·
  simp at h
 ·
  obtain ⟨w', hrun, ho, ht⟩ := h2.drop law Tryz.underlying138 (keyOf_kc (hok e hm)) ty
  have hD := h2.tidy law
  have hsub : ∀ b ∈ A ++ B, b ∈ A ++ e :: B := fun b hb => by
   rcases List.mem_append.1 hb with q | q <;> simp [q]
  have hnot : ∀ b ∈ A ++ B, b ≠ e := fun b hb q => by
   have := (List.nodup_cons.1 (List.perm_middle.nodup_iff.1 hnd)).1
   exact this (q ▸ hb)
  have hne : ∀ b ∈ A ++ B, kl (ky b) ≠ kl (ky e) := fun b hb q => hnot b hb (hks b (hsub b hb) e hm (kl_inj (hok b (hsub b hb)) (hok e hm) q))
  have hsz : Maps.size (D.del (kl (ky e))) = (A ++ B).length := by
   have := Maps.size_del (k := kl (ky e)) hD
   rw [(h4 e hm).1, h3] at this
   simp at this ⊢
   omega
  refine ⟨w', mb, rfl, hrun, .inr ⟨mb, _, rfl, hsz ▸ own_tight ho, hsz, fun b hb => ⟨?_, fun z => ?_⟩, fun k hk hn => ?_⟩, ht⟩
  ·
   rw [Maps.has_del_other (hne b hb)]
   exact (h4 b (hsub b hb)).1
  ·
   rw [Maps.atKey_del_other (hne b hb)]
   exact (h4 b (hsub b hb)).2 z
  ·
   by_cases q : kl k = kl (ky e)
   ·
    rw [q, Maps.has_del_same]
   ·
    rw [Maps.has_del_other q]
    refine h5 k hk (fun b hb r => ?_)
    have hb2 : b = e ∨ b ∈ A ++ B := by
     rcases List.mem_append.1 hb with u | u
     ·
      exact .inr (by simp [u])
     ·
      rcases List.mem_cons.1 u with u | u
      ·
       exact .inl u
      ·
       exact .inr (by simp [u])
    rcases hb2 with rfl | hb2
    ·
     exact q (by rw [r])
    ·
     exact hn b hb2 r
end Go.Proofs.YtdhinpmjbcohaaaGreat.Ka
namespace Go.Proofs.YtdhinpmjbcohaaaGreat.Ka
open Go Go.RowKit
set_option linter.unusedSimpArgs false
set_option linter.unusedVariables false
set_option maxRecDepth 100000
set_option maxHeartbeats 4000000

def hdp : List Nat → Value
 | [] => .pointer none
 | x :: _ => pt x
structure CA (w : World) (cb room : Nat) (mv : Value) (L : List Nat) (n o : Nat → Nat) (ky : Nat → Ky) (vl : Nat → Vt) : Prop where
 at_ : w.heap[cb]? = some (.cells #[.int .i64 room, hdp L, mv] 140 (0, 0))
 eb : EB w (· ∈ L) n o ky vl
 nd : L.Nodup
 ring : Ring n o L
 ks : ∀ a ∈ L, ∀ b ∈ L, ky a = ky b → a = b
 kok : ∀ b ∈ L, okK (ky b)
 mp : MapL w mv L ky
def FP (cb : Nat) (mv : Value) (L : List Nat) (j : Nat) : Prop := j = cb ∨ j ∈ L ∨ mv = .map (some j)
theorem CA.cb_not {w : World} {cb room : Nat} {mv : Value} {L : List Nat} {n o : Nat → Nat} {ky : Nat → Ky} {vl : Nat → Vt} (h : CA w cb room mv L n o ky vl) : cb ∉ L := fun q => by
 have h1 := h.at_
 rw [h.eb cb q] at h1
 simp at h1
theorem CA.mb_not {w : World} {cb room : Nat} {mv : Value} {L : List Nat} {n o : Nat → Nat} {ky : Nat → Ky} {vl : Nat → Vt} (h : CA w cb room mv L n o ky vl) {m : Nat} (hm : mv = .map (some m)) : m ≠ cb ∧ m ∉ L := by
 obtain ⟨es, cl, h1⟩ := h.mp.block hm
 refine ⟨fun q => ?_, fun q => ?_⟩
 ·
  rw [q, h.at_] at h1
  simp at h1
 ·
  rw [h.eb m q] at h1
  simp at h1
theorem CA.lt {w : World} {cb room : Nat} {mv : Value} {L : List Nat} {n o : Nat → Nat} {ky : Nat → Ky} {vl : Nat → Vt} (h : CA w cb room mv L n o ky vl) {j : Nat} (hj : FP cb mv L j) : j < w.heap.size := by
 rcases hj with rfl | q | q
 ·
  exact (Array.getElem?_eq_some_iff.1 h.at_).1
 ·
  exact (Array.getElem?_eq_some_iff.1 (h.eb j q)).1
 ·
  obtain ⟨es, cl, h1⟩ := h.mp.block q
  exact (Array.getElem?_eq_some_iff.1 h1).1
theorem CA.keep {w w' : World} {cb room : Nat} {mv : Value} {L : List Nat} {n o : Nat → Nat} {ky : Nat → Ky} {vl : Nat → Vt} (h : CA w cb room mv L n o ky vl) (hs : ∀ j, FP cb mv L j → w'.heap[j]? = w.heap[j]?) : CA w' cb room mv L n o ky vl :=
 ⟨(hs cb (.inl rfl)).trans h.at_, h.eb.keep (fun b hb => hs b (.inr (.inl hb))), h.nd, h.ring, h.ks, h.kok, h.mp.keep (fun b hb => hs b (.inr (.inr hb)))⟩
theorem CA.ch {S : Nat → Prop} {w w' : World} {cb room : Nat} {mv : Value} {L : List Nat} {n o : Nat → Nat} {ky : Nat → Ky} {vl : Nat → Vt} (h : CA w cb room mv L n o ky vl) (hc : Ch S w w') (hs : ∀ j, FP cb mv L j → ¬ S j) : CA w' cb room mv L n o ky vl :=
 h.keep (fun j hj => hc.block j (h.lt hj) (hs j hj))
theorem ring_mem {n o : Nat → Nat} {e : Nat} {M : List Nat} (h : Ring n o (e :: M)) : n e ∈ e :: M ∧ o e ∈ e :: M := by
 refine ⟨seg_last M e h, ?_⟩
 cases M with
 | nil => simp [Ring, Seg] at h; simp [h.1]
 | cons y T => simp [Ring, Seg] at h; simp [h.1]
theorem CA.near {w : World} {cb room : Nat} {mv : Value} {A B : List Nat} {e : Nat} {n o : Nat → Nat} {ky : Nat → Ky} {vl : Nat → Vt} (h : CA w cb room mv (A ++ e :: B) n o ky vl) : n e ∈ A ++ e :: B ∧ o e ∈ A ++ e :: B := by
 have h1 := (ring_rot A (e :: B)).1 h.ring
 have h2 := ring_mem (M := B ++ A) h1
 have hp : ∀ x, x ∈ e :: (B ++ A) → x ∈ A ++ e :: B := fun x hx => by
  simp only [List.mem_cons, List.mem_append] at hx ⊢
  rcases hx with q | q | q
  ·
   exact .inr (.inl q)
  ·
   exact .inr (.inr q)
  ·
   exact .inl q
 exact ⟨hp _ h2.1, hp _ h2.2⟩

theorem e_size : (Tryz.prog.info? 157).map (fun i => i.size) = some 5 := by kernel_rfl
theorem eql_same (w : World) (e : Nat) : (binOp .eql 137 (.pointer (some ⟨e, 0, none⟩)) (.pointer (some ⟨e, 0, none⟩))).run Tryz.prog w = .ok (.bool true) w := by
 obtain ⟨j, hj, _⟩ := Option.map_eq_some_iff.1 e_size
 exact run_eql_ptr_same w _ Tryz.underlying137 hj
theorem eql_other {w : World} {e x : Nat} (hne : e ≠ x) {ca cb : Array Value} {ta tb : TypeId} (ha : w.heap[e]? = some (.cells ca ta (0, 0))) (hb : w.heap[x]? = some (.cells cb tb (0, 0))) : (binOp .eql 137 (.pointer (some ⟨e, 0, none⟩)) (.pointer (some ⟨x, 0, none⟩))).run Tryz.prog w = .ok (.bool false) w := by
 obtain ⟨j, hj, hs⟩ := Option.map_eq_some_iff.1 e_size
 exact run_eql_ptr_other w Tryz.underlying137 hj (by rw [hs]; decide) (fun q => hne (congrArg Addr.block q)) ha hb
theorem use_same {cb e : Nat} (w : World) (c1 : w.cell? ⟨cb, 1, none⟩ = some (pt e)) : Calls Tryz.prog 69 #[pt cb, pt e] w fun r w' => r = .returned (.tuple #[]) ∧ w' = w := by
 unfold pt at *
 have hq := eql_same w e
 go_enter Tryz.func69, Tryz.ntmps69
 go_wp2_with fail
 all_goals first | go_end0 | refine bodyPost_ret (results_none rfl _ _ _) rfl ?_
 all_goals exact ⟨rfl, rfl⟩
theorem use_walk {cb e x : Nat} (w : World) (hq : (binOp .eql 137 (.pointer (some ⟨e, 0, none⟩)) (.pointer (some ⟨x, 0, none⟩))).run Tryz.prog w = .ok (.bool false) w) {R1 R2 : World → Prop} (c1 : w.cell? ⟨cb, 1, none⟩ = some (pt x)) (h1 : Calls Tryz.prog 95 #[pt e] w fun r w' => r = .returned (.tuple #[]) ∧ R1 w') (hc : ∀ w1, R1 w1 → w1.cell? ⟨cb, 1, none⟩ = some (pt x)) (h2 : ∀ w1, R1 w1 → Calls Tryz.prog 96 #[pt e, pt x] w1 fun r w' => r = .returned (.tuple #[]) ∧ R2 w') (hc2 : ∀ w1, R2 w1 → w1.cell? ⟨cb, 1, none⟩ = some (pt x) ∧ w1.frozen? ⟨cb, 1, none⟩ = false) :
  Calls Tryz.prog 69 #[pt cb, pt e] w fun r w' => r = .returned (.tuple #[]) ∧ ∃ w2, R2 w2 ∧ w' = w2.setCell ⟨cb, 1, none⟩ (pt e) := by
 have H1 : Hid (Calls Tryz.prog 95 #[pt e] w fun r w' => r = .returned (.tuple #[]) ∧ R1 w') := h1
 have H2 : Hid (∀ w1, R1 w1 → Calls Tryz.prog 96 #[pt e, pt x] w1 fun r w' => r = .returned (.tuple #[]) ∧ R2 w') := h2
 have HC : Hid (∀ w1, R1 w1 → w1.cell? ⟨cb, 1, none⟩ = some (pt x)) := hc
 have HC2 : Hid (∀ w1, R2 w1 → w1.cell? ⟨cb, 1, none⟩ = some (pt x) ∧ w1.frozen? ⟨cb, 1, none⟩ = false) := hc2
 clear h1 h2 hc hc2
 unfold pt at c1 ⊢
 go_enter Tryz.func69, Tryz.ntmps69
 go_wp2_with fail
 go_must (go_at_call 95)
 refine (H1.out).mono ?_
 rintro r w1 ⟨rfl, h1⟩
 have c2 := HC.out w1 h1
 unfold pt at c2
 have g1 : Hid (R1 w1) := h1
 clear h1
 go_wp2_with fail
 go_must (go_at_call 96)
 refine (H2.out w1 g1.out).mono ?_
 rintro r w2 ⟨rfl, h2⟩
 obtain ⟨c3, f3⟩ := HC2.out w2 h2
 unfold pt at c3
 have g2 : Hid (R2 w2) := h2
 clear h2
 go_wp2_with fail
 all_goals first | go_end0 | refine bodyPost_ret (results_none rfl _ _ _) rfl ?_
 all_goals exact ⟨rfl, w2, g2.out, rfl⟩
theorem use_any {w : World} {cb room : Nat} {mv : Value} {A B : List Nat} {e : Nat} {n o : Nat → Nat} {ky : Nat → Ky} {vl : Nat → Vt} (h : CA w cb room mv (A ++ e :: B) n o ky vl) :
  Calls Tryz.prog 69 #[pt cb, pt e] w fun r w' => r = .returned (.tuple #[]) ∧ (∃ n' o', CA w' cb room mv (e :: (A ++ B)) n' o' ky vl) ∧ Ch (FP cb mv (A ++ e :: B)) w w' := by
 cases A with
 | nil =>
  refine (use_same w (box_cells h.at_ 1 _ rfl)).mono ?_
  rintro r w' ⟨rfl, rfl⟩
  exact ⟨rfl, ⟨n, o, h⟩, Ch.refl _ _⟩
 | cons x A =>
  have hmid := List.nodup_cons.1 (List.perm_middle.nodup_iff.1 h.nd)
  have hxe : x ≠ e := fun q => hmid.1 (by simp [q])
  have hcb := h.cb_not
  obtain ⟨hn, ho⟩ := h.near
  have hex : ∀ b, (b ∈ x :: A ++ B) → b ∈ x :: A ++ e :: B := fun b hb => by
   rcases List.mem_append.1 hb with q | q
   ·
    exact List.mem_append.2 (.inl q)
   ·
    exact List.mem_append.2 (.inr (by simp [q]))
  have hring1 := ring_drop (A := x :: A) (B := B) h.ring h.nd (by simp)
  have U := unhang_any h.eb (by simp) hn ho
  have hnx : upd n (o e) (n e) x ∈ x :: (A ++ B) := (ring_mem (M := A ++ B) hring1).1
  refine (use_walk (e := e) w (eql_other hxe.symm (h.eb e (by simp)) (h.eb x (by simp))) (R1 := fun w1 => EB w1 (· ∈ x :: A ++ e :: B) (upd n (o e) (n e)) (upd o (n e) (o e)) ky vl ∧ Ch (· ∈ x :: A ++ e :: B) w w1)
   (R2 := fun w2 => ∃ w1, EB w2 (fun b => b ∈ x :: A ++ B ∨ b = e) (upd (upd (upd n (o e) (n e)) e (upd n (o e) (n e) x)) x e) (upd (upd (upd o (n e) (o e)) e x) (upd n (o e) (n e) x) e) (upd ky e (ky e)) (upd vl e (vl e)) ∧ Ch (fun b => b ∈ x :: A ++ B ∨ b = e) w1 w2 ∧ Ch (· ∈ x :: A ++ e :: B) w w1)
   (box_cells h.at_ 1 _ rfl) (U.mono (fun r w' q => q)) (fun w1 h1 => ?_) (fun w1 h1 => ?_) (fun w2 h2 => ?_)).mono ?_
  ·
   exact box_cells ((h1.2.block cb (h.lt (.inl rfl)) hcb).trans h.at_) 1 _ rfl
  ·
   refine (hang_any (S := fun b => b ∈ x :: A ++ B) (k := ky e) (v := vl e) (h1.1.sub hex) (by simp) hnx hmid.1 ⟨_, _, h1.1 e (by simp)⟩).mono ?_
   rintro r w' ⟨rfl, h2, h3⟩
   exact ⟨rfl, w1, h2, h3, h1.2⟩
  ·
   obtain ⟨w1, h2, h3, h4⟩ := h2
   have hblk : w2.heap[cb]? = some (.cells #[.int .i64 room, hdp (x :: A ++ e :: B), mv] 140 (0, 0)) := by
    rw [h3.block cb (by have := h4.size; have := h.lt (.inl rfl); omega) (fun q => by
     rcases q with q | q
     ·
      exact hcb (hex cb q)
     ·
      exact hcb (by simp [q])), h4.block cb (h.lt (.inl rfl)) hcb]
    exact h.at_
   exact ⟨box_cells hblk 1 _ rfl, box_frozen hblk 1⟩
  ·
   rintro r w' ⟨rfl, w2, ⟨w1, h2, h3, h4⟩, rfl⟩
   have hcb2 : ¬ (cb ∈ x :: A ++ B ∨ cb = e) := fun q => by
    rcases q with q | q
    ·
     exact hcb (hex cb q)
    ·
     exact hcb (by simp [q])
   have hin : ∀ b, (b ∈ x :: A ++ B ∨ b = e) → b ∈ x :: A ++ e :: B := fun b q => by
    rcases q with q | q
    ·
     exact hex b q
    ·
     simp [q]
   have hblk : w2.heap[cb]? = some (.cells #[.int .i64 room, hdp (x :: A ++ e :: B), mv] 140 (0, 0)) := by
    rw [h3.block cb (by have := h4.size; have := h.lt (.inl rfl); omega) hcb2, h4.block cb (h.lt (.inl rfl)) hcb]
    exact h.at_
   have eky : upd ky e (ky e) = ky := by funext j; unfold upd; split <;> simp_all
   have evl : upd vl e (vl e) = vl := by funext j; unfold upd; split <;> simp_all
   rw [eky, evl] at h2
   have hperm : (x :: A ++ e :: B).Perm (e :: (x :: A ++ B)) := List.perm_middle
   have hall : Ch (FP cb mv (x :: A ++ e :: B)) w (w2.setCell ⟨cb, 1, none⟩ (pt e)) :=
    ((h4.mono (S' := FP cb mv (x :: A ++ e :: B)) (fun j _ q => .inr (.inl q))).then (h3.mono (fun j _ q => .inr (.inl (hin j q))))).then ((ch_set cb 1 (pt e)).mono (fun j _ q => .inl q))
   refine ⟨rfl, ⟨_, _, ?_, ?_, ?_, ring_use h.ring h.nd, ?_, ?_, ?_⟩, hall⟩
   ·
    rw [heap_set hblk]
    simp [hdp]
   ·
    intro b hb
    have hb' : b ∈ x :: A ++ B ∨ b = e := by
     rcases List.mem_cons.1 hb with q | q
     ·
      exact .inr q
     ·
      exact .inl q
    rw [heap_set_ne _ (fun q => hcb2 (by rw [← q]; exact hb'))]
    exact h2 b hb'
   ·
    exact hperm.nodup_iff.1 h.nd
   ·
    intro a ha b hb
    exact h.ks a (hperm.mem_iff.2 ha) b (hperm.mem_iff.2 hb)
   ·
    intro b hb
    exact h.kok b (hperm.mem_iff.2 hb)
   ·
    refine (h.mp.perm hperm).keep (fun m hm => ?_)
    obtain ⟨q1, q2⟩ := h.mb_not hm
    rw [heap_set_ne _ q1, h3.block m (by have := h4.size; have := h.lt (.inr (.inr hm)); omega) (fun q => q2 (hin m q)), h4.block m (h.lt (.inr (.inr hm))) q2]
end Go.Proofs.YtdhinpmjbcohaaaGreat.Ka
namespace Go.Proofs.YtdhinpmjbcohaaaGreat.Ka
open Go Go.RowKit
set_option linter.unusedSimpArgs false
set_option linter.unusedVariables false
set_option maxRecDepth 100000
set_option maxHeartbeats 4000000

theorem eqlSome (bm : Nat) (w : World) : (binOp .eql 138 (.map (some bm)) (.map none)).run Tryz.prog w = .ok (.bool false) w := by kernel_rfl
theorem eqlNil (w : World) : (binOp .eql 138 (.map none) (.map none)).run Tryz.prog w = .ok (.bool true) w := by kernel_rfl
theorem cell_lt {w : World} {b k : Nat} {v : Value} (h : w.cell? ⟨b, k, none⟩ = some v) : b < w.heap.size := by
 unfold World.cell? at h
 rcases hb : w.heap[b]? with _ | ob
 ·
  simp [hb] at h
 ·
  exact (Array.getElem?_eq_some_iff.1 hb).1
theorem add_walk {cb e mb : Nat} {lp : Value} {k : Ky} {v : Vt} (w w1 : World) {R2 : World → Prop} (c1 : w1.cell? ⟨cb, 1, none⟩ = some lp) (c2 : w1.cell? ⟨cb, 2, none⟩ = some (.map (some mb)))
  (hs : (w = w1 ∧ w.cell? ⟨cb, 2, none⟩ = some (.map (some mb))) ∨ (w.cell? ⟨cb, 2, none⟩ = some (.map none) ∧ w.frozen? ⟨cb, 2, none⟩ = false ∧ mb = w.heap.size ∧ w1 = (w.alloc (.map #[] 0)).setCell ⟨cb, 2, none⟩ (.map (some w.heap.size))))
  (he : EC w1 e k v) (w2 : World) (hm : (Instr.mapUpdate 138 (.map (some mb)) (kc k) (pt e)).run Tryz.prog w1.drew = .ok () w2) (c3 : w2.cell? ⟨cb, 1, none⟩ = some lp)
  (h2 : Calls Tryz.prog 96 #[pt e, lp] w2 fun r w' => r = .returned (.tuple #[]) ∧ R2 w') (hc2 : ∀ w3, R2 w3 → w3.cell? ⟨cb, 1, none⟩ = some lp ∧ w3.frozen? ⟨cb, 1, none⟩ = false) :
  Calls Tryz.prog 72 #[pt cb, pt e] w fun r w' => r = .returned (.tuple #[]) ∧ ∃ w3, R2 w3 ∧ w' = w3.setCell ⟨cb, 1, none⟩ (pt e) := by
 have H2 : Hid (Calls Tryz.prog 96 #[pt e, lp] w2 fun r w' => r = .returned (.tuple #[]) ∧ R2 w') := h2
 have HC2 : Hid (∀ w3, R2 w3 → w3.cell? ⟨cb, 1, none⟩ = some lp ∧ w3.frozen? ⟨cb, 1, none⟩ = false) := hc2
 obtain ⟨a0, a1, hE⟩ := he
 have d2 : w1.cell? ⟨e, 2, none⟩ = some (.string k.1) := box_cells hE 2 _ rfl
 have d3 : w1.cell? ⟨e, 3, none⟩ = some (.int .i64 k.2) := box_cells hE 3 _ rfl
 clear h2 hc2 hE
 have hmm := @run_makeMap Tryz.prog
 unfold kc at hm
 unfold pt at hm H2 ⊢
 rcases hs with ⟨rfl, hs⟩ | ⟨hs, hf, rfl, rfl⟩
 ·
  have q1 := eqlSome mb w
  go_enter Tryz.func72, Tryz.ntmps72
  go_wp2_with fail
  go_region
  all_goals go_wp2_with fail
  all_goals go_must (go_at_call 96)
  all_goals refine (H2.out).mono ?_
  all_goals rintro r w3 ⟨rfl, h2⟩
  all_goals obtain ⟨c4, f4⟩ := HC2.out w3 h2
  all_goals have g2 : Hid (R2 w3) := h2
  all_goals clear h2
  all_goals go_wp2_with fail
  all_goals first | go_end0 | refine bodyPost_ret (results_none rfl _ _ _) rfl ?_
  all_goals exact ⟨rfl, w3, g2.out, rfl⟩
 ·
  have q1 := eqlNil w
  have fA : (w.alloc (.map #[] 0)).frozen? ⟨cb, 2, none⟩ = false := by rw [World.frozen?_alloc_old]; exact hf; exact fun q => by simp at q; rw [q] at hs; simp [World.cell?] at hs
  have cA : (w.alloc (.map #[] 0)).cell? ⟨cb, 2, none⟩ = some (.map none) := by rw [World.cell?_alloc_lt]; exact hs; exact cell_lt hs
  go_enter Tryz.func72, Tryz.ntmps72
  go_wp2_with fail
  go_region
  all_goals go_wp2_with fail
  all_goals go_must (go_at_call 96)
  all_goals refine (H2.out).mono ?_
  all_goals rintro r w3 ⟨rfl, h2⟩
  all_goals obtain ⟨c4, f4⟩ := HC2.out w3 h2
  all_goals have g2 : Hid (R2 w3) := h2
  all_goals clear h2
  all_goals go_wp2_with fail
  all_goals first | go_end0 | refine bodyPost_ret (results_none rfl _ _ _) rfl ?_
  all_goals exact ⟨rfl, w3, g2.out, rfl⟩
theorem EB.congr {w : World} {S : Nat → Prop} {n o : Nat → Nat} {ky ky' : Nat → Ky} {vl vl' : Nat → Vt} (h : EB w S n o ky vl) (h1 : ∀ b, S b → ky' b = ky b) (h2 : ∀ b, S b → vl' b = vl b) : EB w S n o ky' vl' := fun b hb => by
 rw [h1 b hb, h2 b hb]
 exact h b hb
theorem add_core {w w1 : World} {cb room mb : Nat} {L : List Nat} {n o : Nat → Nat} {ky : Nat → Ky} {vl : Nat → Vt} {e : Nat} {k : Ky} {v : Vt} (h : CA w1 cb room (.map (some mb)) L n o ky vl)
  (hs : (w = w1 ∧ w.cell? ⟨cb, 2, none⟩ = some (.map (some mb))) ∨ (w.cell? ⟨cb, 2, none⟩ = some (.map none) ∧ w.frozen? ⟨cb, 2, none⟩ = false ∧ mb = w.heap.size ∧ w1 = (w.alloc (.map #[] 0)).setCell ⟨cb, 2, none⟩ (.map (some w.heap.size))))
  (hE : EC w1 e k v) (heL : e ∉ L) (hec : e ≠ cb) (hem : e ≠ mb) (hk : okK k) (hn : ∀ b ∈ L, ky b ≠ k) (hl : L.length < maxLen) :
  Calls Tryz.prog 72 #[pt cb, pt e] w fun r w' => r = .returned (.tuple #[]) ∧ (∃ n' o', CA w' cb room (.map (some mb)) (e :: L) n' o' (upd ky e k) (upd vl e v)) ∧ Ch (fun j => FP cb (.map (some mb)) L j ∨ j = e) w1 w' := by
 obtain ⟨hmc, hmL⟩ := h.mb_not rfl
 have hcb := h.cb_not
 have hp0 : MapL w1.drew (.map (some mb)) L ky := h.mp.keep (fun _ _ => rfl)
 obtain ⟨w2, hrun, hm2, ht⟩ := hp0.put hk hn heL h.kok hl
 have hc12 : Ch (fun j => j = mb) w1 w2 := (ch_drew _ w1).then (ch_turned ht)
 have hat2 : w2.heap[cb]? = some (.cells #[.int .i64 room, hdp L, .map (some mb)] 140 (0, 0)) := by
  rw [hc12.block cb (h.lt (.inl rfl)) (fun q => hmc q.symm)]
  exact h.at_
 have heb2 : EB w2 (· ∈ L) n o ky vl := h.eb.keep (fun b hb => hc12.block b (h.lt (.inr (.inl hb))) (fun q => hmL (by rw [← q]; exact hb)))
 have hE2 : EC w2 e k v := by
  obtain ⟨a0, a1, hE⟩ := hE
  exact ⟨a0, a1, (hc12.block e (Array.getElem?_eq_some_iff.1 hE).1 hem).trans hE⟩
 have hcb2 : cb ∉ e :: L := fun q => by
  rcases List.mem_cons.1 q with q | q
  ·
   exact hec q.symm
  ·
   exact hcb q
 have hR : Calls Tryz.prog 96 #[pt e, hdp L] w2 fun r w' => r = .returned (.tuple #[]) ∧ ((∃ n' o', EB w' (· ∈ e :: L) n' o' (upd ky e k) (upd vl e v) ∧ Ring n' o' (e :: L)) ∧ Ch (· ∈ e :: L) w2 w') := by
  cases L with
  | nil =>
   refine (hang_first n o ky vl hE2).mono ?_
   rintro r w' ⟨rfl, h1, h2⟩
   exact ⟨rfl, ⟨_, _, h1.sub (fun b hb => by simpa using hb), ring_one n o e⟩, h2.mono (fun j _ q => by simp [q])⟩
  | cons x T =>
   refine (hang_any heb2 (by simp) (ring_mem h.ring).1 heL hE2).mono ?_
   rintro r w' ⟨rfl, h1, h2⟩
   refine ⟨rfl, ⟨_, _, h1.sub (fun b hb => ?_), ring_in h.ring h.nd heL⟩, h2.mono (fun j _ q => ?_)⟩
   ·
    rcases List.mem_cons.1 hb with q | q
    ·
     exact .inr q
    ·
     exact .inl q
   ·
    rcases q with q | q
    ·
     exact List.mem_cons_of_mem _ q
    ·
     simp [q]
 have hat3 : ∀ w3, Ch (· ∈ e :: L) w2 w3 → w3.heap[cb]? = some (.cells #[.int .i64 room, hdp L, .map (some mb)] 140 (0, 0)) := fun w3 q => by
  rw [q.block cb (Array.getElem?_eq_some_iff.1 hat2).1 hcb2]
  exact hat2
 refine (add_walk w w1 (lp := hdp L) (box_cells h.at_ 1 _ rfl) (box_cells h.at_ 2 _ rfl) hs hE w2 hrun (box_cells hat2 1 _ rfl) hR (fun w3 h3 => ⟨box_cells (hat3 w3 h3.2) 1 _ rfl, box_frozen (hat3 w3 h3.2) 1⟩)).mono ?_
 rintro r w' ⟨rfl, w3, ⟨⟨n', o', h3, hring⟩, hc3⟩, rfl⟩
 have hmL' : mb ∉ e :: L := fun q => by
  rcases List.mem_cons.1 q with q | q
  ·
   exact hem q.symm
  ·
   exact hmL q
 refine ⟨rfl, ⟨n', o', ?_, ?_, ?_, hring, ?_, ?_, ?_⟩, ?_⟩
 ·
  rw [heap_set (hat3 w3 hc3)]
  simp [hdp]
 ·
  intro b hb
  rw [heap_set_ne _ (fun q => hcb2 (by rw [← q]; exact hb))]
  exact h3 b hb
 ·
  exact List.nodup_cons.2 ⟨heL, h.nd⟩
 ·
  intro a ha b hb hab
  by_cases qa : a = e
  ·
   by_cases qb : b = e
   ·
    rw [qa, qb]
   ·
    have hb' : b ∈ L := (List.mem_cons.1 hb).resolve_left qb
    rw [qa, upd_same, upd_ne _ _ qb] at hab
    exact absurd hab.symm (hn b hb')
  ·
   have ha' : a ∈ L := (List.mem_cons.1 ha).resolve_left qa
   by_cases qb : b = e
   ·
    rw [qb, upd_same, upd_ne _ _ qa] at hab
    exact absurd hab (hn a ha')
   ·
    have hb' : b ∈ L := (List.mem_cons.1 hb).resolve_left qb
    rw [upd_ne _ _ qa, upd_ne _ _ qb] at hab
    exact h.ks a ha' b hb' hab
 ·
  intro b hb
  by_cases qb : b = e
  ·
   rw [qb, upd_same]
   exact hk
  ·
   rw [upd_ne _ _ qb]
   exact h.kok b ((List.mem_cons.1 hb).resolve_left qb)
 ·
  refine hm2.keep (fun m hm => ?_)
  cases hm
  rw [heap_set_ne _ hmc, hc3.block mb (hm2.block rfl |>.elim fun es q => q.elim fun cl q => (Array.getElem?_eq_some_iff.1 q).1) hmL']
 ·
  exact ((hc12.mono (S' := fun j => FP cb (.map (some mb)) L j ∨ j = e) (fun j _ q => .inl (.inr (.inr (by rw [q]))))).then (hc3.mono (fun j _ q => by
   rcases List.mem_cons.1 q with q | q
   ·
    exact .inr q
   ·
    exact .inl (.inr (.inl q))))).then ((ch_set cb 1 (pt e)).mono (fun j _ q => .inl (.inl q)))
theorem add_any {w : World} {cb room : Nat} {mv : Value} {L : List Nat} {n o : Nat → Nat} {ky : Nat → Ky} {vl : Nat → Vt} {e : Nat} {k : Ky} {v : Vt} (h : CA w cb room mv L n o ky vl)
  (hE : EC w e k v) (heL : ¬ FP cb mv L e) (hk : okK k) (hn : ∀ b ∈ L, ky b ≠ k) (hl : L.length < maxLen) :
  Calls Tryz.prog 72 #[pt cb, pt e] w fun r w' => r = .returned (.tuple #[]) ∧ (∃ mv' n' o', CA w' cb room mv' (e :: L) n' o' (upd ky e k) (upd vl e v) ∧ (∀ j, mv' = .map (some j) → mv = .map (some j) ∨ w.heap.size ≤ j)) ∧ Ch (fun j => FP cb mv L j ∨ j = e) w w' := by
 have hec : e ≠ cb := fun q => heL (.inl q)
 have heL' : e ∉ L := fun q => heL (.inr (.inl q))
 rcases h.mp with ⟨rfl, rfl⟩ | ⟨mb, D, rfl, _⟩
 ·
  have hcb : cb < w.heap.size := h.lt (.inl rfl)
  have hE' := hE
  obtain ⟨a0, a1, hE0⟩ := hE
  have hel : e < w.heap.size := (Array.getElem?_eq_some_iff.1 hE0).1
  have hold : ∀ j, j < w.heap.size → (w.alloc (.map #[] 0)).heap[j]? = w.heap[j]? := fun j hj => (World.grownBy_alloc w (.map #[] 0) none).block j hj (by simp)
  have hat := (hold cb hcb).trans h.at_
  have hc1 : Ch (fun j => j = cb) w ((w.alloc (.map #[] 0)).setCell ⟨cb, 2, none⟩ (.map (some w.heap.size))) := (ch_alloc _ w _).then (ch_set cb 2 _)
  have h1 : CA ((w.alloc (.map #[] 0)).setCell ⟨cb, 2, none⟩ (.map (some w.heap.size))) cb room (.map (some w.heap.size)) [] n o ky vl := by
   refine ⟨?_, fun b hb => (by cases hb), List.nodup_nil, trivial, fun a ha => (by cases ha), fun a ha => (by cases ha), ?_⟩
   ·
    rw [heap_set hat]
    simp [hdp]
   ·
    refine (MapL.made w ky).keep (fun m hm => ?_)
    cases hm
    rw [heap_set_ne _ (by omega)]
  refine (add_core (w := w) h1 (.inr ⟨box_cells h.at_ 2 _ rfl, box_frozen h.at_ 2, rfl, rfl⟩) (k := k) (v := v) ⟨a0, a1, ?_⟩ (by simp) hec (by omega) hk (by simp) (by simpa using hl)).mono ?_
  ·
   rw [heap_set_ne _ hec, hold e hel]
   exact hE0
  ·
   rintro r w' ⟨rfl, ⟨n', o', h2⟩, hc⟩
   refine ⟨rfl, ⟨_, n', o', h2, fun j hj => .inr (by cases hj; exact Nat.le_refl _)⟩, ?_⟩
   refine (hc1.mono (fun j _ q => .inl (.inl q))).trans hc (fun j hj q => ?_)
   rcases q with (q | q | q) | q
   ·
    exact .inl (.inl q)
   ·
    cases q
   ·
    cases q
    omega
   ·
    exact .inr q
 ·
  refine (add_core (w := w) h (.inl ⟨rfl, box_cells h.at_ 2 _ rfl⟩) hE heL' hec (fun q => heL (.inr (.inr (by rw [q])))) hk hn hl).mono ?_
  rintro r w' ⟨rfl, ⟨n', o', h2⟩, hc⟩
  exact ⟨rfl, ⟨_, n', o', h2, fun j hj => .inl hj⟩, hc⟩
end Go.Proofs.YtdhinpmjbcohaaaGreat.Ka
