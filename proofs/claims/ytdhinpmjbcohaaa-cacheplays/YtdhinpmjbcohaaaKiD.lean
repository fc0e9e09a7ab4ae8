import Derived.Test.YtdhinpmjbcohaaaCc
namespace Go.Proofs.Ytdhinpmjbcohaaa.Ki
open Go Go.RowKit
set_option linter.unusedSimpArgs false
set_option linter.unusedVariables false
abbrev Ky := ByteArray × Int
abbrev Vt := Int
def kc (k : Ky) : Value := .agg #[.string k.1, .int .i64 k.2]
def vc (v : Vt) : Value := .int .i64 v
/-! ### Entries of keys of two fields -/
def ec (n o : Nat) (k : Ky) (v : Vt) : Array Value := #[pt n, pt o, .string k.1, .int .i64 k.2, vc v]
/-- Entries in memory. -/
def EB (w : World) (S : Nat → Prop) (n o : Nat → Nat) (ky : Nat → Ky) (vl : Nat → Vt) : Prop := ∀ b, S b → w.heap[b]? = some (.cells (ec (n b) (o b) (ky b) (vl b)) 111 (0, 0))
theorem EB.setO {w : World} {S : Nat → Prop} {n o : Nat → Nat} {ky : Nat → Ky} {vl : Nat → Vt} (h : EB w S n o ky vl) {p : Nat} (hp : S p) (q : Nat) : EB (w.setCell ⟨p, 1, none⟩ (pt q)) S n (upd o p q) ky vl := by
  intro b hb
  by_cases e : b = p
  · subst e
    rw [heap_set (h b hb), upd_same]
    simp [ec]
  · rw [heap_set_ne _ e, upd_ne _ _ e]
    exact h b hb
theorem EB.setN {w : World} {S : Nat → Prop} {n o : Nat → Nat} {ky : Nat → Ky} {vl : Nat → Vt} (h : EB w S n o ky vl) {p : Nat} (hp : S p) (q : Nat) : EB (w.setCell ⟨p, 0, none⟩ (pt q)) S (upd n p q) o ky vl := by
  intro b hb
  by_cases e : b = p
  · subst e
    rw [heap_set (h b hb), upd_same]
    simp [ec]
  · rw [heap_set_ne _ e, upd_ne _ _ e]
    exact h b hb
theorem EB.setV {w : World} {S : Nat → Prop} {n o : Nat → Nat} {ky : Nat → Ky} {vl : Nat → Vt} (h : EB w S n o ky vl) {p : Nat} (hp : S p) (v : Vt) : EB (w.setCell ⟨p, 4, none⟩ (vc v)) S n o ky (upd vl p v) := by
  intro b hb
  by_cases e : b = p
  · subst e
    rw [heap_set (h b hb), upd_same]
    simp [ec]
  · rw [heap_set_ne _ e, upd_ne _ _ e]
    exact h b hb
theorem EB.drewN {w : World} {S : Nat → Prop} {n o : Nat → Nat} {ky : Nat → Ky} {vl : Nat → Vt} (h : EB w S n o ky vl) (k : Nat) : EB (w.drewN k) S n o ky vl := fun b hb => by
  have := h b hb
  simpa using this

theorem EB.drew {w : World} {S : Nat → Prop} {n o : Nat → Nat} {ky : Nat → Ky} {vl : Nat → Vt} (h : EB w S n o ky vl) : EB w.drew S n o ky vl := h
theorem EB.sub {w : World} {S S' : Nat → Prop} {n o : Nat → Nat} {ky : Nat → Ky} {vl : Nat → Vt} (h : EB w S n o ky vl) (hs : ∀ b, S' b → S b) : EB w S' n o ky vl := fun b hb => h b (hs b hb)
theorem EB.keep {w w' : World} {S : Nat → Prop} {n o : Nat → Nat} {ky : Nat → Ky} {vl : Nat → Vt} (h : EB w S n o ky vl) (hs : ∀ b, S b → w'.heap[b]? = w.heap[b]?) : EB w' S n o ky vl := fun b hb => (hs b hb).trans (h b hb)

set_option maxRecDepth 100000 in
set_option maxHeartbeats 1000000 in
theorem unhang_run {p q e : Nat} {xp xq : Value} (w : World) (c0 : w.cell? ⟨e, 0, none⟩ = some (pt p)) (c1 : w.cell? ⟨e, 1, none⟩ = some (pt q)) (cp : w.cell? ⟨p, 1, none⟩ = some xp) (cq : w.cell? ⟨q, 0, none⟩ = some xq) (fp : w.frozen? ⟨p, 1, none⟩ = false) (fq : w.frozen? ⟨q, 0, none⟩ = false) : Calls Try.prog 66 #[pt e] w fun r w' => r = .returned (.tuple #[]) ∧ w' = ((w.setCell ⟨p, 1, none⟩ (pt q)).setCell ⟨q, 0, none⟩ (pt p)).drew := by
  unfold pt at *
  go_enter Try.func66, Try.ntmps66
  go_wp2_with fail
  go_region
  all_goals go_wp2_with fail
  all_goals first | go_end0 | refine bodyPost_ret (results_none rfl _ _ _) rfl ?_
  all_goals exact ⟨rfl, rfl⟩
set_option maxRecDepth 100000 in
set_option maxHeartbeats 1000000 in
theorem hang_run {p x e : Nat} {x0 x1 x3 : Value} (w : World) (c0 : w.cell? ⟨e, 0, none⟩ = some x0) (c1 : w.cell? ⟨e, 1, none⟩ = some x1) (cx : w.cell? ⟨x, 0, none⟩ = some (pt p)) (cp : w.cell? ⟨p, 1, none⟩ = some x3) (f0 : w.frozen? ⟨e, 0, none⟩ = false) (f1 : w.frozen? ⟨e, 1, none⟩ = false) (fx : w.frozen? ⟨x, 0, none⟩ = false) (fp : w.frozen? ⟨p, 1, none⟩ = false) (hxe : x ≠ e) (hpe : p ≠ e) : Calls Try.prog 67 #[pt e, pt x] w fun r w' => r = .returned (.tuple #[]) ∧ w' = ((((w.setCell ⟨e, 1, none⟩ (pt x)).setCell ⟨e, 0, none⟩ (pt p)).setCell ⟨x, 0, none⟩ (pt e)).setCell ⟨p, 1, none⟩ (pt e)).drew := by
  unfold pt at *
  have hex : e ≠ x := hxe.symm
  have hep : e ≠ p := hpe.symm
  go_enter Try.func67, Try.ntmps67
  go_wp2_with fail
  go_region
  all_goals go_wp2_with fail
  all_goals first | go_end0 | refine bodyPost_ret (results_none rfl _ _ _) rfl ?_
  all_goals exact ⟨rfl, rfl⟩
set_option maxRecDepth 100000 in
set_option maxHeartbeats 1000000 in
theorem hang_nil {e : Nat} {x0 x1 : Value} (w : World) (c0 : w.cell? ⟨e, 0, none⟩ = some x0) (c1 : w.cell? ⟨e, 1, none⟩ = some x1) (f0 : w.frozen? ⟨e, 0, none⟩ = false) (f1 : w.frozen? ⟨e, 1, none⟩ = false) : Calls Try.prog 67 #[pt e, .pointer none] w fun r w' => r = .returned (.tuple #[]) ∧ w' = ((w.setCell ⟨e, 0, none⟩ (pt e)).setCell ⟨e, 1, none⟩ (pt e)) := by
  unfold pt at *
  go_enter Try.func67, Try.ntmps67
  go_wp2_with fail
  all_goals first | go_end0 | refine bodyPost_ret (results_none rfl _ _ _) rfl ?_
  all_goals exact ⟨rfl, rfl⟩

/-- An entry that leaves the ring. -/
theorem unhang_any {w : World} {S : Nat → Prop} {n o : Nat → Nat} {ky : Nat → Ky} {vl : Nat → Vt} {e : Nat} (h : EB w S n o ky vl) (he : S e) (hn : S (n e)) (ho : S (o e)) : Calls Try.prog 66 #[pt e] w fun r w' => r = .returned (.tuple #[]) ∧ EB w' S (upd n (o e) (n e)) (upd o (n e) (o e)) ky vl ∧ Ch S w w' := by
  refine (unhang_run w (box_cells (h e he) 0 _ rfl) (box_cells (h e he) 1 _ rfl) (box_cells (h _ hn) 1 _ rfl) (box_cells (h _ ho) 0 _ rfl) (box_frozen (h _ hn) 1) (box_frozen (h _ ho) 0)).mono ?_
  rintro r w' ⟨rfl, rfl⟩
  refine ⟨rfl, ((h.setO hn (o e)).setN ho (n e)).drew, ?_⟩
  exact (((ch_set _ _ _).mono (fun j _ q => by subst q; exact hn)).trans ((ch_set _ _ _).mono (S' := S) (fun j _ q => by subst q; exact ho)) (fun j _ q => q)).trans (ch_drew S _) (fun j _ q => q)
def EC (w : World) (e : Nat) (k : Ky) (v : Vt) : Prop := ∃ a0 a1, w.heap[e]? = some (.cells #[a0, a1, .string k.1, .int .i64 k.2, vc v] 111 (0, 0))
theorem EC.links {w : World} {e : Nat} {k : Ky} {v : Vt} (h : EC w e k v) (n o : Nat) : EB ((w.setCell ⟨e, 1, none⟩ (pt o)).setCell ⟨e, 0, none⟩ (pt n)) (fun b => b = e) (fun _ => n) (fun _ => o) (fun _ => k) (fun _ => v) := by
  obtain ⟨a0, a1, h⟩ := h
  intro b hb
  subst hb
  rw [heap_set (heap_set h _)]
  simp [ec]
/-- A new entry laid ahead of the first one. -/
theorem hang_any {w : World} {S : Nat → Prop} {n o : Nat → Nat} {ky : Nat → Ky} {vl : Nat → Vt} {e x : Nat} {k : Ky} {v : Vt} (h : EB w S n o ky vl) (hx : S x) (hn : S (n x)) (he : ¬ S e) (hE : EC w e k v) : Calls Try.prog 67 #[pt e, pt x] w fun r w' => r = .returned (.tuple #[]) ∧ EB w' (fun b => S b ∨ b = e) (upd (upd n e (n x)) x e) (upd (upd o e x) (n x) e) (upd ky e k) (upd vl e v) ∧ Ch (fun b => S b ∨ b = e) w w' := by
  obtain ⟨a0, a1, hE0⟩ := id hE
  have hxe : x ≠ e := fun q => he (q ▸ hx)
  have hpe : n x ≠ e := fun q => he (q ▸ hn)
  refine (hang_run w (box_cells hE0 0 _ rfl) (box_cells hE0 1 _ rfl) (box_cells (h _ hx) 0 _ rfl) (box_cells (h _ hn) 1 _ rfl) (box_frozen hE0 0) (box_frozen hE0 1) (box_frozen (h _ hx) 0) (box_frozen (h _ hn) 1) hxe hpe).mono ?_
  rintro r w' ⟨rfl, rfl⟩
  have h1 : EB ((w.setCell ⟨e, 1, none⟩ (pt x)).setCell ⟨e, 0, none⟩ (pt (n x))) (fun b => S b ∨ b = e) (upd n e (n x)) (upd o e x) (upd ky e k) (upd vl e v) := by
    intro b hb
    by_cases q : b = e
    · subst q
      simp only [upd_same]
      exact hE.links (n x) x b rfl
    · have hb' : S b := hb.resolve_right q
      rw [heap_set_ne _ q, heap_set_ne _ q]
      simp only [upd_ne _ _ q]
      exact h b hb'
  refine ⟨rfl, ((h1.setN (.inl hx) e).setO (.inl hn) e).drew, ?_⟩
  have k1 : ∀ (w1 : World) (i j : Nat) (u : Value), (S i ∨ i = e) → Ch (fun b => S b ∨ b = e) w1 (w1.setCell ⟨i, j, none⟩ u) := fun w1 i j u hi => (ch_set _ _ _).mono (fun j _ q => by subst q; exact hi)
  exact (((((k1 _ _ _ _ (.inr rfl)).trans (k1 _ _ _ _ (.inr rfl)) (fun j _ q => q)).trans (k1 _ _ _ _ (.inl hx)) (fun j _ q => q)).trans (k1 _ _ _ _ (.inl hn)) (fun j _ q => q)).trans (ch_drew _ _) (fun j _ q => q))
theorem hang_first {w : World} {e : Nat} {k : Ky} {v : Vt} (n o : Nat → Nat) (ky : Nat → Ky) (vl : Nat → Vt) (hE : EC w e k v) : Calls Try.prog 67 #[pt e, .pointer none] w fun r w' => r = .returned (.tuple #[]) ∧ EB w' (fun b => b = e) (upd n e e) (upd o e e) (upd ky e k) (upd vl e v) ∧ Ch (fun b => b = e) w w' := by
  obtain ⟨a0, a1, hE0⟩ := id hE
  refine (hang_nil w (box_cells hE0 0 _ rfl) (box_cells hE0 1 _ rfl) (box_frozen hE0 0) (box_frozen hE0 1)).mono ?_
  rintro r w' ⟨rfl, rfl⟩
  refine ⟨rfl, fun b hb => ?_, ((ch_set _ _ _).trans (ch_set _ _ _) (fun j _ q => q))⟩
  subst hb
  rw [heap_set (heap_set hE0 _)]
  simp only [upd_same]
  simp [ec]

/-! ### Keys -/
def okK (k : Ky) : Prop := k.1.size ≤ maxLen ∧ (Lit.int .i64 k.2).wf = true
def kl (k : Ky) : Lit := .string (keyBytes [.string k.1.data.toList, .int .i64 k.2])
theorem laidOut : laidOutB Try.prog = true := by kernel_rfl
theorem row31 : (31 : TypeId) < Try.prog.types.size := of_decide_eq_true (by kernel_rfl)
theorem wide31 : (match Try.prog.underlying 31 with | some (.array _ _) | some (.struct _) => true | _ => false) = true := by rw [Try.underlying31]
set_option maxRecDepth 100000 in
theorem law : Maps.Keyed Try.prog 31 := Maps.Keyed.of_law (deep_law_laid laidOut (m := 2) (by omega) row31 (by kernel_rfl) wide31)
theorem cells31 : Try.prog.cellsOf 31 = 2 := by kernel_rfl
theorem cells9 : Try.prog.cellsOf 9 = 1 := by kernel_rfl
theorem cells3 : Try.prog.cellsOf 3 = 1 := by kernel_rfl
theorem ktype31 : Try.prog.keyType 31 = true := by kernel_rfl
theorem keyOf_kc {k : Ky} (h : okK k) : keyOf Try.prog 31 (kc k) = some (kl k) := by
  obtain ⟨d, hd⟩ : ∃ d, Try.prog.types.size = d + 1 := ⟨Try.prog.types.size - 1, by have h31 : 31 < Try.prog.types.size := row31; omega⟩
  have hf : (kc k).formed Try.prog 31 = true := by simp [kc, Value.formed, Try.underlying31, cells31]
  have h1 : Try.prog.keyLits (d + 1 + 1) 31 [.string k.1, .int .i64 k.2] = some [.string k.1.data.toList, .int .i64 k.2] := by
    simp [Program.keyLits, Try.underlying31, Try.underlying9, Try.underlying3, cells31, cells9, cells3, h.1, h.2]
  unfold keyOf
  rw [Try.underlying31]
  simp only [ktype31, hf, Bool.and_self, if_true]
  rw [hd]
  show (Try.prog.keyLits (d + 1 + 1) 31 [.string k.1, .int .i64 k.2]).map _ = _
  rw [h1]
  rfl
theorem kl_inj {a b : Ky} (ha : okK a) (hb : okK b) (h : kl a = kl b) : a = b := by
  have h1 := keyOf_kc ha
  rw [h] at h1
  have := law.inj h1 (keyOf_kc hb)
  simp [kc] at this
  exact Prod.ext this.1 this.2
theorem zero_ptr (w : World) : (zeroValue 103).run Try.prog w = .ok (.pointer none) w := by kernel_rfl

/-! ### The map of a cache: of each entry's key its place -/
def MapL (w : World) (mv : Value) (L : List Nat) (ky : Nat → Ky) : Prop :=
  (mv = .map none ∧ L = []) ∨ ∃ mb D, mv = .map (some mb) ∧ w.ownsMap Try.prog 31 hv mb L.length D ∧ Maps.size D = L.length ∧ (∀ b ∈ L, Maps.has D (kl (ky b)) = true ∧ ∀ z, D.atKey (kl (ky b)) z = .held (pt b)) ∧ (∀ k, okK k → (∀ b ∈ L, ky b ≠ k) → Maps.has D (kl k) = false)
theorem MapL.perm {w : World} {mv : Value} {L L' : List Nat} {ky : Nat → Ky} (h : MapL w mv L ky) (hp : L.Perm L') : MapL w mv L' ky := by
  rcases h with ⟨h1, rfl⟩ | ⟨mb, D, h1, h2, h3, h4, h5⟩
  · exact .inl ⟨h1, by simpa using hp⟩
  · refine .inr ⟨mb, D, h1, hp.length_eq ▸ h2, hp.length_eq ▸ h3, fun b hb => h4 b (hp.mem_iff.2 hb), fun k hk hn => h5 k hk (fun b hb => hn b (hp.mem_iff.1 hb))⟩
theorem MapL.congr {w : World} {mv : Value} {L : List Nat} {ky ky' : Nat → Ky} (h : MapL w mv L ky) (hk : ∀ b ∈ L, ky' b = ky b) : MapL w mv L ky' := by
  rcases h with h | ⟨mb, D, h1, h2, h3, h4, h5⟩
  · exact .inl h
  · exact .inr ⟨mb, D, h1, h2, h3, fun b hb => by rw [hk b hb]; exact h4 b hb, fun k ok hn => h5 k ok (fun b hb => by rw [← hk b hb]; exact hn b hb)⟩
theorem MapL.keep {w w' : World} {mv : Value} {L : List Nat} {ky : Nat → Ky} (h : MapL w mv L ky) (hs : ∀ b, mv = .map (some b) → w'.heap[b]? = w.heap[b]?) : MapL w' mv L ky := by
  rcases h with h | ⟨mb, D, h1, h2, h3, h4, h5⟩
  · exact .inl h
  · refine .inr ⟨mb, D, h1, ?_, h3, h4, h5⟩
    obtain ⟨es, clock, hb, F, hs', hD⟩ := h2
    exact ⟨es, clock, (hs mb h1).trans hb, F, hs', hD⟩
theorem MapL.block {w : World} {mv : Value} {L : List Nat} {ky : Nat → Ky} (h : MapL w mv L ky) {b : Nat} (hb : mv = .map (some b)) : ∃ es clock, w.heap[b]? = some (.map es clock) := by
  rcases h with ⟨h, _⟩ | ⟨mb, D, h1, ⟨es, clock, hm, _⟩, _⟩
  · rw [h] at hb; cases hb
  · rw [h1] at hb
    cases hb
    exact ⟨es, clock, hm⟩
theorem MapL.hit {w : World} {mv : Value} {L : List Nat} {ky : Nat → Ky} (h : MapL w mv L ky) {b : Nat} (hb : b ∈ L) (hk : okK (ky b)) : (Instr.lookup 104 mv (kc (ky b)) false).run Try.prog w = .ok (pt b) w := by
  rcases h with ⟨_, rfl⟩ | ⟨mb, D, rfl, h2, h3, h4, h5⟩
  · cases hb
  · obtain ⟨v, ps, hrun, hv'⟩ := h2.lookup law Try.underlying104 (zero_ptr w) (zd := .held (.pointer none)) (zp := []) rfl (keyOf_kc hk)
    rw [(h4 b hb).2] at hv'
    simp [hv] at hv'
    rw [hrun, hv'.1]
theorem MapL.miss {w : World} {mv : Value} {L : List Nat} {ky : Nat → Ky} (h : MapL w mv L ky) {k : Ky} (hk : okK k) (hn : ∀ b ∈ L, ky b ≠ k) : (Instr.lookup 104 mv (kc k) false).run Try.prog w = .ok (.pointer none) w := by
  rcases h with ⟨rfl, _⟩ | ⟨mb, D, rfl, h2, h3, h4, h5⟩
  · exact Maps.look_nil false law Try.underlying104 (zero_ptr w) (keyOf_kc hk)
  · obtain ⟨v, ps, hrun, hv'⟩ := h2.lookup law Try.underlying104 (zero_ptr w) (zd := .held (.pointer none)) (zp := []) rfl (keyOf_kc hk)
    rw [Maps.atKey_of_not_has (h5 k hk hn)] at hv'
    simp [hv] at hv'
    rw [hrun, hv'.1]
theorem MapL.len {w : World} {mv : Value} {L : List Nat} {ky : Nat → Ky} (h : MapL w mv L ky) (ty : TypeId) : (Builtin.len_ #[104] ty #[mv]).run Try.prog w = .ok (.int .i64 L.length) w := by
  rcases h with ⟨rfl, rfl⟩ | ⟨mb, D, rfl, h2, h3, h4, h5⟩
  · exact Maps.len_nil Try.underlying104 ty
  · rw [h2.len Try.underlying104 ty, h3]
theorem MapL.put {w : World} {mb : Nat} {L : List Nat} {ky : Nat → Ky} (h : MapL w (.map (some mb)) L ky) {k : Ky} {e : Nat} (hk : okK k) (hn : ∀ b ∈ L, ky b ≠ k) (he : e ∉ L) (hok : ∀ b ∈ L, okK (ky b)) (hl : L.length < maxLen) :
    ∃ w', (Instr.mapUpdate 104 (.map (some mb)) (kc k) (pt e)).run Try.prog w = .ok () w' ∧ MapL w' (.map (some mb)) (e :: L) (upd ky e k) ∧ w.mapTurned w' mb := by
  rcases h with ⟨h, _⟩ | ⟨mb', D, h1, h2, h3, h4, h5⟩
  · cases h
  · cases h1
    obtain ⟨w', hrun, ho, ht⟩ := h2.store law Try.underlying104 hl (keyOf_kc hk) (val := pt e) (d := .held (pt e)) (ps := []) rfl
    have hD := h2.tidy law
    have hne : ∀ b ∈ L, kl (ky b) ≠ kl k := fun b hb q => hn b hb (kl_inj (hok b hb) hk q)
    refine ⟨w', hrun, .inr ⟨mb, _, rfl, by simpa using ho, ?_, fun b hb => ?_, fun k' hk' hn' => ?_⟩, ht⟩
    · rw [Maps.size_put hD, h5 k hk hn, h3]
      simp
    · by_cases q : b = e
      · subst q
        rw [upd_same]
        exact ⟨Maps.has_put_same hD.isMap (law.key (keyOf_kc hk)) _, fun z => Maps.atKey_put_same hD.isMap (law.key (keyOf_kc hk)) _ z⟩
      · have hb' : b ∈ L := (List.mem_cons.1 hb).resolve_left q
        rw [upd_ne _ _ q]
        refine ⟨?_, fun z => ?_⟩
        · rw [Maps.has_put_other (hne b hb')]
          exact (h4 b hb').1
        · rw [Maps.atKey_put_other (hne b hb')]
          exact (h4 b hb').2 z
    · have h1 := hn' e (by simp)
      rw [upd_same] at h1
      rw [Maps.has_put_other (fun q => h1 (kl_inj hk' hk q).symm)]
      refine h5 k' hk' (fun b hb => ?_)
      have := hn' b (by simp [hb])
      rwa [upd_ne _ _ (fun q => he (by rw [← q]; exact hb))] at this
theorem MapL.made (w : World) (ky : Nat → Ky) : MapL (w.alloc (.map #[] 0)) (.map (some w.heap.size)) [] ky :=
  .inr ⟨w.heap.size, .map [], rfl, World.ownsMap_made w Try.prog 31 hv, rfl, by simp, fun k _ _ => rfl⟩
theorem own_tight {w : World} {mb n : Nat} {D : DataW Value} (h : w.ownsMap Try.prog 31 hv mb n D) : w.ownsMap Try.prog 31 hv mb (Maps.size D) D := by
  obtain ⟨es, clock, hb, F, hs, rfl⟩ := h
  exact ⟨es, clock, hb, F, by simp [Maps.size, length_sorted], rfl⟩
theorem MapL.drop {w : World} {mv : Value} {A B : List Nat} {ky : Nat → Ky} {e : Nat} (h : MapL w mv (A ++ e :: B) ky) (hks : ∀ a ∈ A ++ e :: B, ∀ b ∈ A ++ e :: B, ky a = ky b → a = b) (hnd : (A ++ e :: B).Nodup) (hok : ∀ b ∈ A ++ e :: B, okK (ky b)) (ty : TypeId) :
    ∃ w' mb, mv = .map (some mb) ∧ (Builtin.delete_ #[104, 31] ty #[mv, kc (ky e)]).run Try.prog w = .ok (.tuple #[]) w' ∧ MapL w' mv (A ++ B) ky ∧ w.mapTurned w' mb := by
  have hm : e ∈ A ++ e :: B := by simp
  rcases h with ⟨_, h⟩ | ⟨mb, D, rfl, h2, h3, h4, h5⟩
  · simp at h
  · obtain ⟨w', hrun, ho, ht⟩ := h2.drop law Try.underlying104 (keyOf_kc (hok e hm)) ty
    have hD := h2.tidy law
    have hsub : ∀ b ∈ A ++ B, b ∈ A ++ e :: B := fun b hb => by
      rcases List.mem_append.1 hb with q | q <;> simp [q]
    have hnot : ∀ b ∈ A ++ B, b ≠ e := fun b hb q => by
      have := (List.nodup_cons.1 (List.perm_middle.nodup_iff.1 hnd)).1
      exact this (q ▸ hb)
    have hne : ∀ b ∈ A ++ B, kl (ky b) ≠ kl (ky e) := fun b hb q => hnot b hb (hks b (hsub b hb) e hm (kl_inj (hok b (hsub b hb)) (hok e hm) q))
    have hsz : Maps.size (D.del (kl (ky e))) = (A ++ B).length := by
      have := Maps.size_del (k := kl (ky e)) hD
      rw [(h4 e hm).1, h3] at this
      simp at this ⊢
      omega
    refine ⟨w', mb, rfl, hrun, .inr ⟨mb, _, rfl, hsz ▸ own_tight ho, hsz, fun b hb => ⟨?_, fun z => ?_⟩, fun k hk hn => ?_⟩, ht⟩
    · rw [Maps.has_del_other (hne b hb)]
      exact (h4 b (hsub b hb)).1
    · rw [Maps.atKey_del_other (hne b hb)]
      exact (h4 b (hsub b hb)).2 z
    · by_cases q : kl k = kl (ky e)
      · rw [q, Maps.has_del_same]
      · rw [Maps.has_del_other q]
        refine h5 k hk (fun b hb r => ?_)
        have hb2 : b = e ∨ b ∈ A ++ B := by
          rcases List.mem_append.1 hb with u | u
          · exact .inr (by simp [u])
          · rcases List.mem_cons.1 u with u | u
            · exact .inl u
            · exact .inr (by simp [u])
        rcases hb2 with rfl | hb2
        · exact q (by rw [r])
        · exact hn b hb2 r
end Go.Proofs.Ytdhinpmjbcohaaa.Ki
