import Derived.Test.YtenaliaefbkbcaaGreatMc
import Derived.Test.YtenaliaefbkbcaaGreatShelfb
namespace Go.Proofs.YtenaliaefbkbcaaGreat.Li
open Go Go.RowKit
set_option linter.unusedSimpArgs false
set_option linter.unusedVariables false
theorem sclone_any (s : ByteArray) (w : World) (hs : s.size ≤ 1000000) : Calls Tryz.prog 30 #[.string s] w fun e w' => e = .returned (.string s) ∧ Below w.heap.size w w' := by
  have H := Tryz.stringslite_Clone s w (by omega)
  go_enter Tryz.func30, Tryz.ntmps30
  go_wp2_with (go_at_call 52; refine H.mono ?_; rintro e w' ⟨rfl, hb⟩; have HB := hidi hb; clear hb)
  go_ret
  exact ⟨rfl, HB.out⟩
end Go.Proofs.YtenaliaefbkbcaaGreat.Li
namespace Go.Proofs.YtenaliaefbkbcaaGreat.Li
open Go Go.RowKit
set_option linter.unusedSimpArgs false
set_option linter.unusedVariables false
theorem later_at {w w' : World} {g t : Nat} {cs : Array Value} {fz : Nat × Nat} (h : w.heap[g]? = some (.cells cs t fz)) (hb : Below w.heap.size w w') : w'.heap[g]? = some (.cells cs t fz) := (hb.block g (Array.getElem?_eq_some_iff.1 h).1).trans h
theorem info44 : (Tryz.prog.info? 44).map (fun i => (i.zero, i.size, i.bytes)) = some (some (.agg #[.string ⟨#[]⟩, .int .i64 0]), 2, 24) := by kernel_rfl
theorem info76 : (Tryz.prog.info? 76).map (fun i => (i.zero, i.size, i.bytes)) = some (some (.agg #[.string ⟨#[]⟩, .slice none 0 0]), 2, 40) := by kernel_rfl
/-- A row of two cells that is laid on, and the cell that holds it. -/
structure Ap (w w' : World) (B e b i tb : Nat) (bc : Array Value) (v : Value) (L : List PV) (x : PV) : Prop where
  ex : ∃ v', w'.heap[b]? = some (.cells (bc.setIfInBounds i v') tb (0, 0)) ∧ w'.ownsRow B e 2 v' (L.length + 1) (prow (L ++ [x])) ∧ (v.ownBlock = v'.ownBlock ∨ ∃ g, v'.ownBlock = some g ∧ w.heap.size ≤ g)
  ch : Ch (fun j => j = b ∨ v.ownBlock = some j) w w'
theorem ap_of {w w2 : World} {B e b i tb st bytes : Nat} {z : Value} {bc : Array Value} {v : Value} {L : List PV} {x : PV} (hu : Tryz.prog.underlying st = some (.slice e)) (hi : (Tryz.prog.info? e).map (fun i => (i.zero, i.size, i.bytes)) = some (some z, 2, bytes)) (hz : z.cells.size = 2) (hby : bytes ≤ 400) (h1 : ∀ u ∈ #[Value.string x.1, x.2].toList, u.oneCell' = true)
    (hb : w.heap[b]? = some (.cells bc tb (0, 0))) (hte : tb ≠ e) (h : w.ownsRow B e 2 v L.length (prow L)) (hm : L.length ≤ 1000000) (hB : B ≤ w.heap.size) (b2 : Below w.heap.size w w2) :
    ∃ g' cap' w3, (Builtin.append_ #[st, st] st #[v, .slice (some ⟨w2.heap.size, 0, none⟩) 1 1]).run Tryz.prog (w2.alloc (.cells #[.string x.1, x.2] e)) = .ok (.slice (some ⟨g', 0, none⟩) (L.length + 1) cap') w3 ∧ w3.cell? ⟨b, i, none⟩ = w.cell? ⟨b, i, none⟩ ∧ w3.frozen? ⟨b, i, none⟩ = false ∧ Ap w (w3.setCell ⟨b, i, none⟩ (.slice (some ⟨g', 0, none⟩) (L.length + 1) cap')) B e b i tb bc v L x := by
  obtain ⟨g', cap', w3, k1, k2, k3, k4⟩ := app_gen (st := st) (e := e) (cs := #[.string x.1, x.2]) hu hi hz (by omega) hby (own0 (own_below h b2)) rfl h1 hm
  have hbl : b < w.heap.size := (Array.getElem?_eq_some_iff.1 hb).1
  have hnb : ∀ g, v.ownBlock = some g → g ≠ b := fun g hg q => by
    obtain ⟨cur, hc⟩ := own_lt h hg
    rw [q, hb] at hc
    simp at hc
    exact hte hc.2
  have hb3 : w3.heap[b]? = some (.cells bc tb (0, 0)) := (k3.block b (Nat.lt_of_lt_of_le hbl b2.size) (fun q => hnb b q rfl)).trans (later_at hb b2)
  have hgb : g' ≠ b := fun q => by
    obtain ⟨cur, hc⟩ := own_lt k2 (g := g') rfl
    rw [q, hb3] at hc
    simp at hc
    exact hte hc.2
  have hgB : B ≤ g' := by
    rcases k4 with q | q
    · exact row_ge h q
    · have := b2.size; omega
  refine ⟨g', cap', w3, k1, ?_, box_frozen hb3 i, ⟨⟨_, heap_set hb3 _, ?_, ?_⟩, ?_⟩⟩
  · unfold World.cell?
    simp only [hb, hb3]
  · have := own_ch k2 (ch_set b i (.slice (some ⟨g', 0, none⟩) (L.length + 1) cap')) (fun g hg q => by simp [Value.ownBlock] at hg; omega)
    rw [prow_app]
    exact row_base (by simpa [prow, pcs] using this) (fun g hg => by simp [Value.ownBlock] at hg; omega)
  · rcases k4 with q | q
    · exact .inl q
    · exact .inr ⟨g', rfl, Nat.le_trans b2.size q⟩
  · exact ((Below.ch (S := fun j => j = b ∨ v.ownBlock = some j) b2).trans k3 (fun j _ q => .inr q)).trans (ch_set b i _) (fun j _ q => .inl q)
set_option maxRecDepth 100000 in
set_option maxHeartbeats 4000000 in
theorem note_new {w : World} {B fb o : Nat} {fc : Array Value} {v : Value} {L : List PV} (hb : w.heap[fb]? = some (.cells fc 76 (0, 0))) (hv : fc[o + 1]? = some v) (h : w.ownsRow B 44 2 v L.length (prow L)) (hm : L.length ≤ 900000) (hB : B ≤ w.heap.size) (k : ByteArray) (hk : k.size ≤ 1000000) (q : Int) (hx : ix L k = none) :
    Calls Tryz.prog 31 #[.pointer (some ⟨fb, o, none⟩), .string k, .int .i64 q] w fun e w' => e = .returned (.int .i64 (-1)) ∧ Ap w w' B 44 fb (o + 1) 76 fc v L (k, .int .i64 q) := by
  have PL := hidi (place37_any (box_cells hb (o + 1) v hv) h (by omega) k)
  rw [ixI_none hx] at PL
  have CL := hidi (fun w => sclone_any k w hk)
  have AP := hidi (fun (w2 : World) (b2 : Below w.heap.size w w2) => ap_of (x := (k, .int .i64 q)) (i := o + 1) (st := 41) Tryz.underlying41 info44 rfl (by omega) (by simp [Value.oneCell']) hb (by decide) h (by omega) hB b2)
  have c0 := box_cells hb (o + 1) v hv
  have l0 : fb < w.heap.size := (Array.getElem?_eq_some_iff.1 hb).1
  have KB := hidi (fun (w2 : World) (hb2 : Below w.heap.size w w2) => (show w2.cell? ⟨fb, o + 1, none⟩ = some v from box_cells (later_at hb hb2) (o + 1) v hv))
  obtain ⟨a, c, rfl⟩ := own_sl h
  obtain ⟨n, hn⟩ : ∃ n, n = L.length := ⟨_, rfl⟩
  rw [← hn] at AP c0 KB ⊢
  have HN := hidi hn
  have C0 := hidi c0
  clear h hm hb hv hx hn
  go_enter Tryz.func31, Tryz.ntmps31
  go_wp2_with (go_at_call 37; refine PL.out.mono ?_; rintro e w' ⟨rfl, he⟩; obtain rfl := he.symm; clear he)
  go_region_law (first
    | (go_simp; go_at_call 30; refine (CL.out _).mono ?_; rintro e w2 ⟨rfl, hb⟩; obtain ⟨g', cap', w3, hrun, hk3, hf3, hap⟩ := AP.out w2 ((Below.refl w.heap.size w).drew.trans hb); have hc3 := hk3.trans C0.out; have HR := hidi hrun; have HA := hidi hap; have c2 := KB.out w2 ((Below.refl w.heap.size w).drew.trans hb); have c4 := KB.out (w2.alloc (.cells #[.string k, .int .i64 q] 44)) (((Below.refl w.heap.size w).drew.trans hb).alloc (((Below.refl w.heap.size w).drew.trans hb).size) _); clear hb hk3 hrun hap)
    | (refine step_app rfl (.tmp 18) (.tmp 23) 41 41 rfl _ _ rfl rfl _ w3 HR.out ?_))
  all_goals go_wp2_with fail
  all_goals go_ret
  all_goals exact ⟨rfl, HA.out⟩
theorem prow_set : ∀ (L : List PV) (i : Nat) (x : PV) (u : Value), L[i]? = some x → prow (L.set i (x.1, u)) = (prow L).set (2 * i + 1) u
  | [], i, x, u, h => by simp at h
  | y :: r, 0, x, u, h => by
    simp at h
    subst h
    rfl
  | y :: r, i + 1, x, u, h => by
    have := prow_set r i x u (by simpa using h)
    show pcs y ++ prow (r.set i (x.1, u)) = (pcs y ++ prow r).set (2 * (i + 1) + 1) u
    rw [this, show 2 * (i + 1) + 1 = (2 * i + 1) + 2 by omega]
    rfl
theorem own_set {w : World} {B e g c i : Nat} {L : List PV} {x : PV} (h : w.ownsRow B e 2 (.slice (some ⟨g, 0, none⟩) L.length c) L.length (prow L)) (hx : L[i]? = some x) (u : Value) :
    (w.setCell ⟨g, i * 2 + 1, none⟩ u).ownsRow B e 2 (.slice (some ⟨g, 0, none⟩) L.length c) L.length (prow (L.set i (x.1, u))) := by
  have hi : i < L.length := (List.getElem?_eq_some_iff.1 hx).1
  refine ⟨by rw [prow_len, List.length_set], ?_⟩
  rcases h.2 with ⟨h1, h2⟩ | ⟨g', cap, cur, h1, h2, h3, h4, h5, h6, h7⟩
  · cases h1
  · simp only [Value.slice.injEq, Option.some.injEq, Addr.mk.injEq] at h1
    obtain ⟨⟨rfl, -, -⟩, -, rfl⟩ := h1
    refine .inr ⟨g, c, cur.setIfInBounds (i * 2 + 1) u, rfl, h2, heap_set h3 u, h4, h5, ?_, ?_⟩
    · simpa using h6
    · rw [prow_set L i x u hx, ← h7, Array.toList_setIfInBounds, List.take_set, Nat.mul_comm i 2]
set_option maxRecDepth 100000 in
set_option maxHeartbeats 4000000 in
theorem note_old {w : World} {B fb o i : Nat} {fc : Array Value} {v : Value} {L : List PV} {old : Int} (hb : w.heap[fb]? = some (.cells fc 76 (0, 0))) (hv : fc[o + 1]? = some v) (h : w.ownsRow B 44 2 v L.length (prow L)) (hm : L.length ≤ 900000) (k : ByteArray) (q : Int) (hx : ix L k = some i) (ho : L[i]? = some (k, .int .i64 old)) :
    Calls Tryz.prog 31 #[.pointer (some ⟨fb, o, none⟩), .string k, .int .i64 q] w fun e w' => e = .returned (.int .i64 old) ∧ w'.ownsRow B 44 2 v L.length (prow (L.set i (k, .int .i64 q))) ∧ Ch (fun j => v.ownBlock = some j) w w' := by
  have PL := hidi (place37_any (box_cells hb (o + 1) v hv) h (by omega) k)
  rw [ixI_some hx] at PL
  have c0 := box_cells hb (o + 1) v hv
  obtain ⟨hi, hk1, -⟩ := ix_some hx
  obtain ⟨g, c, rfl, hle, hcell⟩ := prow_cell h hi
  obtain ⟨-, k1⟩ := hcell i hi
  rw [List.getElem?_eq_getElem hi] at ho
  simp only [Option.some.injEq] at ho
  have k1' : w.cell? ⟨g, i * 2 + 1, none⟩ = some (.int .i64 old) := by rw [k1, ho]
  obtain ⟨cur, hcur⟩ := own_lt h (g := g) rfl
  have f1 : w.frozen? ⟨g, i * 2 + 1, none⟩ = false := box_frozen hcur _
  have HS := hidi (own_set (u := .int .i64 q) h (List.getElem?_eq_getElem hi))
  rw [ho] at HS
  obtain ⟨n, hn⟩ : ∃ n, n = L.length := ⟨_, rfl⟩
  rw [← hn] at HS c0 ⊢
  have hlt : (i : Int) < (n : Int) := by omega
  have hge : (0 : Int) ≤ (i : Int) := by omega
  have hng : ¬ (i : Int) < 0 := by omega
  clear h hm hb hv hx hn ho hcell k1 hk1 hle hcur hi
  go_enter Tryz.func31, Tryz.ntmps31
  go_wp2_with (go_at_call 37; refine PL.out.mono ?_; rintro e w' ⟨rfl, he⟩; obtain rfl := he.symm; clear he)
  go_ret
  exact ⟨rfl, HS.out, (ch_set g _ _).mono (fun j _ e => by rw [e]; rfl)⟩
end Go.Proofs.YtenaliaefbkbcaaGreat.Li
namespace Go.Proofs.YtenaliaefbkbcaaGreat.Li
open Go Go.RowKit
set_option linter.unusedSimpArgs false
set_option linter.unusedVariables false
/-! ### The lists, purely -/
abbrev En := ByteArray × Int
abbrev Fp := ByteArray × List En
def epv (x : En) : PV := (x.1, .int .i64 x.2)
def pos : List ByteArray → ByteArray → Option Nat
  | [], _ => none
  | x :: r, k => if x = k then some 0 else (pos r k).map (· + 1)
theorem ix_pos : ∀ (L : List PV) (k : ByteArray), ix L k = pos (L.map (·.1)) k
  | [], k => rfl
  | x :: r, k => by simp only [ix, List.map_cons, pos, ix_pos r k]
theorem pos_some {L : List ByteArray} {k : ByteArray} {i : Nat} (h : pos L k = some i) : L[i]? = some k := by
  induction L generalizing i with
  | nil => simp [pos] at h
  | cons x r ih =>
    unfold pos at h
    by_cases e : x = k
    · rw [if_pos e] at h
      cases h
      simp [e]
    · rw [if_neg e] at h
      obtain ⟨i', h1, rfl⟩ := Option.map_eq_some_iff.1 h
      simpa using ih h1
theorem pos_none {L : List ByteArray} {k : ByteArray} : pos L k = none ↔ k ∉ L := by
  induction L with
  | nil => simp [pos]
  | cons x r ih =>
    unfold pos
    by_cases e : x = k
    · simp [e]
    · have e' : ¬ k = x := fun q => e q.symm
      simp [e, e', ih]
def pNote (es : List En) (k : ByteArray) (q : Int) : List En × Int :=
  match pos (es.map (·.1)) k with
  | some i => (es.set i (k, q), ((es[i]?).map (·.2)).getD 0)
  | none => (es ++ [(k, q)], -1)
def pPut (L : List Fp) (f k : ByteArray) (q : Int) : List Fp × Int :=
  match pos (L.map (·.1)) f with
  | some i => (L.set i (f, (pNote (((L[i]?).map (·.2)).getD []) k q).1), (pNote (((L[i]?).map (·.2)).getD []) k q).2)
  | none => (L ++ [(f, [(k, q)])], -1)
/-! ### The lists in memory -/
structure Fl where
  f : ByteArray
  es : List En
  v : Value
def Fl.p (x : Fl) : Fp := (x.f, x.es)
def fpv (x : Fl) : PV := (x.f, x.v)
def NB (a b : Fl) : Prop := ∀ k, a.v.ownBlock = some k → b.v.ownBlock ≠ some k
structure SL (B : Nat) (w : World) (sb : Nat) (v : Value) (L : List Fl) : Prop where
  at_ : w.heap[sb]? = some (.cells #[v] 71 (0, 0))
  own : w.ownsRow B 76 2 v (L.map fpv).length (prow (L.map fpv))
  es : ∀ x ∈ L, w.ownsRow B 44 2 x.v (x.es.map epv).length (prow (x.es.map epv))
  nb : ∀ (i j : Nat) (a b : Fl), L[i]? = some a → L[j]? = some b → i ≠ j → NB a b
  ge : B ≤ sb
/-- What is no list's stays. -/
def isL (w : World) (k : Nat) : Prop := ∃ c t z, w.heap[k]? = some (.cells c t z) ∧ (t = 71 ∨ t = 76 ∨ t = 44)
structure KL (B : Nat) (w w' : World) : Prop where
  os : w'.os = w.os
  tape : w'.tape = w.tape
  output : w'.output = w.output
  size : w.heap.size ≤ w'.heap.size
  block : ∀ k, k < w.heap.size → (k < B ∨ ¬ isL w k) → w'.heap[k]? = w.heap[k]?
theorem KL.refl (B : Nat) (w : World) : KL B w w := ⟨rfl, rfl, rfl, Nat.le_refl _, fun _ _ _ => rfl⟩
theorem KL.trans {B : Nat} {a b c : World} (h : KL B a b) (k : KL B b c) : KL B a c :=
  ⟨k.os.trans h.os, k.tape.trans h.tape, k.output.trans h.output, Nat.le_trans h.size k.size, fun j hj hq => by
    have e := h.block j hj hq
    refine (k.block j (Nat.lt_of_lt_of_le hj h.size) ?_).trans e
    rcases hq with q | q
    · exact .inl q
    · exact .inr (fun ⟨c, t, z, h1, h2⟩ => q ⟨c, t, z, by rw [← e]; exact h1, h2⟩)⟩
theorem KL.below {B : Nat} {w w' : World} (h : Below w.heap.size w w') : KL B w w' := ⟨h.os, h.tape, h.output, h.size, fun k hk _ => h.block k hk⟩
theorem KL.ch {B : Nat} {S : Nat → Prop} {w w' : World} (h : Ch S w w') (hs : ∀ j, j < w.heap.size → S j → B ≤ j ∧ isL w j) : KL B w w' :=
  ⟨h.os, h.tape, h.output, h.size, fun k hk hq => h.block k hk (fun q => by
    have := hs k hk q
    rcases hq with z | z
    · omega
    · exact z this.2)⟩
theorem own_isL {w : World} {B e s n : Nat} {v : Value} {xs : List Value} (h : w.ownsRow B e s v n xs) (he : e = 76 ∨ e = 44) {j : Nat} (hj : v.ownBlock = some j) : B ≤ j ∧ isL w j := by
  obtain ⟨cur, hc⟩ := own_lt h hj
  exact ⟨row_ge h hj, cur, e, _, hc, by rcases he with q | q <;> simp [q]⟩
theorem SL.lt {B : Nat} {w : World} {sb : Nat} {v : Value} {L : List Fl} (h : SL B w sb v L) : sb < w.heap.size := (Array.getElem?_eq_some_iff.1 h.at_).1
theorem SL.below {B : Nat} {w w' : World} {sb : Nat} {v : Value} {L : List Fl} (h : SL B w sb v L) (hb : Below w.heap.size w w') : SL B w' sb v L :=
  ⟨later_at h.at_ hb, own_below h.own hb, fun x hx => own_below (h.es x hx) hb, h.nb, h.ge⟩
end Go.Proofs.YtenaliaefbkbcaaGreat.Li
namespace Go.Proofs.YtenaliaefbkbcaaGreat.Li
open Go Go.RowKit
set_option linter.unusedSimpArgs false
set_option linter.unusedVariables false
theorem own_set2 {w w' : World} {B e g c i : Nat} {L : List PV} {x : PV} {u : Value} {fc : Array Value} (h : w.ownsRow B e 2 (.slice (some ⟨g, 0, none⟩) L.length c) L.length (prow L)) (hx : L[i]? = some x) (hc : w.heap[g]? = some (.cells fc e (0, 0))) (hg : w'.heap[g]? = some (.cells (fc.setIfInBounds (i * 2 + 1) u) e (0, 0))) :
    w'.ownsRow B e 2 (.slice (some ⟨g, 0, none⟩) L.length c) L.length (prow (L.set i (x.1, u))) := by
  have := own_set h hx u
  refine ⟨this.1, ?_⟩
  rcases this.2 with q | ⟨g', cap, cur, h1, h2, h3, h4⟩
  · exact .inl q
  · have e1 : g' = g := by
      simp only [Value.slice.injEq, Option.some.injEq, Addr.mk.injEq] at h1
      exact h1.1.1.symm
    subst e1
    rw [heap_set hc u] at h3
    exact .inr ⟨g', cap, cur, h1, h2, hg.trans h3, h4⟩
theorem NB.symm {a b : Fl} (h : NB a b) : NB b a := fun k e q => h k q e
section
variable {B : Nat} {w w' : World} {sb : Nat} {v : Value} {L : List Fl}
theorem SL.row (h : SL B w sb v L) {i : Nat} {x : Fl} (hi : L[i]? = some x) : ∃ F c fc, v = .slice (some ⟨F, 0, none⟩) L.length c ∧ w.heap[F]? = some (.cells fc 76 (0, 0)) ∧ fc[i * 2 + 1]? = some x.v ∧ L.length ≤ c ∧ w.cell? ⟨F, i * 2, none⟩ = some (.string x.f) := by
  have hl : i < L.length := (List.getElem?_eq_some_iff.1 hi).1
  have hl' : i < (L.map fpv).length := by simpa using hl
  obtain ⟨F, c, hv, hle, hc⟩ := prow_cell h.own hl'
  have ho := h.own
  rw [hv] at ho
  obtain ⟨fc, hF⟩ := own_lt ho (g := F) rfl
  have e : (L.map fpv)[i] = fpv x := by
    rw [List.getElem?_eq_getElem hl] at hi
    simp only [Option.some.injEq] at hi
    simp [hi]
  obtain ⟨h0, h1⟩ := hc i hl'
  rw [e] at h0 h1
  refine ⟨F, c, fc, by simpa using hv, hF, ?_, by simpa using hle, h0⟩
  simp [World.cell?, hF] at h1
  exact h1
/-- The entries of one filter are others. -/
theorem SL.put (h : SL B w sb v L) {i : Nat} {x x' : Fl} (hi : L[i]? = some x) (hf : x'.f = x.f) {F c : Nat} (hv : v = .slice (some ⟨F, 0, none⟩) L.length c) (hr : w'.ownsRow B 76 2 v (L.map fpv).length (prow ((L.map fpv).set i (x.f, x'.v)))) (he : w'.ownsRow B 44 2 x'.v (x'.es.map epv).length (prow (x'.es.map epv)))
    (hc : Ch (fun j => j = F ∨ x.v.ownBlock = some j) w w') (hn : x.v.ownBlock = x'.v.ownBlock ∨ ∃ g, x'.v.ownBlock = some g ∧ w.heap.size ≤ g) : SL B w' sb v (L.set i x') ∧ KL B w w' := by
  have hl : i < L.length := (List.getElem?_eq_some_iff.1 hi).1
  have hvo : v.ownBlock = some F := by rw [hv]; rfl
  obtain ⟨fc, hF⟩ := own_lt h.own hvo
  have hx : x ∈ L := List.mem_of_getElem? hi
  have hsb : sb ≠ F ∧ x.v.ownBlock ≠ some sb := by
    refine ⟨fun q => ?_, fun q => ?_⟩
    · have := h.at_; rw [q, hF] at this; simp at this
    · obtain ⟨cu, hc⟩ := own_lt (h.es x hx) q
      have := h.at_; rw [hc] at this; simp at this
  have hnew : ∀ y ∈ L, ∀ k, y.v.ownBlock = some k → k < w.heap.size := fun y hy k hk => by
    obtain ⟨cu, hc⟩ := own_lt (h.es y hy) hk
    exact (Array.getElem?_eq_some_iff.1 hc).1
  refine ⟨⟨?_, ?_, fun y hy => ?_, fun a b ya yb ha hb hab => ?_, h.ge⟩, ?_⟩
  · exact (hc.block sb h.lt (fun q => q.elim hsb.1 hsb.2)).trans h.at_
  · have e : (L.set i x').map fpv = (L.map fpv).set i (x.f, x'.v) := by rw [List.map_set]; unfold fpv; rw [hf]
    rw [e, List.length_set]
    exact hr
  · obtain ⟨j, hj, rfl⟩ := List.mem_iff_getElem.1 hy
    rw [List.getElem_set]
    split
    · exact he
    · rename_i hne
      have hj' : j < L.length := by simpa using hj
      refine own_ch (h.es _ (List.getElem_mem hj')) hc (fun g hg q => ?_)
      rcases q with q | q
      · obtain ⟨cu, hc⟩ := own_lt (h.es _ (List.getElem_mem hj')) hg
        rw [q, hF] at hc
        simp at hc
      · exact h.nb i j _ _ hi (List.getElem?_eq_getElem hj') hne g q hg
  · have key : ∀ (j : Nat) (y : Fl), L[j]? = some y → j ≠ i → NB x' y := fun j y hj hji k hk q => by
      rcases hn with e | ⟨g, e1, e2⟩
      · exact h.nb i j x y hi hj (fun z => hji z.symm) k (e ▸ hk) q
      · rw [e1] at hk
        cases hk
        have := hnew y (List.mem_of_getElem? hj) _ q
        omega
    rw [List.getElem?_set] at ha hb
    by_cases h1 : i = a
    · have h2 : i ≠ b := fun z => hab (h1.symm.trans z)
      rw [if_pos h1, if_pos hl] at ha
      rw [if_neg h2] at hb
      cases ha
      exact key b yb hb (fun z => h2 z.symm)
    · rw [if_neg h1] at ha
      by_cases h2 : i = b
      · rw [if_pos h2, if_pos hl] at hb
        cases hb
        exact (key a ya ha (fun z => h1 z.symm)).symm
      · rw [if_neg h2] at hb
        exact h.nb a b ya yb ha hb hab
  · refine KL.ch hc (fun j _ q => ?_)
    rcases q with rfl | q
    · exact own_isL h.own (.inl rfl) hvo
    · exact own_isL (h.es x hx) (.inr rfl) q
theorem SL.new (h : SL B w sb v L) {i : Nat} {x : Fl} (hi : L[i]? = some x) {F c : Nat} {fc : Array Value} (hv : v = .slice (some ⟨F, 0, none⟩) L.length c) (hF : w.heap[F]? = some (.cells fc 76 (0, 0))) {e : En} (ha : Ap w w' B 44 F (i * 2 + 1) 76 fc x.v (x.es.map epv) (epv e)) :
    ∃ u, SL B w' sb v (L.set i ⟨x.f, x.es ++ [e], u⟩) ∧ KL B w w' := by
  obtain ⟨⟨u, h1, h2, h3⟩, h4⟩ := ha
  have hl : i < L.length := (List.getElem?_eq_some_iff.1 hi).1
  refine ⟨u, h.put hi rfl hv ?_ ?_ h4 h3⟩
  · have hm : (L.map fpv)[i]? = some (fpv x) := by rw [List.getElem?_map, hi]; rfl
    have ho := h.own
    rw [hv] at ho ⊢
    have e1 : L.length = (L.map fpv).length := by simp
    rw [e1] at ho ⊢
    exact own_set2 ho hm hF h1
  · simpa using h2
theorem SL.old (h : SL B w sb v L) {i j : Nat} {x : Fl} (hi : L[i]? = some x) {e : En} (hr : w'.ownsRow B 44 2 x.v (x.es.map epv).length (prow ((x.es.map epv).set j (epv e)))) (hc : Ch (fun k => x.v.ownBlock = some k) w w') :
    SL B w' sb v (L.set i ⟨x.f, x.es.set j e, x.v⟩) ∧ KL B w w' := by
  obtain ⟨F, c, fc, hv, hF, -⟩ := h.row hi
  refine h.put hi rfl hv ?_ ?_ (hc.mono (fun _ _ q => .inr q)) (.inl rfl)
  · have e : (L.map fpv).set i (x.f, x.v) = L.map fpv := by
      apply List.ext_getElem?
      intro k
      rw [List.getElem?_set]
      split
      · rename_i q
        subst q
        have hl : i < L.length := (List.getElem?_eq_some_iff.1 hi).1
        rw [if_pos (by simpa using hl), List.getElem?_map, hi]
        rfl
      · rfl
    rw [e]
    refine own_ch h.own hc (fun g hg q => ?_)
    obtain ⟨cu, hc⟩ := own_lt (h.es x (List.mem_of_getElem? hi)) q
    obtain ⟨cu', hc'⟩ := own_lt h.own hg
    rw [hc] at hc'
    simp at hc'
  · have e2 : (x.es.set j e).map epv = (x.es.map epv).set j (epv e) := by rw [List.map_set]
    simp only [e2, List.length_set]
    exact hr
theorem SL.app (h : SL B w sb v L) {f : ByteArray} (ha : Ap w w' B 76 sb 0 71 #[v] v (L.map fpv) (f, .slice none 0 0)) :
    ∃ u, SL B w' sb u (L ++ [⟨f, [], .slice none 0 0⟩]) ∧ KL B w w' := by
  obtain ⟨⟨u, h1, h2, h3⟩, h4⟩ := ha
  refine ⟨u, ⟨h1, ?_, fun y hy => ?_, fun a b ya yb ha hb hab => ?_, h.ge⟩, ?_⟩
  · have e : (L ++ [(⟨f, [], .slice none 0 0⟩ : Fl)]).map fpv = L.map fpv ++ [(f, .slice none 0 0)] := by simp [fpv]
    rw [e]
    simpa using h2
  · rcases List.mem_append.1 hy with q | q
    · refine own_ch (h.es y q) h4 (fun g hg z => ?_)
      obtain ⟨cu, hc⟩ := own_lt (h.es y q) hg
      rcases z with z | z
      · rw [z, h.at_] at hc
        simp at hc
      · obtain ⟨cu', hc'⟩ := own_lt h.own z
        rw [hc] at hc'
        simp at hc'
    · simp at q
      subst q
      exact ⟨rfl, .inl ⟨rfl, rfl⟩⟩
  · have nl : ∀ (y : Fl), NB y ⟨f, [], .slice none 0 0⟩ := fun y k _ q => by simp [Value.ownBlock] at q
    rw [List.getElem?_append] at ha hb
    split at ha
    · split at hb
      · exact h.nb a b ya yb ha hb hab
      · have : yb = ⟨f, [], .slice none 0 0⟩ := by
          rw [List.getElem?_singleton] at hb
          split at hb
          · simpa using hb.symm
          · cases hb
        subst this
        exact nl ya
    · have : ya = ⟨f, [], .slice none 0 0⟩ := by
        rw [List.getElem?_singleton] at ha
        split at ha
        · simpa using ha.symm
        · cases ha
      subst this
      exact (nl yb).symm
  · refine KL.ch h4 (fun j _ q => ?_)
    rcases q with rfl | q
    · exact ⟨h.ge, _, _, _, h.at_, .inl rfl⟩
    · exact own_isL h.own (.inl rfl) q
end
end Go.Proofs.YtenaliaefbkbcaaGreat.Li
namespace Go.Proofs.YtenaliaefbkbcaaGreat.Li
open Go Go.RowKit
set_option linter.unusedSimpArgs false
set_option linter.unusedVariables false
theorem cell_self {w : World} {a : Addr} {x u : Value} (h : w.cell? a = some x) : (w.setCell a u).cell? a = some u := World.cell?_setCell_same w _ _ h
section
variable {B : Nat} {w w' : World} {sb : Nat} {v : Value} {L : List Fl}
theorem map_set_p {i : Nat} {x x' : Fl} (hi : L[i]? = some x) (hf : x'.f = x.f) : (L.set i x').map Fl.p = (L.map Fl.p).set i (x.f, x'.es) := by
  rw [List.map_set]
  unfold Fl.p
  rw [hf]
theorem note_sl (h : SL B w sb v L) {i : Nat} {x : Fl} (hi : L[i]? = some x) {F c : Nat} (hv : v = .slice (some ⟨F, 0, none⟩) L.length c) (hl : x.es.length ≤ 900000) (hB : B ≤ w.heap.size) (k : ByteArray) (hk : k.size ≤ 1000000) (q : Int) :
    Calls Tryz.prog 31 #[.pointer (some ⟨F, i * 2, none⟩), .string k, .int .i64 q] w fun e w' => e = .returned (.int .i64 (pNote x.es k q).2) ∧ ∃ L', SL B w' sb v L' ∧ L'.map Fl.p = (L.map Fl.p).set i (x.f, (pNote x.es k q).1) ∧ KL B w w' := by
  obtain ⟨F', c', fc, hv', hF, hc, hle, -⟩ := h.row hi
  have eF : F' = F := by
    rw [hv'] at hv
    simp only [Value.slice.injEq, Option.some.injEq, Addr.mk.injEq] at hv
    exact hv.1.1
  subst eF
  have hes := h.es x (List.mem_of_getElem? hi)
  have hlm : (x.es.map epv).length ≤ 900000 := by simpa using hl
  have hp : ix (x.es.map epv) k = pos (x.es.map (·.1)) k := by rw [ix_pos, List.map_map]; rfl
  cases e : pos (x.es.map (·.1)) k with
  | none =>
    have en : pNote x.es k q = (x.es ++ [(k, q)], -1) := by unfold pNote; rw [e]
    rw [en]
    refine (note_new hF hc hes hlm hB k hk q (hp.trans e)).mono ?_
    rintro e w' ⟨rfl, ha⟩
    obtain ⟨u, h1, h2⟩ := h.new hi hv hF (e := (k, q)) ha
    exact ⟨rfl, _, h1, map_set_p hi rfl, h2⟩
  | some j =>
    have en : pNote x.es k q = (x.es.set j (k, q), ((x.es[j]?).map (·.2)).getD 0) := by unfold pNote; rw [e]
    rw [en]
    have hj := pos_some e
    rw [List.getElem?_map] at hj
    obtain ⟨⟨k', o⟩, ho, hk'⟩ := Option.map_eq_some_iff.1 hj
    simp only at hk'
    subst hk'
    rw [ho]
    refine (note_old hF hc hes hlm k' q (hp.trans e) (by rw [List.getElem?_map, ho]; rfl)).mono ?_
    rintro e w' ⟨rfl, hr, hch⟩
    obtain ⟨h1, h2⟩ := h.old hi (e := (k', q)) hr hch
    exact ⟨rfl, _, h1, map_set_p hi rfl, h2⟩
theorem isq_any (q : Int) (w : World) : Calls Tryz.prog 28 #[.int .i64 q] w fun e w' => e = .returned (.bool (decide (0 ≤ q) && decide (q ≤ 2))) ∧ w' = w := by
  by_cases h0 : 0 ≤ q
  · by_cases h1 : q ≤ 2
    · rw [decide_eq_true h0, decide_eq_true h1]
      go_enter Tryz.func28, Tryz.ntmps28
      go_wp2
      go_ret
      exact ⟨rfl, rfl⟩
    · rw [decide_eq_true h0, decide_eq_false h1]
      go_enter Tryz.func28, Tryz.ntmps28
      go_wp2
      go_ret
      exact ⟨rfl, rfl⟩
  · rw [decide_eq_false h0, Bool.false_and]
    go_enter Tryz.func28, Tryz.ntmps28
    go_wp2
    go_ret
    exact ⟨rfl, rfl⟩
set_option maxRecDepth 100000 in
set_option maxHeartbeats 4000000 in
theorem put_70 (f k : ByteArray) (q : Int) (p : Value) (hf : rfc f ≠ 0) : Calls Tryz.prog 8 #[p, .string f, .string k, .int .i64 q] w fun e w' => e = .returned (.tuple #[.int .i64 0, .int .i64 70]) ∧ Below w.heap.size w w' := by
  have H := hidi (fcheck_any f w)
  obtain ⟨r, hr⟩ : ∃ r : Int, r = rfc f := ⟨_, rfl⟩
  have hne : (r != 0) = true := by rw [hr]; simpa using hf
  rw [← hr] at H
  clear hr hf
  go_enter Tryz.func8, Tryz.ntmps8
  go_wp2_with (go_at_call 27; refine H.out.mono ?_; rintro e w1 ⟨rfl, hb⟩; have HB := hidi hb; clear hb)
  go_ret2
  exact ⟨rfl, HB.out⟩
set_option maxRecDepth 100000 in
set_option maxHeartbeats 4000000 in
theorem put_71 (f k : ByteArray) (q : Int) (p : Value) (hf : rfc f = 0) (hq : ¬ (0 ≤ q ∧ q ≤ 2)) : Calls Tryz.prog 8 #[p, .string f, .string k, .int .i64 q] w fun e w' => e = .returned (.tuple #[.int .i64 0, .int .i64 71]) ∧ Below w.heap.size w w' := by
  have H := hidi (fcheck_any f w)
  have Q := hidi (fun w => isq_any q w)
  have hz : (decide (0 ≤ q) && decide (q ≤ 2)) = false := by
    by_cases h0 : 0 ≤ q
    · have : ¬ q ≤ 2 := fun z => hq ⟨h0, z⟩
      simp [this]
    · simp [h0]
  rw [hz] at Q
  rw [hf] at H
  clear hz hq hf
  go_enter Tryz.func8, Tryz.ntmps8
  go_wp2_with (first | (go_at_call 27; refine H.out.mono ?_; rintro e w1 ⟨rfl, hb⟩; have HB := hidi hb; clear hb) | (go_at_call 28; refine (Q.out _).mono ?_; rintro e w' ⟨rfl, he⟩; obtain rfl := he.symm; clear he))
  go_ret2
  exact ⟨rfl, HB.out⟩
set_option maxRecDepth 100000 in
set_option maxHeartbeats 4000000 in
theorem put_has (h : SL B w sb v L) (f k : ByteArray) (q : Int) (hf : rfc f = 0) (hq : 0 ≤ q ∧ q ≤ 2) (hL : L.length ≤ 900000) (he : ∀ x ∈ L, x.es.length ≤ 900000) (hk : k.size ≤ 1000000) (hB : B ≤ w.heap.size) {i : Nat} (hi : pos ((L.map Fl.p).map (·.1)) f = some i) :
    Calls Tryz.prog 8 #[.pointer (some ⟨sb, 0, none⟩), .string f, .string k, .int .i64 q] w fun e w' => e = .returned (.tuple #[.int .i64 (pPut (L.map Fl.p) f k q).2, .int .i64 0]) ∧ ∃ v' L', SL B w' sb v' L' ∧ L'.map Fl.p = (pPut (L.map Fl.p) f k q).1 ∧ KL B w w' := by
  have hx : ∃ x, L[i]? = some x ∧ x.f = f := by
    have := pos_some hi
    rw [List.map_map, List.getElem?_map] at this
    obtain ⟨x, h1, h2⟩ := Option.map_eq_some_iff.1 this
    exact ⟨x, h1, h2⟩
  obtain ⟨x, hxi, hxf⟩ := hx
  have hil : i < L.length := (List.getElem?_eq_some_iff.1 hxi).1
  obtain ⟨F, c, fc, hv, hF, hc, hle, -⟩ := h.row hxi
  have ep : pPut (L.map Fl.p) f k q = ((L.map Fl.p).set i (f, (pNote x.es k q).1), (pNote x.es k q).2) := by
    unfold pPut
    rw [hi]
    simp only [List.getElem?_map, hxi, Option.map_some, Option.getD_some]
    rfl
  rw [ep]
  have H := hidi (fcheck_any f w)
  rw [hf] at H
  have Q := hidi (fun w => isq_any q w)
  rw [decide_eq_true hq.1, decide_eq_true hq.2] at Q
  have PL := hidi (fun (w1 : World) (hb : Below w.heap.size w w1) => place29_any (box_cells (h.below hb).at_ 0 v rfl) (h.below hb).own (by simp; omega) f)
  have hix : ix (L.map fpv) f = some i := by rw [ix_pos, List.map_map]; rw [List.map_map] at hi; exact hi
  rw [ixI_some hix] at PL
  have NT := hidi (fun (w1 : World) (hb : Below w.heap.size w w1) => note_sl (h.below hb) hxi hv (he x (List.mem_of_getElem? hxi)) (Nat.le_trans hB hb.size) k hk q)
  have KC := hidi (fun (w1 : World) (hb : Below w.heap.size w w1) => box_cells (h.below hb).at_ 0 v rfl)
  rw [hv] at KC
  obtain ⟨n, hn⟩ : ∃ n, n = L.length := ⟨_, rfl⟩
  obtain ⟨r, hr⟩ : ∃ r, r = (pNote x.es k q).2 := ⟨_, rfl⟩
  obtain ⟨es', hes⟩ : ∃ es', es' = (pNote x.es k q).1 := ⟨_, rfl⟩
  rw [← hn] at KC
  rw [← hr, ← hes] at NT
  simp only
  rw [← hr, ← hes]
  rw [hxf] at NT
  have hlt : (i : Int) < (n : Int) := by omega
  have hge : (0 : Int) ≤ (i : Int) := by omega
  have hng : ¬ (i : Int) < 0 := by omega
  clear h hf hq hL he hk hB hi hxi hxf hil hF hc hle ep hix hn hr hes hv
  go_enter Tryz.func8, Tryz.ntmps8
  go_wp2_with (first | (go_at_call 27; refine H.out.mono ?_; rintro e w1 ⟨rfl, hb⟩; have HB := hidi hb; have c1 := KC.out w1 hb; clear hb) | (go_at_call 28; refine (Q.out _).mono ?_; rintro e w' ⟨rfl, he⟩; obtain rfl := he.symm; clear he) | (go_at_call 29; refine (PL.out _ HB.out).mono ?_; rintro e w' ⟨rfl, he⟩; obtain rfl := he.symm; clear he) | (go_at_call 31; refine (NT.out _ HB.out).mono ?_; rintro e w' ⟨rfl, L', h1, h2, h3⟩; have H9 := hidi (And.intro h1 (And.intro h2 h3)); clear h1 h2 h3))
  go_ret2
  exact ⟨rfl, _, L', H9.out.1, H9.out.2.1, (KL.below HB.out).trans H9.out.2.2⟩
set_option maxRecDepth 100000 in
set_option maxHeartbeats 4000000 in
theorem put_new (h : SL B w sb v L) (f k : ByteArray) (q : Int) (hf : rfc f = 0) (hfs : f.size ≤ 1000000) (hq : 0 ≤ q ∧ q ≤ 2) (hL : L.length ≤ 900000) (hk : k.size ≤ 1000000) (hB : B ≤ w.heap.size) (hi : pos ((L.map Fl.p).map (·.1)) f = none) :
    Calls Tryz.prog 8 #[.pointer (some ⟨sb, 0, none⟩), .string f, .string k, .int .i64 q] w fun e w' => e = .returned (.tuple #[.int .i64 (pPut (L.map Fl.p) f k q).2, .int .i64 0]) ∧ ∃ v' L', SL B w' sb v' L' ∧ L'.map Fl.p = (pPut (L.map Fl.p) f k q).1 ∧ KL B w w' := by
  have ep : pPut (L.map Fl.p) f k q = (L.map Fl.p ++ [(f, [(k, q)])], -1) := by
    unfold pPut
    rw [hi]
  rw [ep]
  have H := hidi (fcheck_any f w)
  rw [hf] at H
  have Q := hidi (fun w => isq_any q w)
  rw [decide_eq_true hq.1, decide_eq_true hq.2] at Q
  have PL := hidi (fun (w1 : World) (hb : Below w.heap.size w w1) => place29_any (box_cells (h.below hb).at_ 0 v rfl) (h.below hb).own (by simp; omega) f)
  have hix : ix (L.map fpv) f = none := by rw [ix_pos, List.map_map]; rw [List.map_map] at hi; exact hi
  rw [ixI_none hix] at PL
  have KC := hidi (fun (w1 : World) (hb : Below w.heap.size w w1) => box_cells (h.below hb).at_ 0 v rfl)
  have CL := hidi (fun w => sclone_any f w hfs)
  have AP := hidi (fun (w2 : World) (b2 : Below w.heap.size w w2) => ap_of (x := (f, .slice none 0 0)) (i := 0) (st := 69) Tryz.underlying69 info76 rfl (by omega) (by simp [Value.oneCell']) h.at_ (by decide) h.own (by simp; omega) hB b2)
  have NT := hidi (fun (w3 : World) (ha : Ap w w3 B 76 sb 0 71 #[v] v (L.map fpv) (f, .slice none 0 0)) => (show ∃ F c, w3.cell? ⟨sb, 0, none⟩ = some (.slice (some ⟨F, 0, none⟩) (L.length + 1) c) ∧ Calls Tryz.prog 31 #[.pointer (some ⟨F, L.length * 2, none⟩), .string k, .int .i64 q] w3 fun e w' => e = .returned (.int .i64 (-1)) ∧ ∃ v' L', SL B w' sb v' L' ∧ L'.map Fl.p = L.map Fl.p ++ [(f, [(k, q)])] ∧ KL B w w' from by
    obtain ⟨u, h1, h2⟩ := h.app ha
    have hgi : (L ++ [(⟨f, [], .slice none 0 0⟩ : Fl)])[L.length]? = some ⟨f, [], .slice none 0 0⟩ := by simp
    obtain ⟨F, c, fc, hv, hF, hc, hle, -⟩ := h1.row hgi
    refine ⟨F, c, ?_, (note_sl h1 hgi hv (by simp) (Nat.le_trans hB h2.size) k hk q).mono ?_⟩
    · have := box_cells h1.at_ 0 u rfl
      rw [this, hv]
      simp
    · rintro e w' ⟨rfl, L', h3, h4, h5⟩
      refine ⟨rfl, u, L', h3, ?_, h2.trans h5⟩
      rw [h4]
      simp only [pNote, pos, List.map_nil, List.nil_append, List.map_append, List.map_cons]
      rw [List.set_append_right _ _ (by simp)]
      simp [Fl.p]))
  obtain ⟨a, c, hv⟩ := own_sl h.own
  have hfz := box_frozen h.at_ 0
  rw [hv] at KC AP
  have hml : (L.map fpv).length = L.length := by simp
  rw [hml] at KC AP
  rw [hv] at NT
  obtain ⟨n, hn⟩ : ∃ n, n = L.length := ⟨_, rfl⟩
  rw [hml] at NT
  rw [← hn] at KC AP NT
  have hw1 : IntKind.i64.wrap ((n : Int) + 1) = (n : Int) + 1 := by rw [IntKind.wrap_i64]; omega
  have hlt : (n : Int) < ((n + 1 : Nat) : Int) := by omega
  have hge : (0 : Int) ≤ (n : Int) := by omega
  clear h hf hfs hq hL hk hB hi ep hix hn hv hml
  go_enter Tryz.func8, Tryz.ntmps8
  go_wp2_with (first | (go_at_call 27; refine H.out.mono ?_; rintro e w1 ⟨rfl, hb⟩; have HB := hidi hb; have c1 := KC.out w1 hb; clear hb) | (go_at_call 28; refine (Q.out _).mono ?_; rintro e w' ⟨rfl, he⟩; obtain rfl := he.symm; clear he) | (go_at_call 29; refine (PL.out _ HB.out).mono ?_; rintro e w' ⟨rfl, he⟩; obtain rfl := he.symm; clear he))
  go_region_law (first
    | (go_simp; go_at_call 30; refine (CL.out _).mono ?_; rintro e w2 ⟨rfl, hb⟩; have hb2 := HB.out.trans (((Below.refl w1.heap.size w1).drew.trans hb).mono HB.out.size); obtain ⟨g', cap', w3, hrun, hk3, hf3, hap⟩ := AP.out w2 hb2; have hc3 := hk3.trans (KC.out w (Below.refl _ _)); have HR := hidi hrun; obtain ⟨F9, c9, hc9, hn9⟩ := NT.out _ hap; rw [cell_self hc3] at hc9; simp only [Option.some.injEq, Value.slice.injEq, Addr.mk.injEq, and_true, true_and] at hc9; obtain ⟨e9, -⟩ := hc9; rw [← e9] at hn9; clear e9; have HN9 := hidi hn9; have c2 := KC.out w2 hb2; have c4 := KC.out (w2.alloc (.cells #[.string f, .slice none 0 0] 76)) (hb2.alloc hb2.size _); clear hb hb2 hk3 hrun hap hn9)
    | (refine step_app rfl (.tmp 31) (.tmp 35) 69 69 rfl _ _ rfl rfl _ w3 HR.out ?_))
  all_goals go_wp2_with (go_at_call 31; refine HN9.out.mono ?_; rintro e w' ⟨rfl, v', L', h1, h2, h3⟩; have H9 := hidi (And.intro h1 (And.intro h2 h3)); clear h1 h2 h3)
  all_goals go_ret2
  all_goals exact ⟨rfl, v', L', H9.out.1, H9.out.2.1, H9.out.2.2⟩
theorem put_any (h : SL B w sb v L) (f k : ByteArray) (q : Int) (hf : rfc f = 0) (hfs : f.size ≤ 1000000) (hq : 0 ≤ q ∧ q ≤ 2) (hL : L.length ≤ 900000) (he : ∀ x ∈ L, x.es.length ≤ 900000) (hk : k.size ≤ 1000000) (hB : B ≤ w.heap.size) :
    Calls Tryz.prog 8 #[.pointer (some ⟨sb, 0, none⟩), .string f, .string k, .int .i64 q] w fun e w' => e = .returned (.tuple #[.int .i64 (pPut (L.map Fl.p) f k q).2, .int .i64 0]) ∧ ∃ v' L', SL B w' sb v' L' ∧ L'.map Fl.p = (pPut (L.map Fl.p) f k q).1 ∧ KL B w w' := by
  cases e : pos ((L.map Fl.p).map (·.1)) f with
  | none => exact put_new h f k q hf hfs hq hL hk hB e
  | some i => exact put_has h f k q hf hq hL he hk hB e
end
end Go.Proofs.YtenaliaefbkbcaaGreat.Li
