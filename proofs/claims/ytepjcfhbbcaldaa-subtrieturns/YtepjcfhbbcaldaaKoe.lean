import Derived.Test.YtepjcfhbbcaldaaKoc
import Derived.Test.YtepjcfhbbcaldaaKnh
namespace Go.Proofs.Ytepjcfhbbcaldaa.Li
open Go Go.RowKit
set_option linter.unusedSimpArgs false
set_option linter.unusedVariables false
/-! ### the first word for each filter and key -/
def ddS (acc : List Sb) (s : Sb) : List Sb := if acc.any (fun a => decide (a.f = s.f) && decide (a.x = s.x)) = true then acc else acc ++ [s]
def dd (l : List Sb) : List Sb := l.foldl ddS []
theorem dd_next {l : List Sb} {k : Nat} {s : Sb} (h : l[k]? = some s) : dd (l.take (k + 1)) = ddS (dd (l.take k)) s := by
  unfold dd
  rw [List.take_add_one, h, List.foldl_append]
  rfl
/-- No two of one filter and key. -/
def Uq (l : List Sb) : Prop := l.Pairwise fun a b => ¬ (a.f = b.f ∧ a.x = b.x)
theorem any_iff {acc : List Sb} {s : Sb} : acc.any (fun a => decide (a.f = s.f) && decide (a.x = s.x)) = true ↔ ∃ a ∈ acc, a.f = s.f ∧ a.x = s.x := by
  rw [List.any_eq_true]
  simp
theorem ddS_uq {acc : List Sb} {s : Sb} (h : Uq acc) : Uq (ddS acc s) := by
  unfold ddS
  split
  · exact h
  · rename_i c
    rw [any_iff] at c
    refine List.pairwise_append.2 ⟨h, List.pairwise_singleton _ _, fun a ha b hb => ?_⟩
    obtain rfl := List.mem_singleton.1 hb
    exact fun q => c ⟨a, ha, q⟩
theorem fold_uq : ∀ (l acc : List Sb), Uq acc → Uq (l.foldl ddS acc)
  | [], _, h => h
  | s :: l, acc, h => fold_uq l (ddS acc s) (ddS_uq h)
theorem dd_uq (l : List Sb) : Uq (dd l) := fold_uq l [] List.Pairwise.nil
theorem ddS_sub {acc : List Sb} {s a : Sb} (h : a ∈ ddS acc s) : a ∈ acc ∨ a = s := by
  unfold ddS at h
  split at h
  · exact .inl h
  · rcases List.mem_append.1 h with q | q
    · exact .inl q
    · exact .inr (List.mem_singleton.1 q)
theorem ddS_len (acc : List Sb) (s : Sb) : (ddS acc s).length ≤ acc.length + 1 := by
  unfold ddS
  split
  · omega
  · simp
theorem fold_sub : ∀ (l acc : List Sb) (a : Sb), a ∈ l.foldl ddS acc → a ∈ acc ∨ a ∈ l
  | [], _, _, h => .inl h
  | s :: l, acc, a, h => by
    rcases fold_sub l (ddS acc s) a h with q | q
    · rcases ddS_sub q with q | q
      · exact .inl q
      · exact .inr (by rw [q]; exact List.mem_cons_self)
    · exact .inr (List.mem_cons_of_mem _ q)
theorem fold_len : ∀ (l acc : List Sb), (l.foldl ddS acc).length ≤ acc.length + l.length
  | [], _ => by simp
  | s :: l, acc => by
    have h1 := fold_len l (ddS acc s)
    have h2 := ddS_len acc s
    simp only [List.foldl_cons, List.length_cons]
    omega
theorem dd_sub {l : List Sb} {a : Sb} (h : a ∈ dd l) : a ∈ l := (fold_sub l [] a h).resolve_left (fun c => by cases c)
theorem dd_len (l : List Sb) : (dd l).length ≤ l.length := by have := fold_len l []; simpa [dd] using this
theorem uq_last {l : List Sb} (h : Uq l) {i : Nat} {s : Sb} (hs : l[i]? = some s) : Last l i s := fun k s' hk hs' c => by
  obtain ⟨h1, e1⟩ := List.getElem?_eq_some_iff.1 hs
  obtain ⟨h2, e2⟩ := List.getElem?_eq_some_iff.1 hs'
  have := List.pairwise_iff_getElem.1 h i k h1 h2 hk
  rw [e1, e2] at this
  exact this ⟨c.2.1.symm, c.1.symm⟩
theorem hold_uq {l : List Sb} (h : Uq l) (F : List ByteArray) (y : ByteArray) (z : Int) : hold l F y z ↔ ∃ s ∈ l, rfc s.f = 0 ∧ levels s.f = F ∧ s.x = y ∧ 0 ≤ s.q ∧ s.q ≤ 2 ∧ s.q = z := by
  rw [hold_iff]
  constructor
  · rintro ⟨i, s, h1, h2, h3, h4, h5, h6, h7, _⟩
    exact ⟨s, List.mem_of_getElem? h1, h2, h3, h4, h5, h6, h7⟩
  · rintro ⟨s, hs, h2, h3, h4, h5, h6, h7⟩
    obtain ⟨i, hi⟩ := List.getElem?_of_mem hs
    exact ⟨i, s, hi, h2, h3, h4, h5, h6, h7, uq_last h hi⟩
theorem hold_rev {l : List Sb} (h : Uq l) (F : List ByteArray) (y : ByteArray) (z : Int) : hold l F y z ↔ hold l.reverse F y z := by
  have hr : Uq l.reverse := List.pairwise_reverse.2 (h.imp (fun {a b} q c => q ⟨c.1.symm, c.2.symm⟩))
  rw [hold_uq h, hold_uq hr]
  simp only [List.mem_reverse]
/-! ### rows of them -/
def sbs (s : Sb) : List Value := [.string s.f, .string s.x, .int .i64 s.q]
def sbc (l : List Sb) : List Value := l.flatMap sbs
theorem sbc_app (a b : List Sb) : sbc (a ++ b) = sbc a ++ sbc b := by simp [sbc]
theorem sbc_get : ∀ (l : List Sb) (i : Nat) (s : Sb), l[i]? = some s → (sbc l)[i * 3]? = some (.string s.f) ∧ (sbc l)[i * 3 + 1]? = some (.string s.x) ∧ (sbc l)[i * 3 + 2]? = some (.int .i64 s.q)
  | [], i, s, h => by simp at h
  | a :: l, 0, s, h => by
    simp at h
    subst h
    exact ⟨rfl, rfl, rfl⟩
  | a :: l, i + 1, s, h => by
    have := sbc_get l i s (by simpa using h)
    have e : sbc (a :: l) = sbs a ++ sbc l := rfl
    rw [e]
    have q : ∀ j, (sbs a ++ sbc l)[(i + 1) * 3 + j]? = (sbc l)[i * 3 + j]? := fun j => by
      rw [List.getElem?_append_right (by simp [sbs]; omega)]
      congr 1
      simp [sbs]
      omega
    exact ⟨(q 0).trans this.1, (q 1).trans this.2.1, (q 2).trans this.2.2⟩
/-- A row of them that grows. -/
structure Ob (wB wx : World) (v : Value) (l : List Sb) : Prop where
  row : wx.ownsRow wB.heap.size 34 3 v l.length (sbc l)
  be : Below wB.heap.size wB wx
theorem Ob.at_ {wB wx : World} {v : Value} {l : List Sb} (h : Ob wB wx v l) : SbAt wx v l := by
  rcases h.row.2 with ⟨rfl, e⟩ | ⟨g, cap, cur, rfl, _, hg, hc, _⟩
  · exact ⟨⟨_, _, _, rfl, by omega, Nat.le_refl _, fun c => by rw [List.length_eq_zero_iff.1 e] at c; exact (c rfl).elim⟩⟩
  · refine ⟨⟨_, _, _, rfl, rfl, hc, fun hne => ⟨g, 0, rfl, (Array.getElem?_eq_some_iff.1 hg).1, fun k s hs => ?_⟩⟩⟩
    have hk := (List.getElem?_eq_some_iff.1 hs).1
    obtain ⟨a, b, c⟩ := sbc_get l k s hs
    rw [show (0 : Nat) + k * 3 = k * 3 by omega, h.row.cellAt (k * 3) (by omega), h.row.cellAt (k * 3 + 1) (by omega), h.row.cellAt (k * 3 + 2) (by omega)]
    exact ⟨a, b, c⟩
theorem info34 : (Try.prog.info? 34).map (fun i => (i.zero, i.size, i.bytes)) = some (some (.agg #[.string ⟨#[]⟩, .string ⟨#[]⟩, .int .i64 0]), 3, 40) := by kernel_rfl
theorem Ob.push {wB wx : World} {a : Option Addr} {c : Nat} {l : List Sb} (h : Ob wB wx (.slice a l.length c) l) (s : Sb) (hl : l.length ≤ 100000) :
    ∃ g' c' w', (Builtin.append_ #[22, 22] 22 #[.slice a l.length c, .slice (some ⟨wx.heap.size, 0, none⟩) 1 1]).run Try.prog (wx.alloc (.cells #[.string s.f, .string s.x, .int .i64 s.q] 34)) = .ok (.slice (some ⟨g', 0, none⟩) (l.length + 1) c') w' ∧ Ob wB w' (.slice (some ⟨g', 0, none⟩) (l.length + 1) c') (l ++ [s]) := by
  obtain ⟨g', c', w', k1, k2, k3, k4⟩ := app_gen (st := 22) (e := 34) (cs := #[.string s.f, .string s.x, .int .i64 s.q]) Try.underlying22 info34 rfl (by omega) (by omega) (own0 h.row) rfl (by simp [Value.oneCell']) (by omega)
  have hs := h.be.size
  refine ⟨g', c', w', k1, ⟨?_, ?_⟩⟩
  · have e : sbc (l ++ [s]) = sbc l ++ #[Value.string s.f, Value.string s.x, Value.int .i64 s.q].toList := by rw [sbc_app]; rfl
    rw [e, List.length_append]
    refine row_base k2 (fun g2 hg2 => ?_)
    simp [Value.ownBlock] at hg2
    subst hg2
    rcases k4 with z | z
    · exact row_ge h.row z
    · omega
  · exact ⟨k3.os.trans h.be.os, k3.tape.trans h.be.tape, k3.output.trans h.be.output, Nat.le_trans hs k3.size, fun j hj => (k3.block j (Nat.lt_of_lt_of_le hj hs) (fun e => by have := row_ge h.row e; omega)).trans (h.be.block j hj)⟩
theorem Ob.nil (w : World) : Ob w w (.slice none 0 0) [] := ⟨⟨rfl, .inl ⟨rfl, rfl⟩⟩, Below.refl _ _⟩
theorem Ob.below {wB wx wy : World} {v : Value} {l : List Sb} (h : Ob wB wx v l) (hb : Below wx.heap.size wx wy) : Ob wB wy v l := ⟨own_below h.row hb, h.be.trans (hb.mono h.be.size)⟩
/-- Both laid, both stand alike. -/
theorem turn_same {w w1 w2 w3 : World} {tb m r tb' m' r' : Nat} {l l' : List Sb} (h : LdR w w1 tb m r l.length (hold l)) (hb : Below w1.heap.size w1 w2) (h' : LdR w2 w3 tb' m' r' l'.length (hold l')) (e : ∀ F y z, hold l F y z ↔ hold l' F y z) (hl : l.length ≤ 60) (hl' : l'.length ≤ 60) (ok : ∀ s ∈ l, okT s.x) :
    Calls Try.prog 10 #[ptr tb, ptr tb'] w3 fun e w' => e = .returned (.bool true) ∧ Below w3.heap.size w3 w' := by
  obtain ⟨⟨T, nf, t, hE, is⟩, be⟩ := h
  obtain ⟨⟨U, nf', u, hE', is'⟩, be'⟩ := h'
  have t3 := (t.below hb).below be'
  have fx : ∀ {w : World} {tb m r P : Nat} {nf : Int} {T : List Fn}, TS w tb m r P nf T → FormX T [] := fun t f hf => by
    rcases t.frm f hf with c | c | c
    · exact .inl c
    · exact .inr (.inl c)
    · exact .inr (.inr (.inl c))
  have oT : ∀ F y z, HasE T F y z → okT y := fun F y z c => by
    obtain ⟨i, s, h1, _, _, rfl, _⟩ := (hold_iff l F y z).1 ((hE F y z).1 c)
    exact ok s (List.mem_of_getElem? h1)
  have ee : ∀ F y z, HasE T F y z ↔ HasE U F y z := fun F y z => ((hE F y z).trans (e F y z)).trans (hE' F y z).symm
  have tw := twin_of t3.tm u.tm oT (fx t3) (fx u) ee
  have ln := twin_len t3.tm u.tm tw
  have nn := twin_nf t3.tm u.tm oT ee t3.cn u.cn
  have ut := u.tm
  rw [← ln, ← nn] at ut
  have c1 := t3.cnt
  have p1 := t3.nP
  exact same_any t3.tm ut tw (by omega) (by omega) (fun f hf => by have := t3.few f hf; omega) (fun f hf => by have := u.few f hf; omega)
end Go.Proofs.Ytepjcfhbbcaldaa.Li
namespace Go.Proofs.Ytepjcfhbbcaldaa.Li
open Go Go.RowKit
set_option linter.unusedSimpArgs false
set_option linter.unusedVariables false
set_option maxRecDepth 100000 in
set_option maxHeartbeats 16000000 in
/-- SUBTRIETURNS. -/
theorem turns_any {w : World} {v : Value} {l : List Sb} (h : SbAt w v l) (hx : ∀ s ∈ l, s.f.size ≤ 140737488355328 ∧ s.x.size ≤ 140737488355328) :
    Calls Try.prog 4 #[v] w fun e w' => e = .returned (.bool true) ∧ Below w.heap.size w w' := by
  obtain ⟨a, n, cap, rfl, hn, hc, hrow⟩ := id h.ex
  have ba := (Below.refl w.heap.size w).alloc (Nat.le_refl _) (.cells #[.slice a n cap] 22)
  have BA := hidi ba
  have SM := hidi (small_any (h.below ba) (lb := w.heap.size) (by simp) (box_cells (heap_alloc_new w _) 0 _ rfl) hx)
  have KN := hidi (fun w => known_any w)
  have LA := hidi (fun (w1 : World) (v : Value) (l' : List Sb) (at_ : SbAt w1 v l') (hl : l'.length ≤ 60) (hs : ∀ s ∈ l', s ∈ l) (sm : sumS l ≤ 60000) => laid_any at_ (by omega) (fun s hs' => by have := sumS_mem (hs s hs'); omega))
  have HR := hidi hrow
  have HN := hidi (And.intro hn hc)
  clear h hx hrow ba hn hc
  go_enter Try.func4, Try.ntmps4
  go_upto_region 2 with (go_at_call 5; refine SM.out.mono ?_; rintro e w1 ⟨b, rfl, sm, hb⟩; have S1 := hidi sm; have B1 := hidi (BA.out.trans (hb.mono BA.out.size)); clear sm hb SM; cases b)
  · go_wp2_with fail
    go_ret
    exact ⟨rfl, B1.out⟩
  · obtain ⟨s60, sum⟩ := S1.out rfl
    have S2 := hidi (And.intro s60 sum)
    clear S1 s60 sum
    go_wp2_with (go_at_call 6; refine (KN.out _).mono ?_; rintro e w2 ⟨rfl, hb⟩; have B2 := hidi (B1.out.trans (hb.mono B1.out.size)); clear hb KN)
    go_loopg [3, 4, 5, 6] n (fun gg s3 s4 s5 s6 wx => ∃ (k m c : Nat) (ad : Option Addr), k + gg = n ∧ s4 = .int .i64 k ∧ s3 = .slice ad m c ∧ Hid (m = (dd (l.take k)).length ∧ Ob w2 wx (.slice ad m c) (dd (l.take k))))
    case atStart => exact ⟨0, 0, 0, none, by omega, rfl, rfl, rfl, Ob.nil w2⟩
    case round =>
      obtain ⟨k, m, c, ad, hk, rfl, rfl, Z⟩ := hrel
      obtain ⟨D, hD⟩ : ∃ D, D = dd (l.take k) := ⟨_, rfl⟩
      rw [← hD] at Z
      have HD := hidi hD
      have DL := hidi (show D.length ≤ k from by rw [hD]; have := dd_len (l.take k); have := List.length_take_le k l; omega)
      clear hD
      by_cases lk : k < n
      · have lk' : (k : Int) < n := by omega
        obtain ⟨s, hs⟩ : ∃ s, l[k]? = some s := ⟨_, List.getElem?_eq_getElem (by have := HN.out.1; omega)⟩
        obtain ⟨lg, lo, rfl, hg, hcl⟩ := HR.out (fun e => by subst e; simp at hs)
        obtain ⟨z1, z2, z3⟩ := hcl k s hs
        have LC := hidi (fun (wx : World) (hb : Below w2.heap.size w2 wx) => (show wx.cell? ⟨lg, lo + k * 3, none⟩ = some (.string s.f) ∧ wx.cell? ⟨lg, lo + k * 3 + 1, none⟩ = some (.string s.x) ∧ wx.cell? ⟨lg, lo + k * 3 + 2, none⟩ = some (.int .i64 s.q) from by
          have bb := B2.out.trans (hb.mono B2.out.size)
          exact ⟨by rw [bb.cell (by exact hg)]; exact z1, by rw [bb.cell (by exact hg)]; exact z2, by rw [bb.cell (by exact hg)]; exact z3⟩))
        have hwk : IntKind.i64.wrap ((k : Int) + 1) = (k : Int) + 1 := by rw [IntKind.wrap_i64]; have := S2.out.1; have := HN.out; omega
        have NX := hidi (dd_next hs)
        have HK := hidi (And.intro lk hk)
        clear hs hg hcl z1 z2 z3 hk lk
        go_wp2_with fail
        go_loopg [5, 6] m (fun gg s5 s6 wx => ∃ (j : Nat) (b : Bool), j + gg = m ∧ s5 = .bool b ∧ s6 = .int .i64 j ∧ Hid (m = D.length ∧ Ob w2 wx (.slice ad m c) D ∧ BI b (∃ (i' : Nat) (u : Sb), i' < j ∧ D[i']? = some u ∧ u.f = s.f ∧ u.x = s.x)))
        case atStart => exact ⟨0, false, by omega, rfl, rfl, Z.out.1, Z.out.2, ⟨fun c => (by cases c), fun c => by obtain ⟨i', u, c, _⟩ := c; omega⟩⟩
        case round =>
          clear Z
          obtain ⟨j, b, hj, rfl, rfl, X⟩ := hrel
          obtain ⟨l0, l1, l2⟩ := LC.out wr X.out.2.1.be
          by_cases lj : j < m
          · have lj' : (j : Int) < m := by omega
            obtain ⟨u, hu⟩ : ∃ u, D[j]? = some u := ⟨_, List.getElem?_eq_getElem (by have := X.out.1; omega)⟩
            obtain ⟨a', n', c', e', hn', hc', hrow'⟩ := X.out.2.1.at_.ex
            obtain ⟨og, oo, rfl, hog, hoc⟩ := hrow' (fun e => by subst e; simp at hu)
            simp only [Value.slice.injEq] at e'
            obtain ⟨rfl, -, -⟩ := e'
            obtain ⟨o0, o1, o2⟩ := hoc j u hu
            have HU := hidi hu
            have hwj : IntKind.i64.wrap ((j : Int) + 1) = (j : Int) + 1 := by rw [IntKind.wrap_i64]; have := DL.out; have := X.out.1; have := HK.out; have := S2.out.1; have := HN.out.1; omega
            have OBd := hidi (fun nq => X.out.2.1.below ((Below.refl wr.heap.size wr) |> below_drewN (m := nq)))
            clear hu hoc hog hrow' hn' hc' o2 l2
            have up : ∀ b', (b' = true ↔ b = true ∨ (u.f = s.f ∧ u.x = s.x)) → BI b' (∃ (i' : Nat) (u : Sb), i' < j + 1 ∧ D[i']? = some u ∧ u.f = s.f ∧ u.x = s.x) := fun b' hb' => by
              refine Iff.trans hb' ?_
              rw [show (b = true ↔ _) from X.out.2.2]
              constructor
              · rintro (⟨i', u', h1, h2⟩ | h)
                · exact ⟨i', u', by omega, h2⟩
                · exact ⟨j, u, by omega, HU.out, h⟩
              · rintro ⟨i', u', h1, h2, h3⟩
                by_cases e : i' = j
                · subst e
                  rw [HU.out] at h2
                  cases h2
                  exact .inr h3
                · exact .inl ⟨i', u', by omega, h2, h3⟩
            have UP := hidi up
            clear up
            cases b with
            | true =>
              go_wp2_with fail
              go_quiet (fail)
              go_wp2_with fail
              go_roundg (m - (j + 1))
              case measure => omega
              case rel => exact ⟨j + 1, true, by omega, rfl, by simp, X.out.1, OBd.out _, UP.out true (by simp)⟩
            | false =>
              cases f1 : (u.f.toList == s.f.toList) with
              | false =>
                have F1 := hidi (tne_iff.1 f1)
                go_wp2_with fail
                go_quiet (fail)
                go_wp2_with fail
                go_roundg (m - (j + 1))
                case measure => omega
                case rel => exact ⟨j + 1, false, by omega, rfl, by simp, X.out.1, OBd.out _, UP.out false ⟨fun c => (by cases c), fun c => by rcases c with c | c; cases c; exact absurd c.1 F1.out⟩⟩
              | true =>
                have F1 := hidi (teq_iff.1 f1)
                cases f2 : (u.x.toList == s.x.toList) with
                | false =>
                  have F2 := hidi (tne_iff.1 f2)
                  go_wp2_with fail
                  go_quiet (fail)
                  go_wp2_with fail
                  go_roundg (m - (j + 1))
                  case measure => omega
                  case rel => exact ⟨j + 1, false, by omega, rfl, by simp, X.out.1, OBd.out _, UP.out false ⟨fun c => (by cases c), fun c => by rcases c with c | c; cases c; exact absurd c.2 F2.out⟩⟩
                | true =>
                  have F2 := hidi (teq_iff.1 f2)
                  go_wp2_with fail
                  go_quiet (fail)
                  go_wp2_with fail
                  go_roundg (m - (j + 1))
                  case measure => omega
                  case rel => exact ⟨j + 1, true, by omega, rfl, by simp, X.out.1, OBd.out _, UP.out true ⟨fun _ => .inr ⟨F1.out, F2.out⟩, fun _ => rfl⟩⟩
          · have lj' : ¬ (j : Int) < m := by omega
            obtain rfl : j = m := by omega
            have DX := hidi (show ddS D s = if b = true then D else D ++ [s] from by
              have hb : b = true ↔ _ := X.out.2.2
              unfold ddS
              have : (D.any (fun a => decide (a.f = s.f) && decide (a.x = s.x)) = true) ↔ b = true := by
                rw [any_iff, hb]
                constructor
                · rintro ⟨u, hu, h⟩
                  obtain ⟨i', hi⟩ := List.getElem?_of_mem hu
                  exact ⟨i', u, by have := (List.getElem?_eq_some_iff.1 hi).1; have := X.out.1; omega, hi, h⟩
                · rintro ⟨i', u, _, hi, h⟩
                  exact ⟨u, List.mem_of_getElem? hi, h⟩
              simp only [this])
            cases b with
            | true =>
              go_wp2_with fail
              go_roundg (n - (k + 1))
              case measure => have := HK.out; omega
              case rel =>
                have e : dd (l.take (k + 1)) = D := by rw [NX.out, ← HD.out, DX.out]; rfl
                refine ⟨k + 1, j, c, ad, by have := HK.out; omega, by simp, rfl, ?_⟩
                rw [e]
                exact ⟨X.out.1, X.out.2.1⟩
            | false =>
              have XO := X.out.2.1
              have m1 := X.out.1
              rw [m1] at XO
              obtain ⟨g', c', w', r1, ob⟩ := XO.push s (by have := DL.out; have := HK.out; have := S2.out.1; have := HN.out.1; omega)
              rw [← m1] at r1 ob
              have R1 := hidi r1
              have OB := hidi ob
              have M1 := hidi m1
              clear XO m1 r1 ob X
              go_wp2_with (at_builtin; refine Lib.wpList_append_run _ rfl (.tmp 60) (.tmp 65) 22 22 rfl _ _ rfl rfl _ w' R1.out ?_)
              go_roundg (n - (k + 1))
              case measure => have := HK.out; omega
              case rel =>
                have e : dd (l.take (k + 1)) = D ++ [s] := by rw [NX.out, ← HD.out, DX.out]; rfl
                refine ⟨k + 1, j + 1, c', some ⟨g', 0, none⟩, by have := HK.out; omega, by simp, by simp, ?_⟩
                rw [e]
                exact ⟨by rw [M1.out]; simp, OB.out⟩
      · have lk' : ¬ (k : Int) < n := by omega
        obtain rfl : k = n := by omega
        have LN := hidi (show l.take k = l from by rw [HN.out.1]; exact List.take_length)
        rw [LN.out] at HD
        obtain ⟨z1, z2⟩ := Z.out
        have Z1 := hidi z1
        have OW := hidi z2
        have UQ := hidi (show Uq D from by rw [HD.out]; exact dd_uq l)
        have SB := hidi (show ∀ s ∈ D, s ∈ l from fun s hs => by rw [HD.out] at hs; exact dd_sub hs)
        clear z1 z2 Z HR
        have m60 : m ≤ 60 := by have := Z1.out; have := DL.out; have := HN.out; have := S2.out.1; omega
        have w1m : IntKind.i64.wrap ((m : Int) - 1) = (m : Int) - 1 := by rw [IntKind.wrap_i64]; omega
        obtain ⟨w5, hw5⟩ : ∃ w5, w5 = wr := ⟨_, rfl⟩
        rw [← hw5] at OW ⊢
        clear hw5
        have OC := hidi (fun (wx : World) (hb : Below w5.heap.size w5 wx) (i : Nat) (s : Sb) (hs : D[i]? = some s) => (show ∃ og oo, ad = some ⟨og, oo, none⟩ ∧ wx.cell? ⟨og, oo + i * 3, none⟩ = some (.string s.f) ∧ wx.cell? ⟨og, oo + i * 3 + 1, none⟩ = some (.string s.x) ∧ wx.cell? ⟨og, oo + i * 3 + 2, none⟩ = some (.int .i64 s.q) from by
          obtain ⟨a', n', c', e', hn', hc', hrow'⟩ := (OW.out.below hb).at_.ex
          simp only [Value.slice.injEq] at e'
          obtain ⟨rfl, -, -⟩ := e'
          obtain ⟨og, oo, e, hog, hoc⟩ := hrow' (fun e => by subst e; simp at hs)
          exact ⟨og, oo, e, hoc i s hs⟩))
        go_wp2_with fail
        go_loopg [7, 8] m (fun gg s7 s8 wx => ∃ (j c2 : Nat) (a2 : Option Addr), j + gg = m ∧ s8 = .int .i64 ((m : Int) - 1 - j) ∧ s7 = .slice a2 j c2 ∧ Hid (Ob w5 wx (.slice a2 j c2) (D.reverse.take j)))
        case atStart => exact ⟨0, 0, none, by omega, by simp, rfl, Ob.nil w5⟩
        case round =>
          obtain ⟨j, c2, a2, hj, rfl, rfl, Y⟩ := hrel
          by_cases lj : j < m
          · have lj1 : (m : Int) - 1 - j ≥ 0 := by omega
            have lj2 : (0 : Int) ≤ (m : Int) - 1 - j := by omega
            have lj3 : ¬ (m : Int) - 1 - j < 0 := by omega
            have lj4 : (m : Int) - 1 - j < m := by omega
            obtain ⟨i, hi⟩ : ∃ i : Nat, i + 1 + j = m := ⟨m - 1 - j, by omega⟩
            have hi' : (m : Int) - 1 - j = (i : Int) := by omega
            rw [hi'] at lj1 lj2 lj3 lj4 ⊢
            obtain ⟨s, hs⟩ : ∃ s, D[i]? = some s := ⟨_, List.getElem?_eq_getElem (by have := Z1.out; omega)⟩
            obtain ⟨og, oo, rfl, o0, o1, o2⟩ := OC.out wr Y.out.be i s hs
            have hwi : IntKind.i64.wrap ((i : Int) - 1) = (i : Int) - 1 := by rw [IntKind.wrap_i64]; omega
            have len : (D.reverse.take j).length = j := by rw [List.length_take, List.length_reverse]; have := Z1.out; omega
            have NX := hidi (show D.reverse.take (j + 1) = D.reverse.take j ++ [s] from by
              have : D.reverse[j]? = some s := by
                rw [List.getElem?_reverse (by have := Z1.out; omega)]
                rw [show D.length - 1 - j = i by have := Z1.out; omega]
                exact hs
              rw [List.take_add_one, this]
              rfl)
            have YO := Y.out
            obtain ⟨E, hE⟩ : ∃ E, E = D.reverse.take j := ⟨_, rfl⟩
            rw [← hE] at YO len NX
            rw [← len] at YO
            obtain ⟨g', c', w', r1, ob⟩ := YO.push s (by omega)
            rw [len] at r1 ob
            have R1 := hidi r1
            have OB := hidi ob
            have HI := hidi (And.intro hi (And.intro hi' lj))
            clear YO len hE Y hs r1 ob hi hi'
            go_wp2_with (at_builtin; refine Lib.wpList_append_run _ rfl (.tmp 74) (.tmp 79) 22 22 rfl _ _ rfl rfl _ w' R1.out ?_)
            go_roundg (m - (j + 1))
            case measure => have := HI.out; omega
            case rel =>
              refine ⟨j + 1, c', some ⟨g', 0, none⟩, by have := HI.out; omega, by have := HI.out; simp; omega, by simp, ?_⟩
              rw [NX.out]
              exact OB.out
          · have lj1 : ¬ (m : Int) - 1 - j ≥ 0 := by omega
            have lj2 : ¬ (0 : Int) ≤ (m : Int) - 1 - j := by omega
            obtain rfl : j = m := by omega
            have YR := Y.out
            have tk : D.reverse.take j = D.reverse := List.take_of_length_le (by rw [List.length_reverse]; have := Z1.out; omega)
            rw [tk] at YR
            have YB := hidi YR
            have dl : D.length ≤ 60 := by have := Z1.out; omega
            have DL6 := hidi dl
            have C1 := hidi (LA.out wr _ D (OW.out.below YR.be).at_ dl SB.out S2.out.2)
            have C2 := hidi (fun (w6 : World) (hb : Below wr.heap.size wr w6) => LA.out w6 _ D.reverse (YR.below hb).at_ (by rw [List.length_reverse]; exact dl) (fun s hs => SB.out s (List.mem_reverse.1 hs)) S2.out.2)
            have C3 := hidi (fun (w6 w7 : World) (tb mk r tb' mk' r' : Nat) (ld : LdR wr w6 tb mk r D.length (hold D)) (ld' : LdR w6 w7 tb' mk' r' D.reverse.length (hold D.reverse)) => turn_same ld (Below.refl _ _) ld' (hold_rev UQ.out) dl (by rw [List.length_reverse]; exact dl) (fun s hs => by have := sumS_mem (SB.out s hs); have := S2.out.2; unfold okT maxLen; omega))
            have B5 := hidi (B2.out.trans ((OW.out.be.trans (YR.be.mono OW.out.be.size)).mono B2.out.size))
            unfold ptr at C1 C2 C3
            clear YR tk dl Y LA
            go_wp2_with (first
              | (go_at_call 7; refine C1.out.mono ?_; rintro e w6 ⟨tb, mk, r, rfl, ld⟩; have D2 := hidi (C2.out w6 ld.be); have L6 := hidi ld; clear ld C1 C2)
              | (go_at_call 7; refine D2.out.mono ?_; rintro e w7 ⟨tb', mk', r', rfl, ld⟩; have D3 := hidi (C3.out _ _ _ _ _ _ _ _ L6.out ld); have B7 := hidi (B5.out.trans ((L6.out.be.trans (ld.be.mono L6.out.be.size)).mono B5.out.size)); clear ld D2 C3)
              | (go_at_call 10; refine D3.out.mono ?_; rintro e w8 ⟨rfl, hb⟩; have B8 := hidi (B7.out.trans (hb.mono B7.out.size)); clear hb D3))
            go_ret
            exact ⟨rfl, B8.out⟩
end Go.Proofs.Ytepjcfhbbcaldaa.Li
