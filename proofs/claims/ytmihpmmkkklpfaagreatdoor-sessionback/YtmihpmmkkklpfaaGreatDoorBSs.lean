import Derived.Test.YtmihpmmkkklpfaaGreatDoorBSh
import Derived.Test.YtmihpmmkkklpfaaGreatDoorBOe
import Derived.Test.YtmihpmmkkklpfaaGreatDoorBSb
import Derived.Maps.RangeWalk
import Derived.Sort.KeysCollected
import Derived.LoopN
namespace Go.Proofs.YtmihpmmkkklpfaaGreatDoor
open Go Go.RowKit Go.Shelf Go.Maps Go.Sort
open Tq (cmpB cmpB_flip cmpB_zero cmpB_trans cmpB_self)
set_option linter.unusedSimpArgs false
set_option linter.unusedVariables false
/-! ### Subs -/
theorem info42 : (Tryz.prog.info? 42).map (fun i => (i.zero, i.size, i.bytes)) = some (some (.agg #[.string ⟨#[]⟩, .int .i64 0]), 2, 24) := by kernel_rfl
theorem make42 (w : World) (n : Nat) (hn : n ≤ 1000000) : ∃ wm, (Instr.makeSlice 27 (.int .i64 0) (.int .i64 (n : Int))).run Tryz.prog w = .ok (.slice (some ⟨w.heap.size, 0, none⟩) 0 n) wm ∧ wm.ownsRow w.heap.size 42 2 (.slice (some ⟨w.heap.size, 0, none⟩) 0 n) 0 [] ∧ Below w.heap.size w wm := by
  obtain ⟨i0, hi, hz0, hz1, hz2⟩ := info_parts info42
  obtain ⟨wm, hmk, hmo, hmg⟩ := run_make_own (P := Tryz.prog) w w.heap.size 27 42 i0 _ 2 Tryz.underlying27 hi hz0 hz1 .i64 .i64 n (by rw [hz2]; omega) (by unfold maxLen; omega) (Nat.le_refl _)
  exact ⟨wm, hmk, hmo, ⟨hmg.os, hmg.tape, hmg.output, hmg.size, fun j hj => hmg.block j hj (by simp)⟩⟩
/-- The filters of a session, as a list in order. -/
structure SubsOf (f : ByteArray → Option Int) (n : Nat) (L : List Sb) : Prop where
  len : L.length = n
  ord : L.Pairwise fun a b => cmpB a.1 b.1 < 0
  val : ∀ p ∈ L, okT p.1 ∧ f p.1 = some p.2
  all : ∀ k, okT k → (f k).isSome → k ∈ L.map (·.1)
def ubs (x : ByteArray) : List UInt8 := x.data.toList
theorem ubs_inj {a b : ByteArray} (h : ubs a = ubs b) : a = b := by
  cases a; cases b
  unfold ubs at h
  simp only [ByteArray.mk.injEq]
  exact Array.toList_inj.1 h
theorem byF_strict {L : List Sb} (h : ByF L) (hn : (L.map (·.1)).Nodup) : L.Pairwise fun a b => cmpB a.1 b.1 < 0 := by
  unfold ByF at h
  have h2 : L.Pairwise fun a b => a.1 ≠ b.1 := by
    have := hn
    unfold List.Nodup at this
    rwa [List.pairwise_map] at this
  exact (h.and h2).imp (fun {a b} q => by
    have : cmpB a.1 b.1 ≠ 0 := fun e => q.2 (cmpB_zero e)
    have := q.1
    omega)
section
variable {W : World} {sb wb : Nat} {k : ByteArray} {la : Bool} {mo : Int} {sv nv : Value}
set_option maxRecDepth 100000 in
set_option maxHeartbeats 4000000 in
theorem subs_nil (h : SsAt W sb wb k la mo (.map none) nv) : Calls Tryz.prog 29 #[.pointer (some ⟨sb, 0, none⟩)] W fun e w' => e = .returned (.slice (some ⟨W.heap.size, 0, none⟩) 0 0) ∧ w'.ownsRow W.heap.size 42 2 (.slice (some ⟨W.heap.size, 0, none⟩) 0 0) 0 [] ∧ Below W.heap.size W w' := by
  have a4 : W.cell? ⟨sb, 4, none⟩ = some (.map none) := box_cells h 4 _ rfl
  have hlen : ∀ ty, (Builtin.len_ #[53] ty #[.map none]).run Tryz.prog W = .ok (.int .i64 0) W := fun ty => Maps.len_nil Tryz.underlying53 ty
  obtain ⟨wm, hmk, hmo, hbm⟩ := make42 W 0 (by omega)
  have c4 : wm.cell? ⟨sb, 4, none⟩ = some (.map none) := box_cells (h.below hbm) 4 _ rfl
  have hrg := run_range_nilMap (P := Tryz.prog) wm 53 9 3 Tryz.underlying53
  have hnx : ∀ ty, (Instr.next (.pointer (some ⟨wm.heap.size, 0, none⟩)) false ty).run Tryz.prog (wm.alloc (.mapIter none 0 #[] 0)) = _ := fun ty => run_next_nilMap _ ty 0 0 #[]
  have HB := hidi (And.intro hbm hmo)
  have SO := hidi (fun w => sortA_none (some ⟨W.heap.size, 0, none⟩) 0 (.func (.func 56) #[] #[]) w)
  clear h hbm hmo
  simp only [Int.natCast_zero] at hmk
  go_enter Tryz.func29, Tryz.ntmps29
  go_wp2_with fail
  refine wp_loop_rounds 1 ?_
  rw [rounds_succ]
  go_wp2_with (go_at_call 55; refine (SO.out _).mono ?_; rintro e w' ⟨rfl, rfl⟩)
  go_ret
  exact ⟨rfl, HB.out.2.alloc _, HB.out.1.alloc (HB.out.1.size) _⟩
set_option maxRecDepth 100000 in
set_option maxHeartbeats 8000000 in
theorem subs_some {mb n : Nat} {f : ByteArray → Option Int} (h : SsAt W sb wb k la mo (.map (some mb)) nv) (hm : MG W (.map (some mb)) n (fun x => (f x).map (Value.int .i64))) (hn : n ≤ 65536) (hfs : ∀ x, okT x → (f x).isSome → x.size ≤ 1000000) :
    Calls Tryz.prog 29 #[.pointer (some ⟨sb, 0, none⟩)] W fun e w' => ∃ v L, e = .returned v ∧ w'.ownsRow W.heap.size 42 2 v L.length (arow L) ∧ SubsOf f n L ∧ Below W.heap.size W w' := by
  have a4 : W.cell? ⟨sb, 4, none⟩ = some (.map (some mb)) := box_cells h 4 _ rfl
  have hlen := fun ty => hm.len (t := 53) Tryz.underlying53 ty
  obtain ⟨wm, hmk, hmo, hbm⟩ := make42 W n (by omega)
  have c4 : wm.cell? ⟨sb, 4, none⟩ = some (.map (some mb)) := box_cells (h.below hbm) 4 _ rfl
  have hmm := hm.keep (w' := wm) (fun b e => hbm.block b (hm.lt e))
  rcases hmm with ⟨z, _⟩ | ⟨mb', D, z, hown, hsz, hD⟩
  · cases z
  cases z
  have l0 : W.heap.size < wm.heap.size := by
    obtain ⟨cur, e⟩ := own_lt hmo (g := W.heap.size) rfl
    exact (Array.getElem?_eq_some_iff.1 e).1
  have HB := hidi (And.intro hbm (And.intro hmo (And.intro hown l0)))
  have HD := hidi hD
  have HF := hidi hfs
  have HN := hidi (And.intro hn hsz)
  have hmbl : mb < W.heap.size := hm.lt rfl
  have SO := hidi (fun (xs : List Sb) (v : Value) (w : World) ho hl hx => sortA_any xs v w W.heap.size ho hl hx)
  clear h hbm hm hD hfs hmo hn l0
  go_enter Tryz.func29, Tryz.ntmps29
  go_wp2_with (at_range; refine wpList_range_own _ rfl _ 53 rfl 9 3 law9 Tryz.underlying53 hv mb n D rfl hown ?_; intro w0 hrg0 hg0 hs0)
  have B0 : Below W.heap.size W w0 := by
    have g0 : Below wm.heap.size wm w0 := ⟨hg0.os, hg0.tape, hg0.output, hg0.size, fun j hj => hg0.block j hj (by simp)⟩
    exact HB.out.1.trans (g0.mono HB.out.1.size)
  have O0 : w0.ownsRow W.heap.size 42 2 (.slice (some ⟨W.heap.size, 0, none⟩) 0 n) 0 [] := own_ch HB.out.2.1 (ch_grown hg0) (fun g hg q => by simp at q)
  clear hg0 hs0 hmk hlen a4 c4 hown
  (try go_frame)
  go_loopw [3, 4, 5] (fun s3 s4 s5 wr => ∃ (left : Lit → Bool) (cnt : Nat) (ps : List Sb) (g c : Nat), s3 = .slice (some ⟨g, 0, none⟩) ps.length c ∧ Hid (wr.ranges Tryz.prog 9 hv mb wm.heap.size n D left cnt ∧ ps.length + cnt ≤ n ∧ Collected D left (ps.map (fun p => ubs p.1)) ∧ (∀ p ∈ ps, okT p.1 ∧ f p.1 = some p.2) ∧ wr.ownsRow W.heap.size 42 2 (.slice (some ⟨g, 0, none⟩) ps.length c) ps.length (arow ps) ∧ g ≠ wm.heap.size ∧ Below W.heap.size W wr))
    (fun _ _ _ wr => wr.rangeLeft mb wm.heap.size)
  case atStart =>
    exact ⟨_, _, [], _, _, rfl, hrg0, by have := HN.out.2; simp; omega, Collected.start D, by simp, O0, by have := HB.out.2.2.2; omega, B0⟩
  case round =>
    clear B0 O0
    have HG0 := hidi hrg0
    clear hrg0
    obtain ⟨left, cnt, ps, g, c, rfl, HR⟩ := hrel
    have hrg := HR.out.1
    go_wp2_with (at_next; refine wpList_next_ranges _ rfl _ rfl 9 law9 hv Value.string (fun v : Value => v) (fun key kl hk => by obtain ⟨x, hx, _⟩ := Go.WideMaps.string_of_keyOf Tryz.underlying9 hk; exact ⟨x, hx⟩) (fun v y _ => ⟨v, rfl⟩) mb _ n D _ _ rfl hrg ?_ ?_)
    · intro hc0 hl0
      clear hrg
      have SO1 := hidi (SO.out ps _ _ HR.out.2.2.2.2.1 (by have := HR.out.2.1; have := HN.out.1; omega) (fun p hp => HF.out _ (HR.out.2.2.2.1 p hp).1 (by rw [(HR.out.2.2.2.1 p hp).2]; rfl)))
      clear SO
      go_wp2_with (go_at_call 55; refine SO1.out.mono ?_; clear SO1; rintro e w' ⟨rfl, ys, hp, hby, ho, hb⟩)
      go_ret
      have hpm : (ps.map (fun p => ubs p.1)).Perm (strKeys D) := Collected.perm HR.out.2.2.1 HG0.out.owns law9 Tryz.underlying9 hl0
      have hpl : ps.length = n := by
        have e1 := hpm.length_eq
        rw [List.length_map] at e1
        rw [e1, ← HN.out.2]
        cases D <;> simp [strKeys, Maps.size]
      have hnd : (ys.map (·.1)).Nodup := by
        have n1 : (ps.map (fun p => ubs p.1)).Nodup := HR.out.2.2.1.1
        have n2 : (ps.map (·.1)).Nodup := by
          rw [show ps.map (fun p => ubs p.1) = (ps.map (·.1)).map ubs by rw [List.map_map]; rfl] at n1
          exact List.Pairwise.of_map ubs (fun a b q e => q (by rw [e])) n1
        exact (hp.map (·.1)).nodup_iff.2 n2
      have hyl : ys.length = n := hp.length_eq.trans hpl
      have hvl : ∀ p ∈ ys, okT p.1 ∧ f p.1 = some p.2 := fun p hq => HR.out.2.2.2.1 p (hp.mem_iff.1 hq)
      refine ⟨_, ys, rfl, ?_, ⟨hyl, byF_strict hby hnd, hvl, fun x hx hs => ?_⟩, HR.out.2.2.2.2.2.2.trans hb⟩
      · rw [hp.length_eq] at ho ⊢
        exact ho
      · have h1 := (HD.out x hx).1
        have h2 : Maps.has D (kt x) = true := by rw [h1]; simpa using hs
        have h3 := (HR.out.2.2.1.2 (ubs x)).2 ⟨h2, hl0 _⟩
        obtain ⟨p, hp1, hp2⟩ := List.mem_map.1 h3
        have := ubs_inj hp2
        subst this
        exact List.mem_map.2 ⟨p, hp.mem_iff.2 hp1, rfl⟩
    · intro x c1 kl yd yp w2 cnt2 hkey hlk hvv hat hrg2 hlt hg2 hs2 hen
      obtain ⟨x', ex, rfl, hwx⟩ := Go.WideMaps.string_of_keyOf Tryz.underlying9 hkey
      cases ex
      have hyd : yd = .held c1 := by simp [hv] at hvv; exact hvv.1.symm
      subst hyd
      have hhas : Maps.has D (kt x) = true := has_true_of_atKey hat
      obtain ⟨q, hq⟩ : ∃ q, f x = some q := by
        have := (HD.out x hwx).1
        rw [hhas] at this
        have h2 : (f x).isSome := by simpa using this.symm
        exact Option.isSome_iff_exists.1 h2
      have hcv : c1 = .int .i64 q := by
        have h1 := hat (.held c1)
        have h2 := (HD.out x hwx).2 (.int .i64 q) (by rw [hq]; rfl) (.held c1)
        rw [show D.atKey (kt x) (.held c1) = _ from h1] at h2
        injection h2
      subst hcv
      have hgW : W.heap.size ≤ g := row_ge HR.out.2.2.2.2.1 rfl
      have b2 : Below W.heap.size W w2 := by
        have hsz : W.heap.size ≤ wm.heap.size := HB.out.1.size
        refine HR.out.2.2.2.2.2.2.trans ⟨hg2.os, hg2.tape, hg2.output, hg2.size, fun j hj => hg2.block j (Nat.lt_of_lt_of_le hj HR.out.2.2.2.2.2.2.size) (by simp; omega)⟩
      have o2 : w2.ownsRow W.heap.size 42 2 (.slice (some ⟨g, 0, none⟩) ps.length c) ps.length (arow ps) := by
        refine own_ch HR.out.2.2.2.2.1 (ch_grown hg2) (fun g' hg' q' => ?_)
        simp [Value.ownBlock] at hg'
        simp at q'
        have := HR.out.2.2.2.2.2.1
        omega
      obtain ⟨g', cap', w3, k1, k2, k3, k4⟩ := app_gen (st := 27) (e := 42) (cs := #[.string x, .int .i64 q]) Tryz.underlying27 info42 rfl (by omega) (by omega) (own0 o2) rfl (by simp [Value.oneCell']) (by have := HR.out.2.1; have := HN.out.1; omega)
      have hgs : g' ≠ wm.heap.size ∧ W.heap.size ≤ g' := by
        have := HR.out.2.2.2.2.2.1
        rcases k4 with z | z
        · simp [Value.ownBlock] at z
          omega
        · have := hrg2.lt
          have := HB.out.1.size
          omega
      have hrg3 : w3.ranges Tryz.prog 9 hv mb wm.heap.size n D (fun z => left z && !z.sameKey (kt x)) cnt2 := by
        obtain ⟨es, clock, since, seen, c0, r1, r2, r3, r4, r5, r6⟩ := hrg2
        refine ⟨es, clock, since, seen, c0, (k3.block mb (Array.getElem?_eq_some_iff.1 r1).1 ?_).trans r1, r2, r3, r4, (k3.block _ (Array.getElem?_eq_some_iff.1 r5).1 ?_).trans r5, r6⟩
        · simp [Value.ownBlock]; omega
        · have := HR.out.2.2.2.2.2.1
          simp [Value.ownBlock]; omega
      have b3 : Below W.heap.size W w3 := ⟨k3.os.trans b2.os, k3.tape.trans b2.tape, k3.output.trans b2.output, Nat.le_trans b2.size k3.size, fun j hj => (k3.block j (Nat.lt_of_lt_of_le hj b2.size) (by simp [Value.ownBlock]; omega)).trans (b2.block j hj)⟩
      have hC2 : Collected D (fun z => left z && !z.sameKey (kt x)) ((ps ++ [(x, q)]).map (fun p => ubs p.1)) := by
        have := Collected.step (x := ubs x) HR.out.2.2.1 hlk hat
        rw [List.map_append]
        exact this
      have hV2 : ∀ p ∈ ps ++ [(x, q)], okT p.1 ∧ f p.1 = some p.2 := fun p hp => (List.mem_append.1 hp).elim (HR.out.2.2.2.1 p) (fun e => by simp at e; subst e; exact ⟨hwx, hq⟩)
      have hrow : w3.ownsRow W.heap.size 42 2 (.slice (some ⟨g', 0, none⟩) (ps.length + 1) cap') (ps.length + 1) (arow (ps ++ [(x, q)])) := by
        have e : arow (ps ++ [(x, q)]) = arow ps ++ #[Value.string x, Value.int .i64 q].toList := by simp [arow, acs]
        rw [e]
        exact row_base k2 (fun g2 hg2 => by simp [Value.ownBlock] at hg2; omega)
      have hlen2 : (ps ++ [(x, q)]).length = ps.length + 1 := by simp
      have HRN := hidi (show w3.ranges Tryz.prog 9 hv mb wm.heap.size n D (fun z => left z && !z.sameKey (kt x)) cnt2 ∧ (ps ++ [(x, q)]).length + cnt2 ≤ n ∧ Collected D (fun z => left z && !z.sameKey (kt x)) ((ps ++ [(x, q)]).map (fun p => ubs p.1)) ∧ (∀ p ∈ ps ++ [(x, q)], okT p.1 ∧ f p.1 = some p.2) ∧ w3.ownsRow W.heap.size 42 2 (.slice (some ⟨g', 0, none⟩) (ps.length + 1) cap') (ps.length + 1) (arow (ps ++ [(x, q)])) ∧ g' ≠ wm.heap.size ∧ Below W.heap.size W w3 from ⟨hrg3, by have := HR.out.2.1; rw [hlen2]; omega, hC2, hV2, hrow, hgs.1, b3⟩)
      have HL := hidi (show w3.rangeLeft mb wm.heap.size < wr.rangeLeft mb wm.heap.size by rw [hrg3.left_eq, hrg.left_eq]; exact hlt)
      have HR1 := hidi k1
      clear b2 o2 hkey hlk hvv hat hg2 hs2 hwx k1 k2 k3 k4 b3 hrg2 hrg3 hC2 hV2 hrow hgs hgW hhas hq hrg HR
      go_wp2_with (at_builtin; refine Lib.wpList_append_run _ rfl (.tmp 22) (.tmp 26) 27 27 rfl _ _ rfl rfl _ w3 HR1.out ?_)
      go_roundw
      case rel => exact ⟨_, cnt2, ps ++ [(x, q)], g', cap', by rw [hlen2]; try rfl, by rw [hlen2]; have := HRN.out; rw [hlen2] at this; exact this⟩
      case measure => exact HL.out
theorem subs_any {n : Nat} {f : ByteArray → Option Int} (h : SsAt W sb wb k la mo sv nv) (hm : MG W sv n (fun x => (f x).map (Value.int .i64))) (hn : n ≤ 65536) (hfs : ∀ x, okT x → (f x).isSome → x.size ≤ 1000000) :
    Calls Tryz.prog 29 #[.pointer (some ⟨sb, 0, none⟩)] W fun e w' => ∃ v L, e = .returned v ∧ w'.ownsRow W.heap.size 42 2 v L.length (arow L) ∧ SubsOf f n L ∧ Below W.heap.size W w' := by
  rcases hm.mk with rfl | ⟨mb, rfl⟩
  · refine (subs_nil h).mono ?_
    rintro e w' ⟨rfl, ho, hb⟩
    rcases hm with ⟨_, h1, h2⟩ | ⟨mb, D, h1, _⟩
    · refine ⟨_, [], rfl, ho, ⟨h1.symm, List.Pairwise.nil, by simp, fun x hx hs => ?_⟩, hb⟩
      have := h2 x hx
      simp only [Option.map_eq_none_iff] at this
      rw [this] at hs
      cases hs
    · cases h1
  · exact subs_some h hm hn hfs
end
end Go.Proofs.YtmihpmmkkklpfaaGreatDoor
