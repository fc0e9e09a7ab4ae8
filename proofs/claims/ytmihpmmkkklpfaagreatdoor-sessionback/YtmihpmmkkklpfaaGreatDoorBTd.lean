import Derived.Test.YtmihpmmkkklpfaaGreatDoorBSo
import Derived.Test.YtmihpmmkkklpfaaGreatDoorBSq
namespace Go.Proofs.YtmihpmmkkklpfaaGreatDoor
open Go Go.RowKit Go.Shelf Go.Maps Go.Sort
set_option linter.unusedSimpArgs false
set_option linter.unusedVariables false
/-! ### A session purely, and its calls -/
structure Pz where
  p : Pw
  n : Nat
  f : ByteArray → Option Int
  m : Nat
  g : Int → Option Value
abbrev SZ (G : Nat → Prop) (W : World) (sb wb : Nat) (k : ByteArray) (la : Bool) (mo : Int) (z : Pz) (c : Nat) (sv nv : Value) : Prop := S1 G W sb wb k la mo z.p c sv nv z.n z.f z.m z.g
/-- What a call leaves. -/
def Left (G : Nat → Prop) (W w' : World) (sb wb : Nat) (k : ByteArray) (la : Bool) (mo : Int) (z : Pz) (c : Nat) : Prop := ∃ sv nv, SZ G w' sb wb k la mo z c sv nv ∧ Fr G W w' ∧ KQ W w'
section
variable {G : Nat → Prop} {W : World} {sb wb : Nat} {k : ByteArray} {la : Bool} {mo : Int} {z : Pz} {c : Nat} {sv nv : Value}
theorem Left.same {w' : World} (h : SZ G W sb wb k la mo z c sv nv) (hb : Below W.heap.size W w') : Left G W w' sb wb k la mo z c := ⟨sv, nv, S1.below h hb, Fr.below hb, KQ.below hb⟩
open Classical in
noncomputable def pSub (mo : Int) (z : Pz) (fl : ByteArray) (q : Int) : Pz × Int := if (Tp.fcode fl = 0 ∧ 0 ≤ q ∧ q ≤ 2) ∧ ((z.f fl).isSome = true ∨ (z.n : Int) < mo) then ({ z with n := szI z.f fl z.n, f := setI z.f fl (some q) }, q) else (z, 128)
theorem s1_sub (h : SZ G W sb wb k la mo z c sv nv) (hmo : mo ≤ 65536) (hn : (z.n : Int) ≤ 65536) (fl : ByteArray) (q : Int) (hfs : fl.size ≤ 1000000) :
    Calls Tryz.prog 27 #[.pointer (some ⟨sb, 0, none⟩), .agg #[.string fl, .int .i64 q]] W fun e w' => e = .returned (.int .i64 (pSub mo z fl q).2) ∧ Left G W w' sb wb k la mo (pSub mo z fl q).1 c := by
  have GR : ∀ w, Below W.heap.size W w → Calls Tryz.prog 41 #[.pointer (some ⟨sb, 0, none⟩), .agg #[.string fl, .int .i64 q]] w fun e w' => e = .returned (.tuple #[]) ∧ Gr w w' sb wb k la mo sv nv z.n (fS z.f) fl q := fun w hb => s1_grant (S1.below h hb) fl hfs q (by omega)
  by_cases hbad : Tp.fcode fl = 0 ∧ 0 ≤ q ∧ q ≤ 2
  · cases hf : z.f fl with
    | some old =>
      have e : pSub mo z fl q = ({ z with n := szI z.f fl z.n, f := setI z.f fl (some q) }, q) := if_pos ⟨hbad, .inl (by rw [hf]; rfl)⟩
      rw [e]
      refine (subscribe_has h.ss h.mg fl q hbad.1 hfs hbad.2.1 hbad.2.2 (old := old) (by unfold fS; rw [hf]; rfl) GR).mono ?_
      rintro e w' ⟨rfl, r⟩
      obtain ⟨sv', s, fr, kq⟩ := S1.gr h r
      exact ⟨rfl, sv', nv, s, fr, kq⟩
    | none =>
      by_cases hl : (z.n : Int) < mo
      · have e : pSub mo z fl q = ({ z with n := szI z.f fl z.n, f := setI z.f fl (some q) }, q) := if_pos ⟨hbad, .inr hl⟩
        rw [e]
        refine (subscribe_yes h.ss h.mg fl q hbad.1 hfs hbad.2.1 hbad.2.2 (by unfold fS; rw [hf]; rfl) hl GR).mono ?_
        rintro e w' ⟨rfl, r⟩
        obtain ⟨sv', s, fr, kq⟩ := S1.gr h r
        exact ⟨rfl, sv', nv, s, fr, kq⟩
      · have e : pSub mo z fl q = (z, 128) := if_neg (fun y => y.2.elim (fun y => by rw [hf] at y; cases y) hl)
        rw [e]
        refine (subscribe_no h.ss h.mg fl q hbad.1 hfs hbad.2.1 hbad.2.2 (by unfold fS; rw [hf]; rfl) (by omega)).mono ?_
        rintro e w' ⟨rfl, hb⟩
        exact ⟨rfl, Left.same h hb⟩
  · have e : pSub mo z fl q = (z, 128) := if_neg (fun y => hbad y.1)
    rw [e]
    refine (subscribe_bad h.ss h.mg fl q hbad hfs).mono ?_
    rintro e w' ⟨rfl, hb⟩
    exact ⟨rfl, Left.same h hb⟩
def pUnsub (z : Pz) (fl : ByteArray) : Pz := { z with n := z.n - (if (z.f fl).isSome then 1 else 0), f := setI z.f fl none }
theorem s1_unsub (h : SZ G W sb wb k la mo z c sv nv) (fl : ByteArray) (hfs : fl.size ≤ 1000000) :
    Calls Tryz.prog 30 #[.pointer (some ⟨sb, 0, none⟩), .string fl] W fun e w' => e = .returned (.bool (z.f fl).isSome) ∧ Left G W w' sb wb k la mo (pUnsub z fl) c := by
  have hi : (fS z.f fl).isSome = (z.f fl).isSome := by unfold fS; cases z.f fl <;> rfl
  refine (unsub_any h.ss h.mg h.mi h.ap (fun x v e => by unfold fS at e; obtain ⟨q, _, rfl⟩ := Option.map_eq_some_iff.1 e; exact ⟨q, rfl⟩) fl hfs).mono ?_
  rintro e w' ⟨rfl, sv', t⟩
  rw [hi, show (none : Option Value) = (none : Option Int).map (Value.int .i64) from rfl, setG_fS] at t
  obtain ⟨s, fr, kq⟩ := S1.tk h t h.gq
  exact ⟨by rw [hi], sv', nv, s, fr, kq⟩
open Classical in
noncomputable def pNote (z : Pz) (id : Int) : Pz × Bool := if (z.g id).isSome = true ∨ ¬ (1 ≤ id ∧ id ≤ 65535) then (z, false) else ({ z with m := z.m + 1, g := setF z.g id (some (.agg #[])) }, true)
theorem setF_q {g : Int → Option Value} (hq : ∀ x v, g x = some v → v = .agg #[]) (id : Int) {o : Option Value} (ho : ∀ v, o = some v → v = .agg #[]) : ∀ x v, setF g id o x = some v → v = .agg #[] := fun x v e => by
  unfold setF at e
  split at e
  · exact ho v e
  · exact hq x v e
theorem s1_note (h : SZ G W sb wb k la mo z c sv nv) (id : Int) (hid : okI id) (hm : z.m < 1000000) :
    Calls Tryz.prog 31 #[.pointer (some ⟨sb, 0, none⟩), .int .i64 id] W fun e w' => e = .returned (.bool (pNote z id).2) ∧ Left G W w' sb wb k la mo (pNote z id).1 c := by
  by_cases hb : (z.g id).isSome = true ∨ ¬ (1 ≤ id ∧ id ≤ 65535)
  · have e : pNote z id = (z, false) := if_pos hb
    rw [e]
    refine (note_no h.ss h.mi h.gq id hid hb).mono ?_
    rintro e w' ⟨rfl, hb⟩
    exact ⟨rfl, Left.same h hb⟩
  · have e : pNote z id = ({ z with m := z.m + 1, g := setF z.g id (some (.agg #[])) }, true) := if_neg hb
    rw [e]
    have hr : 1 ≤ id ∧ id ≤ 65535 := Classical.byContradiction fun y => hb (.inr y)
    have hg : z.g id = none := by
      cases hz : z.g id with
      | none => rfl
      | some v => exact absurd (.inl (by rw [hz]; rfl)) hb
    refine (note_yes h.ss h.mg h.mi h.ap h.gq id hid hg hr.1 hr.2 hm).mono ?_
    rintro e w' ⟨rfl, nv', t⟩
    obtain ⟨s, fr, kq⟩ := S1.tk h t (setF_q h.gq id (fun v e => by cases e; rfl))
    exact ⟨rfl, sv, nv', s, fr, kq⟩
def pRel (z : Pz) (id : Int) : Pz := { z with m := z.m - (if (z.g id).isSome then 1 else 0), g := setF z.g id none }
theorem s1_release (h : SZ G W sb wb k la mo z c sv nv) (id : Int) (hid : okI id) :
    Calls Tryz.prog 32 #[.pointer (some ⟨sb, 0, none⟩), .int .i64 id] W fun e w' => e = .returned (.bool (z.g id).isSome) ∧ Left G W w' sb wb k la mo (pRel z id) c := by
  refine (release_any h.ss h.mg h.mi h.ap h.gq id hid).mono ?_
  rintro e w' ⟨rfl, nv', t⟩
  obtain ⟨s, fr, kq⟩ := S1.tk h t (setF_q h.gq id (fun v e => by cases e))
  exact ⟨rfl, sv, nv', s, fr, kq⟩
theorem Left.win {w' : World} {q : Pw} {d : Nat} (h : SZ G W sb wb k la mo z c sv nv) (hk : KS (fun j => G j ∨ SU sb sv nv j) w' wb q d) (hf : Fr (fun j => G j ∨ SU sb sv nv j) W w') (ko : KO W w') : Left G W w' sb wb k la mo { z with p := q } d := by
  obtain ⟨s, fr⟩ := S1.win h hk hf
  exact ⟨sv, nv, s, fr, KQ.ko ko⟩
theorem s1_up (h : SZ G W sb wb k la mo z c sv nv) (hc : c ≤ 200000) : Calls Tryz.prog 15 #[.pointer (some ⟨wb, 0, none⟩)] W fun e w' => ∃ v', e = .returned v' ∧ Left G W w' sb wb k la mo { z with p := (pUp z.p).1 } c ∧ Lst w' v' (pUp z.p).2 := by
  refine (kx_up h.ks hc).mono ?_
  rintro e w' ⟨v', rfl, k1, r, ko, l⟩
  exact ⟨v', rfl, Left.win h k1 r ko, l⟩
theorem s1_ack (h : SZ G W sb wb k la mo z c sv nv) (hc : c ≤ 200000) (kind id : Int) (hid : okI id) : Calls Tryz.prog 17 #[.pointer (some ⟨wb, 0, none⟩), .int .i64 kind, .int .i64 id] W fun e w' => ∃ v', e = .returned v' ∧ Left G W w' sb wb k la mo { z with p := (pAck z.p kind id).1 } c ∧ Lst w' v' (pAck z.p kind id).2 := by
  refine (kx_ack h.ks hc kind id hid).mono ?_
  rintro e w' ⟨v', rfl, k1, r, ko, l⟩
  exact ⟨v', rfl, Left.win h k1 r ko, l⟩
theorem s1_down (h : SZ G W sb wb k la mo z c sv nv) : Calls Tryz.prog 11 #[.pointer (some ⟨wb, 0, none⟩)] W fun e w' => e = .returned (.tuple #[]) ∧ Left G W w' sb wb k la mo { z with p := { z.p with on := false } } c := by
  refine (kx_down h.ks).mono ?_
  rintro e w' ⟨rfl, k1, r, ko⟩
  exact ⟨rfl, Left.win h k1 r ko⟩
/-- Deliver. -/
noncomputable def pDel (z : Pz) (m : Mp) : Pz × List Pp × Bool := if (m.q != 0) = true then ({ z with p := (pSend z.p m).1 }, (pSend z.p m).2.1, (pSend z.p m).2.2.1) else if z.p.on = true then (z, [⟨3, false, 0, m⟩], true) else (z, [], false)
theorem s1_deliver (h : SZ G W sb wb k la mo z c sv nv) (hc : c + 1 ≤ 200000) (t : ByteArray) (v : Value) (q : Int) (r : Bool) (xs : List Int) (hp : PBi W v xs) (ht : t.size ≤ 1000000) :
    Calls Tryz.prog 16 #[.pointer (some ⟨sb, 0, none⟩), .agg #[.string t, v, .int .i64 q, .bool r]] W fun e w' => ∃ v', e = .returned (.tuple #[v', .bool (pDel z ⟨t, q, r, xs⟩).2.2]) ∧ Left G W w' sb wb k la mo (pDel z ⟨t, q, r, xs⟩).1 (c + 1) ∧ Lst w' v' (pDel z ⟨t, q, r, xs⟩).2.1 := by
  by_cases hq : (q != 0) = true
  · have e : pDel z ⟨t, q, r, xs⟩ = ({ z with p := (pSend z.p ⟨t, q, r, xs⟩).1 }, (pSend z.p ⟨t, q, r, xs⟩).2.1, (pSend z.p ⟨t, q, r, xs⟩).2.2.1) := if_pos hq
    rw [e]
    refine (deliver_any h.ks h.ss hc t v q r xs hp ht hq).mono ?_
    rintro e w' ⟨v', rfl, k1, r1, ko, l⟩
    exact ⟨v', rfl, Left.win h k1 r1 ko, l⟩
  · have hq0 : q = 0 := by simpa using hq
    subst hq0
    obtain ⟨pa, pn, pc, rfl⟩ := hp.sl
    have hmore : ∀ w', Below W.heap.size W w' → Left G W w' sb wb k la mo z (c + 1) := fun w' hb => by
      have hs := S1.below h hb
      exact ⟨sv, nv, { hs with ks := hs.ks.more (Nat.le_succ _) }, Fr.below hb, KQ.below hb⟩
    by_cases hon : z.p.on = true
    · have e : pDel z ⟨t, 0, r, xs⟩ = (z, [⟨3, false, 0, ⟨t, 0, r, xs⟩⟩], true) := by unfold pDel; rw [if_neg hq, if_pos hon]
      rw [e]
      refine (deliver_on h.ks h.ss hon t pa pn pc r hp).mono ?_
      rintro e w' ⟨g', rfl, ⟨v', hv', hg'⟩, hb⟩
      refine ⟨_, rfl, hmore w' hb, [⟨3, false, 0, ⟨t, v', 0, r, xs⟩⟩], ?_, fun p hp => by simp at hp; subst hp; exact hv', rfl⟩
      refine ⟨by simp [prow, Pq.cs, pkc], .inr ⟨g', 1, pkc 3 false t v' 0 r 0, rfl, Nat.zero_le _, hg', Nat.le_refl _, by unfold maxLen; omega, by simp [pkc], ?_⟩⟩
      simp [prow, Pq.cs, pkc]
    · have hof : z.p.on = false := by simpa using hon
      have e : pDel z ⟨t, 0, r, xs⟩ = (z, [], false) := by unfold pDel; rw [if_neg hq, if_neg hon]
      rw [e]
      refine (deliver_off h.ks h.ss hof t pa pn pc r).mono ?_
      rintro e w' ⟨rfl, hb⟩
      exact ⟨_, rfl, hmore w' hb, [], ⟨rfl, .inl ⟨rfl, rfl⟩⟩, by simp, rfl⟩
end
end Go.Proofs.YtmihpmmkkklpfaaGreatDoor
