import Derived.Test.YtphofgnehdlafaaGreatDoorPRh
namespace Go.Proofs.YtphofgnehdlafaaGreatDoor.Pkt
open Go Go.RowKit Go.Sort
set_option linter.unusedSimpArgs false
set_option linter.unusedVariables false
set_option maxRecDepth 100000
set_option maxHeartbeats 4000000
def rb (p : Pk) (c : Cn) : Nat :=
 if p.kind = 1 then szc p else if p.kind = 2 then 2 else if p.kind = 3 then 2 + p.mT.size + p.mP.n else if p.kind = 8 then sumN (fun i => 3 + (c.af i).size) p.asks.n
 else if p.kind = 9 then p.codes.n else if p.kind = 10 then sumN (fun i => 2 + (c.fs i).size) p.filters.n else 0
def rsz (p : Pk) (c : Cn) : Nat := rb p c + nid p
theorem sumN_step (f : Nat → Nat) (n k : Nat) (h : k < n) : sumN f k + f k ≤ sumN f n := by
 induction n with
 | zero => omega
 | succ n ih =>
  by_cases e : k = n
  ·
   subst e; exact Nat.le_refl _
  ·
   have := ih (by omega)
   show sumN f k + f k ≤ sumN f n + f n
   omega
theorem rbytes_any (p : Pk) (c : Cn) (w : World) (hin : In w p c) (hs : Small p c) : Calls Tryz.prog 160 #[p.v] w fun e w' => e = .returned (.int .i64 (rsz p c)) ∧ Below w.heap.size w w' := by
 obtain ⟨x, hx⟩ : ∃ x : Int, x = (rsz p c : Nat) := ⟨_, rfl⟩
 rw [← hx]
 have HX : Hid (x = (rsz p c : Nat)) := hx
 clear hx
 obtain ⟨P, hP⟩ : ∃ P, P = pkCells p := ⟨_, rfl⟩
 obtain ⟨W, hW⟩ : ∃ W, W = w.alloc (.cells P 29) := ⟨_, rfl⟩
 have b0 : Hid (Below w.heap.size w W) := box_below hW
 have g0 : Hid (W.heap[w.heap.size]? = some (.cells P 29)) := by show _ = _; rw [hW]; exact heap_alloc_new w _
 have SP : Hid (P.size = 25) := by show _ = _; rw [hP]; rfl
 have FA : Hid (∀ k v, (pkCells p)[k]? = some v → W.cell? ⟨w.heap.size, k, none⟩ = some v) := fun k v h => by rw [hW]; exact box_cell w P 29 k v (by rw [hP]; exact h)
 have NU : Hid (∀ w', Calls Tryz.prog 159 #[.agg P] w' fun e w'' => e = .returned (.bool (hasID p)) ∧ Below w'.heap.size w' w'') := fun w' => by rw [hP]; exact numbered_any p w'
 rw [show p.v = .agg P by rw [hP]; rfl]
 clear hP
 have HA : Hid (As W p.asks c.af c.aq) := hin.asks.below b0.out
 have HS : Hid (Ss W p.filters c.fs) := hin.filters.below b0.out
 have SM : Hid (Small p c) := hs
 clear hin hs
 go_enter Tryz.func160, Tryz.ntmps160
 go_upto_region 2 with fail
 rw [← hW]
 clear hW
 have c0 := FA.out 0 (.int .i64 p.kind) rfl
 obtain ⟨bi, hi⟩ : ∃ b, hasID p = b := ⟨_, rfl⟩
 have HI : Hid (hasID p = bi) := hi
 have NU2 : Hid (Calls Tryz.prog 159 #[.agg P] W fun e w'' => e = .returned (.bool bi) ∧ Below W.heap.size W w'') := by have := NU.out W; rw [HI.out] at this; exact this
 clear hi
 by_cases k1 : p.kind = 1
 ·
  have e1 : (p.kind == 1) = true := by rw [k1]; rfl
  have c4 := FA.out 4 (.string p.client) rfl
  have c5 := FA.out 5 (.bool p.hasWill) rfl
  have c6 := FA.out 6 (.string p.wT) rfl
  have c7 := FA.out 7 (.slice p.wP.a p.wP.n p.wP.c) rfl
  have c10 := FA.out 10 (.bool p.hasUser) rfl
  have c11 := FA.out 11 (.string p.user) rfl
  have c12 := FA.out 12 (.bool p.hasPass) rfl
  have c13 := FA.out 13 (.slice p.pass.a p.pass.n p.pass.c) rfl
  cases hw : p.hasWill
  case true =>
   rw [hw] at c5
   cases hu : p.hasUser
   case true =>
    rw [hu] at c10
    cases hp : p.hasPass
    case true =>
     rw [hp] at c12
     have hS := SM.out
     have s1 := hS.cl; have s2 := hS.us; have s3 := hS.wt; have s4 := hS.mt; have s5 := hS.wp; have s6 := hS.ps; have s7 := hS.mp; have s8 := hS.cn
     have v0 : IntKind.i64.wrap ((12 : Int) + (p.client.size : Int)) = (12 : Int) + (p.client.size : Int) := by rw [IntKind.wrap_i64]; omega
     have v1 : IntKind.i64.wrap ((12 : Int) + (p.client.size : Int) + (2 : Int)) = (12 : Int) + (p.client.size : Int) + (2 : Int) := by rw [IntKind.wrap_i64]; omega
     have v2 : IntKind.i64.wrap ((12 : Int) + (p.client.size : Int) + (2 : Int) + (p.wT.size : Int)) = (12 : Int) + (p.client.size : Int) + (2 : Int) + (p.wT.size : Int) := by rw [IntKind.wrap_i64]; omega
     have v3 : IntKind.i64.wrap ((12 : Int) + (p.client.size : Int) + (2 : Int) + (p.wT.size : Int) + (2 : Int)) = (12 : Int) + (p.client.size : Int) + (2 : Int) + (p.wT.size : Int) + (2 : Int) := by rw [IntKind.wrap_i64]; omega
     have v4 : IntKind.i64.wrap ((12 : Int) + (p.client.size : Int) + (2 : Int) + (p.wT.size : Int) + (2 : Int) + (p.wP.n : Int)) = (12 : Int) + (p.client.size : Int) + (2 : Int) + (p.wT.size : Int) + (2 : Int) + (p.wP.n : Int) := by rw [IntKind.wrap_i64]; omega
     have v5 : IntKind.i64.wrap ((12 : Int) + (p.client.size : Int) + (2 : Int) + (p.wT.size : Int) + (2 : Int) + (p.wP.n : Int) + (2 : Int)) = (12 : Int) + (p.client.size : Int) + (2 : Int) + (p.wT.size : Int) + (2 : Int) + (p.wP.n : Int) + (2 : Int) := by rw [IntKind.wrap_i64]; omega
     have v6 : IntKind.i64.wrap ((12 : Int) + (p.client.size : Int) + (2 : Int) + (p.wT.size : Int) + (2 : Int) + (p.wP.n : Int) + (2 : Int) + (p.user.size : Int)) = (12 : Int) + (p.client.size : Int) + (2 : Int) + (p.wT.size : Int) + (2 : Int) + (p.wP.n : Int) + (2 : Int) + (p.user.size : Int) := by rw [IntKind.wrap_i64]; omega
     have v7 : IntKind.i64.wrap ((12 : Int) + (p.client.size : Int) + (2 : Int) + (p.wT.size : Int) + (2 : Int) + (p.wP.n : Int) + (2 : Int) + (p.user.size : Int) + (2 : Int)) = (12 : Int) + (p.client.size : Int) + (2 : Int) + (p.wT.size : Int) + (2 : Int) + (p.wP.n : Int) + (2 : Int) + (p.user.size : Int) + (2 : Int) := by rw [IntKind.wrap_i64]; omega
     have v8 : IntKind.i64.wrap ((12 : Int) + (p.client.size : Int) + (2 : Int) + (p.wT.size : Int) + (2 : Int) + (p.wP.n : Int) + (2 : Int) + (p.user.size : Int) + (2 : Int) + (p.pass.n : Int)) = (12 : Int) + (p.client.size : Int) + (2 : Int) + (p.wT.size : Int) + (2 : Int) + (p.wP.n : Int) + (2 : Int) + (p.user.size : Int) + (2 : Int) + (p.pass.n : Int) := by rw [IntKind.wrap_i64]; omega
     clear hS s1 s2 s3 s4 s5 s6 s7 s8
     have HV : Hid ((rb p c : Int) = (12 : Int) + (p.client.size : Int) + (2 : Int) + (p.wT.size : Int) + (2 : Int) + (p.wP.n : Int) + (2 : Int) + (p.user.size : Int) + (2 : Int) + (p.pass.n : Int)) := by show _ = _; rw [show rb p c = 12 + p.client.size + (4 + p.wT.size + p.wP.n) + (2 + p.user.size) + (2 + p.pass.n) by simp [rb, szc, k1, hw, hu, hp]]; push_cast; omega
     have HL : Hid (((12 : Int) + (p.client.size : Int) + (2 : Int) + (p.wT.size : Int) + (2 : Int) + (p.wP.n : Int) + (2 : Int) + (p.user.size : Int) + (2 : Int) + (p.pass.n : Int) : Int) ≤ 300000000 ∧ 0 ≤ ((12 : Int) + (p.client.size : Int) + (2 : Int) + (p.wT.size : Int) + (2 : Int) + (p.wP.n : Int) + (2 : Int) + (p.user.size : Int) + (2 : Int) + (p.pass.n : Int) : Int)) := by have hS := SM.out; have s1 := hS.cl; have s2 := hS.us; have s3 := hS.wt; have s4 := hS.mt; have s5 := hS.wp; have s6 := hS.ps; have s7 := hS.mp; have s8 := hS.cn; have s9 := hS.sa; have s10 := hS.sf; have hv := HV.out; show _ ∧ _; (try have hn := HN.out); constructor <;> omega
     have hwl : IntKind.i64.wrap ((12 : Int) + (p.client.size : Int) + (2 : Int) + (p.wT.size : Int) + (2 : Int) + (p.wP.n : Int) + (2 : Int) + (p.user.size : Int) + (2 : Int) + (p.pass.n : Int) + 2) = (12 : Int) + (p.client.size : Int) + (2 : Int) + (p.wT.size : Int) + (2 : Int) + (p.wP.n : Int) + (2 : Int) + (p.user.size : Int) + (2 : Int) + (p.pass.n : Int) + 2 := by rw [IntKind.wrap_i64]; have := HL.out; omega
     go_wp2_with (first | (refine wpList_load_wanted rfl _ rfl w.heap.size rfl P (0, 0) g0.out SP.out ?_) | fail)
     go_must (go_at_call 159)
     refine NU2.out.mono ?_
     rintro e w1 ⟨rfl, hb⟩
     have B1 : Hid (Below w.heap.size w w1) := b0.out.trans (hb.mono b0.out.size)
     clear hb
     cases bi
     ·
      have HR : Hid (x = (12 : Int) + (p.client.size : Int) + (2 : Int) + (p.wT.size : Int) + (2 : Int) + (p.wP.n : Int) + (2 : Int) + (p.user.size : Int) + (2 : Int) + (p.pass.n : Int)) := by have hv := HV.out; show _ = _; rw [HX.out, rsz, nid, HI.out, if_neg (by decide)]; omega
      go_wp2
      go_ret
      exact ⟨by rw [HR.out]; rfl, B1.out⟩
     ·
      have HR : Hid (x = (12 : Int) + (p.client.size : Int) + (2 : Int) + (p.wT.size : Int) + (2 : Int) + (p.wP.n : Int) + (2 : Int) + (p.user.size : Int) + (2 : Int) + (p.pass.n : Int) + 2) := by have hv := HV.out; show _ = _; rw [HX.out, rsz, nid, HI.out, if_pos rfl]; omega
      go_wp2
      go_ret
      exact ⟨by rw [HR.out]; rfl, B1.out⟩
    case false =>
     rw [hp] at c12
     have hS := SM.out
     have s1 := hS.cl; have s2 := hS.us; have s3 := hS.wt; have s4 := hS.mt; have s5 := hS.wp; have s6 := hS.ps; have s7 := hS.mp; have s8 := hS.cn
     have v0 : IntKind.i64.wrap ((12 : Int) + (p.client.size : Int)) = (12 : Int) + (p.client.size : Int) := by rw [IntKind.wrap_i64]; omega
     have v1 : IntKind.i64.wrap ((12 : Int) + (p.client.size : Int) + (2 : Int)) = (12 : Int) + (p.client.size : Int) + (2 : Int) := by rw [IntKind.wrap_i64]; omega
     have v2 : IntKind.i64.wrap ((12 : Int) + (p.client.size : Int) + (2 : Int) + (p.wT.size : Int)) = (12 : Int) + (p.client.size : Int) + (2 : Int) + (p.wT.size : Int) := by rw [IntKind.wrap_i64]; omega
     have v3 : IntKind.i64.wrap ((12 : Int) + (p.client.size : Int) + (2 : Int) + (p.wT.size : Int) + (2 : Int)) = (12 : Int) + (p.client.size : Int) + (2 : Int) + (p.wT.size : Int) + (2 : Int) := by rw [IntKind.wrap_i64]; omega
     have v4 : IntKind.i64.wrap ((12 : Int) + (p.client.size : Int) + (2 : Int) + (p.wT.size : Int) + (2 : Int) + (p.wP.n : Int)) = (12 : Int) + (p.client.size : Int) + (2 : Int) + (p.wT.size : Int) + (2 : Int) + (p.wP.n : Int) := by rw [IntKind.wrap_i64]; omega
     have v5 : IntKind.i64.wrap ((12 : Int) + (p.client.size : Int) + (2 : Int) + (p.wT.size : Int) + (2 : Int) + (p.wP.n : Int) + (2 : Int)) = (12 : Int) + (p.client.size : Int) + (2 : Int) + (p.wT.size : Int) + (2 : Int) + (p.wP.n : Int) + (2 : Int) := by rw [IntKind.wrap_i64]; omega
     have v6 : IntKind.i64.wrap ((12 : Int) + (p.client.size : Int) + (2 : Int) + (p.wT.size : Int) + (2 : Int) + (p.wP.n : Int) + (2 : Int) + (p.user.size : Int)) = (12 : Int) + (p.client.size : Int) + (2 : Int) + (p.wT.size : Int) + (2 : Int) + (p.wP.n : Int) + (2 : Int) + (p.user.size : Int) := by rw [IntKind.wrap_i64]; omega
     clear hS s1 s2 s3 s4 s5 s6 s7 s8
     have HV : Hid ((rb p c : Int) = (12 : Int) + (p.client.size : Int) + (2 : Int) + (p.wT.size : Int) + (2 : Int) + (p.wP.n : Int) + (2 : Int) + (p.user.size : Int)) := by show _ = _; rw [show rb p c = 12 + p.client.size + (4 + p.wT.size + p.wP.n) + (2 + p.user.size) by simp [rb, szc, k1, hw, hu, hp]]; push_cast; omega
     have HL : Hid (((12 : Int) + (p.client.size : Int) + (2 : Int) + (p.wT.size : Int) + (2 : Int) + (p.wP.n : Int) + (2 : Int) + (p.user.size : Int) : Int) ≤ 300000000 ∧ 0 ≤ ((12 : Int) + (p.client.size : Int) + (2 : Int) + (p.wT.size : Int) + (2 : Int) + (p.wP.n : Int) + (2 : Int) + (p.user.size : Int) : Int)) := by have hS := SM.out; have s1 := hS.cl; have s2 := hS.us; have s3 := hS.wt; have s4 := hS.mt; have s5 := hS.wp; have s6 := hS.ps; have s7 := hS.mp; have s8 := hS.cn; have s9 := hS.sa; have s10 := hS.sf; have hv := HV.out; show _ ∧ _; (try have hn := HN.out); constructor <;> omega
     have hwl : IntKind.i64.wrap ((12 : Int) + (p.client.size : Int) + (2 : Int) + (p.wT.size : Int) + (2 : Int) + (p.wP.n : Int) + (2 : Int) + (p.user.size : Int) + 2) = (12 : Int) + (p.client.size : Int) + (2 : Int) + (p.wT.size : Int) + (2 : Int) + (p.wP.n : Int) + (2 : Int) + (p.user.size : Int) + 2 := by rw [IntKind.wrap_i64]; have := HL.out; omega
     go_wp2_with (first | (refine wpList_load_wanted rfl _ rfl w.heap.size rfl P (0, 0) g0.out SP.out ?_) | fail)
     go_must (go_at_call 159)
     refine NU2.out.mono ?_
     rintro e w1 ⟨rfl, hb⟩
     have B1 : Hid (Below w.heap.size w w1) := b0.out.trans (hb.mono b0.out.size)
     clear hb
     cases bi
     ·
      have HR : Hid (x = (12 : Int) + (p.client.size : Int) + (2 : Int) + (p.wT.size : Int) + (2 : Int) + (p.wP.n : Int) + (2 : Int) + (p.user.size : Int)) := by have hv := HV.out; show _ = _; rw [HX.out, rsz, nid, HI.out, if_neg (by decide)]; omega
      go_wp2
      go_ret
      exact ⟨by rw [HR.out]; rfl, B1.out⟩
     ·
      have HR : Hid (x = (12 : Int) + (p.client.size : Int) + (2 : Int) + (p.wT.size : Int) + (2 : Int) + (p.wP.n : Int) + (2 : Int) + (p.user.size : Int) + 2) := by have hv := HV.out; show _ = _; rw [HX.out, rsz, nid, HI.out, if_pos rfl]; omega
      go_wp2
      go_ret
      exact ⟨by rw [HR.out]; rfl, B1.out⟩
   case false =>
    rw [hu] at c10
    cases hp : p.hasPass
    case true =>
     rw [hp] at c12
     have hS := SM.out
     have s1 := hS.cl; have s2 := hS.us; have s3 := hS.wt; have s4 := hS.mt; have s5 := hS.wp; have s6 := hS.ps; have s7 := hS.mp; have s8 := hS.cn
     have v0 : IntKind.i64.wrap ((12 : Int) + (p.client.size : Int)) = (12 : Int) + (p.client.size : Int) := by rw [IntKind.wrap_i64]; omega
     have v1 : IntKind.i64.wrap ((12 : Int) + (p.client.size : Int) + (2 : Int)) = (12 : Int) + (p.client.size : Int) + (2 : Int) := by rw [IntKind.wrap_i64]; omega
     have v2 : IntKind.i64.wrap ((12 : Int) + (p.client.size : Int) + (2 : Int) + (p.wT.size : Int)) = (12 : Int) + (p.client.size : Int) + (2 : Int) + (p.wT.size : Int) := by rw [IntKind.wrap_i64]; omega
     have v3 : IntKind.i64.wrap ((12 : Int) + (p.client.size : Int) + (2 : Int) + (p.wT.size : Int) + (2 : Int)) = (12 : Int) + (p.client.size : Int) + (2 : Int) + (p.wT.size : Int) + (2 : Int) := by rw [IntKind.wrap_i64]; omega
     have v4 : IntKind.i64.wrap ((12 : Int) + (p.client.size : Int) + (2 : Int) + (p.wT.size : Int) + (2 : Int) + (p.wP.n : Int)) = (12 : Int) + (p.client.size : Int) + (2 : Int) + (p.wT.size : Int) + (2 : Int) + (p.wP.n : Int) := by rw [IntKind.wrap_i64]; omega
     have v5 : IntKind.i64.wrap ((12 : Int) + (p.client.size : Int) + (2 : Int) + (p.wT.size : Int) + (2 : Int) + (p.wP.n : Int) + (2 : Int)) = (12 : Int) + (p.client.size : Int) + (2 : Int) + (p.wT.size : Int) + (2 : Int) + (p.wP.n : Int) + (2 : Int) := by rw [IntKind.wrap_i64]; omega
     have v6 : IntKind.i64.wrap ((12 : Int) + (p.client.size : Int) + (2 : Int) + (p.wT.size : Int) + (2 : Int) + (p.wP.n : Int) + (2 : Int) + (p.pass.n : Int)) = (12 : Int) + (p.client.size : Int) + (2 : Int) + (p.wT.size : Int) + (2 : Int) + (p.wP.n : Int) + (2 : Int) + (p.pass.n : Int) := by rw [IntKind.wrap_i64]; omega
     clear hS s1 s2 s3 s4 s5 s6 s7 s8
     have HV : Hid ((rb p c : Int) = (12 : Int) + (p.client.size : Int) + (2 : Int) + (p.wT.size : Int) + (2 : Int) + (p.wP.n : Int) + (2 : Int) + (p.pass.n : Int)) := by show _ = _; rw [show rb p c = 12 + p.client.size + (4 + p.wT.size + p.wP.n) + (2 + p.pass.n) by simp [rb, szc, k1, hw, hu, hp]]; push_cast; omega
     have HL : Hid (((12 : Int) + (p.client.size : Int) + (2 : Int) + (p.wT.size : Int) + (2 : Int) + (p.wP.n : Int) + (2 : Int) + (p.pass.n : Int) : Int) ≤ 300000000 ∧ 0 ≤ ((12 : Int) + (p.client.size : Int) + (2 : Int) + (p.wT.size : Int) + (2 : Int) + (p.wP.n : Int) + (2 : Int) + (p.pass.n : Int) : Int)) := by have hS := SM.out; have s1 := hS.cl; have s2 := hS.us; have s3 := hS.wt; have s4 := hS.mt; have s5 := hS.wp; have s6 := hS.ps; have s7 := hS.mp; have s8 := hS.cn; have s9 := hS.sa; have s10 := hS.sf; have hv := HV.out; show _ ∧ _; (try have hn := HN.out); constructor <;> omega
     have hwl : IntKind.i64.wrap ((12 : Int) + (p.client.size : Int) + (2 : Int) + (p.wT.size : Int) + (2 : Int) + (p.wP.n : Int) + (2 : Int) + (p.pass.n : Int) + 2) = (12 : Int) + (p.client.size : Int) + (2 : Int) + (p.wT.size : Int) + (2 : Int) + (p.wP.n : Int) + (2 : Int) + (p.pass.n : Int) + 2 := by rw [IntKind.wrap_i64]; have := HL.out; omega
     go_wp2_with (first | (refine wpList_load_wanted rfl _ rfl w.heap.size rfl P (0, 0) g0.out SP.out ?_) | fail)
     go_must (go_at_call 159)
     refine NU2.out.mono ?_
     rintro e w1 ⟨rfl, hb⟩
     have B1 : Hid (Below w.heap.size w w1) := b0.out.trans (hb.mono b0.out.size)
     clear hb
     cases bi
     ·
      have HR : Hid (x = (12 : Int) + (p.client.size : Int) + (2 : Int) + (p.wT.size : Int) + (2 : Int) + (p.wP.n : Int) + (2 : Int) + (p.pass.n : Int)) := by have hv := HV.out; show _ = _; rw [HX.out, rsz, nid, HI.out, if_neg (by decide)]; omega
      go_wp2
      go_ret
      exact ⟨by rw [HR.out]; rfl, B1.out⟩
     ·
      have HR : Hid (x = (12 : Int) + (p.client.size : Int) + (2 : Int) + (p.wT.size : Int) + (2 : Int) + (p.wP.n : Int) + (2 : Int) + (p.pass.n : Int) + 2) := by have hv := HV.out; show _ = _; rw [HX.out, rsz, nid, HI.out, if_pos rfl]; omega
      go_wp2
      go_ret
      exact ⟨by rw [HR.out]; rfl, B1.out⟩
    case false =>
     rw [hp] at c12
     have hS := SM.out
     have s1 := hS.cl; have s2 := hS.us; have s3 := hS.wt; have s4 := hS.mt; have s5 := hS.wp; have s6 := hS.ps; have s7 := hS.mp; have s8 := hS.cn
     have v0 : IntKind.i64.wrap ((12 : Int) + (p.client.size : Int)) = (12 : Int) + (p.client.size : Int) := by rw [IntKind.wrap_i64]; omega
     have v1 : IntKind.i64.wrap ((12 : Int) + (p.client.size : Int) + (2 : Int)) = (12 : Int) + (p.client.size : Int) + (2 : Int) := by rw [IntKind.wrap_i64]; omega
     have v2 : IntKind.i64.wrap ((12 : Int) + (p.client.size : Int) + (2 : Int) + (p.wT.size : Int)) = (12 : Int) + (p.client.size : Int) + (2 : Int) + (p.wT.size : Int) := by rw [IntKind.wrap_i64]; omega
     have v3 : IntKind.i64.wrap ((12 : Int) + (p.client.size : Int) + (2 : Int) + (p.wT.size : Int) + (2 : Int)) = (12 : Int) + (p.client.size : Int) + (2 : Int) + (p.wT.size : Int) + (2 : Int) := by rw [IntKind.wrap_i64]; omega
     have v4 : IntKind.i64.wrap ((12 : Int) + (p.client.size : Int) + (2 : Int) + (p.wT.size : Int) + (2 : Int) + (p.wP.n : Int)) = (12 : Int) + (p.client.size : Int) + (2 : Int) + (p.wT.size : Int) + (2 : Int) + (p.wP.n : Int) := by rw [IntKind.wrap_i64]; omega
     clear hS s1 s2 s3 s4 s5 s6 s7 s8
     have HV : Hid ((rb p c : Int) = (12 : Int) + (p.client.size : Int) + (2 : Int) + (p.wT.size : Int) + (2 : Int) + (p.wP.n : Int)) := by show _ = _; rw [show rb p c = 12 + p.client.size + (4 + p.wT.size + p.wP.n) by simp [rb, szc, k1, hw, hu, hp]]; push_cast; omega
     have HL : Hid (((12 : Int) + (p.client.size : Int) + (2 : Int) + (p.wT.size : Int) + (2 : Int) + (p.wP.n : Int) : Int) ≤ 300000000 ∧ 0 ≤ ((12 : Int) + (p.client.size : Int) + (2 : Int) + (p.wT.size : Int) + (2 : Int) + (p.wP.n : Int) : Int)) := by have hS := SM.out; have s1 := hS.cl; have s2 := hS.us; have s3 := hS.wt; have s4 := hS.mt; have s5 := hS.wp; have s6 := hS.ps; have s7 := hS.mp; have s8 := hS.cn; have s9 := hS.sa; have s10 := hS.sf; have hv := HV.out; show _ ∧ _; (try have hn := HN.out); constructor <;> omega
     have hwl : IntKind.i64.wrap ((12 : Int) + (p.client.size : Int) + (2 : Int) + (p.wT.size : Int) + (2 : Int) + (p.wP.n : Int) + 2) = (12 : Int) + (p.client.size : Int) + (2 : Int) + (p.wT.size : Int) + (2 : Int) + (p.wP.n : Int) + 2 := by rw [IntKind.wrap_i64]; have := HL.out; omega
     go_wp2_with (first | (refine wpList_load_wanted rfl _ rfl w.heap.size rfl P (0, 0) g0.out SP.out ?_) | fail)
     go_must (go_at_call 159)
     refine NU2.out.mono ?_
     rintro e w1 ⟨rfl, hb⟩
     have B1 : Hid (Below w.heap.size w w1) := b0.out.trans (hb.mono b0.out.size)
     clear hb
     cases bi
     ·
      have HR : Hid (x = (12 : Int) + (p.client.size : Int) + (2 : Int) + (p.wT.size : Int) + (2 : Int) + (p.wP.n : Int)) := by have hv := HV.out; show _ = _; rw [HX.out, rsz, nid, HI.out, if_neg (by decide)]; omega
      go_wp2
      go_ret
      exact ⟨by rw [HR.out]; rfl, B1.out⟩
     ·
      have HR : Hid (x = (12 : Int) + (p.client.size : Int) + (2 : Int) + (p.wT.size : Int) + (2 : Int) + (p.wP.n : Int) + 2) := by have hv := HV.out; show _ = _; rw [HX.out, rsz, nid, HI.out, if_pos rfl]; omega
      go_wp2
      go_ret
      exact ⟨by rw [HR.out]; rfl, B1.out⟩
  case false =>
   rw [hw] at c5
   cases hu : p.hasUser
   case true =>
    rw [hu] at c10
    cases hp : p.hasPass
    case true =>
     rw [hp] at c12
     have hS := SM.out
     have s1 := hS.cl; have s2 := hS.us; have s3 := hS.wt; have s4 := hS.mt; have s5 := hS.wp; have s6 := hS.ps; have s7 := hS.mp; have s8 := hS.cn
     have v0 : IntKind.i64.wrap ((12 : Int) + (p.client.size : Int)) = (12 : Int) + (p.client.size : Int) := by rw [IntKind.wrap_i64]; omega
     have v1 : IntKind.i64.wrap ((12 : Int) + (p.client.size : Int) + (2 : Int)) = (12 : Int) + (p.client.size : Int) + (2 : Int) := by rw [IntKind.wrap_i64]; omega
     have v2 : IntKind.i64.wrap ((12 : Int) + (p.client.size : Int) + (2 : Int) + (p.user.size : Int)) = (12 : Int) + (p.client.size : Int) + (2 : Int) + (p.user.size : Int) := by rw [IntKind.wrap_i64]; omega
     have v3 : IntKind.i64.wrap ((12 : Int) + (p.client.size : Int) + (2 : Int) + (p.user.size : Int) + (2 : Int)) = (12 : Int) + (p.client.size : Int) + (2 : Int) + (p.user.size : Int) + (2 : Int) := by rw [IntKind.wrap_i64]; omega
     have v4 : IntKind.i64.wrap ((12 : Int) + (p.client.size : Int) + (2 : Int) + (p.user.size : Int) + (2 : Int) + (p.pass.n : Int)) = (12 : Int) + (p.client.size : Int) + (2 : Int) + (p.user.size : Int) + (2 : Int) + (p.pass.n : Int) := by rw [IntKind.wrap_i64]; omega
     clear hS s1 s2 s3 s4 s5 s6 s7 s8
     have HV : Hid ((rb p c : Int) = (12 : Int) + (p.client.size : Int) + (2 : Int) + (p.user.size : Int) + (2 : Int) + (p.pass.n : Int)) := by show _ = _; rw [show rb p c = 12 + p.client.size + (2 + p.user.size) + (2 + p.pass.n) by simp [rb, szc, k1, hw, hu, hp]]; push_cast; omega
     have HL : Hid (((12 : Int) + (p.client.size : Int) + (2 : Int) + (p.user.size : Int) + (2 : Int) + (p.pass.n : Int) : Int) ≤ 300000000 ∧ 0 ≤ ((12 : Int) + (p.client.size : Int) + (2 : Int) + (p.user.size : Int) + (2 : Int) + (p.pass.n : Int) : Int)) := by have hS := SM.out; have s1 := hS.cl; have s2 := hS.us; have s3 := hS.wt; have s4 := hS.mt; have s5 := hS.wp; have s6 := hS.ps; have s7 := hS.mp; have s8 := hS.cn; have s9 := hS.sa; have s10 := hS.sf; have hv := HV.out; show _ ∧ _; (try have hn := HN.out); constructor <;> omega
     have hwl : IntKind.i64.wrap ((12 : Int) + (p.client.size : Int) + (2 : Int) + (p.user.size : Int) + (2 : Int) + (p.pass.n : Int) + 2) = (12 : Int) + (p.client.size : Int) + (2 : Int) + (p.user.size : Int) + (2 : Int) + (p.pass.n : Int) + 2 := by rw [IntKind.wrap_i64]; have := HL.out; omega
     go_wp2_with (first | (refine wpList_load_wanted rfl _ rfl w.heap.size rfl P (0, 0) g0.out SP.out ?_) | fail)
     go_must (go_at_call 159)
     refine NU2.out.mono ?_
     rintro e w1 ⟨rfl, hb⟩
     have B1 : Hid (Below w.heap.size w w1) := b0.out.trans (hb.mono b0.out.size)
     clear hb
     cases bi
     ·
      have HR : Hid (x = (12 : Int) + (p.client.size : Int) + (2 : Int) + (p.user.size : Int) + (2 : Int) + (p.pass.n : Int)) := by have hv := HV.out; show _ = _; rw [HX.out, rsz, nid, HI.out, if_neg (by decide)]; omega
      go_wp2
      go_ret
      exact ⟨by rw [HR.out]; rfl, B1.out⟩
     ·
      have HR : Hid (x = (12 : Int) + (p.client.size : Int) + (2 : Int) + (p.user.size : Int) + (2 : Int) + (p.pass.n : Int) + 2) := by have hv := HV.out; show _ = _; rw [HX.out, rsz, nid, HI.out, if_pos rfl]; omega
      go_wp2
      go_ret
      exact ⟨by rw [HR.out]; rfl, B1.out⟩
    case false =>
     rw [hp] at c12
     have hS := SM.out
     have s1 := hS.cl; have s2 := hS.us; have s3 := hS.wt; have s4 := hS.mt; have s5 := hS.wp; have s6 := hS.ps; have s7 := hS.mp; have s8 := hS.cn
     have v0 : IntKind.i64.wrap ((12 : Int) + (p.client.size : Int)) = (12 : Int) + (p.client.size : Int) := by rw [IntKind.wrap_i64]; omega
     have v1 : IntKind.i64.wrap ((12 : Int) + (p.client.size : Int) + (2 : Int)) = (12 : Int) + (p.client.size : Int) + (2 : Int) := by rw [IntKind.wrap_i64]; omega
     have v2 : IntKind.i64.wrap ((12 : Int) + (p.client.size : Int) + (2 : Int) + (p.user.size : Int)) = (12 : Int) + (p.client.size : Int) + (2 : Int) + (p.user.size : Int) := by rw [IntKind.wrap_i64]; omega
     clear hS s1 s2 s3 s4 s5 s6 s7 s8
     have HV : Hid ((rb p c : Int) = (12 : Int) + (p.client.size : Int) + (2 : Int) + (p.user.size : Int)) := by show _ = _; rw [show rb p c = 12 + p.client.size + (2 + p.user.size) by simp [rb, szc, k1, hw, hu, hp]]; push_cast; omega
     have HL : Hid (((12 : Int) + (p.client.size : Int) + (2 : Int) + (p.user.size : Int) : Int) ≤ 300000000 ∧ 0 ≤ ((12 : Int) + (p.client.size : Int) + (2 : Int) + (p.user.size : Int) : Int)) := by have hS := SM.out; have s1 := hS.cl; have s2 := hS.us; have s3 := hS.wt; have s4 := hS.mt; have s5 := hS.wp; have s6 := hS.ps; have s7 := hS.mp; have s8 := hS.cn; have s9 := hS.sa; have s10 := hS.sf; have hv := HV.out; show _ ∧ _; (try have hn := HN.out); constructor <;> omega
     have hwl : IntKind.i64.wrap ((12 : Int) + (p.client.size : Int) + (2 : Int) + (p.user.size : Int) + 2) = (12 : Int) + (p.client.size : Int) + (2 : Int) + (p.user.size : Int) + 2 := by rw [IntKind.wrap_i64]; have := HL.out; omega
     go_wp2_with (first | (refine wpList_load_wanted rfl _ rfl w.heap.size rfl P (0, 0) g0.out SP.out ?_) | fail)
     go_must (go_at_call 159)
     refine NU2.out.mono ?_
     rintro e w1 ⟨rfl, hb⟩
     have B1 : Hid (Below w.heap.size w w1) := b0.out.trans (hb.mono b0.out.size)
     clear hb
     cases bi
     ·
      have HR : Hid (x = (12 : Int) + (p.client.size : Int) + (2 : Int) + (p.user.size : Int)) := by have hv := HV.out; show _ = _; rw [HX.out, rsz, nid, HI.out, if_neg (by decide)]; omega
      go_wp2
      go_ret
      exact ⟨by rw [HR.out]; rfl, B1.out⟩
     ·
      have HR : Hid (x = (12 : Int) + (p.client.size : Int) + (2 : Int) + (p.user.size : Int) + 2) := by have hv := HV.out; show _ = _; rw [HX.out, rsz, nid, HI.out, if_pos rfl]; omega
      go_wp2
      go_ret
      exact ⟨by rw [HR.out]; rfl, B1.out⟩
   case false =>
    rw [hu] at c10
    cases hp : p.hasPass
    case true =>
     rw [hp] at c12
     have hS := SM.out
     have s1 := hS.cl; have s2 := hS.us; have s3 := hS.wt; have s4 := hS.mt; have s5 := hS.wp; have s6 := hS.ps; have s7 := hS.mp; have s8 := hS.cn
     have v0 : IntKind.i64.wrap ((12 : Int) + (p.client.size : Int)) = (12 : Int) + (p.client.size : Int) := by rw [IntKind.wrap_i64]; omega
     have v1 : IntKind.i64.wrap ((12 : Int) + (p.client.size : Int) + (2 : Int)) = (12 : Int) + (p.client.size : Int) + (2 : Int) := by rw [IntKind.wrap_i64]; omega
     have v2 : IntKind.i64.wrap ((12 : Int) + (p.client.size : Int) + (2 : Int) + (p.pass.n : Int)) = (12 : Int) + (p.client.size : Int) + (2 : Int) + (p.pass.n : Int) := by rw [IntKind.wrap_i64]; omega
     clear hS s1 s2 s3 s4 s5 s6 s7 s8
     have HV : Hid ((rb p c : Int) = (12 : Int) + (p.client.size : Int) + (2 : Int) + (p.pass.n : Int)) := by show _ = _; rw [show rb p c = 12 + p.client.size + (2 + p.pass.n) by simp [rb, szc, k1, hw, hu, hp]]; push_cast; omega
     have HL : Hid (((12 : Int) + (p.client.size : Int) + (2 : Int) + (p.pass.n : Int) : Int) ≤ 300000000 ∧ 0 ≤ ((12 : Int) + (p.client.size : Int) + (2 : Int) + (p.pass.n : Int) : Int)) := by have hS := SM.out; have s1 := hS.cl; have s2 := hS.us; have s3 := hS.wt; have s4 := hS.mt; have s5 := hS.wp; have s6 := hS.ps; have s7 := hS.mp; have s8 := hS.cn; have s9 := hS.sa; have s10 := hS.sf; have hv := HV.out; show _ ∧ _; (try have hn := HN.out); constructor <;> omega
     have hwl : IntKind.i64.wrap ((12 : Int) + (p.client.size : Int) + (2 : Int) + (p.pass.n : Int) + 2) = (12 : Int) + (p.client.size : Int) + (2 : Int) + (p.pass.n : Int) + 2 := by rw [IntKind.wrap_i64]; have := HL.out; omega
     go_wp2_with (first | (refine wpList_load_wanted rfl _ rfl w.heap.size rfl P (0, 0) g0.out SP.out ?_) | fail)
     go_must (go_at_call 159)
     refine NU2.out.mono ?_
     rintro e w1 ⟨rfl, hb⟩
     have B1 : Hid (Below w.heap.size w w1) := b0.out.trans (hb.mono b0.out.size)
     clear hb
     cases bi
     ·
      have HR : Hid (x = (12 : Int) + (p.client.size : Int) + (2 : Int) + (p.pass.n : Int)) := by have hv := HV.out; show _ = _; rw [HX.out, rsz, nid, HI.out, if_neg (by decide)]; omega
      go_wp2
      go_ret
      exact ⟨by rw [HR.out]; rfl, B1.out⟩
     ·
      have HR : Hid (x = (12 : Int) + (p.client.size : Int) + (2 : Int) + (p.pass.n : Int) + 2) := by have hv := HV.out; show _ = _; rw [HX.out, rsz, nid, HI.out, if_pos rfl]; omega
      go_wp2
      go_ret
      exact ⟨by rw [HR.out]; rfl, B1.out⟩
    case false =>
     rw [hp] at c12
     have hS := SM.out
     have s1 := hS.cl; have s2 := hS.us; have s3 := hS.wt; have s4 := hS.mt; have s5 := hS.wp; have s6 := hS.ps; have s7 := hS.mp; have s8 := hS.cn
     have v0 : IntKind.i64.wrap ((12 : Int) + (p.client.size : Int)) = (12 : Int) + (p.client.size : Int) := by rw [IntKind.wrap_i64]; omega
     clear hS s1 s2 s3 s4 s5 s6 s7 s8
     have HV : Hid ((rb p c : Int) = (12 : Int) + (p.client.size : Int)) := by show _ = _; rw [show rb p c = 12 + p.client.size by simp [rb, szc, k1, hw, hu, hp]]; push_cast; omega
     have HL : Hid (((12 : Int) + (p.client.size : Int) : Int) ≤ 300000000 ∧ 0 ≤ ((12 : Int) + (p.client.size : Int) : Int)) := by have hS := SM.out; have s1 := hS.cl; have s2 := hS.us; have s3 := hS.wt; have s4 := hS.mt; have s5 := hS.wp; have s6 := hS.ps; have s7 := hS.mp; have s8 := hS.cn; have s9 := hS.sa; have s10 := hS.sf; have hv := HV.out; show _ ∧ _; (try have hn := HN.out); constructor <;> omega
     have hwl : IntKind.i64.wrap ((12 : Int) + (p.client.size : Int) + 2) = (12 : Int) + (p.client.size : Int) + 2 := by rw [IntKind.wrap_i64]; have := HL.out; omega
     go_wp2_with (first | (refine wpList_load_wanted rfl _ rfl w.heap.size rfl P (0, 0) g0.out SP.out ?_) | fail)
     go_must (go_at_call 159)
     refine NU2.out.mono ?_
     rintro e w1 ⟨rfl, hb⟩
     have B1 : Hid (Below w.heap.size w w1) := b0.out.trans (hb.mono b0.out.size)
     clear hb
     cases bi
     ·
      have HR : Hid (x = (12 : Int) + (p.client.size : Int)) := by have hv := HV.out; show _ = _; rw [HX.out, rsz, nid, HI.out, if_neg (by decide)]; omega
      go_wp2
      go_ret
      exact ⟨by rw [HR.out]; rfl, B1.out⟩
     ·
      have HR : Hid (x = (12 : Int) + (p.client.size : Int) + 2) := by have hv := HV.out; show _ = _; rw [HX.out, rsz, nid, HI.out, if_pos rfl]; omega
      go_wp2
      go_ret
      exact ⟨by rw [HR.out]; rfl, B1.out⟩
 have e1 : (p.kind == 1) = false := by simpa using k1
 by_cases k2 : p.kind = 2
 ·
  have e2 : (p.kind == 2) = true := by rw [k2]; rfl
  have HV : Hid ((rb p c : Int) = (2 : Int)) := by show _ = _; rw [show rb p c = 2 by simp [rb, szc, k2]]; (try rfl)
  have HL : Hid (((2 : Int) : Int) ≤ 300000000 ∧ 0 ≤ ((2 : Int) : Int)) := by have hS := SM.out; have s1 := hS.cl; have s2 := hS.us; have s3 := hS.wt; have s4 := hS.mt; have s5 := hS.wp; have s6 := hS.ps; have s7 := hS.mp; have s8 := hS.cn; have s9 := hS.sa; have s10 := hS.sf; have hv := HV.out; show _ ∧ _; (try have hn := HN.out); constructor <;> omega
  have hwl : IntKind.i64.wrap ((2 : Int) + 2) = (2 : Int) + 2 := by rw [IntKind.wrap_i64]; have := HL.out; omega
  go_wp2_with (first | (refine wpList_load_wanted rfl _ rfl w.heap.size rfl P (0, 0) g0.out SP.out ?_) | fail)
  go_must (go_at_call 159)
  refine NU2.out.mono ?_
  rintro e w1 ⟨rfl, hb⟩
  have B1 : Hid (Below w.heap.size w w1) := b0.out.trans (hb.mono b0.out.size)
  clear hb
  cases bi
  ·
   have HR : Hid (x = (2 : Int)) := by have hv := HV.out; show _ = _; rw [HX.out, rsz, nid, HI.out, if_neg (by decide)]; omega
   go_wp2
   go_ret
   exact ⟨by rw [HR.out]; rfl, B1.out⟩
  ·
   have HR : Hid (x = (2 : Int) + 2) := by have hv := HV.out; show _ = _; rw [HX.out, rsz, nid, HI.out, if_pos rfl]; omega
   go_wp2
   go_ret
   exact ⟨by rw [HR.out]; rfl, B1.out⟩
 have e2 : (p.kind == 2) = false := by simpa using k2
 by_cases k3 : p.kind = 3
 ·
  have e3 : (p.kind == 3) = true := by rw [k3]; rfl
  have c17 := FA.out 17 (.string p.mT) rfl
  have c18 := FA.out 18 (.slice p.mP.a p.mP.n p.mP.c) rfl
  have hS := SM.out
  have s1 := hS.cl; have s2 := hS.us; have s3 := hS.wt; have s4 := hS.mt; have s5 := hS.wp; have s6 := hS.ps; have s7 := hS.mp; have s8 := hS.cn
  have v0 : IntKind.i64.wrap ((2 : Int) + (p.mT.size : Int)) = (2 : Int) + (p.mT.size : Int) := by rw [IntKind.wrap_i64]; omega
  have v1 : IntKind.i64.wrap ((2 : Int) + (p.mT.size : Int) + (p.mP.n : Int)) = (2 : Int) + (p.mT.size : Int) + (p.mP.n : Int) := by rw [IntKind.wrap_i64]; omega
  clear hS s1 s2 s3 s4 s5 s6 s7 s8
  have HV : Hid ((rb p c : Int) = (2 : Int) + (p.mT.size : Int) + (p.mP.n : Int)) := by show _ = _; rw [show rb p c = 2 + p.mT.size + p.mP.n by simp [rb, szc, k3]]; push_cast; omega
  have HL : Hid (((2 : Int) + (p.mT.size : Int) + (p.mP.n : Int) : Int) ≤ 300000000 ∧ 0 ≤ ((2 : Int) + (p.mT.size : Int) + (p.mP.n : Int) : Int)) := by have hS := SM.out; have s1 := hS.cl; have s2 := hS.us; have s3 := hS.wt; have s4 := hS.mt; have s5 := hS.wp; have s6 := hS.ps; have s7 := hS.mp; have s8 := hS.cn; have s9 := hS.sa; have s10 := hS.sf; have hv := HV.out; show _ ∧ _; (try have hn := HN.out); constructor <;> omega
  have hwl : IntKind.i64.wrap ((2 : Int) + (p.mT.size : Int) + (p.mP.n : Int) + 2) = (2 : Int) + (p.mT.size : Int) + (p.mP.n : Int) + 2 := by rw [IntKind.wrap_i64]; have := HL.out; omega
  go_wp2_with (first | (refine wpList_load_wanted rfl _ rfl w.heap.size rfl P (0, 0) g0.out SP.out ?_) | fail)
  go_must (go_at_call 159)
  refine NU2.out.mono ?_
  rintro e w1 ⟨rfl, hb⟩
  have B1 : Hid (Below w.heap.size w w1) := b0.out.trans (hb.mono b0.out.size)
  clear hb
  cases bi
  ·
   have HR : Hid (x = (2 : Int) + (p.mT.size : Int) + (p.mP.n : Int)) := by have hv := HV.out; show _ = _; rw [HX.out, rsz, nid, HI.out, if_neg (by decide)]; omega
   go_wp2
   go_ret
   exact ⟨by rw [HR.out]; rfl, B1.out⟩
  ·
   have HR : Hid (x = (2 : Int) + (p.mT.size : Int) + (p.mP.n : Int) + 2) := by have hv := HV.out; show _ = _; rw [HX.out, rsz, nid, HI.out, if_pos rfl]; omega
   go_wp2
   go_ret
   exact ⟨by rw [HR.out]; rfl, B1.out⟩
 have e3 : (p.kind == 3) = false := by simpa using k3
 by_cases k8 : p.kind = 8
 ·
  have e8 : (p.kind == 8) = true := by rw [k8]; rfl
  have c22 := FA.out 22 (.slice p.asks.a p.asks.n p.asks.c) rfl
  go_wp2_with fail
  go_loopg [3, 4] p.asks.n (fun g s3 s4 wx => wx = W ∧ ∃ k N : Nat, s4 = .int .i64 k ∧ s3 = .int .i64 N ∧ k + g = p.asks.n ∧ Hid (N = sumN (fun i => 3 + (c.af i).size) k))
  case atStart => exact ⟨rfl, 0, 0, rfl, rfl, by omega, rfl⟩
  case round =>
   obtain ⟨hw0, k, N, rfl, rfl, hkg, HN⟩ := hrel
   obtain rfl := hw0.symm
   clear hw0
   by_cases hk : k < p.asks.n
   ·
    have hk' : (k : Int) < p.asks.n := by omega
    obtain ⟨b, off, he, hc⟩ : ∃ b off, p.asks.a = some ⟨b, off, none⟩ ∧ ∀ i, i < p.asks.n → (W.cell? ⟨b, off + i * 2, none⟩ = some (.string (c.af i)) ∧ W.cell? ⟨b, off + i * 2 + 1, none⟩ = some (.int .i64 (c.aq i))) := by
     rcases HA.out.2 with h | h
     ·
      omega
     ·
      exact h
    have hac : p.asks.n ≤ p.asks.c := HA.out.1
    rw [he] at c22
    have d1 := (hc k hk).1
    have hb : N + (3 + (c.af k).size) ≤ 100000000 := by have h1 := sumN_step (fun i => 3 + (c.af i).size) p.asks.n k hk; have h2 := SM.out.sa; have h3 := HN.out; omega
    have hw1 : IntKind.i64.wrap ((N : Int) + 3) = (N : Int) + 3 := by rw [IntKind.wrap_i64]; omega
    have hw2 : IntKind.i64.wrap ((N : Int) + 3 + (c.af k).size) = (N : Int) + 3 + (c.af k).size := by rw [IntKind.wrap_i64]; omega
    have hw3 : IntKind.i64.wrap ((k : Int) + 1) = (k : Int) + 1 := by rw [IntKind.wrap_i64]; have := SM.out.an; omega
    have HN2 : Hid (N + (3 + (c.af k).size) = sumN (fun i => 3 + (c.af i).size) (k + 1)) := by show _ = sumN (fun i => 3 + (c.af i).size) k + (3 + (c.af k).size); rw [HN.out]
    clear hc he hb
    go_wp2
    go_roundg (p.asks.n - (k + 1))
    case measure => omega
    case rel => exact ⟨rfl, k + 1, N + (3 + (c.af k).size), by first | rfl | simp, by congr 1; push_cast; omega, by omega, HN2⟩
   ·
    obtain rfl : k = p.asks.n := by omega
    have hk' : ¬ (p.asks.n : Int) < p.asks.n := by omega
    have HV : Hid ((rb p c : Int) = (N : Int)) := by show _ = _; rw [HN.out]; simp [rb, k8]
    have HL : Hid (((N : Int) : Int) ≤ 300000000 ∧ 0 ≤ ((N : Int) : Int)) := by have hS := SM.out; have s1 := hS.cl; have s2 := hS.us; have s3 := hS.wt; have s4 := hS.mt; have s5 := hS.wp; have s6 := hS.ps; have s7 := hS.mp; have s8 := hS.cn; have s9 := hS.sa; have s10 := hS.sf; have hv := HV.out; show _ ∧ _; (try have hn := HN.out); constructor <;> omega
    have hwl : IntKind.i64.wrap ((N : Int) + 2) = (N : Int) + 2 := by rw [IntKind.wrap_i64]; have := HL.out; omega
    go_wp2_with (first | (refine wpList_load_wanted rfl _ rfl w.heap.size rfl P (0, 0) g0.out SP.out ?_) | fail)
    go_must (go_at_call 159)
    refine NU2.out.mono ?_
    rintro e w1 ⟨rfl, hb⟩
    have B1 : Hid (Below w.heap.size w w1) := b0.out.trans (hb.mono b0.out.size)
    clear hb
    cases bi
    ·
     have HR : Hid (x = (N : Int)) := by have hv := HV.out; show _ = _; rw [HX.out, rsz, nid, HI.out, if_neg (by decide)]; omega
     go_wp2
     go_ret
     exact ⟨by rw [HR.out]; rfl, B1.out⟩
    ·
     have HR : Hid (x = (N : Int) + 2) := by have hv := HV.out; show _ = _; rw [HX.out, rsz, nid, HI.out, if_pos rfl]; omega
     go_wp2
     go_ret
     exact ⟨by rw [HR.out]; rfl, B1.out⟩
 have e8 : (p.kind == 8) = false := by simpa using k8
 by_cases k9 : p.kind = 9
 ·
  have e9 : (p.kind == 9) = true := by rw [k9]; rfl
  have c23 := FA.out 23 (.slice p.codes.a p.codes.n p.codes.c) rfl
  have HV : Hid ((rb p c : Int) = (p.codes.n : Int)) := by show _ = _; rw [show rb p c = p.codes.n by simp [rb, szc, k9]]; (try rfl)
  have HL : Hid (((p.codes.n : Int) : Int) ≤ 300000000 ∧ 0 ≤ ((p.codes.n : Int) : Int)) := by have hS := SM.out; have s1 := hS.cl; have s2 := hS.us; have s3 := hS.wt; have s4 := hS.mt; have s5 := hS.wp; have s6 := hS.ps; have s7 := hS.mp; have s8 := hS.cn; have s9 := hS.sa; have s10 := hS.sf; have hv := HV.out; show _ ∧ _; (try have hn := HN.out); constructor <;> omega
  have hwl : IntKind.i64.wrap ((p.codes.n : Int) + 2) = (p.codes.n : Int) + 2 := by rw [IntKind.wrap_i64]; have := HL.out; omega
  go_wp2_with (first | (refine wpList_load_wanted rfl _ rfl w.heap.size rfl P (0, 0) g0.out SP.out ?_) | fail)
  go_must (go_at_call 159)
  refine NU2.out.mono ?_
  rintro e w1 ⟨rfl, hb⟩
  have B1 : Hid (Below w.heap.size w w1) := b0.out.trans (hb.mono b0.out.size)
  clear hb
  cases bi
  ·
   have HR : Hid (x = (p.codes.n : Int)) := by have hv := HV.out; show _ = _; rw [HX.out, rsz, nid, HI.out, if_neg (by decide)]; omega
   go_wp2
   go_ret
   exact ⟨by rw [HR.out]; rfl, B1.out⟩
  ·
   have HR : Hid (x = (p.codes.n : Int) + 2) := by have hv := HV.out; show _ = _; rw [HX.out, rsz, nid, HI.out, if_pos rfl]; omega
   go_wp2
   go_ret
   exact ⟨by rw [HR.out]; rfl, B1.out⟩
 have e9 : (p.kind == 9) = false := by simpa using k9
 by_cases k10 : p.kind = 10
 ·
  have e10 : (p.kind == 10) = true := by rw [k10]; rfl
  have c24 := FA.out 24 (.slice p.filters.a p.filters.n p.filters.c) rfl
  go_wp2_with fail
  go_loopg [3, 5] p.filters.n (fun g s3 s5 wx => wx = W ∧ ∃ k N : Nat, s5 = .int .i64 k ∧ s3 = .int .i64 N ∧ k + g = p.filters.n ∧ Hid (N = sumN (fun i => 2 + (c.fs i).size) k))
  case atStart => exact ⟨rfl, 0, 0, rfl, rfl, by omega, rfl⟩
  case round =>
   obtain ⟨hw0, k, N, rfl, rfl, hkg, HN⟩ := hrel
   obtain rfl := hw0.symm
   clear hw0
   by_cases hk : k < p.filters.n
   ·
    have hk' : (k : Int) < p.filters.n := by omega
    obtain ⟨b, off, he, hc⟩ : ∃ b off, p.filters.a = some ⟨b, off, none⟩ ∧ ∀ i, i < p.filters.n → W.cell? ⟨b, off + i, none⟩ = some (.string (c.fs i)) := by
     rcases HS.out.2 with h | h
     ·
      omega
     ·
      exact h
    have hac : p.filters.n ≤ p.filters.c := HS.out.1
    rw [he] at c24
    have d1 := hc k hk
    have hb : N + (2 + (c.fs k).size) ≤ 100000000 := by have h1 := sumN_step (fun i => 2 + (c.fs i).size) p.filters.n k hk; have h2 := SM.out.sf; have h3 := HN.out; omega
    have hw1 : IntKind.i64.wrap ((N : Int) + 2) = (N : Int) + 2 := by rw [IntKind.wrap_i64]; omega
    have hw2 : IntKind.i64.wrap ((N : Int) + 2 + (c.fs k).size) = (N : Int) + 2 + (c.fs k).size := by rw [IntKind.wrap_i64]; omega
    have hw3 : IntKind.i64.wrap ((k : Int) + 1) = (k : Int) + 1 := by rw [IntKind.wrap_i64]; have := SM.out.fn; omega
    have HN2 : Hid (N + (2 + (c.fs k).size) = sumN (fun i => 2 + (c.fs i).size) (k + 1)) := by show _ = sumN (fun i => 2 + (c.fs i).size) k + (2 + (c.fs k).size); rw [HN.out]
    clear hc he hb
    go_wp2
    go_roundg (p.filters.n - (k + 1))
    case measure => omega
    case rel => exact ⟨rfl, k + 1, N + (2 + (c.fs k).size), by first | rfl | simp, by congr 1; push_cast; omega, by omega, HN2⟩
   ·
    obtain rfl : k = p.filters.n := by omega
    have hk' : ¬ (p.filters.n : Int) < p.filters.n := by omega
    have HV : Hid ((rb p c : Int) = (N : Int)) := by show _ = _; rw [HN.out]; simp [rb, k10]
    have HL : Hid (((N : Int) : Int) ≤ 300000000 ∧ 0 ≤ ((N : Int) : Int)) := by have hS := SM.out; have s1 := hS.cl; have s2 := hS.us; have s3 := hS.wt; have s4 := hS.mt; have s5 := hS.wp; have s6 := hS.ps; have s7 := hS.mp; have s8 := hS.cn; have s9 := hS.sa; have s10 := hS.sf; have hv := HV.out; show _ ∧ _; (try have hn := HN.out); constructor <;> omega
    have hwl : IntKind.i64.wrap ((N : Int) + 2) = (N : Int) + 2 := by rw [IntKind.wrap_i64]; have := HL.out; omega
    go_wp2_with (first | (refine wpList_load_wanted rfl _ rfl w.heap.size rfl P (0, 0) g0.out SP.out ?_) | fail)
    go_must (go_at_call 159)
    refine NU2.out.mono ?_
    rintro e w1 ⟨rfl, hb⟩
    have B1 : Hid (Below w.heap.size w w1) := b0.out.trans (hb.mono b0.out.size)
    clear hb
    cases bi
    ·
     have HR : Hid (x = (N : Int)) := by have hv := HV.out; show _ = _; rw [HX.out, rsz, nid, HI.out, if_neg (by decide)]; omega
     go_wp2
     go_ret
     exact ⟨by rw [HR.out]; rfl, B1.out⟩
    ·
     have HR : Hid (x = (N : Int) + 2) := by have hv := HV.out; show _ = _; rw [HX.out, rsz, nid, HI.out, if_pos rfl]; omega
     go_wp2
     go_ret
     exact ⟨by rw [HR.out]; rfl, B1.out⟩
 have e10 : (p.kind == 10) = false := by simpa using k10
 have HV : Hid ((rb p c : Int) = (0 : Int)) := by show _ = _; simp [rb, k1, k2, k3, k8, k9, k10]
 have HL : Hid (((0 : Int) : Int) ≤ 300000000 ∧ 0 ≤ ((0 : Int) : Int)) := by have hS := SM.out; have s1 := hS.cl; have s2 := hS.us; have s3 := hS.wt; have s4 := hS.mt; have s5 := hS.wp; have s6 := hS.ps; have s7 := hS.mp; have s8 := hS.cn; have s9 := hS.sa; have s10 := hS.sf; have hv := HV.out; show _ ∧ _; (try have hn := HN.out); constructor <;> omega
 have hwl : IntKind.i64.wrap ((0 : Int) + 2) = (0 : Int) + 2 := by rw [IntKind.wrap_i64]; have := HL.out; omega
 go_wp2_with (first | (refine wpList_load_wanted rfl _ rfl w.heap.size rfl P (0, 0) g0.out SP.out ?_) | fail)
 go_must (go_at_call 159)
 refine NU2.out.mono ?_
 rintro e w1 ⟨rfl, hb⟩
 have B1 : Hid (Below w.heap.size w w1) := b0.out.trans (hb.mono b0.out.size)
 clear hb
 cases bi
 ·
  have HR : Hid (x = (0 : Int)) := by have hv := HV.out; show _ = _; rw [HX.out, rsz, nid, HI.out, if_neg (by decide)]; omega
  go_wp2
  go_ret
  exact ⟨by rw [HR.out]; rfl, B1.out⟩
 ·
  have HR : Hid (x = (0 : Int) + 2) := by have hv := HV.out; show _ = _; rw [HX.out, rsz, nid, HI.out, if_pos rfl]; omega
  go_wp2
  go_ret
  exact ⟨by rw [HR.out]; rfl, B1.out⟩
theorem sumN_zero (f : Nat → Nat) {n : Nat} (h : n = 0) : sumN f n = 0 := by subst h; rfl
theorem sz_rsz {p : Pk} {c : Cn} (h : Own p) : sz p c = rsz p c := by
 unfold sz rsz rb
 by_cases k1 : p.kind = 1
 ·
  have : nid p = 0 := by simp [nid, hasID, k1]
  rw [if_pos k1, if_pos k1, this]; rfl
 rw [if_neg k1, if_neg k1]
 by_cases k2 : p.kind = 2
 ·
  have : nid p = 0 := by simp [nid, hasID, k2]
  rw [if_pos k2, if_pos k2, this]
 rw [if_neg k2, if_neg k2]
 by_cases k3 : p.kind = 3
 ·
  rw [if_pos k3, if_pos k3]; omega
 rw [if_neg k3, if_neg k3]
 by_cases k8 : p.kind = 8
 ·
  rw [if_pos k8, sumN_zero (fun i => 2 + (c.fs i).size) (h.filters (by omega)), h.codes (by omega)]; omega
 rw [if_neg k8, sumN_zero (fun i => 3 + (c.af i).size) (h.asks k8)]
 by_cases k9 : p.kind = 9
 ·
  rw [if_pos k9, sumN_zero (fun i => 2 + (c.fs i).size) (h.filters (by omega))]; omega
 rw [if_neg k9, h.codes k9]
 by_cases k10 : p.kind = 10
 ·
  rw [if_pos k10]; omega
 rw [if_neg k10, sumN_zero (fun i => 2 + (c.fs i).size) (h.filters k10)]; omega
theorem topb_ne (s : ByteArray) : topb s = !(tcode s != 0) := by
 unfold topb
 cases h : (tcode s == 0) <;> simp_all
theorem tps_rtps {p : Pk} (h : Own p) : tps TT p = rtps p := by
 have h1 := h.hasWill
 unfold tps rtps
 show (!(p.hasWill && !topb p.wT) && (decide (p.kind ≠ 3) || topb p.mT)) = _
 rw [topb_ne, topb_ne]
 by_cases k1 : p.kind = 1
 ·
  simp [k1]
 ·
  rw [h1 k1]
  by_cases k3 : p.kind = 3 <;> simp [k1, k3]
theorem isQ_zero {q : Int} (h : q = 0) : isQ q = true := by subst h; rfl
theorem qls_rqls {p : Pk} {c : Cn} (h : Own p) : qls p c = rqls p c := by
 unfold qls rqls
 have e : (isQ p.wQ && isQ p.mQ) = !qA p := by
  unfold qA
  by_cases k1 : p.kind = 1
  ·
   have hm : isQ p.mQ = true := isQ_zero (h.msg (by omega)).2.1
   cases hw : p.hasWill
   ·
    have hq : isQ p.wQ = true := isQ_zero (h.will (by simp [hw])).2.1
    simp [k1, hw, hm, hq]
   ·
    cases hq : isQ p.wQ <;> simp [k1, hw, hm, hq]
  ·
   have hq : isQ p.wQ = true := isQ_zero (h.will (fun hh => k1 hh.1)).2.1
   by_cases k3 : p.kind = 3
   ·
    cases hm : isQ p.mQ <;> simp [k1, k3, hq, hm]
   ·
    have hm : isQ p.mQ = true := isQ_zero (h.msg k3).2.1
    simp [k1, k3, hq, hm]
 rw [e]
end Go.Proofs.YtphofgnehdlafaaGreatDoor.Pkt
