import Derived.Test.YtdhinpmjbcohaaaSiL
namespace Go.Proofs.Ytdhinpmjbcohaaa.Si
open Go Go.RowKit
set_option linter.unusedSimpArgs false
set_option linter.unusedVariables false

/-- A cache of one's own, made since a world. -/
def St (w0 w : World) (cb room : Nat) (l : List (Ky × Vt)) : Prop := ∃ F, CS w cb room l F ∧ (∀ j, F j → w0.heap.size ≤ j) ∧ Ch (fun j => w0.heap.size ≤ j) w0 w
theorem St.below {w0 w : World} {cb room : Nat} {l : List (Ky × Vt)} (h : St w0 w cb room l) : Below w0.heap.size w0 w := by
  obtain ⟨F, h1, h2, h3⟩ := h
  exact ⟨h3.os, h3.tape, h3.output, h3.size, fun k hk => h3.block k hk (by omega)⟩
set_option maxRecDepth 100000 in
set_option maxHeartbeats 1000000 in
theorem oldest_none {cb : Nat} (w : World) (c1 : w.cell? ⟨cb, 1, none⟩ = some (.pointer none)) : Calls Try.prog 38 #[pt cb] w fun r w' => r = .returned (.tuple #[kc ⟨#[]⟩, .bool false]) ∧ w' = w := by
  unfold pt kc at *
  go_enter Try.func38, Try.ntmps38
  go_wp2_with fail
  go_ret2
  exact ⟨rfl, rfl⟩
set_option maxRecDepth 100000 in
set_option maxHeartbeats 1000000 in
theorem oldest_some {cb x q : Nat} {k : Ky} {v : Vt} (w : World) (c1 : w.cell? ⟨cb, 1, none⟩ = some (pt x)) (cx : w.cell? ⟨x, 0, none⟩ = some (pt q)) (he : EC w q k v) : Calls Try.prog 38 #[pt cb] w fun r w' => r = .returned (.tuple #[kc k, .bool true]) ∧ w' = w := by
  obtain ⟨a0, a1, hE⟩ := he
  have k2 : w.cell? ⟨q, 2, none⟩ = some (.string k) := box_cells hE 2 _ rfl
  clear hE
  unfold pt kc at *
  go_enter Try.func38, Try.ntmps38
  go_wp2_with fail
  go_ret2
  exact ⟨rfl, rfl⟩
theorem oldest_any {w : World} {cb room : Nat} {l : List (Ky × Vt)} {F : Nat → Prop} (h : CS w cb room l F) : Calls Try.prog 38 #[pt cb] w fun r w' => r = .returned (.tuple #[kc ((l.getLast?.map (·.1)).getD ⟨#[]⟩), .bool l.getLast?.isSome]) ∧ w' = w := by
  obtain ⟨mv, L, n, o, ky, vl, h, rfl, hF, hl⟩ := h
  cases L with
  | nil => exact oldest_none w (box_cells h.at_ 1 _ rfl)
  | cons x T =>
    have hx := (ring_mem h.ring).1
    have hlast := ring_last h.ring
    have e1 : ((x :: T).map (fun b => (ky b, vl b))).getLast? = some (ky (n x), vl (n x)) := by
      rw [List.getLast?_map, hlast]
      rfl
    rw [e1]
    exact oldest_some w (box_cells h.at_ 1 _ rfl) (box_cells (h.eb x (by simp)) 0 _ rfl) ⟨_, _, h.eb (n x) hx⟩
end Go.Proofs.Ytdhinpmjbcohaaa.Si
namespace Go.Proofs.Ytdhinpmjbcohaaa
open Go Go.RowKit
set_option linter.unusedSimpArgs false
set_option linter.unusedVariables false
open Si

end Go.Proofs.Ytdhinpmjbcohaaa
