import Derived.Test.YtdanjbbemmngnaaDoorLb
import Derived.Test.YtdanjbbemmngnaaDoorKw
import Derived.Great.BuildSlice
namespace Go.Proofs.YtdanjbbemmngnaaDoor
open Go Go.RowKit Go.Sort
set_option linter.unusedSimpArgs false
set_option linter.unusedVariables false
set_option maxRecDepth 100000

def nos : Sl := ⟨none, 0, 0⟩
def pk0 : Pk := ⟨0, 0, false, 0, ⟨#[]⟩, false, ⟨#[]⟩, nos, 0, false, false, ⟨#[]⟩, false, nos, false, 0, false, ⟨#[]⟩, nos, 0, false, 0, nos, nos, nos⟩
def pub (b : Nat) (id : Int) : Pk := { pk0 with kind := 3, mT := ⟨#[97]⟩, mP := ⟨some ⟨b, 0, none⟩, 3, 3⟩, mQ := 1, id := id }
def con : Pk := { pk0 with kind := 1, level := 4, clean := true, keep := 60, client := ⟨#[99]⟩ }
def sub : Pk := { pk0 with kind := 8, id := 1 }
def oneTwo (i : Nat) : Int := if i = 0 then 1 else if i = 1 then 2 else 3
def cn0 : Cn := ⟨fun _ => 0, fun _ => 0, oneTwo, fun _ => ⟨#[]⟩, fun _ => 0, fun _ => 0, fun _ => ⟨#[]⟩⟩
theorem ck_pub (b : Nat) : ck TT (pub b 7) cn0 = 0 := by kernel_rfl
theorem ck_pub0 (b : Nat) : ck TT (pub b 0) cn0 = 26 := by kernel_rfl
theorem ck_con : ck TT con cn0 = 0 := by kernel_rfl
theorem ck_sub : ck TT sub cn0 = 28 := by kernel_rfl
theorem fg_pub (b : Nat) : fg (pub b 7) = 2 := by kernel_rfl
theorem sz_pub (b : Nat) : sz (pub b 7) cn0 = 8 := by kernel_rfl
theorem sz_con : sz con cn0 = 13 := by kernel_rfl
theorem small_pub (b : Nat) (i : Int) : Small (pub b i) cn0 := by constructor <;> first | exact Nat.zero_le _ | exact (by decide : (1 : Nat) ≤ 1000000) | exact (by decide : (3 : Nat) ≤ 1000000)
theorem small_con : Small con cn0 := by constructor <;> first | exact Nat.zero_le _ | exact (by decide : (1 : Nat) ≤ 1000000) | exact (by decide : (3 : Nat) ≤ 1000000)
theorem small_sub : Small sub cn0 := by constructor <;> first | exact Nat.zero_le _ | exact (by decide : (1 : Nat) ≤ 1000000) | exact (by decide : (3 : Nat) ≤ 1000000)
theorem in_pub {w : World} (b : Nat) (i : Int) (h : w.heap[b]? = some (.cells #[.int .u8 1, .int .u8 2, .int .u8 3] 5)) : In w (pub b i) cn0 := by
  refine ⟨⟨Nat.le_refl _, fun i => (by decide : (0 : Int) ≤ 0 ∧ (0 : Int) ≤ 255), .inl rfl⟩, ⟨Nat.le_refl _, fun i => (by decide : (0 : Int) ≤ 0 ∧ (0 : Int) ≤ 255), .inl rfl⟩, ⟨Nat.le_refl _, fun i => ?_, .inr ⟨b, 0, rfl, fun i hi => ?_⟩⟩, ⟨Nat.le_refl _, .inl rfl⟩, ⟨Nat.le_refl _, .inl rfl⟩, ⟨Nat.le_refl _, .inl rfl⟩⟩
  · show 0 ≤ oneTwo i ∧ oneTwo i ≤ 255
    unfold oneTwo
    split
    · decide
    · split <;> decide
  · have h3 : i < 3 := hi
    unfold World.cell?
    obtain rfl | rfl | rfl : i = 0 ∨ i = 1 ∨ i = 2 := by omega
    all_goals simp [h, cn0, oneTwo]
theorem in_con (w : World) : In w con cn0 := ⟨⟨Nat.le_refl _, fun i => (by decide : (0 : Int) ≤ 0 ∧ (0 : Int) ≤ 255), .inl rfl⟩, ⟨Nat.le_refl _, fun i => (by decide : (0 : Int) ≤ 0 ∧ (0 : Int) ≤ 255), .inl rfl⟩, ⟨Nat.le_refl _, fun i => by show 0 ≤ oneTwo i ∧ oneTwo i ≤ 255; unfold oneTwo; split; decide; split <;> decide, .inl rfl⟩, ⟨Nat.le_refl _, .inl rfl⟩, ⟨Nat.le_refl _, .inl rfl⟩, ⟨Nat.le_refl _, .inl rfl⟩⟩
theorem in_sub (w : World) : In w sub cn0 := ⟨⟨Nat.le_refl _, fun i => (by decide : (0 : Int) ≤ 0 ∧ (0 : Int) ≤ 255), .inl rfl⟩, ⟨Nat.le_refl _, fun i => (by decide : (0 : Int) ≤ 0 ∧ (0 : Int) ≤ 255), .inl rfl⟩, ⟨Nat.le_refl _, fun i => by show 0 ≤ oneTwo i ∧ oneTwo i ≤ 255; unfold oneTwo; split; decide; split <;> decide, .inl rfl⟩, ⟨Nat.le_refl _, .inl rfl⟩, ⟨Nat.le_refl _, .inl rfl⟩, ⟨Nat.le_refl _, .inl rfl⟩⟩

theorem wpList_build_to {ops : Array Oper} {rest : List Oper} {o : Oper} {a : Act} {w : World} {Q : Exit → Act → World → Prop} (hg : o.guard = none) (t : TypeId) (parts : Array (Nat × Operand)) (ho : o.op = .build t parts) (cells : Array Value)
    (hf : Tryd.prog.built t (parts.map fun (i, x) => (i, a.eval x)).toList = some cells) (h : wpList Tryd.prog ops Q rest (a.put o.dst (.agg cells)) w) : wpList Tryd.prog ops Q (o :: rest) a w :=
  wpList_build hg t parts ho (by rw [hf]; rfl) (by rw [hf]; exact h)
theorem built_msg (b : Nat) : Tryd.prog.built 26 [(0, .string ⟨#[97]⟩), (1, .slice (some ⟨b, 0, none⟩) 3 3), (2, .int .i64 1)] = some #[.string ⟨#[97]⟩, .slice (some ⟨b, 0, none⟩) 3 3, .int .i64 1, .bool false] := by kernel_rfl
theorem built_pub (b : Nat) : Tryd.prog.built 31 [(0, .int .i64 3), (14, .agg #[.string ⟨#[97]⟩, .slice (some ⟨b, 0, none⟩) 3 3, .int .i64 1, .bool false]), (15, .int .i64 7)] = some (pkCells (pub b 7)) := by kernel_rfl
theorem built_con : Tryd.prog.built 31 [(0, .int .i64 1), (1, .int .i64 4), (2, .bool true), (3, .int .i64 60), (4, .string ⟨#[99]⟩)] = some (pkCells con) := by kernel_rfl
theorem built_sub : Tryd.prog.built 31 [(0, .int .i64 8), (15, .int .i64 1)] = some (pkCells sub) := by kernel_rfl

end Go.Proofs.YtdanjbbemmngnaaDoor
