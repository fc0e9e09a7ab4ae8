import Derived.Test.YtdanjbbemmngnaaDoorWc
namespace Go.Proofs.YtdanjbbemmngnaaDoor
open Go Go.RowKit Go.Sort
set_option linter.unusedSimpArgs false
set_option linter.unusedVariables false

/-- A mark as the code reckons it. -/
def mkI (b : Bool) (n : Int) : Int := if b then n else 0
theorem mkI_nat (b : Bool) (n : Nat) : mkI b (n : Int) = ((mk b n : Nat) : Int) := by cases b <;> rfl
theorem mark_int (b : Bool) (n : Int) (w : World) : Calls Tryd.prog 22 #[.bool b, .int .i64 n] w fun e w' => e = .returned (.int .i64 (mkI b n)) ∧ Below w.heap.size w w' := by
  cases b with
  | true =>
    go_enter Tryd.func22, Tryd.ntmps22
    go_wp2
    go_ret
    exact ⟨rfl, Below.refl _ _⟩
  | false =>
    go_enter Tryd.func22, Tryd.ntmps22
    go_wp2
    go_ret
    exact ⟨rfl, Below.refl _ _⟩
theorem box_cell (w : World) (cs : Array Value) (t : TypeId) (k : Nat) (v : Value) (h : cs[k]? = some v) : (w.alloc (.cells cs t)).cell? ⟨w.heap.size, k, none⟩ = some v := by
  rw [World.cell?_alloc_at _ _ _ _ rfl]
  simpa using h

theorem box_fact {w W : World} {cs : Array Value} {t : TypeId} (hW : W = w.alloc (.cells cs t)) (k : Nat) (v : Value) (h : cs[k]? = some v) : ∀ d os, (grow (redrawn W d) os).cell? ⟨w.heap.size, k, none⟩ = some v := fun d os => cell_regrown (by rw [hW]; exact box_cell w cs t k v h) d os
theorem box_below {w W : World} {cs : Array Value} {t : TypeId} (hW : W = w.alloc (.cells cs t)) : Below w.heap.size w W := by rw [hW]; exact (Below.refl _ _).alloc (Nat.le_refl _) _
theorem or_cast (a b : Nat) (ha : a < 262144) (hb : b < 262144) : bits .or .i64 (a : Int) (b : Int) = ((a ||| b : Nat) : Int) := bits_or a b (by omega) (by omega)
theorem gv_code (b0 b1 b2 b3 b4 b5 b6 b7 b8 b9 b10 b11 b12 b13 b14 b15 b16 b17 : Bool) : bits .or .i64 (bits .or .i64 (bits .or .i64 (bits .or .i64 (bits .or .i64 (bits .or .i64 (bits .or .i64 (bits .or .i64 (bits .or .i64 (bits .or .i64 (bits .or .i64 (bits .or .i64 (bits .or .i64 (bits .or .i64 (bits .or .i64 (bits .or .i64 (bits .or .i64 (mkI b0 1) (mkI b1 2)) (mkI b2 4)) (mkI b3 8)) (mkI b4 16)) (mkI b5 32)) (mkI b6 64)) (mkI b7 128)) (mkI b8 256)) (mkI b9 512)) (mkI b10 1024)) (mkI b11 2048)) (mkI b12 4096)) (mkI b13 8192)) (mkI b14 16384)) (mkI b15 32768)) (mkI b16 65536)) (mkI b17 131072) = ((mk b0 1 ||| mk b1 2 ||| mk b2 4 ||| mk b3 8 ||| mk b4 16 ||| mk b5 32 ||| mk b6 64 ||| mk b7 128 ||| mk b8 256 ||| mk b9 512 ||| mk b10 1024 ||| mk b11 2048 ||| mk b12 4096 ||| mk b13 8192 ||| mk b14 16384 ||| mk b15 32768 ||| mk b16 65536 ||| mk b17 131072 : Nat) : Int) := by
  rw [show mkI b0 1 = ((mk b0 1 : Nat) : Int) from mkI_nat b0 1]
  rw [show mkI b1 2 = ((mk b1 2 : Nat) : Int) from mkI_nat b1 2]
  rw [show mkI b2 4 = ((mk b2 4 : Nat) : Int) from mkI_nat b2 4]
  rw [show mkI b3 8 = ((mk b3 8 : Nat) : Int) from mkI_nat b3 8]
  rw [show mkI b4 16 = ((mk b4 16 : Nat) : Int) from mkI_nat b4 16]
  rw [show mkI b5 32 = ((mk b5 32 : Nat) : Int) from mkI_nat b5 32]
  rw [show mkI b6 64 = ((mk b6 64 : Nat) : Int) from mkI_nat b6 64]
  rw [show mkI b7 128 = ((mk b7 128 : Nat) : Int) from mkI_nat b7 128]
  rw [show mkI b8 256 = ((mk b8 256 : Nat) : Int) from mkI_nat b8 256]
  rw [show mkI b9 512 = ((mk b9 512 : Nat) : Int) from mkI_nat b9 512]
  rw [show mkI b10 1024 = ((mk b10 1024 : Nat) : Int) from mkI_nat b10 1024]
  rw [show mkI b11 2048 = ((mk b11 2048 : Nat) : Int) from mkI_nat b11 2048]
  rw [show mkI b12 4096 = ((mk b12 4096 : Nat) : Int) from mkI_nat b12 4096]
  rw [show mkI b13 8192 = ((mk b13 8192 : Nat) : Int) from mkI_nat b13 8192]
  rw [show mkI b14 16384 = ((mk b14 16384 : Nat) : Int) from mkI_nat b14 16384]
  rw [show mkI b15 32768 = ((mk b15 32768 : Nat) : Int) from mkI_nat b15 32768]
  rw [show mkI b16 65536 = ((mk b16 65536 : Nat) : Int) from mkI_nat b16 65536]
  rw [show mkI b17 131072 = ((mk b17 131072 : Nat) : Int) from mkI_nat b17 131072]
  repeat rw [or_cast]
  all_goals repeat' first | exact mk_lt _ _ (by decide) | apply or_lt
theorem isEmpty_size (s : ByteArray) : (!s.toList.isEmpty) = (s.size != 0) := by
  rw [Lib.toList_data]
  obtain ⟨⟨l⟩⟩ := s
  cases l <;> simp [ByteArray.size]
theorem pos_ne (n : Nat) : decide (0 < n) = (n != 0) := by cases n <;> simp
theorem empty_size (s : ByteArray) : (s = ByteArray.empty) = (s.size = 0) := by
  refine propext ⟨fun h => by rw [h]; rfl, fun h => ?_⟩
  obtain ⟨⟨l⟩⟩ := s
  cases l with
  | nil => rfl
  | cons a l => simp [ByteArray.size] at h
/-- The empty message. -/
theorem nilBy (w : World) : By w ⟨none, 0, 0⟩ (fun _ => 0) := ⟨Nat.le_refl _, fun _ => ⟨Int.le_refl 0, by show (0 : Int) ≤ 255; decide⟩, .inl rfl⟩
theorem zero_msg (t : ByteArray) (s : Sl) (q : Int) (r : Bool) (z : Nat → Int) (w : World) (h : By w s z) :
    Calls Tryd.prog 44 #[.agg #[.string t, s.v, .int .i64 q, .bool r], .agg #[.string ⟨#[]⟩, .slice none 0 0, .int .i64 0, .bool false]] w fun e w' => e = .returned (.bool (decide (t.size = 0) && decide (q = 0) && !r && decide (s.n = 0))) ∧ Below w.heap.size w w' := by
  have hs := sameMessage_any t ⟨#[]⟩ s ⟨none, 0, 0⟩ q 0 r false z (fun _ => 0) w h (nilBy w)
  have e : (decide (t.size = 0) && decide (q = 0) && !r && decide (s.n = 0)) = ((t.toList == (⟨#[]⟩ : ByteArray).toList) && (q == 0) && (r == false) && ((strZ z s.n).toList == (strZ (fun _ => 0) 0).toList)) := by
    have h1 : ∀ b : ByteArray, (b.toList == (⟨#[]⟩ : ByteArray).toList) = decide (b.size = 0) := by
      intro b
      rw [Lib.toList_data, Lib.toList_data]
      obtain ⟨⟨l⟩⟩ := b
      cases l <;> simp [ByteArray.size]
    have h2 : strZ (fun _ => 0) 0 = (⟨#[]⟩ : ByteArray) := rfl
    rw [h2, h1, h1, strZ_size]
    cases r <;> rfl
  rw [e]
  exact hs

end Go.Proofs.YtdanjbbemmngnaaDoor
