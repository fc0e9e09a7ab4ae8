import Derived.Test.YtdhinpmjbcohaaaSiJ
namespace Go.Proofs.Ytdhinpmjbcohaaa.Si
open Go Go.RowKit
set_option linter.unusedSimpArgs false
set_option linter.unusedVariables false

/-- A cache that holds these entries, the one used last first; F: its blocks. -/
def CS (w : World) (cb room : Nat) (l : List (Ky × Vt)) (F : Nat → Prop) : Prop :=
  ∃ mv L n o ky vl, CA w cb room mv L n o ky vl ∧ l = L.map (fun b => (ky b, vl b)) ∧ (∀ j, F j ↔ FP cb mv L j) ∧ L.length ≤ room
theorem CS.lt {w : World} {cb room : Nat} {l : List (Ky × Vt)} {F : Nat → Prop} (h : CS w cb room l F) {j : Nat} (hj : F j) : j < w.heap.size := by
  obtain ⟨mv, L, n, o, ky, vl, h, _, hF, _⟩ := h
  exact h.lt ((hF j).1 hj)
theorem CS.len {w : World} {cb room : Nat} {l : List (Ky × Vt)} {F : Nat → Prop} (h : CS w cb room l F) : l.length ≤ room := by
  obtain ⟨mv, L, n, o, ky, vl, h, rfl, hF, hl⟩ := h
  simpa using hl
theorem CS.ch {S : Nat → Prop} {w w' : World} {cb room : Nat} {l : List (Ky × Vt)} {F : Nat → Prop} (h : CS w cb room l F) (hc : Ch S w w') (hs : ∀ j, F j → ¬ S j) : CS w' cb room l F := by
  obtain ⟨mv, L, n, o, ky, vl, h, e, hF, hl⟩ := h
  exact ⟨mv, L, n, o, ky, vl, h.ch hc (fun j hj => hs j ((hF j).2 hj)), e, hF, hl⟩
theorem CS.keys {w : World} {cb room : Nat} {l : List (Ky × Vt)} {F : Nat → Prop} (h : CS w cb room l F) : (l.map (·.1)).Nodup ∧ ∀ p ∈ l, okK p.1 := by
  obtain ⟨mv, L, n, o, ky, vl, h, rfl, hF, hl⟩ := h
  refine ⟨?_, fun p hp => ?_⟩
  · rw [List.map_map]
    have h1 := h.nd
    have h2 := h.ks
    clear h hF hl
    induction L with
    | nil => simp
    | cons x T ih =>
      have hx := List.nodup_cons.1 h1
      refine List.nodup_cons.2 ⟨fun q => ?_, ih hx.2 (fun a ha b hb => h2 a (by simp [ha]) b (by simp [hb]))⟩
      obtain ⟨y, hy, e⟩ := List.mem_map.1 q
      have := h2 y (by simp [hy]) x (by simp) e
      exact hx.1 (this ▸ hy)
  · obtain ⟨b, hb, rfl⟩ := List.mem_map.1 hp
    exact h.kok b hb
theorem CA.apart {w : World} {cb room : Nat} {mv : Value} {A B : List Nat} {e : Nat} {n o : Nat → Nat} {ky : Nat → Ky} {vl : Nat → Vt} (h : CA w cb room mv (A ++ e :: B) n o ky vl) (vl' : Nat → Vt) : ky e ∉ (A.map (fun b => (ky b, vl' b))).map (·.1) ∧ ky e ∉ (B.map (fun b => (ky b, vl' b))).map (·.1) := by
  have hmid := (List.nodup_cons.1 (List.perm_middle.nodup_iff.1 h.nd)).1
  refine ⟨fun q => ?_, fun q => ?_⟩
  · rw [List.map_map] at q
    obtain ⟨y, hy, e1⟩ := List.mem_map.1 q
    have := h.ks y (by simp [hy]) e (by simp) e1
    exact hmid (by rw [← this]; simp [hy])
  · rw [List.map_map] at q
    obtain ⟨y, hy, e1⟩ := List.mem_map.1 q
    have := h.ks y (by simp [hy]) e (by simp) e1
    exact hmid (by rw [← this]; simp [hy])
theorem map_congr_on {L : List Nat} {ky ky' : Nat → Ky} {vl vl' : Nat → Vt} (h : ∀ b ∈ L, ky' b = ky b ∧ vl' b = vl b) : L.map (fun b => (ky' b, vl' b)) = L.map (fun b => (ky b, vl b)) := List.map_congr_left (fun b hb => by rw [(h b hb).1, (h b hb).2])
theorem CA.setV {w : World} {cb room : Nat} {mv : Value} {L : List Nat} {n o : Nat → Nat} {ky : Nat → Ky} {vl : Nat → Vt} (h : CA w cb room mv L n o ky vl) {e : Nat} (he : e ∈ L) (v : Vt) : CA (w.setCell ⟨e, 3, none⟩ (vc v)) cb room mv L n o ky (upd vl e v) :=
  ⟨(heap_set_ne _ (fun q => h.cb_not (by rw [q]; exact he))).trans h.at_, h.eb.setV he v, h.nd, h.ring, h.ks, h.kok, h.mp.keep (fun m hm => heap_set_ne _ (fun q => (h.mb_not hm).2 (by rw [q]; exact he)))⟩
theorem mv_map {w : World} {mv : Value} {L : List Nat} {ky : Nat → Ky} (h : MapL w mv L ky) : ∃ m, mv = .map m := by
  rcases h with ⟨h, _⟩ | ⟨mb, D, h, _⟩
  · exact ⟨_, h⟩
  · exact ⟨_, h⟩

/-- What a cache holds when a key was asked. -/
def lused (l : List (Ky × Vt)) (k : Ky) : List (Ky × Vt) := match lget l k with
  | some v => ltop k v l
  | none => l
/-- What comes of a call: the cache behind it, and what else may have changed. -/
def Aft (w : World) (cb room : Nat) (F : Nat → Prop) (l' : List (Ky × Vt)) (w' : World) : Prop := (∃ F', CS w' cb room l' F' ∧ ∀ j, F' j → F j ∨ w.heap.size ≤ j) ∧ Ch F w w'
theorem fp_perm {cb : Nat} {mv : Value} {A B : List Nat} {e j : Nat} (h : FP cb mv (e :: (A ++ B)) j) : FP cb mv (A ++ e :: B) j := by
  rcases h with q | q | q
  · exact .inl q
  · exact .inr (.inl (List.perm_middle.mem_iff.2 q))
  · exact .inr (.inr q)
theorem fp_sub {cb : Nat} {mv : Value} {A B : List Nat} {e j : Nat} (h : FP cb mv (A ++ B) j) : FP cb mv (A ++ e :: B) j := fp_perm (by
  rcases h with q | q | q
  · exact .inl q
  · exact .inr (.inl (List.mem_cons_of_mem _ q))
  · exact .inr (.inr q))
/-- Get. -/
theorem get_any {w : World} {cb room : Nat} {l : List (Ky × Vt)} {F : Nat → Prop} {k : Ky} (h : CS w cb room l F) (hk : okK k) :
    Calls Try.prog 29 #[pt cb, kc k] w fun r w' => r = .returned (.tuple #[vc ((lget l k).getD 0), .bool (lget l k).isSome]) ∧ Aft w cb room F (lused l k) w' := by
  obtain ⟨mv, L, n, o, ky, vl, h, rfl, hF, hl⟩ := h
  obtain ⟨m, rfl⟩ := mv_map h.mp
  have hg : CA (gw w k) cb room (.map m) L n o ky vl := h.ch (ch_gw (fun _ => False) w k) (fun _ _ q => q)
  have hFle : ∀ S : Nat → Prop, Ch S w (gw w k) := fun S => ch_gw S w k
  by_cases hex : ∃ b ∈ L, ky b = k
  · obtain ⟨b, hb, rfl⟩ := hex
    obtain ⟨A, B, rfl⟩ := List.append_of_mem hb
    obtain ⟨ha1, ha2⟩ := h.apart vl
    have e1 : lget ((A ++ b :: B).map (fun b => (ky b, vl b))) (ky b) = some (vl b) := by
      rw [List.map_append, List.map_cons]
      exact lget_mid ha1
    have e2 : lused ((A ++ b :: B).map (fun b => (ky b, vl b))) (ky b) = (b :: (A ++ B)).map (fun b => (ky b, vl b)) := by
      unfold lused
      rw [e1]
      simp only [ltop]
      rw [List.map_append, List.map_cons, lout_mid ha1 ha2]
      simp
    rw [e1, e2]
    refine (get_hit (v := vl b) w (box_cells hg.at_ 2 _ rfl) (hg.mp.hit hb (h.kok b hb)) (use_any hg) (fun w1 h1 => ?_)).mono ?_
    · exact (by
        obtain ⟨⟨n', o', h1⟩, _⟩ := h1
        exact box_cells (h1.eb b (by simp)) 3 _ rfl : w1.cell? ⟨b, 3, none⟩ = some (vc (vl b)))
    · rintro r w' ⟨rfl, ⟨n', o', h1⟩, hc⟩
      refine ⟨rfl, ⟨FP cb (.map m) (b :: (A ++ B)), ⟨_, _, n', o', ky, vl, h1, rfl, fun j => Iff.rfl, ?_⟩, fun j hj => .inl ((hF j).2 (fp_perm hj))⟩, ?_⟩
      · simp at hl ⊢
        omega
      · exact (hFle F).then (hc.mono (fun j _ q => (hF j).2 q))
  · have hn : ∀ b ∈ L, ky b ≠ k := fun b hb q => hex ⟨b, hb, q⟩
    have e1 : lget (L.map (fun b => (ky b, vl b))) k = none := lget_of_not (fun q => by
      rw [List.map_map] at q
      obtain ⟨b, hb, e⟩ := List.mem_map.1 q
      exact hn b hb e)
    have e2 : lused (L.map (fun b => (ky b, vl b))) k = L.map (fun b => (ky b, vl b)) := by simp [lused, e1]
    rw [e1, e2]
    refine (get_miss w (box_cells hg.at_ 2 _ rfl) (hg.mp.miss hk hn)).mono ?_
    rintro r w' ⟨rfl, rfl⟩
    exact ⟨rfl, ⟨F, ⟨_, _, n, o, ky, vl, hg, rfl, hF, hl⟩, fun j hj => .inl hj⟩, hFle F⟩
/-- Put. -/
theorem put_any {w : World} {cb room : Nat} {l : List (Ky × Vt)} {F : Nat → Prop} {k : Ky} {v : Vt} (h : CS w cb room l F) (hk : okK k) (hroom : room ≤ 1048576) :
    Calls Try.prog 31 #[pt cb, kc k, vc v] w fun r w' => r = .returned (.tuple #[]) ∧ Aft w cb room F ((ltop k v l).take room) w' := by
  obtain ⟨mv, L, n, o, ky, vl, h, rfl, hF, hl⟩ := h
  obtain ⟨m, rfl⟩ := mv_map h.mp
  have hg : CA (gw w k) cb room (.map m) L n o ky vl := h.ch (ch_gw (fun _ => False) w k) (fun _ _ q => q)
  have hFle : ∀ S : Nat → Prop, Ch S w (gw w k) := fun S => ch_gw S w k
  by_cases hex : ∃ b ∈ L, ky b = k
  · obtain ⟨b, hb, rfl⟩ := hex
    obtain ⟨A, B, rfl⟩ := List.append_of_mem hb
    have hs := hg.setV hb v
    obtain ⟨ha1, ha2⟩ := h.apart vl
    have hne : ∀ c ∈ A ++ B, c ≠ b := fun c hc q => (List.nodup_cons.1 (List.perm_middle.nodup_iff.1 h.nd)).1 (q ▸ hc)
    have e2 : (ltop (ky b) v ((A ++ b :: B).map (fun b => (ky b, vl b)))).take room = (b :: (A ++ B)).map (fun c => (ky c, upd vl b v c)) := by
      rw [List.take_of_length_le]
      · simp only [ltop]
        rw [List.map_append, List.map_cons, lout_mid ha1 ha2, List.map_cons, upd_same, map_congr_on (ky := ky) (vl := vl) (fun c hc => ⟨rfl, upd_ne _ _ (hne c hc)⟩)]
        simp
      · simp only [ltop]
        rw [List.map_append, List.map_cons, lout_mid ha1 ha2]
        simp at hl ⊢
        omega
    rw [e2]
    refine (put_hit (v := v) w (box_cells hg.at_ 2 _ rfl) (hg.mp.hit hb (h.kok b hb)) (box_cells (hg.eb b hb) 3 _ rfl) (box_frozen (hg.eb b hb) 3) (use_any hs)).mono ?_
    rintro r w' ⟨rfl, ⟨n', o', h1⟩, hc⟩
    refine ⟨rfl, ⟨FP cb (.map m) (b :: (A ++ B)), ⟨_, _, n', o', ky, _, h1, rfl, fun j => Iff.rfl, ?_⟩, fun j hj => .inl ((hF j).2 (fp_perm hj))⟩, ?_⟩
    · simp at hl ⊢
      omega
    · exact ((hFle F).then ((ch_set b 3 (vc v)).mono (fun j _ q => (hF j).2 (.inr (.inl (q ▸ hb)))))).then (hc.mono (fun j _ q => (hF j).2 q))
  · have hn : ∀ b ∈ L, ky b ≠ k := fun b hb q => hex ⟨b, hb, q⟩
    have hnot : k ∉ (L.map (fun b => (ky b, vl b))).map (·.1) := fun q => by
      rw [List.map_map] at q
      obtain ⟨b, hb, e⟩ := List.mem_map.1 q
      exact hn b hb e
    have e0 : ltop k v (L.map (fun b => (ky b, vl b))) = (k, v) :: L.map (fun b => (ky b, vl b)) := by
      simp only [ltop]
      rw [lout_not hnot]
    rw [e0]
    have hsz := gw_size w k
    have hA : CA ((gw w k).alloc (.cells (nc k v) 129)) cb room (.map m) L n o ky vl := hg.ch (ch_alloc (fun _ => False) _ _) (fun _ _ q => q)
    have hnew : ((gw w k).alloc (.cells (nc k v) 129)).heap[w.heap.size]? = some (.cells (nc k v) 129 (0, 0)) := by
      rw [← hsz]
      exact (MapKept.heap_alloc _ _).1
    have hFn : ¬ FP cb (.map m) L (w.heap.size) := fun q => by
      have := hg.lt q
      omega
    have hLn : (w.heap.size) ∉ L := fun q => hFn (.inr (.inl q))
    have hmap : ∀ (T : List Nat), (∀ c ∈ T, c ∈ L) → T.map (fun c => (upd ky (w.heap.size) k c, upd vl (w.heap.size) v c)) = T.map (fun c => (ky c, vl c)) := fun T hT => map_congr_on (fun c hc => ⟨upd_ne _ _ (fun q => hLn (q ▸ hT c hc)), upd_ne _ _ (fun q => hLn (q ▸ hT c hc))⟩)
    have hwle : w.heap.size ≤ w.heap.size := by omega
    refine (put_miss (v := v) (room := room) w (R1 := fun w3 => (∃ mv' n' o', CA w3 cb room mv' ((w.heap.size) :: L) n' o' (upd ky (w.heap.size) k) (upd vl (w.heap.size) v) ∧ (∀ j, mv' = .map (some j) → Value.map m = .map (some j) ∨ ((gw w k).alloc (.cells (nc k v) 129)).heap.size ≤ j)) ∧ Ch (fun j => FP cb (.map m) L j ∨ j = w.heap.size) ((gw w k).alloc (.cells (nc k v) 129)) w3)
      (R2 := fun w' => Aft w cb room F (((k, v) :: L.map (fun b => (ky b, vl b))).take room) w') (box_cells hg.at_ 2 _ rfl) (hg.mp.miss hk hn) (add_any hA ⟨_, _, hnew⟩ hFn hk hn (by unfold maxLen; omega)) (fun w3 h3 => ?_)).mono (fun r w' q => q)
    obtain ⟨⟨mv', n', o', h3, hj⟩, hc3⟩ := h3
    obtain ⟨m', rfl⟩ := mv_map h3.mp
    have hd : CA w3.drew cb room (.map m') ((w.heap.size) :: L) n' o' (upd ky (w.heap.size) k) (upd vl (w.heap.size) v) := h3.ch (ch_drew (fun _ => False) _) (fun _ _ q => q)
    have hx := (ring_mem hd.ring).1
    have hall : Ch F w w3.drew := by
      have h0 : Ch F w ((gw w k).alloc (.cells (nc k v) 129)) := (hFle F).then (ch_alloc F _ _)
      refine (h0.trans hc3 (fun j hj q => ?_)).then (ch_drew F _)
      rcases q with q | q
      · exact (hF j).2 q
      · omega
    have hFj : ∀ j, FP cb (.map m') ((w.heap.size) :: L) j → F j ∨ w.heap.size ≤ j := fun j q => by
      rcases q with q | q | q
      · exact .inl ((hF j).2 (.inl q))
      · rcases List.mem_cons.1 q with q | q
        · exact .inr (by omega)
        · exact .inl ((hF j).2 (.inr (.inl q)))
      · rcases hj j q with q | q
        · exact .inl ((hF j).2 (.inr (.inr q)))
        · have : w.heap.size ≤ ((gw w k).alloc (.cells (nc k v) 129)).heap.size := Nat.le_trans (hFle F).size (ch_alloc F _ _).size
          exact .inr (Nat.le_trans this q)
    refine ⟨m', w.heap.size, n' (w.heap.size), L.length + 1, box_cells hd.at_ 2 _ rfl, hd.mp.len 3, box_cells hd.at_ 0 _ rfl, box_cells hd.at_ 1 _ rfl, box_cells (hd.eb _ (by simp)) 0 _ rfl, ?_⟩
    by_cases hlt : room < L.length + 1
    · refine .inr ⟨by omega, ?_⟩
      have hlast := ring_last hd.ring
      obtain ⟨A, hA'⟩ : ∃ A, (w.heap.size) :: L = A ++ [n' (w.heap.size)] := by
        have hne : (w.heap.size) :: L ≠ [] := by simp
        rw [List.getLast?_eq_some_getLast hne] at hlast
        have h5 := List.dropLast_concat_getLast hne
        rw [Option.some.inj hlast] at h5
        exact ⟨_, h5.symm⟩
      obtain ⟨q, hq⟩ : ∃ q, q = n' (w.heap.size) := ⟨_, rfl⟩
      rw [← hq] at hA' ⊢
      have hd' := hd
      rw [hA'] at hd'
      refine (remove_any (A := A) (B := []) hd').mono ?_
      rintro r w' ⟨rfl, ⟨n2, o2, h4⟩, hc4⟩
      rw [List.append_nil] at h4
      have hAl : A.length = room := by
        have := congrArg List.length hA'
        simp at this
        omega
      have e3 : ((k, v) :: L.map (fun b => (ky b, vl b))).take room = A.map (fun c => (upd ky (w.heap.size) k c, upd vl (w.heap.size) v c)) := by
        have e4 : (k, v) :: L.map (fun b => (ky b, vl b)) = ((w.heap.size) :: L).map (fun c => (upd ky (w.heap.size) k c, upd vl (w.heap.size) v c)) := by
          rw [List.map_cons, upd_same, upd_same, hmap L (fun c hc => hc)]
        rw [e4, hA', List.map_append, List.take_append_of_le_length (by simp [hAl]), List.take_of_length_le (by simp [hAl])]
      have hsubA : ∀ j, FP cb (.map m') A j → FP cb (.map m') ((w.heap.size) :: L) j := fun j q => by
        rw [hA']
        rcases q with q | q | q
        · exact .inl q
        · exact .inr (.inl (by simp [q]))
        · exact .inr (.inr q)
      refine ⟨rfl, ⟨FP cb (.map m') A, ⟨_, A, n2, o2, _, _, h4, e3, fun j => Iff.rfl, by omega⟩, fun j q => hFj j (hsubA j q)⟩, ?_⟩
      refine hall.trans hc4 (fun j hj q => ?_)
      rw [← hA'] at q
      rcases hFj j q with q | q
      · exact q
      · omega
    · refine .inl ⟨by omega, ⟨FP cb (.map m') ((w.heap.size) :: L), ⟨_, _, n', o', _, _, hd, ?_, fun j => Iff.rfl, by simp; omega⟩, hFj⟩, hall⟩
      rw [List.take_of_length_le (by simp; omega), List.map_cons, upd_same, upd_same, hmap L (fun c hc => hc)]
/-- Drop. -/
theorem drop_any {w : World} {cb room : Nat} {l : List (Ky × Vt)} {F : Nat → Prop} {k : Ky} (h : CS w cb room l F) (hk : okK k) :
    Calls Try.prog 33 #[pt cb, kc k] w fun r w' => r = .returned (.bool (lget l k).isSome) ∧ Aft w cb room F (lout l k) w' := by
  obtain ⟨mv, L, n, o, ky, vl, h, rfl, hF, hl⟩ := h
  obtain ⟨m, rfl⟩ := mv_map h.mp
  have hg : CA (gw w k) cb room (.map m) L n o ky vl := h.ch (ch_gw (fun _ => False) w k) (fun _ _ q => q)
  have hFle : ∀ S : Nat → Prop, Ch S w (gw w k) := fun S => ch_gw S w k
  by_cases hex : ∃ b ∈ L, ky b = k
  · obtain ⟨b, hb, rfl⟩ := hex
    obtain ⟨A, B, rfl⟩ := List.append_of_mem hb
    obtain ⟨ha1, ha2⟩ := h.apart vl
    have e1 : lget ((A ++ b :: B).map (fun b => (ky b, vl b))) (ky b) = some (vl b) := by
      rw [List.map_append, List.map_cons]
      exact lget_mid ha1
    have e2 : lout ((A ++ b :: B).map (fun b => (ky b, vl b))) (ky b) = (A ++ B).map (fun b => (ky b, vl b)) := by
      rw [List.map_append, List.map_cons, lout_mid ha1 ha2]
      simp
    rw [e1, e2]
    refine (drop_hit w (box_cells hg.at_ 2 _ rfl) (hg.mp.hit hb (h.kok b hb)) (remove_any hg)).mono ?_
    rintro r w' ⟨rfl, ⟨n', o', h1⟩, hc⟩
    refine ⟨rfl, ⟨FP cb (.map m) (A ++ B), ⟨_, _, n', o', ky, vl, h1, rfl, fun j => Iff.rfl, ?_⟩, fun j hj => .inl ((hF j).2 (fp_sub hj))⟩, ?_⟩
    · simp at hl ⊢
      omega
    · exact (hFle F).then (hc.mono (fun j _ q => (hF j).2 q))
  · have hn : ∀ b ∈ L, ky b ≠ k := fun b hb q => hex ⟨b, hb, q⟩
    have hnot : k ∉ (L.map (fun b => (ky b, vl b))).map (·.1) := fun q => by
      rw [List.map_map] at q
      obtain ⟨b, hb, e⟩ := List.mem_map.1 q
      exact hn b hb e
    rw [lget_of_not hnot, lout_not hnot]
    refine (drop_miss w (box_cells hg.at_ 2 _ rfl) (hg.mp.miss hk hn)).mono ?_
    rintro r w' ⟨rfl, rfl⟩
    exact ⟨rfl, ⟨F, ⟨_, _, n, o, ky, vl, hg, rfl, hF, hl⟩, fun j hj => .inl hj⟩, hFle F⟩
/-- Len. -/
theorem len_any {w : World} {cb room : Nat} {l : List (Ky × Vt)} {F : Nat → Prop} (h : CS w cb room l F) : Calls Try.prog 37 #[pt cb] w fun r w' => r = .returned (.int .i64 l.length) ∧ w' = w := by
  obtain ⟨mv, L, n, o, ky, vl, h, rfl, hF, hl⟩ := h
  obtain ⟨m, rfl⟩ := mv_map h.mp
  rw [List.length_map]
  exact len_run w (box_cells h.at_ 2 _ rfl) (h.mp.len 3)
/-- Clear. -/
theorem clear_any {w : World} {cb room : Nat} {l : List (Ky × Vt)} {F : Nat → Prop} (h : CS w cb room l F) : Calls Try.prog 35 #[pt cb] w fun r w' => r = .returned (.int .i64 l.length) ∧ Aft w cb room F [] w' := by
  obtain ⟨mv, L, n, o, ky, vl, h, rfl, hF, hl⟩ := h
  obtain ⟨m, rfl⟩ := mv_map h.mp
  rw [List.length_map]
  refine (clear_run w (box_cells h.at_ 2 _ rfl) (box_cells h.at_ 1 _ rfl) (box_frozen h.at_ 1) (box_frozen h.at_ 2) (h.mp.len 3)).mono ?_
  rintro r w' ⟨rfl, rfl⟩
  refine ⟨rfl, ⟨FP cb (.map none) [], ⟨.map none, [], n, o, ky, vl, ⟨?_, fun b hb => (by cases hb), List.nodup_nil, trivial, fun a ha => (by cases ha), fun a ha => (by cases ha), .inl ⟨rfl, rfl⟩⟩, rfl, fun j => Iff.rfl, by simp⟩, fun j hj => ?_⟩, ?_⟩
  · rw [heap_set (heap_set h.at_ _)]
    simp [hdp]
  · rcases hj with q | q | q
    · exact .inl ((hF j).2 (.inl q))
    · cases q
    · cases q
  · have hb : F cb := (hF cb).2 (.inl rfl)
    exact ((ch_set cb 1 _).mono (fun j _ q => q ▸ hb)).then ((ch_set cb 2 _).mono (fun j _ q => q ▸ hb))
/-- New. -/
theorem new_any (most : Int) (w : World) : Calls Try.prog 25 #[.int .i64 most] w fun r w' => r = .returned (pt w.heap.size) ∧ Below w.heap.size w w' ∧ CS w' w.heap.size (rm most) [] (fun j => j = w.heap.size) := by
  refine (new_run most w).mono ?_
  rintro r w' ⟨rfl, rfl⟩
  refine ⟨rfl, (Below.refl _ _).alloc (Nat.le_refl _) _, .map none, [], id, id, fun _ => default, fun _ => 0, ⟨(MapKept.heap_alloc _ _).1, fun b hb => (by cases hb), List.nodup_nil, trivial, fun a ha => (by cases ha), fun a ha => (by cases ha), .inl ⟨rfl, rfl⟩⟩, rfl, fun j => ?_, by simp⟩
  simp [FP]
end Go.Proofs.Ytdhinpmjbcohaaa.Si
