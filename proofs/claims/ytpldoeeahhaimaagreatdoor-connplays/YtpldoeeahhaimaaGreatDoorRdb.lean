import Derived.Test.YtpldoeeahhaimaaGreatDoorRda
namespace Go.Proofs.YtpldoeeahhaimaaGreatDoor
open Go Go.RowKit
set_option linter.unusedSimpArgs false
set_option linter.unusedVariables false
set_option maxRecDepth 100000
set_option maxHeartbeats 1000000
theorem chkF_le (s:ByteArray) (h:s.size≤65535):∀ (b k:Nat),(chkF s b k).1≤65535
 | 0,_=>by simp [chkF]
 | b+1,k=>by
  unfold chkF
  by_cases h1:k<s.size
  ·
   rw [if_pos h1]
   by_cases h2:atB s k=0
   · rw [if_pos h2];show k≤65535;omega
   · rw [if_neg h2]
     by_cases h3:point s k=0
     · rw [if_pos h3];show k≤65535;omega
     · rw [if_neg h3];exact chkF_le s h b _
  · rw [if_neg h1];exact Nat.zero_le _
theorem chk_le (s:ByteArray):(chk s).1≤65535:=by
 unfold chk
 by_cases h:65535<s.size
 · rw [if_pos h];exact Nat.le_refl _
 · rw [if_neg h];exact chkF_le s (by omega) _ _
theorem text_cut (rb g n cp at0 L:Nat) (p0:Int) (z:Nat→Int) (w:World) (hR:RdAt w rb (.slice (some ⟨g,0,none⟩) n cp) at0 p0 0) (hB:Rb w rb g n cp z) (hL:z at0*256+z (at0+1)=L) (hk:at0+2≤n) (hn:n<at0+2+L) :
    Calls Tryz.prog 123 #[.pointer (some ⟨rb,0,none⟩)] w fun e w'=>e = .returned (.string ⟨#[]⟩)∧RdAt w' rb (.slice (some ⟨g,0,none⟩) n cp) at0 n 10∧w.grownBy w' (some rb):=by
  have hlt:rb<w.heap.size:=lt_of_block hR
  have hf:=hB.few
  have hle:=hB.le
  have W0:Hid (RdAt (w.alloc (.cells #[.pointer (some ⟨rb,0,none⟩)] 126)) rb (.slice (some ⟨g,0,none⟩) n cp) at0 p0 0):=hR.kept ((Below.refl _ _).alloc (Nat.le_refl _) _)
  have O0:Hid (Rb (w.alloc (.cells #[.pointer (some ⟨rb,0,none⟩)] 126)) rb g n cp z):=hB.below ((Below.refl _ _).alloc (Nat.le_refl _) _)
  obtain ⟨_,c0,c1,c2,c3,f1,f2,f3⟩:=hR.facts
  have N0:Hid (Calls Tryz.prog 129 #[.pointer (some ⟨rb,0,none⟩),.int .i64 2] (w.alloc (.cells #[.pointer (some ⟨rb,0,none⟩)] 126)) fun e w'=>e = .returned (.int .i64 L)∧RdAt w' rb (.slice (some ⟨g,0,none⟩) n cp) ((at0+2:Nat):Int) p0 0∧(w.alloc (.cells #[.pointer (some ⟨rb,0,none⟩)] 126)).grownBy w' (some rb)):=by
    have h:=num2_ok rb g n cp at0 p0 (z at0) (z (at0+1)) _ W0.out hle (by omega) (by omega) hB.ne (hB.own.1 _) (hB.own.1 _) (O0.out.own.2 _ (by omega)) (O0.out.own.2 _ (by omega))
    rw [hL] at h
    exact h
  have hmf:=hmf
  clear hR hB hL
  go_enter_defers Tryz.func123,Tryz.ntmps123
  go_wp2_with (go_at_call 129;refine N0.out.mono ?_;rintro e w1 ⟨rfl,hR1,hg1⟩;have bx1:=box_cell hlt hg1;have at1:=hR1.facts.2.2.1;have X1:Hid (RdAt w1 rb (.slice (some ⟨g,0,none⟩) n cp) ((at0+2:Nat):Int) p0 0∧(w.alloc (.cells #[.pointer (some ⟨rb,0,none⟩)] 126)).grownBy w1 (some rb)):=⟨hR1,hg1⟩;clear hR1 hg1)
  go_must (go_at_call 92)
  refine (take_short rb g n cp (at0+2) L p0 w1 X1.out.1 hk hle (by omega) hn).mono ?_
  rintro e w2 ⟨rfl,hb2⟩
  go_wp2
  refine leaves_cons (f:=141) (args:=#[.int .i64 at0,.pointer (some ⟨w.heap.size,0,none⟩)]) (by simp) (by simp [go_sem]) ?_
  refine (cloT_hit rb _ (.slice (some ⟨g,0,none⟩) n cp) ((at0+2:Nat):Int) p0 0 at0 n 10 [] _ (X1.out.1.kept hb2) (cell_later hb2 bx1)).mono ?_
  rintro e u' w4 ⟨rfl,rfl,hR4,hg4⟩
  simp [Leaves,settle,results,Tryz.results123,go_sem]
  exact ⟨hR4,gb_trans (gb_trans (gb_trans (gb_alloc (gb_refl _ _) _) X1.out.2) (gb_below hb2)) hg4⟩
theorem text_odd (rb g n cp at0 L:Nat) (p0:Int) (z:Nat→Int) (w:World) (hR:RdAt w rb (.slice (some ⟨g,0,none⟩) n cp) at0 p0 0) (hB:Rb w rb g n cp z) (hL:z at0*256+z (at0+1)=L) (hn:at0+2+L≤n) (c q:Nat) (hc:chk (strZ (fun i=>z (at0+2+i)) L)=(c,q)) (hq:q≠0) :
    Calls Tryz.prog 123 #[.pointer (some ⟨rb,0,none⟩)] w fun e w'=>e = .returned (.string ⟨#[]⟩)∧RdAt w' rb (.slice (some ⟨g,0,none⟩) n cp) at0 ((at0+2+c:Nat):Int) q∧w.grownBy w' (some rb):=by
  have hlt:rb<w.heap.size:=lt_of_block hR
  have hf:=hB.few
  have hle:=hB.le
  have W0:Hid (RdAt (w.alloc (.cells #[.pointer (some ⟨rb,0,none⟩)] 126)) rb (.slice (some ⟨g,0,none⟩) n cp) at0 p0 0):=hR.kept ((Below.refl _ _).alloc (Nat.le_refl _) _)
  have O0:Hid (Rb (w.alloc (.cells #[.pointer (some ⟨rb,0,none⟩)] 126)) rb g n cp z):=hB.below ((Below.refl _ _).alloc (Nat.le_refl _) _)
  obtain ⟨_,c0,c1,c2,c3,f1,f2,f3⟩:=hR.facts
  have N0:Hid (Calls Tryz.prog 129 #[.pointer (some ⟨rb,0,none⟩),.int .i64 2] (w.alloc (.cells #[.pointer (some ⟨rb,0,none⟩)] 126)) fun e w'=>e = .returned (.int .i64 L)∧RdAt w' rb (.slice (some ⟨g,0,none⟩) n cp) ((at0+2:Nat):Int) p0 0∧(w.alloc (.cells #[.pointer (some ⟨rb,0,none⟩)] 126)).grownBy w' (some rb)):=by
    have h:=num2_ok rb g n cp at0 p0 (z at0) (z (at0+1)) _ W0.out hle (by omega) (by omega) hB.ne (hB.own.1 _) (hB.own.1 _) (O0.out.own.2 _ (by omega)) (O0.out.own.2 _ (by omega))
    rw [hL] at h
    exact h
  have hmf:=hmf
  clear hR hB hL
  have hgr:=O0.out.ne
  go_enter_defers Tryz.func123,Tryz.ntmps123
  go_wp2_with (go_at_call 129;refine N0.out.mono ?_;rintro e w1 ⟨rfl,hR1,hg1⟩;have bx1:=box_cell hlt hg1;have at1:=hR1.facts.2.2.1;have X1:Hid (RdAt w1 rb (.slice (some ⟨g,0,none⟩) n cp) ((at0+2:Nat):Int) p0 0∧(w.alloc (.cells #[.pointer (some ⟨rb,0,none⟩)] 126)).grownBy w1 (some rb)):=⟨hR1,hg1⟩;clear hR1 hg1)
  go_must (go_at_call 92)
  have T1:=take_ok rb g n cp (at0+2) L p0 w1 X1.out.1 hle (by omega) hn
  refine T1.mono ?_
  clear T1
  rintro e w2 ⟨⟨ad,rfl,had⟩,hR2,hg2⟩
  have hg02:=gb_trans X1.out.2 hg2
  have bx2:=box_cell hlt hg02
  have cv:(convert 32 9 (.slice (some ad) L (cp-(at0+2)))).run Tryz.prog w2 = .ok (.string (strZ (fun i=>z (at0+2+i)) L)) w2:=by
    refine conv_any (some ad) L (cp-(at0+2)) _ w2 ⟨by omega,fun i=>O0.out.own.1 _,.inr ⟨ad,rfl,fun i hi=>?_⟩⟩
    obtain rfl:=had (by omega)
    rw [plain_add]
    exact (O0.out.own.grown hg02 hgr).2 _ (by omega)
  clear had
  have X2:Hid (RdAt w2 rb (.slice (some ⟨g,0,none⟩) n cp) ((at0+2+L:Nat):Int) p0 0∧(w.alloc (.cells #[.pointer (some ⟨rb,0,none⟩)] 126)).grownBy w2 (some rb)):=⟨hR2,hg02⟩
  clear hR2 hg2 hg02 bx1 at1
  obtain ⟨s,hs⟩:∃ s,strZ (fun i=>z (at0+2+i)) L=s:=⟨_,rfl⟩
  rw [hs] at hc cv
  clear hs
  have C0:Hid (Calls Tryz.prog 133 #[.string s] w2 fun e w'=>(e = .returned (.tuple #[.int .i64 c,.int .i64 q])∧(c:Int)≤1000000)∧Below w2.heap.size w2 w'):=by
    refine (chk_any s w2).mono ?_
    have hcs:=chk_le s
    rw [hc] at hcs ⊢
    rintro e w' ⟨rfl,hb,_⟩
    exact ⟨⟨rfl,by have:c≤65535:=hcs;omega⟩,hb⟩
  have hq':((q:Int) != 0)=true:=by simpa using hq
  clear hc hq
  go_wp2_with (first | (go_at_call 133;refine C0.out.mono ?_;rintro e w3 ⟨⟨rfl,hcl⟩,hb3⟩)|(go_at_call 121;refine (give_any _ _ _).mono ?_;rintro e w' ⟨rfl,rfl⟩))
  have bx3:=cell_later hb3 bx2
  refine leaves_cons (f:=141) (args:=#[.int .i64 at0,.pointer (some ⟨w.heap.size,0,none⟩)]) (by simp) (by simp [go_sem]) ?_
  refine (cloT_hit rb _ (.slice (some ⟨g,0,none⟩) n cp) ((at0+2+L:Nat):Int) p0 0 at0 _ q [] _ (X2.out.1.kept hb3) bx3).mono ?_
  rintro e u' w4 ⟨rfl,rfl,hR4,hg4⟩
  simp [Leaves,settle,results,Tryz.results123,go_sem]
  refine ⟨?_,gb_trans (gb_trans (gb_trans (gb_alloc (gb_refl _ _) _) X2.out.2) (gb_below hb3)) hg4⟩
  exact hR4
theorem data_dead (rb:Nat) (bv:Value) (at0 p0 q0:Int) (w:World) (hR:RdAt w rb bv at0 p0 q0) (hq:¬ q0=0) :
    Calls Tryz.prog 125 #[.pointer (some ⟨rb,0,none⟩)] w fun e w'=>e = .returned (.slice none 0 0)∧RdAt w' rb bv at0 p0 q0∧w.grownBy w' (some rb):=by
  have hlt:rb<w.heap.size:=lt_of_block hR
  have W0:Hid (RdAt (w.alloc (.cells #[.pointer (some ⟨rb,0,none⟩)] 126)).drew rb bv at0 p0 q0):=hR.kept (((Below.refl _ _).alloc (Nat.le_refl _) _).drew)
  obtain ⟨_,c0,c1,c2,c3,f1,f2,f3⟩:=hR.facts
  have T0:Hid (Calls Tryz.prog 129 #[.pointer (some ⟨rb,0,none⟩),.int .i64 2] (w.alloc (.cells #[.pointer (some ⟨rb,0,none⟩)] 126)).drew fun e w'=>e=gave p0 q0∧Below (w.alloc (.cells #[.pointer (some ⟨rb,0,none⟩)] 126)).drew.heap.size (w.alloc (.cells #[.pointer (some ⟨rb,0,none⟩)] 126)).drew w'):=num_bad rb bv at0 p0 q0 2 _ W0.out hq
  have FIN:Hid (∀ w1,Below (w.alloc (.cells #[.pointer (some ⟨rb,0,none⟩)] 126)).drew.heap.size (w.alloc (.cells #[.pointer (some ⟨rb,0,none⟩)] 126)).drew w1→w1.cell? ⟨w.heap.size,0,none⟩=some (.pointer (some ⟨rb,0,none⟩))∧∀ w4,w1.grownBy w4 (some rb)→w.grownBy w4 (some rb)):=by
    intro w1 hb1
    have q3:=gb_trans (gb_drew (gb_refl (w.alloc (.cells #[.pointer (some ⟨rb,0,none⟩)] 126)) (some rb))) (gb_below hb1)
    exact ⟨box_cell hlt q3,fun w4 hg4=>gb_trans (gb_trans (gb_alloc (gb_refl _ _) _) q3) hg4⟩
  have hmf:=hmf
  clear hR
  go_enter_defers Tryz.func125,Tryz.ntmps125
  go_wp2
  first | go_region_with (go_at_call 129;refine T0.out.mono ?_;rintro e w1 ⟨rfl,hb1⟩;refine aside Tryz.prog { tmps:=#[],defers:=[] } w ?_ ?_;(refine leaves_cons (f:=142) (args:=#[.int .i64 at0,.pointer (some ⟨w.heap.size,0,none⟩)]) (by simp) (by simp [go_sem]) ?_;refine (cloD_hit rb _ bv at0 p0 q0 at0 p0 q0 [] _ (W0.out.kept hb1) (FIN.out w1 hb1).1).mono ?_;rintro e u' w4 ⟨rfl,rfl,hR4,hg4⟩;simp [Leaves,settle,results,Tryz.results125,go_sem];exact ⟨hR4,(FIN.out w1 hb1).2 w4 hg4⟩)) | fail
  all_goals trivial
theorem rest_dead (rb:Nat) (bv:Value) (at0 p0 q0:Int) (w:World) (hR:RdAt w rb bv at0 p0 q0) (hq:¬ q0=0) :
    Calls Tryz.prog 126 #[.pointer (some ⟨rb,0,none⟩)] w fun e w'=>e = .returned (.slice none 0 0)∧RdAt w' rb bv at0 p0 q0∧w.grownBy w' (some rb):=by
  have hlt:rb<w.heap.size:=lt_of_block hR
  have W0:Hid (RdAt (w.alloc (.cells #[.pointer (some ⟨rb,0,none⟩)] 126)).drew rb bv at0 p0 q0):=hR.kept (((Below.refl _ _).alloc (Nat.le_refl _) _).drew)
  obtain ⟨_,c0,c1,c2,c3,f1,f2,f3⟩:=hR.facts
  have T0:Hid (Calls Tryz.prog 120 #[.pointer (some ⟨rb,0,none⟩)] (w.alloc (.cells #[.pointer (some ⟨rb,0,none⟩)] 126)).drew fun e w'=>e=gave p0 q0∧Below (w.alloc (.cells #[.pointer (some ⟨rb,0,none⟩)] 126)).drew.heap.size (w.alloc (.cells #[.pointer (some ⟨rb,0,none⟩)] 126)).drew w'):=left_bad rb bv at0 p0 q0 _ W0.out hq
  have FIN:Hid (∀ w1,Below (w.alloc (.cells #[.pointer (some ⟨rb,0,none⟩)] 126)).drew.heap.size (w.alloc (.cells #[.pointer (some ⟨rb,0,none⟩)] 126)).drew w1→w1.cell? ⟨w.heap.size,0,none⟩=some (.pointer (some ⟨rb,0,none⟩))∧∀ w4,w1.grownBy w4 (some rb)→w.grownBy w4 (some rb)):=by
    intro w1 hb1
    have q3:=gb_trans (gb_drew (gb_refl (w.alloc (.cells #[.pointer (some ⟨rb,0,none⟩)] 126)) (some rb))) (gb_below hb1)
    exact ⟨box_cell hlt q3,fun w4 hg4=>gb_trans (gb_trans (gb_alloc (gb_refl _ _) _) q3) hg4⟩
  have hmf:=hmf
  clear hR
  go_enter_defers Tryz.func126,Tryz.ntmps126
  go_wp2
  first | go_region_with (go_at_call 120;refine T0.out.mono ?_;rintro e w1 ⟨rfl,hb1⟩;refine aside Tryz.prog { tmps:=#[],defers:=[] } w ?_ ?_;(refine leaves_cons (f:=143) (args:=#[.int .i64 at0,.pointer (some ⟨w.heap.size,0,none⟩)]) (by simp) (by simp [go_sem]) ?_;refine (cloR_hit rb _ bv at0 p0 q0 at0 p0 q0 [] _ (W0.out.kept hb1) (FIN.out w1 hb1).1).mono ?_;rintro e u' w4 ⟨rfl,rfl,hR4,hg4⟩;simp [Leaves,settle,results,Tryz.results126,go_sem];exact ⟨hR4,(FIN.out w1 hb1).2 w4 hg4⟩)) | fail
  all_goals trivial
theorem data_short (rb g n cp at0:Nat) (p0:Int) (w:World) (hR:RdAt w rb (.slice (some ⟨g,0,none⟩) n cp) at0 p0 0) (h1:at0≤n) (h2:n≤cp) (h3:n≤1000000) (hk:n<at0+2) :
    Calls Tryz.prog 125 #[.pointer (some ⟨rb,0,none⟩)] w fun e w'=>e = .returned (.slice none 0 0)∧RdAt w' rb (.slice (some ⟨g,0,none⟩) n cp) at0 n 10∧w.grownBy w' (some rb):=by
  have hlt:rb<w.heap.size:=lt_of_block hR
  have W0:Hid (RdAt (w.alloc (.cells #[.pointer (some ⟨rb,0,none⟩)] 126)).drew rb (.slice (some ⟨g,0,none⟩) n cp) at0 p0 0):=hR.kept (((Below.refl _ _).alloc (Nat.le_refl _) _).drew)
  obtain ⟨_,c0,c1,c2,c3,f1,f2,f3⟩:=hR.facts
  have T0:Hid (Calls Tryz.prog 129 #[.pointer (some ⟨rb,0,none⟩),.int .i64 2] (w.alloc (.cells #[.pointer (some ⟨rb,0,none⟩)] 126)).drew fun e w'=>e=gave n 10∧Below (w.alloc (.cells #[.pointer (some ⟨rb,0,none⟩)] 126)).drew.heap.size (w.alloc (.cells #[.pointer (some ⟨rb,0,none⟩)] 126)).drew w'):=num_short rb g n cp at0 2 p0 _ W0.out h1 h2 h3 hk
  have FIN:Hid (∀ w1,Below (w.alloc (.cells #[.pointer (some ⟨rb,0,none⟩)] 126)).drew.heap.size (w.alloc (.cells #[.pointer (some ⟨rb,0,none⟩)] 126)).drew w1→w1.cell? ⟨w.heap.size,0,none⟩=some (.pointer (some ⟨rb,0,none⟩))∧∀ w4,w1.grownBy w4 (some rb)→w.grownBy w4 (some rb)):=by
    intro w1 hb1
    have q3:=gb_trans (gb_drew (gb_refl (w.alloc (.cells #[.pointer (some ⟨rb,0,none⟩)] 126)) (some rb))) (gb_below hb1)
    exact ⟨box_cell hlt q3,fun w4 hg4=>gb_trans (gb_trans (gb_alloc (gb_refl _ _) _) q3) hg4⟩
  have hmf:=hmf
  clear hR
  go_enter_defers Tryz.func125,Tryz.ntmps125
  go_wp2
  first | go_region_with (go_at_call 129;refine T0.out.mono ?_;rintro e w1 ⟨rfl,hb1⟩;refine aside Tryz.prog { tmps:=#[],defers:=[] } w ?_ ?_;(refine leaves_cons (f:=142) (args:=#[.int .i64 at0,.pointer (some ⟨w.heap.size,0,none⟩)]) (by simp) (by simp [go_sem]) ?_;refine (cloD_hit rb _ (.slice (some ⟨g,0,none⟩) n cp) at0 p0 0 at0 n 10 [] _ (W0.out.kept hb1) (FIN.out w1 hb1).1).mono ?_;rintro e u' w4 ⟨rfl,rfl,hR4,hg4⟩;simp [Leaves,settle,results,Tryz.results125,go_sem];exact ⟨hR4,(FIN.out w1 hb1).2 w4 hg4⟩)) | fail
  all_goals trivial
theorem data_cut (rb g n cp at0 L:Nat) (p0:Int) (z:Nat→Int) (w:World) (hR:RdAt w rb (.slice (some ⟨g,0,none⟩) n cp) at0 p0 0) (hB:Rb w rb g n cp z) (hL:z at0*256+z (at0+1)=L) (hk:at0+2≤n) (hn:n<at0+2+L) :
    Calls Tryz.prog 125 #[.pointer (some ⟨rb,0,none⟩)] w fun e w'=>e = .returned (.slice none 0 0)∧RdAt w' rb (.slice (some ⟨g,0,none⟩) n cp) at0 n 10∧w.grownBy w' (some rb):=by
  have hlt:rb<w.heap.size:=lt_of_block hR
  have hf:=hB.few
  have hle:=hB.le
  have hgr:=hB.ne
  have W0:Hid (RdAt (w.alloc (.cells #[.pointer (some ⟨rb,0,none⟩)] 126)).drew rb (.slice (some ⟨g,0,none⟩) n cp) at0 p0 0):=hR.kept (((Below.refl _ _).alloc (Nat.le_refl _) _).drew)
  have O0:Hid (Own (w.alloc (.cells #[.pointer (some ⟨rb,0,none⟩)] 126)).drew g n z):=hB.own.below (((Below.refl _ _).alloc (Nat.le_refl _) _).drew)
  obtain ⟨_,c0,c1,c2,c3,f1,f2,f3⟩:=hR.facts
  have N0:Hid (Calls Tryz.prog 129 #[.pointer (some ⟨rb,0,none⟩),.int .i64 2] (w.alloc (.cells #[.pointer (some ⟨rb,0,none⟩)] 126)).drew fun e w'=>e = .returned (.int .i64 L)∧RdAt w' rb (.slice (some ⟨g,0,none⟩) n cp) ((at0+2:Nat):Int) p0 0∧w'.cell? ⟨w.heap.size,0,none⟩=some (.pointer (some ⟨rb,0,none⟩))∧(w.alloc (.cells #[.pointer (some ⟨rb,0,none⟩)] 126)).grownBy w' (some rb)):=by
    have h:=num2_ok rb g n cp at0 p0 (z at0) (z (at0+1)) _ W0.out hle (by omega) (by omega) hgr (O0.out.1 _) (O0.out.1 _) (O0.out.2 at0 (by omega)) (O0.out.2 (at0+1) (by omega))
    rw [hL] at h
    refine h.mono ?_
    rintro e w' ⟨rfl,q1,q2⟩
    have q3:=gb_trans (gb_drew (gb_refl (w.alloc (.cells #[.pointer (some ⟨rb,0,none⟩)] 126)) (some rb))) q2
    exact ⟨rfl,q1,box_cell hlt q3,q3⟩
  have T0:Hid (∀ w1,RdAt w1 rb (.slice (some ⟨g,0,none⟩) n cp) ((at0+2:Nat):Int) p0 0→Calls Tryz.prog 92 #[.pointer (some ⟨rb,0,none⟩),.int .i64 L] w1 fun e w'=>e=gave n 10∧Below w1.heap.size w1 w'):=fun w1 r1=>take_short rb g n cp (at0+2) L p0 w1 r1 hk hle (by omega) hn
  have FIN:Hid (∀ w1 w2,(w.alloc (.cells #[.pointer (some ⟨rb,0,none⟩)] 126)).grownBy w1 (some rb)→Below w1.heap.size w1 w2→w2.cell? ⟨w.heap.size,0,none⟩=some (.pointer (some ⟨rb,0,none⟩))∧∀ w4,w2.grownBy w4 (some rb)→w.grownBy w4 (some rb)):=by
    intro w1 w2 b1 hb2
    have q3:=gb_trans b1 (gb_below hb2)
    exact ⟨box_cell hlt q3,fun w4 hg4=>gb_trans (gb_trans (gb_alloc (gb_refl _ _) _) q3) hg4⟩
  have hmf:=hmf
  clear hR hB hL hgr
  go_enter_defers Tryz.func125,Tryz.ntmps125
  go_wp2
  first | go_region_with (first | (go_at_call 129;refine N0.out.mono ?_;rintro e w1 ⟨rfl,hR1,bx1,hg1⟩;have Y1:Hid (RdAt w1 rb (.slice (some ⟨g,0,none⟩) n cp) ((at0+2:Nat):Int) p0 0∧(w.alloc (.cells #[.pointer (some ⟨rb,0,none⟩)] 126)).grownBy w1 (some rb)):=⟨hR1,hg1⟩;clear hR1 hg1)|(go_at_call 92;refine (T0.out _ Y1.out.1).mono ?_;rintro e w2 ⟨rfl,hb2⟩;refine aside Tryz.prog { tmps:=#[],defers:=[] } w ?_ ?_;(refine leaves_cons (f:=142) (args:=#[.int .i64 at0,.pointer (some ⟨w.heap.size,0,none⟩)]) (by simp) (by simp [go_sem]) ?_;refine (cloD_hit rb _ (.slice (some ⟨g,0,none⟩) n cp) ((at0+2:Nat):Int) p0 0 at0 n 10 [] _ (Y1.out.1.kept hb2) (FIN.out _ w2 Y1.out.2 hb2).1).mono ?_;rintro e u' w4 ⟨rfl,rfl,hR4,hg4⟩;simp [Leaves,settle,results,Tryz.results125,go_sem];exact ⟨hR4,(FIN.out _ w2 Y1.out.2 hb2).2 w4 hg4⟩))) | fail
  all_goals trivial
theorem data_ok (rb g n cp at0 L:Nat) (p0:Int) (z:Nat→Int) (w:World) (hR:RdAt w rb (.slice (some ⟨g,0,none⟩) n cp) at0 p0 0) (hB:Rb w rb g n cp z) (hL:z at0*256+z (at0+1)=L) (hn:at0+2+L≤n) :
    Calls Tryz.prog 125 #[.pointer (some ⟨rb,0,none⟩)] w fun e w'=>∃ g' c',e = .returned (.slice (some ⟨g',0,none⟩) L c')∧(Came w' (some ⟨g',0,none⟩) L c' (fun i=>z (at0+2+i))∧w.heap.size≤g')∧RdAt w' rb (.slice (some ⟨g,0,none⟩) n cp) ((at0+2+L:Nat):Int) p0 0∧w.grownBy w' (some rb):=by
  have hlt:rb<w.heap.size:=lt_of_block hR
  have hf:=hB.few
  have hle:=hB.le
  have hgr:=hB.ne
  have W0:Hid (RdAt (w.alloc (.cells #[.pointer (some ⟨rb,0,none⟩)] 126)).drew rb (.slice (some ⟨g,0,none⟩) n cp) at0 p0 0):=hR.kept (((Below.refl _ _).alloc (Nat.le_refl _) _).drew)
  have O0:Hid (Own (w.alloc (.cells #[.pointer (some ⟨rb,0,none⟩)] 126)).drew g n z):=hB.own.below (((Below.refl _ _).alloc (Nat.le_refl _) _).drew)
  obtain ⟨_,c0,c1,c2,c3,f1,f2,f3⟩:=hR.facts
  have N0:Hid (Calls Tryz.prog 129 #[.pointer (some ⟨rb,0,none⟩),.int .i64 2] (w.alloc (.cells #[.pointer (some ⟨rb,0,none⟩)] 126)).drew fun e w'=>e = .returned (.int .i64 L)∧RdAt w' rb (.slice (some ⟨g,0,none⟩) n cp) ((at0+2:Nat):Int) p0 0∧w'.cell? ⟨w.heap.size,0,none⟩=some (.pointer (some ⟨rb,0,none⟩))∧(w.alloc (.cells #[.pointer (some ⟨rb,0,none⟩)] 126)).grownBy w' (some rb)):=by
    have h:=num2_ok rb g n cp at0 p0 (z at0) (z (at0+1)) _ W0.out hle (by omega) (by omega) hgr (O0.out.1 _) (O0.out.1 _) (O0.out.2 at0 (by omega)) (O0.out.2 (at0+1) (by omega))
    rw [hL] at h
    refine h.mono ?_
    rintro e w' ⟨rfl,q1,q2⟩
    have q3:=gb_trans (gb_drew (gb_refl (w.alloc (.cells #[.pointer (some ⟨rb,0,none⟩)] 126)) (some rb))) q2
    exact ⟨rfl,q1,box_cell hlt q3,q3⟩
  have T0:Hid (∀ w1,RdAt w1 rb (.slice (some ⟨g,0,none⟩) n cp) ((at0+2:Nat):Int) p0 0→(w.alloc (.cells #[.pointer (some ⟨rb,0,none⟩)] 126)).grownBy w1 (some rb)→Calls Tryz.prog 92 #[.pointer (some ⟨rb,0,none⟩),.int .i64 L] w1 fun e w'=>(∃ ad,e = .returned (.slice (some ad) L (cp-(at0+2)))∧Came w' (some ad) L (cp-(at0+2)) (fun i=>z (at0+2+i)))∧RdAt w' rb (.slice (some ⟨g,0,none⟩) n cp) ((at0+2+L:Nat):Int) p0 0∧(w.alloc (.cells #[.pointer (some ⟨rb,0,none⟩)] 126)).grownBy w' (some rb)):=by
    intro w1 r1 b1
    refine (take_ok rb g n cp (at0+2) L p0 w1 r1 hle (by omega) hn).mono ?_
    rintro e w' ⟨⟨ad,rfl,had⟩,q1,q2⟩
    have q3:=gb_trans b1 q2
    refine ⟨⟨ad,rfl,by omega,fun i=>O0.out.1 _,.inr ⟨ad,rfl,fun i hi=>?_⟩⟩,q1,q3⟩
    obtain rfl:=had (by omega)
    rw [plain_add]
    exact (Own.grown (w:=(w.alloc (.cells #[.pointer (some ⟨rb,0,none⟩)] 126))) O0.out q3 hgr).2 (at0+2+i) (by omega)
  have C0:Hid (∀ w2 ad,Came w2 (some ad) L (cp-(at0+2)) (fun i=>z (at0+2+i))→RdAt w2 rb (.slice (some ⟨g,0,none⟩) n cp) ((at0+2+L:Nat):Int) p0 0→(w.alloc (.cells #[.pointer (some ⟨rb,0,none⟩)] 126)).grownBy w2 (some rb)→Calls Tryz.prog 89 #[.slice (some ad) L (cp-(at0+2))] w2 fun e w'=>∃ g' c',e = .returned (.slice (some ⟨g',0,none⟩) L c')∧(Came w' (some ⟨g',0,none⟩) L c' (fun i=>z (at0+2+i))∧w.heap.size≤g')∧RdAt w' rb (.slice (some ⟨g,0,none⟩) n cp) ((at0+2+L:Nat):Int) p0 0∧(w.alloc (.cells #[.pointer (some ⟨rb,0,none⟩)] 126)).grownBy w' (some rb)):=by
    intro w2 ad cm r2 b2
    refine (clone_some ad L (cp-(at0+2)) _ w2 cm (by omega)).mono ?_
    rintro e w' ⟨g',c',rfl,ho,hb⟩
    have hge:w2.heap.size≤g':=(ho.lt g' rfl).1
    have hs2:=b2.size
    have hs3:w.heap.size≤(w.alloc (.cells #[.pointer (some ⟨rb,0,none⟩)] 126)).heap.size:=by simp
    exact ⟨g',c',rfl,⟨made_came (w:=w) ho (fun i=>O0.out.1 _),by omega⟩,r2.kept hb,gb_trans b2 (gb_below hb)⟩
  have FIN:Hid (∀ w3 g' c',(Came w3 (some ⟨g',0,none⟩) L c' (fun i=>z (at0+2+i))∧w.heap.size≤g')→RdAt w3 rb (.slice (some ⟨g,0,none⟩) n cp) ((at0+2+L:Nat):Int) p0 0→(w.alloc (.cells #[.pointer (some ⟨rb,0,none⟩)] 126)).grownBy w3 (some rb)→∀ w4,Below w3.heap.size w3 w4→(Came w4 (some ⟨g',0,none⟩) L c' (fun i=>z (at0+2+i))∧w.heap.size≤g')∧RdAt w4 rb (.slice (some ⟨g,0,none⟩) n cp) ((at0+2+L:Nat):Int) p0 0∧w.grownBy w4 (some rb)) :=
    fun w3 g' c' cm r3 b3 w4 hb=>⟨⟨came_below (B:=0) cm.1 hb,cm.2⟩,r3.kept hb,gb_trans (gb_trans (gb_alloc (gb_refl _ _) _) b3) (gb_below hb)⟩
  have hmf:=hmf
  clear hR hB hL hgr
  go_enter_defers Tryz.func125,Tryz.ntmps125
  go_wp2
  first | go_region_with (first | (go_at_call 129;refine N0.out.mono ?_;rintro e w1 ⟨rfl,hR1,bx1,hg1⟩;have Y1:Hid (RdAt w1 rb (.slice (some ⟨g,0,none⟩) n cp) ((at0+2:Nat):Int) p0 0∧(w.alloc (.cells #[.pointer (some ⟨rb,0,none⟩)] 126)).grownBy w1 (some rb)):=⟨hR1,hg1⟩;clear hR1 hg1)|(go_at_call 92;(refine (T0.out _ Y1.out.1 Y1.out.2).mono ?_;rintro e w2 ⟨⟨ad,rfl,hcm⟩,hR2,hg2⟩;have Y2:Hid (Came w2 (some ad) L (cp-(at0+2)) (fun i=>z (at0+2+i))∧RdAt w2 rb (.slice (some ⟨g,0,none⟩) n cp) ((at0+2+L:Nat):Int) p0 0∧(w.alloc (.cells #[.pointer (some ⟨rb,0,none⟩)] 126)).grownBy w2 (some rb)):=⟨hcm,hR2,hg2⟩;clear hR2 hg2 hcm))|(go_at_call 89;(refine (C0.out _ _ Y2.out.1 Y2.out.2.1 Y2.out.2.2).mono ?_;rintro e w3 ⟨g',c',rfl,hcm3,hR3,hg3⟩;have bx3:=box_cell hlt hg3;have Y3:Hid (∀ w4,Below w3.heap.size w3 w4→(Came w4 (some ⟨g',0,none⟩) L c' (fun i=>z (at0+2+i))∧w.heap.size≤g')∧RdAt w4 rb (.slice (some ⟨g,0,none⟩) n cp) ((at0+2+L:Nat):Int) p0 0∧w.grownBy w4 (some rb)):=FIN.out w3 g' c' hcm3 hR3 hg3;clear hcm3 hR3 hg3))) | fail
  all_goals go_wp2
  all_goals refine leaves_cons (f:=142) (args:=#[.int .i64 at0,.pointer (some ⟨w.heap.size,0,none⟩)]) (by simp) (by simp [go_sem]) ?_
  all_goals refine (cloD_idle rb _ at0 _ bx3).mono ?_
  all_goals rintro e u' w4 ⟨rfl,rfl,hb4⟩
  all_goals obtain ⟨q1,q2,q3⟩:=Y3.out w4 hb4
  all_goals simp only [Leaves,settle,results,Tryz.results125,go_sem]
  all_goals first | exact ⟨g',c',rfl,q1,q2,q3⟩|(simp [Leaves,settle,results,Tryz.results125,go_sem];exact ⟨g',c',⟨rfl,rfl⟩,q1,q2,q3⟩)
theorem rest_ok (rb g n cp at0:Nat) (p0:Int) (z:Nat→Int) (w:World) (hR:RdAt w rb (.slice (some ⟨g,0,none⟩) n cp) at0 p0 0) (hB:Rb w rb g n cp z) (hn:at0≤n) :
    Calls Tryz.prog 126 #[.pointer (some ⟨rb,0,none⟩)] w fun e w'=>∃ g' c',e = .returned (.slice (some ⟨g',0,none⟩) (n-at0) c')∧(Came w' (some ⟨g',0,none⟩) (n-at0) c' (fun i=>z (at0+i))∧w.heap.size≤g')∧RdAt w' rb (.slice (some ⟨g,0,none⟩) n cp) n p0 0∧w.grownBy w' (some rb):=by
  have hlt:rb<w.heap.size:=lt_of_block hR
  have hf:=hB.few
  have hle:=hB.le
  have hgr:=hB.ne
  have W0:Hid (RdAt (w.alloc (.cells #[.pointer (some ⟨rb,0,none⟩)] 126)).drew rb (.slice (some ⟨g,0,none⟩) n cp) at0 p0 0):=hR.kept (((Below.refl _ _).alloc (Nat.le_refl _) _).drew)
  have O0:Hid (Own (w.alloc (.cells #[.pointer (some ⟨rb,0,none⟩)] 126)).drew g n z):=hB.own.below (((Below.refl _ _).alloc (Nat.le_refl _) _).drew)
  obtain ⟨_,c0,c1,c2,c3,f1,f2,f3⟩:=hR.facts
  have N0:Hid (Calls Tryz.prog 120 #[.pointer (some ⟨rb,0,none⟩)] (w.alloc (.cells #[.pointer (some ⟨rb,0,none⟩)] 126)).drew fun e w'=>(∃ ad,e = .returned (.slice (some ad) (n-at0) (cp-at0)))∧RdAt w' rb (.slice (some ⟨g,0,none⟩) n cp) at0 p0 0∧w'.cell? ⟨w.heap.size,0,none⟩=some (.pointer (some ⟨rb,0,none⟩))∧(w.alloc (.cells #[.pointer (some ⟨rb,0,none⟩)] 126)).grownBy w' (some rb)):=by
    refine (left_ok rb g n cp at0 p0 _ W0.out hn hle (by omega)).mono ?_
    rintro e w' ⟨⟨ad,rfl,_⟩,rfl⟩
    have q3:(w.alloc (.cells #[.pointer (some ⟨rb,0,none⟩)] 126)).grownBy (w.alloc (.cells #[.pointer (some ⟨rb,0,none⟩)] 126)).drew.drew (some rb):=gb_drew (gb_drew (gb_refl _ _))
    exact ⟨⟨ad,rfl⟩,W0.out.kept (Below.refl _ _).drew,box_cell hlt q3,q3⟩
  have T0:Hid (∀ w1,RdAt w1 rb (.slice (some ⟨g,0,none⟩) n cp) at0 p0 0→(w.alloc (.cells #[.pointer (some ⟨rb,0,none⟩)] 126)).grownBy w1 (some rb)→Calls Tryz.prog 92 #[.pointer (some ⟨rb,0,none⟩),.int .i64 ((n-at0:Nat):Int)] w1 fun e w'=>(∃ ad,e = .returned (.slice (some ad) (n-at0) (cp-at0))∧Came w' (some ad) (n-at0) (cp-at0) (fun i=>z (at0+i)))∧RdAt w' rb (.slice (some ⟨g,0,none⟩) n cp) n p0 0∧(w.alloc (.cells #[.pointer (some ⟨rb,0,none⟩)] 126)).grownBy w' (some rb)):=by
    intro w1 r1 b1
    refine (take_ok rb g n cp at0 (n-at0) p0 w1 r1 hle (by omega) (by omega)).mono ?_
    rintro e w' ⟨⟨ad,rfl,had⟩,q1,q2⟩
    have q3:=gb_trans b1 q2
    refine ⟨⟨ad,rfl,by omega,fun i=>O0.out.1 _,.inr ⟨ad,rfl,fun i hi=>?_⟩⟩,by rw [show at0+(n-at0)=n by omega] at q1;exact q1,q3⟩
    obtain rfl:=had (by omega)
    rw [plain_add]
    exact (Own.grown (w:=(w.alloc (.cells #[.pointer (some ⟨rb,0,none⟩)] 126))) O0.out q3 hgr).2 (at0+i) (by omega)
  have C0:Hid (∀ w2 ad,Came w2 (some ad) (n-at0) (cp-at0) (fun i=>z (at0+i))→RdAt w2 rb (.slice (some ⟨g,0,none⟩) n cp) n p0 0→(w.alloc (.cells #[.pointer (some ⟨rb,0,none⟩)] 126)).grownBy w2 (some rb)→Calls Tryz.prog 89 #[.slice (some ad) (n-at0) (cp-at0)] w2 fun e w'=>∃ g' c',e = .returned (.slice (some ⟨g',0,none⟩) (n-at0) c')∧(Came w' (some ⟨g',0,none⟩) (n-at0) c' (fun i=>z (at0+i))∧w.heap.size≤g')∧RdAt w' rb (.slice (some ⟨g,0,none⟩) n cp) n p0 0∧(w.alloc (.cells #[.pointer (some ⟨rb,0,none⟩)] 126)).grownBy w' (some rb)):=by
    intro w2 ad cm r2 b2
    refine (clone_some ad (n-at0) (cp-at0) _ w2 cm (by omega)).mono ?_
    rintro e w' ⟨g',c',rfl,ho,hb⟩
    have hge:w2.heap.size≤g':=(ho.lt g' rfl).1
    have hs2:=b2.size
    have hs3:w.heap.size≤(w.alloc (.cells #[.pointer (some ⟨rb,0,none⟩)] 126)).heap.size:=by simp
    exact ⟨g',c',rfl,⟨made_came (w:=w) ho (fun i=>O0.out.1 _),by omega⟩,r2.kept hb,gb_trans b2 (gb_below hb)⟩
  have FIN:Hid (∀ w3 g' c',(Came w3 (some ⟨g',0,none⟩) (n-at0) c' (fun i=>z (at0+i))∧w.heap.size≤g')→RdAt w3 rb (.slice (some ⟨g,0,none⟩) n cp) n p0 0→(w.alloc (.cells #[.pointer (some ⟨rb,0,none⟩)] 126)).grownBy w3 (some rb)→∀ w4,Below w3.heap.size w3 w4→(Came w4 (some ⟨g',0,none⟩) (n-at0) c' (fun i=>z (at0+i))∧w.heap.size≤g')∧RdAt w4 rb (.slice (some ⟨g,0,none⟩) n cp) n p0 0∧w.grownBy w4 (some rb)) :=
    fun w3 g' c' cm r3 b3 w4 hb=>⟨⟨came_below (B:=0) cm.1 hb,cm.2⟩,r3.kept hb,gb_trans (gb_trans (gb_alloc (gb_refl _ _) _) b3) (gb_below hb)⟩
  have hmf:=hmf
  clear hR hB hgr
  go_enter_defers Tryz.func126,Tryz.ntmps126
  go_wp2
  first | go_region_with (first | (go_at_call 120;refine N0.out.mono ?_;rintro e w1 ⟨⟨ad0,rfl⟩,hR1,bx1,hg1⟩;have Y1:Hid (RdAt w1 rb (.slice (some ⟨g,0,none⟩) n cp) at0 p0 0∧(w.alloc (.cells #[.pointer (some ⟨rb,0,none⟩)] 126)).grownBy w1 (some rb)):=⟨hR1,hg1⟩;clear hR1 hg1)|(go_at_call 92;(refine (T0.out _ Y1.out.1 Y1.out.2).mono ?_;rintro e w2 ⟨⟨ad,rfl,hcm⟩,hR2,hg2⟩;have Y2:Hid (Came w2 (some ad) (n-at0) (cp-at0) (fun i=>z (at0+i))∧RdAt w2 rb (.slice (some ⟨g,0,none⟩) n cp) n p0 0∧(w.alloc (.cells #[.pointer (some ⟨rb,0,none⟩)] 126)).grownBy w2 (some rb)):=⟨hcm,hR2,hg2⟩;clear hR2 hg2 hcm))|(go_at_call 89;(refine (C0.out _ _ Y2.out.1 Y2.out.2.1 Y2.out.2.2).mono ?_;rintro e w3 ⟨g',c',rfl,hcm3,hR3,hg3⟩;have bx3:=box_cell hlt hg3;have Y3:Hid (∀ w4,Below w3.heap.size w3 w4→(Came w4 (some ⟨g',0,none⟩) (n-at0) c' (fun i=>z (at0+i))∧w.heap.size≤g')∧RdAt w4 rb (.slice (some ⟨g,0,none⟩) n cp) n p0 0∧w.grownBy w4 (some rb)):=FIN.out w3 g' c' hcm3 hR3 hg3;clear hcm3 hR3 hg3))) | fail
  all_goals go_wp2
  all_goals refine leaves_cons (f:=143) (args:=#[.int .i64 at0,.pointer (some ⟨w.heap.size,0,none⟩)]) (by simp) (by simp [go_sem]) ?_
  all_goals refine (cloR_idle rb _ at0 _ bx3).mono ?_
  all_goals rintro e u' w4 ⟨rfl,rfl,hb4⟩
  all_goals obtain ⟨q1,q2,q3⟩:=Y3.out w4 hb4
  all_goals simp only [Leaves,settle,results,Tryz.results126,go_sem]
  all_goals first | exact ⟨g',c',rfl,q1,q2,q3⟩|(simp [Leaves,settle,results,Tryz.results126,go_sem];exact ⟨g',c',⟨rfl,rfl⟩,q1,q2,q3⟩)
end Go.Proofs.YtpldoeeahhaimaaGreatDoor
