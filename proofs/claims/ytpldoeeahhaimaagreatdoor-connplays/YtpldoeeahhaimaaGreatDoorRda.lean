import Derived.Test.YtpldoeeahhaimaaGreatDoorGtwo
import Derived.Lib.LazyBuf
namespace Go.Proofs.YtpldoeeahhaimaaGreatDoor
open Go Go.RowKit
set_option linter.unusedSimpArgs false
set_option linter.unusedVariables false
set_option maxRecDepth 100000
set_option maxHeartbeats 1000000
theorem eql_nil (a:Addr) (l c:Nat) (w:World):(binOp .eql 32 (.slice (some a) l c) (.slice none 0 0)).run Tryz.prog w = .ok (.bool false) w:=by kernel_rfl
theorem clone_some (ad:Addr) (l k:Nat) (z:Nat→Int) (w:World) (h:Came w (some ad) l k z) (hl:l≤800000) :
    Calls Tryz.prog 89 #[.slice (some ad) l k] w fun e w'=>Made w w' e l (cellsOf z l):=by
  obtain ⟨i0,hi,hz0,hz1,hz2⟩:=info_parts Tryz.info5
  have en:=eql_nil
  have HC:Hid (∀ j,j<l→w.cell? (ad.add j)=some (.int .u8 (z j))):=by
    obtain ⟨_,_,⟨h,_⟩|⟨ad',h,hc⟩⟩:=h
    · cases h
    · obtain rfl:=Option.some.inj h
      exact hc
  clear h
  have OWN0:Hid ((w.alloc (.cells #[] 5)).ownsRow w.heap.size 5 1 (.slice (some ⟨w.heap.size,0,none⟩) 0 0) 0 []):=World.ownsRow_made w #[] 0 (Nat.le_refl _) (by decide) (by decide)
  go_enter Tryz.func89,Tryz.ntmps89
  go_wp2_with (at_builtin;refine wpList_append_own _ rfl (.tmp 5) (.tmp 6) 32 rfl w.heap.size 5 i0 (.int .u8 0) 1 1 Tryz.underlying32 hi hz0 hz1 hz2 rfl (by decide) _ _ _ rfl OWN0.out ad l k (cellsOf z l) rfl ?c0 ?c1 ?c2 ?c3 ?c4 ?c5 ?_)
  case c0=>simp [cellsOf]
  case c1 =>
    intro j u hj
    obtain ⟨h1,rfl⟩:=cellsOf_get z l j u hj
    exact cell_later ((Below.refl _ _).alloc (Nat.le_refl _) _) (HC.out j h1)
  case c2=>exact fun u hu=>cellsOf_one z l u hu
  case c3=>unfold maxLen;omega
  case c4=>omega
  case c5=>simp
  intro v1 w1 hown1 hgrow1 hnil1
  have hb1:Below w.heap.size w w1:=((Below.refl w.heap.size w).alloc (Nat.le_refl _) _).grown hgrow1 (by simp) (by intro k hk;simp [Value.ownBlock] at hk;omega)
  have hown2:w1.ownsRow w.heap.size 5 1 v1 l (cellsOf z l):=by simpa using hown1
  have hex:∃ g cp,v1 = .slice (some ⟨g,0,none⟩) l cp:=by
    obtain ⟨_,h | ⟨g,cp,cur,hv,_⟩⟩:=hown2
    · exact absurd h.1 (by simpa using hnil1)
    · exact ⟨g,cp,hv⟩
  obtain ⟨g,cp,rfl⟩:=hex
  have HS:Hid (w1.ownsRow w.heap.size 5 1 (.slice (some ⟨g,0,none⟩) l cp) l (cellsOf z l)∧Below w.heap.size w w1):=⟨hown2,hb1⟩
  clear hown1 hown2 hgrow1 hnil1 hb1
  go_wp2
  go_ret
  exact ⟨g,cp,rfl,HS.out.1,HS.out.2⟩
def NewRd (w w':World) (e:Ending) (n:Nat) (z:Nat→Int):Prop :=
 ∃ rb g cp,e = .returned (.pointer (some ⟨rb,0,none⟩))∧RdAt w' rb (.slice (some ⟨g,0,none⟩) n cp) 0 0 0∧Own w' g n z∧g≠rb∧n≤cp∧w.heap.size≤g∧w.heap.size≤rb∧Below w.heap.size w w'
theorem read_some (ad:Addr) (l k:Nat) (z:Nat→Int) (w:World) (h:Came w (some ad) l k z) (hl:l≤800000) :
    Calls Tryz.prog 64 #[.slice (some ad) l k] w fun e w'=>NewRd w w' e l z:=by
  have C0:Hid (Calls Tryz.prog 89 #[.slice (some ad) l k] w fun e w'=>Made w w' e l (cellsOf z l)):=clone_some ad l k z w h hl
  have hz:Hid (∀ i,0≤z i∧z i≤255):=h.2.1
  clear h
  go_enter Tryz.func64,Tryz.ntmps64
  go_wp2_with (go_at_call 89;refine C0.out.mono ?_;rintro e w1 ⟨g,cp,rfl,ho,hb⟩)
  go_ret
  have hcm:=made_came (w:=w) ho hz.out
  have hgl:g<w1.heap.size∧w.heap.size≤g:=by
    have:=ho.lt g rfl
    omega
  have hbb:Below w1.heap.size w1 (w1.alloc (.cells #[.slice (some ⟨g,0,none⟩) l cp,.int .i64 0,.int .i64 0,.int .i64 0] 161)):=(Below.refl _ _).alloc (Nat.le_refl _) _
  refine ⟨w1.heap.size,g,cp,rfl,heap_alloc_new w1 _,⟨hz.out,fun i hi=>?_⟩,by omega,hcm.1,hgl.2,hb.size,hb.trans (hbb.mono hb.size)⟩
  have hc:=(came_byt hcm).2.2
  rcases hc with hc | ⟨b,off,e1,hc⟩
  · omega
  · cases e1
    have q:=hc i hi
    rw [Nat.zero_add] at q
    exact cell_later hbb q
theorem cloB_hit (rb:Nat) (pc:Addr) (bv:Value) (at0 p0 q0 f p q:Int) (older:List PanicEntry) (w:World) (hR:RdAt w rb bv at0 p0 q0) (hp:w.cell? pc=some (.pointer (some ⟨rb,0,none⟩))) :
    CallsD Tryz.prog 90 #[.int .i64 f,.pointer (some pc)] (.panicking ({ v:=.iface 81 (.agg #[.int .i64 p,.int .i64 q]),recovered:=false }::older)) w fun e u' w' =>
      e = .returned (.tuple #[])∧u' = .panicking ({ v:=.iface 81 (.agg #[.int .i64 p,.int .i64 q]),recovered:=true }::older)∧RdAt w' rb bv f p q∧w.grownBy w' (some rb) :=
  callsD_of_wpS Tryz.func90 rfl fun c₀ cs hu=>clo_hit "reader.go:23" Tryz.f90 (fun tmps w=>results_none rfl _ _ _) rb pc bv at0 p0 q0 f p q older w hR hp c₀ cs hu
theorem cloB_idle (rb:Nat) (pc:Addr) (f:Int) (w:World) (hp:w.cell? pc=some (.pointer (some ⟨rb,0,none⟩))) :
    CallsD Tryz.prog 90 #[.int .i64 f,.pointer (some pc)] .returning w fun e u' w'=>e = .returned (.tuple #[])∧u' = .returning∧Below w.heap.size w w' :=
  callsD_of_wpS Tryz.func90 rfl fun c₀ cs hu=>clo_idle "reader.go:23" Tryz.f90 (fun tmps w=>results_none rfl _ _ _) rb pc f w hp c₀ cs hu
theorem cloN_hit (rb:Nat) (pc:Addr) (bv:Value) (at0 p0 q0 f p q:Int) (older:List PanicEntry) (w:World) (hR:RdAt w rb bv at0 p0 q0) (hp:w.cell? pc=some (.pointer (some ⟨rb,0,none⟩))) :
    CallsD Tryz.prog 128 #[.int .i64 f,.pointer (some pc)] (.panicking ({ v:=.iface 81 (.agg #[.int .i64 p,.int .i64 q]),recovered:=false }::older)) w fun e u' w' =>
      e = .returned (.tuple #[])∧u' = .panicking ({ v:=.iface 81 (.agg #[.int .i64 p,.int .i64 q]),recovered:=true }::older)∧RdAt w' rb bv f p q∧w.grownBy w' (some rb) :=
  callsD_of_wpS Tryz.func128 rfl fun c₀ cs hu=>clo_hit "reader.go:29" Tryz.f128 (fun tmps w=>results_none rfl _ _ _) rb pc bv at0 p0 q0 f p q older w hR hp c₀ cs hu
theorem cloN_idle (rb:Nat) (pc:Addr) (f:Int) (w:World) (hp:w.cell? pc=some (.pointer (some ⟨rb,0,none⟩))) :
    CallsD Tryz.prog 128 #[.int .i64 f,.pointer (some pc)] .returning w fun e u' w'=>e = .returned (.tuple #[])∧u' = .returning∧Below w.heap.size w w' :=
  callsD_of_wpS Tryz.func128 rfl fun c₀ cs hu=>clo_idle "reader.go:29" Tryz.f128 (fun tmps w=>results_none rfl _ _ _) rb pc f w hp c₀ cs hu
theorem cloE_hit (rb:Nat) (pc:Addr) (bv:Value) (at0 p0 q0 f p q:Int) (older:List PanicEntry) (w:World) (hR:RdAt w rb bv at0 p0 q0) (hp:w.cell? pc=some (.pointer (some ⟨rb,0,none⟩))) :
    CallsD Tryz.prog 130 #[.int .i64 f,.pointer (some pc)] (.panicking ({ v:=.iface 81 (.agg #[.int .i64 p,.int .i64 q]),recovered:=false }::older)) w fun e u' w' =>
      e = .returned (.tuple #[])∧u' = .panicking ({ v:=.iface 81 (.agg #[.int .i64 p,.int .i64 q]),recovered:=true }::older)∧RdAt w' rb bv f p q∧w.grownBy w' (some rb) :=
  callsD_of_wpS Tryz.func130 rfl fun c₀ cs hu=>clo_hit "reader.go:79" Tryz.f130 (fun tmps w=>results_none rfl _ _ _) rb pc bv at0 p0 q0 f p q older w hR hp c₀ cs hu
theorem cloE_idle (rb:Nat) (pc:Addr) (f:Int) (w:World) (hp:w.cell? pc=some (.pointer (some ⟨rb,0,none⟩))) :
    CallsD Tryz.prog 130 #[.int .i64 f,.pointer (some pc)] .returning w fun e u' w'=>e = .returned (.tuple #[])∧u' = .returning∧Below w.heap.size w w' :=
  callsD_of_wpS Tryz.func130 rfl fun c₀ cs hu=>clo_idle "reader.go:79" Tryz.f130 (fun tmps w=>results_none rfl _ _ _) rb pc f w hp c₀ cs hu
theorem cloT_hit (rb:Nat) (pc:Addr) (bv:Value) (at0 p0 q0 f p q:Int) (older:List PanicEntry) (w:World) (hR:RdAt w rb bv at0 p0 q0) (hp:w.cell? pc=some (.pointer (some ⟨rb,0,none⟩))) :
    CallsD Tryz.prog 141 #[.int .i64 f,.pointer (some pc)] (.panicking ({ v:=.iface 81 (.agg #[.int .i64 p,.int .i64 q]),recovered:=false }::older)) w fun e u' w' =>
      e = .returned (.tuple #[])∧u' = .panicking ({ v:=.iface 81 (.agg #[.int .i64 p,.int .i64 q]),recovered:=true }::older)∧RdAt w' rb bv f p q∧w.grownBy w' (some rb) :=
  callsD_of_wpS Tryz.func141 rfl fun c₀ cs hu=>clo_hit "reader.go:55" Tryz.f141 (fun tmps w=>results_none rfl _ _ _) rb pc bv at0 p0 q0 f p q older w hR hp c₀ cs hu
theorem cloD_hit (rb:Nat) (pc:Addr) (bv:Value) (at0 p0 q0 f p q:Int) (older:List PanicEntry) (w:World) (hR:RdAt w rb bv at0 p0 q0) (hp:w.cell? pc=some (.pointer (some ⟨rb,0,none⟩))) :
    CallsD Tryz.prog 142 #[.int .i64 f,.pointer (some pc)] (.panicking ({ v:=.iface 81 (.agg #[.int .i64 p,.int .i64 q]),recovered:=false }::older)) w fun e u' w' =>
      e = .returned (.tuple #[])∧u' = .panicking ({ v:=.iface 81 (.agg #[.int .i64 p,.int .i64 q]),recovered:=true }::older)∧RdAt w' rb bv f p q∧w.grownBy w' (some rb) :=
  callsD_of_wpS Tryz.func142 rfl fun c₀ cs hu=>clo_hit "reader.go:67" Tryz.f142 (fun tmps w=>results_none rfl _ _ _) rb pc bv at0 p0 q0 f p q older w hR hp c₀ cs hu
theorem cloD_idle (rb:Nat) (pc:Addr) (f:Int) (w:World) (hp:w.cell? pc=some (.pointer (some ⟨rb,0,none⟩))) :
    CallsD Tryz.prog 142 #[.int .i64 f,.pointer (some pc)] .returning w fun e u' w'=>e = .returned (.tuple #[])∧u' = .returning∧Below w.heap.size w w' :=
  callsD_of_wpS Tryz.func142 rfl fun c₀ cs hu=>clo_idle "reader.go:67" Tryz.f142 (fun tmps w=>results_none rfl _ _ _) rb pc f w hp c₀ cs hu
theorem cloR_hit (rb:Nat) (pc:Addr) (bv:Value) (at0 p0 q0 f p q:Int) (older:List PanicEntry) (w:World) (hR:RdAt w rb bv at0 p0 q0) (hp:w.cell? pc=some (.pointer (some ⟨rb,0,none⟩))) :
    CallsD Tryz.prog 143 #[.int .i64 f,.pointer (some pc)] (.panicking ({ v:=.iface 81 (.agg #[.int .i64 p,.int .i64 q]),recovered:=false }::older)) w fun e u' w' =>
      e = .returned (.tuple #[])∧u' = .panicking ({ v:=.iface 81 (.agg #[.int .i64 p,.int .i64 q]),recovered:=true }::older)∧RdAt w' rb bv f p q∧w.grownBy w' (some rb) :=
  callsD_of_wpS Tryz.func143 rfl fun c₀ cs hu=>clo_hit "reader.go:73" Tryz.f143 (fun tmps w=>results_none rfl _ _ _) rb pc bv at0 p0 q0 f p q older w hR hp c₀ cs hu
theorem cloR_idle (rb:Nat) (pc:Addr) (f:Int) (w:World) (hp:w.cell? pc=some (.pointer (some ⟨rb,0,none⟩))) :
    CallsD Tryz.prog 143 #[.int .i64 f,.pointer (some pc)] .returning w fun e u' w'=>e = .returned (.tuple #[])∧u' = .returning∧Below w.heap.size w w' :=
  callsD_of_wpS Tryz.func143 rfl fun c₀ cs hu=>clo_idle "reader.go:73" Tryz.f143 (fun tmps w=>results_none rfl _ _ _) rb pc f w hp c₀ cs hu
structure Rb (w:World) (rb g n cp:Nat) (z:Nat→Int):Prop where
 own:Own w g n z
 le:n≤cp
 few:n≤700000
 ne:g≠rb
theorem Rb.grown {w w':World} {rb g n cp:Nat} {z:Nat→Int} (h:Rb w rb g n cp z) (hg:w.grownBy w' (some rb)):Rb w' rb g n cp z:=⟨h.own.grown hg h.ne,h.le,h.few,h.ne⟩
theorem Rb.below {w w':World} {rb g n cp:Nat} {z:Nat→Int} (h:Rb w rb g n cp z) (hb:Below w.heap.size w w'):Rb w' rb g n cp z:=⟨h.own.below hb,h.le,h.few,h.ne⟩
theorem num_bad (rb:Nat) (bv:Value) (at0 p0 q0 k:Int) (w:World) (hR:RdAt w rb bv at0 p0 q0) (hq:¬ q0=0) :
    Calls Tryz.prog 129 #[.pointer (some ⟨rb,0,none⟩),.int .i64 k] w fun e w'=>e=gave p0 q0∧Below w.heap.size w w':=by
  have T0:Hid (Calls Tryz.prog 92 #[.pointer (some ⟨rb,0,none⟩),.int .i64 k] w fun e w'=>e=gave p0 q0∧Below w.heap.size w w'):=take_bad rb bv at0 p0 q0 k w hR hq
  clear hR hq
  go_enter Tryz.func129,Tryz.ntmps129
  go_wp2_with (go_at_call 92;refine T0.out.mono ?_;rintro e w' ⟨rfl,hb⟩)
  exact ⟨rfl,rfl,hb⟩
theorem num_short (rb g n cp at0 k:Nat) (p0:Int) (w:World) (hR:RdAt w rb (.slice (some ⟨g,0,none⟩) n cp) at0 p0 0) (h1:at0≤n) (h2:n≤cp) (h3:n≤1000000) (hk:n<at0+k) :
    Calls Tryz.prog 129 #[.pointer (some ⟨rb,0,none⟩),.int .i64 k] w fun e w'=>e=gave n 10∧Below w.heap.size w w':=by
  have T0:Hid (Calls Tryz.prog 92 #[.pointer (some ⟨rb,0,none⟩),.int .i64 k] w fun e w'=>e=gave n 10∧Below w.heap.size w w'):=take_short rb g n cp at0 k p0 w hR h1 h2 h3 hk
  clear hR
  go_enter Tryz.func129,Tryz.ntmps129
  go_wp2_with (go_at_call 92;refine T0.out.mono ?_;rintro e w' ⟨rfl,hb⟩)
  exact ⟨rfl,rfl,hb⟩
theorem byte_dead (rb:Nat) (bv:Value) (at0 p0 q0:Int) (w:World) (hR:RdAt w rb bv at0 p0 q0) (hq:¬ q0=0) :
    Calls Tryz.prog 65 #[.pointer (some ⟨rb,0,none⟩)] w fun e w'=>e = .returned (.int .u8 0)∧RdAt w' rb bv at0 p0 q0∧w.grownBy w' (some rb):=by
  have hlt:rb<w.heap.size:=lt_of_block hR
  have W0:Hid (RdAt (w.alloc (.cells #[.pointer (some ⟨rb,0,none⟩)] 126)) rb bv at0 p0 q0):=hR.kept ((Below.refl _ _).alloc (Nat.le_refl _) _)
  obtain ⟨_,c0,c1,c2,c3,f1,f2,f3⟩:=hR.facts
  have T0:Hid (Calls Tryz.prog 92 #[.pointer (some ⟨rb,0,none⟩),.int .i64 1] (w.alloc (.cells #[.pointer (some ⟨rb,0,none⟩)] 126)) fun e w'=>e=gave p0 q0∧Below (w.alloc (.cells #[.pointer (some ⟨rb,0,none⟩)] 126)).heap.size (w.alloc (.cells #[.pointer (some ⟨rb,0,none⟩)] 126)) w'):=take_bad rb bv at0 p0 q0 1 _ W0.out hq
  have hmf:=hmf
  clear hR hq
  go_enter_defers Tryz.func65,Tryz.ntmps65
  go_wp2_with (go_at_call 92;refine T0.out.mono ?_;rintro e w1 ⟨rfl,hb1⟩)
  refine leaves_cons (f:=90) (args:=#[.int .i64 at0,.pointer (some ⟨w.heap.size,0,none⟩)]) (by simp) (by simp [go_sem]) ?_
  refine (cloB_hit rb _ bv at0 p0 q0 at0 p0 q0 [] _ (W0.out.kept hb1) ?_).mono ?_
  · exact box_cell hlt (gb_below hb1)
  rintro e u' w4 ⟨rfl,rfl,hR4,hg4⟩
  simp [Leaves,settle,results,Tryz.results65,go_sem]
  exact ⟨hR4,gb_trans (gb_trans (gb_alloc (gb_refl _ _) _) (gb_below hb1)) hg4⟩
theorem number_dead (rb:Nat) (bv:Value) (at0 p0 q0:Int) (w:World) (hR:RdAt w rb bv at0 p0 q0) (hq:¬ q0=0) :
    Calls Tryz.prog 99 #[.pointer (some ⟨rb,0,none⟩)] w fun e w'=>e = .returned (.int .i64 0)∧RdAt w' rb bv at0 p0 q0∧w.grownBy w' (some rb):=by
  have hlt:rb<w.heap.size:=lt_of_block hR
  have W0:Hid (RdAt (w.alloc (.cells #[.pointer (some ⟨rb,0,none⟩)] 126)) rb bv at0 p0 q0):=hR.kept ((Below.refl _ _).alloc (Nat.le_refl _) _)
  obtain ⟨_,c0,c1,c2,c3,f1,f2,f3⟩:=hR.facts
  have T0:Hid (Calls Tryz.prog 129 #[.pointer (some ⟨rb,0,none⟩),.int .i64 2] (w.alloc (.cells #[.pointer (some ⟨rb,0,none⟩)] 126)) fun e w'=>e=gave p0 q0∧Below (w.alloc (.cells #[.pointer (some ⟨rb,0,none⟩)] 126)).heap.size (w.alloc (.cells #[.pointer (some ⟨rb,0,none⟩)] 126)) w'):=num_bad rb bv at0 p0 q0 2 _ W0.out hq
  have hmf:=hmf
  clear hR hq
  go_enter_defers Tryz.func99,Tryz.ntmps99
  go_wp2_with (go_at_call 129;refine T0.out.mono ?_;rintro e w1 ⟨rfl,hb1⟩)
  refine leaves_cons (f:=128) (args:=#[.int .i64 at0,.pointer (some ⟨w.heap.size,0,none⟩)]) (by simp) (by simp [go_sem]) ?_
  refine (cloN_hit rb _ bv at0 p0 q0 at0 p0 q0 [] _ (W0.out.kept hb1) ?_).mono ?_
  · exact box_cell hlt (gb_below hb1)
  rintro e u' w4 ⟨rfl,rfl,hR4,hg4⟩
  simp [Leaves,settle,results,Tryz.results99,go_sem]
  exact ⟨hR4,gb_trans (gb_trans (gb_alloc (gb_refl _ _) _) (gb_below hb1)) hg4⟩
theorem text_dead (rb:Nat) (bv:Value) (at0 p0 q0:Int) (w:World) (hR:RdAt w rb bv at0 p0 q0) (hq:¬ q0=0) :
    Calls Tryz.prog 123 #[.pointer (some ⟨rb,0,none⟩)] w fun e w'=>e = .returned (.string ⟨#[]⟩)∧RdAt w' rb bv at0 p0 q0∧w.grownBy w' (some rb):=by
  have hlt:rb<w.heap.size:=lt_of_block hR
  have W0:Hid (RdAt (w.alloc (.cells #[.pointer (some ⟨rb,0,none⟩)] 126)) rb bv at0 p0 q0):=hR.kept ((Below.refl _ _).alloc (Nat.le_refl _) _)
  obtain ⟨_,c0,c1,c2,c3,f1,f2,f3⟩:=hR.facts
  have T0:Hid (Calls Tryz.prog 129 #[.pointer (some ⟨rb,0,none⟩),.int .i64 2] (w.alloc (.cells #[.pointer (some ⟨rb,0,none⟩)] 126)) fun e w'=>e=gave p0 q0∧Below (w.alloc (.cells #[.pointer (some ⟨rb,0,none⟩)] 126)).heap.size (w.alloc (.cells #[.pointer (some ⟨rb,0,none⟩)] 126)) w'):=num_bad rb bv at0 p0 q0 2 _ W0.out hq
  have hmf:=hmf
  clear hR hq
  go_enter_defers Tryz.func123,Tryz.ntmps123
  go_wp2_with (go_at_call 129;refine T0.out.mono ?_;rintro e w1 ⟨rfl,hb1⟩)
  refine leaves_cons (f:=141) (args:=#[.int .i64 at0,.pointer (some ⟨w.heap.size,0,none⟩)]) (by simp) (by simp [go_sem]) ?_
  refine (cloT_hit rb _ bv at0 p0 q0 at0 p0 q0 [] _ (W0.out.kept hb1) ?_).mono ?_
  · exact box_cell hlt (gb_below hb1)
  rintro e u' w4 ⟨rfl,rfl,hR4,hg4⟩
  simp [Leaves,settle,results,Tryz.results123,go_sem]
  exact ⟨hR4,gb_trans (gb_trans (gb_alloc (gb_refl _ _) _) (gb_below hb1)) hg4⟩
theorem end_dead (rb:Nat) (bv:Value) (at0 p0 q0:Int) (w:World) (hR:RdAt w rb bv at0 p0 q0) (hq:¬ q0=0) :
    Calls Tryz.prog 100 #[.pointer (some ⟨rb,0,none⟩)] w fun e w'=>e = .returned (.tuple #[])∧RdAt w' rb bv at0 p0 q0∧w.grownBy w' (some rb):=by
  have hlt:rb<w.heap.size:=lt_of_block hR
  have W0:Hid (RdAt (w.alloc (.cells #[.pointer (some ⟨rb,0,none⟩)] 126)) rb bv at0 p0 q0):=hR.kept ((Below.refl _ _).alloc (Nat.le_refl _) _)
  obtain ⟨_,c0,c1,c2,c3,f1,f2,f3⟩:=hR.facts
  have T0:Hid (Calls Tryz.prog 120 #[.pointer (some ⟨rb,0,none⟩)] (w.alloc (.cells #[.pointer (some ⟨rb,0,none⟩)] 126)) fun e w'=>e=gave p0 q0∧Below (w.alloc (.cells #[.pointer (some ⟨rb,0,none⟩)] 126)).heap.size (w.alloc (.cells #[.pointer (some ⟨rb,0,none⟩)] 126)) w'):=left_bad rb bv at0 p0 q0 _ W0.out hq
  have hmf:=hmf
  clear hR hq
  go_enter_defers Tryz.func100,Tryz.ntmps100
  go_wp2_with (go_at_call 120;refine T0.out.mono ?_;rintro e w1 ⟨rfl,hb1⟩)
  refine leaves_cons (f:=130) (args:=#[.int .i64 at0,.pointer (some ⟨w.heap.size,0,none⟩)]) (by simp) (by simp [go_sem]) ?_
  refine (cloE_hit rb _ bv at0 p0 q0 at0 p0 q0 [] _ (W0.out.kept hb1) ?_).mono ?_
  · exact box_cell hlt (gb_below hb1)
  rintro e u' w4 ⟨rfl,rfl,hR4,hg4⟩
  simp [Leaves,settle,results,Tryz.results100,go_sem]
  exact ⟨hR4,gb_trans (gb_trans (gb_alloc (gb_refl _ _) _) (gb_below hb1)) hg4⟩
theorem byte_short (rb g n cp at0:Nat) (p0:Int) (w:World) (hR:RdAt w rb (.slice (some ⟨g,0,none⟩) n cp) at0 p0 0) (h1:at0≤n) (h2:n≤cp) (h3:n≤1000000) (hk:n<at0+1) :
    Calls Tryz.prog 65 #[.pointer (some ⟨rb,0,none⟩)] w fun e w'=>e = .returned (.int .u8 0)∧RdAt w' rb (.slice (some ⟨g,0,none⟩) n cp) at0 n 10∧w.grownBy w' (some rb):=by
  have hlt:rb<w.heap.size:=lt_of_block hR
  have W0:Hid (RdAt (w.alloc (.cells #[.pointer (some ⟨rb,0,none⟩)] 126)) rb (.slice (some ⟨g,0,none⟩) n cp) at0 p0 0):=hR.kept ((Below.refl _ _).alloc (Nat.le_refl _) _)
  obtain ⟨_,c0,c1,c2,c3,f1,f2,f3⟩:=hR.facts
  have T0:Hid (Calls Tryz.prog 92 #[.pointer (some ⟨rb,0,none⟩),.int .i64 1] (w.alloc (.cells #[.pointer (some ⟨rb,0,none⟩)] 126)) fun e w'=>e=gave n 10∧Below (w.alloc (.cells #[.pointer (some ⟨rb,0,none⟩)] 126)).heap.size (w.alloc (.cells #[.pointer (some ⟨rb,0,none⟩)] 126)) w'):=take_short rb g n cp at0 1 p0 _ W0.out h1 h2 h3 hk
  have hmf:=hmf
  clear hR
  go_enter_defers Tryz.func65,Tryz.ntmps65
  go_wp2_with (go_at_call 92;refine T0.out.mono ?_;rintro e w1 ⟨rfl,hb1⟩)
  refine leaves_cons (f:=90) (args:=#[.int .i64 at0,.pointer (some ⟨w.heap.size,0,none⟩)]) (by simp) (by simp [go_sem]) ?_
  refine (cloB_hit rb _ (.slice (some ⟨g,0,none⟩) n cp) at0 p0 0 at0 n 10 [] _ (W0.out.kept hb1) ?_).mono ?_
  · exact box_cell hlt (gb_below hb1)
  rintro e u' w4 ⟨rfl,rfl,hR4,hg4⟩
  simp [Leaves,settle,results,Tryz.results65,go_sem]
  exact ⟨hR4,gb_trans (gb_trans (gb_alloc (gb_refl _ _) _) (gb_below hb1)) hg4⟩
theorem number_short (rb g n cp at0:Nat) (p0:Int) (w:World) (hR:RdAt w rb (.slice (some ⟨g,0,none⟩) n cp) at0 p0 0) (h1:at0≤n) (h2:n≤cp) (h3:n≤1000000) (hk:n<at0+2) :
    Calls Tryz.prog 99 #[.pointer (some ⟨rb,0,none⟩)] w fun e w'=>e = .returned (.int .i64 0)∧RdAt w' rb (.slice (some ⟨g,0,none⟩) n cp) at0 n 10∧w.grownBy w' (some rb):=by
  have hlt:rb<w.heap.size:=lt_of_block hR
  have W0:Hid (RdAt (w.alloc (.cells #[.pointer (some ⟨rb,0,none⟩)] 126)) rb (.slice (some ⟨g,0,none⟩) n cp) at0 p0 0):=hR.kept ((Below.refl _ _).alloc (Nat.le_refl _) _)
  obtain ⟨_,c0,c1,c2,c3,f1,f2,f3⟩:=hR.facts
  have T0:Hid (Calls Tryz.prog 129 #[.pointer (some ⟨rb,0,none⟩),.int .i64 2] (w.alloc (.cells #[.pointer (some ⟨rb,0,none⟩)] 126)) fun e w'=>e=gave n 10∧Below (w.alloc (.cells #[.pointer (some ⟨rb,0,none⟩)] 126)).heap.size (w.alloc (.cells #[.pointer (some ⟨rb,0,none⟩)] 126)) w'):=num_short rb g n cp at0 2 p0 _ W0.out h1 h2 h3 hk
  have hmf:=hmf
  clear hR
  go_enter_defers Tryz.func99,Tryz.ntmps99
  go_wp2_with (go_at_call 129;refine T0.out.mono ?_;rintro e w1 ⟨rfl,hb1⟩)
  refine leaves_cons (f:=128) (args:=#[.int .i64 at0,.pointer (some ⟨w.heap.size,0,none⟩)]) (by simp) (by simp [go_sem]) ?_
  refine (cloN_hit rb _ (.slice (some ⟨g,0,none⟩) n cp) at0 p0 0 at0 n 10 [] _ (W0.out.kept hb1) ?_).mono ?_
  · exact box_cell hlt (gb_below hb1)
  rintro e u' w4 ⟨rfl,rfl,hR4,hg4⟩
  simp [Leaves,settle,results,Tryz.results99,go_sem]
  exact ⟨hR4,gb_trans (gb_trans (gb_alloc (gb_refl _ _) _) (gb_below hb1)) hg4⟩
theorem text_short (rb g n cp at0:Nat) (p0:Int) (w:World) (hR:RdAt w rb (.slice (some ⟨g,0,none⟩) n cp) at0 p0 0) (h1:at0≤n) (h2:n≤cp) (h3:n≤1000000) (hk:n<at0+2) :
    Calls Tryz.prog 123 #[.pointer (some ⟨rb,0,none⟩)] w fun e w'=>e = .returned (.string ⟨#[]⟩)∧RdAt w' rb (.slice (some ⟨g,0,none⟩) n cp) at0 n 10∧w.grownBy w' (some rb):=by
  have hlt:rb<w.heap.size:=lt_of_block hR
  have W0:Hid (RdAt (w.alloc (.cells #[.pointer (some ⟨rb,0,none⟩)] 126)) rb (.slice (some ⟨g,0,none⟩) n cp) at0 p0 0):=hR.kept ((Below.refl _ _).alloc (Nat.le_refl _) _)
  obtain ⟨_,c0,c1,c2,c3,f1,f2,f3⟩:=hR.facts
  have T0:Hid (Calls Tryz.prog 129 #[.pointer (some ⟨rb,0,none⟩),.int .i64 2] (w.alloc (.cells #[.pointer (some ⟨rb,0,none⟩)] 126)) fun e w'=>e=gave n 10∧Below (w.alloc (.cells #[.pointer (some ⟨rb,0,none⟩)] 126)).heap.size (w.alloc (.cells #[.pointer (some ⟨rb,0,none⟩)] 126)) w'):=num_short rb g n cp at0 2 p0 _ W0.out h1 h2 h3 hk
  have hmf:=hmf
  clear hR
  go_enter_defers Tryz.func123,Tryz.ntmps123
  go_wp2_with (go_at_call 129;refine T0.out.mono ?_;rintro e w1 ⟨rfl,hb1⟩)
  refine leaves_cons (f:=141) (args:=#[.int .i64 at0,.pointer (some ⟨w.heap.size,0,none⟩)]) (by simp) (by simp [go_sem]) ?_
  refine (cloT_hit rb _ (.slice (some ⟨g,0,none⟩) n cp) at0 p0 0 at0 n 10 [] _ (W0.out.kept hb1) ?_).mono ?_
  · exact box_cell hlt (gb_below hb1)
  rintro e u' w4 ⟨rfl,rfl,hR4,hg4⟩
  simp [Leaves,settle,results,Tryz.results123,go_sem]
  exact ⟨hR4,gb_trans (gb_trans (gb_alloc (gb_refl _ _) _) (gb_below hb1)) hg4⟩
theorem byte_ok (rb g n cp at0:Nat) (p0:Int) (z:Nat→Int) (w:World) (hR:RdAt w rb (.slice (some ⟨g,0,none⟩) n cp) at0 p0 0) (hB:Rb w rb g n cp z) (hk:at0+1≤n) :
    Calls Tryz.prog 65 #[.pointer (some ⟨rb,0,none⟩)] w fun e w'=>e = .returned (.int .u8 (z at0))∧RdAt w' rb (.slice (some ⟨g,0,none⟩) n cp) ((at0+1:Nat):Int) p0 0∧w.grownBy w' (some rb):=by
  have hlt:rb<w.heap.size:=lt_of_block hR
  have hf:=hB.few
  have W0:Hid (RdAt (w.alloc (.cells #[.pointer (some ⟨rb,0,none⟩)] 126)) rb (.slice (some ⟨g,0,none⟩) n cp) at0 p0 0):=hR.kept ((Below.refl _ _).alloc (Nat.le_refl _) _)
  have O0:Hid (Rb (w.alloc (.cells #[.pointer (some ⟨rb,0,none⟩)] 126)) rb g n cp z):=hB.below ((Below.refl _ _).alloc (Nat.le_refl _) _)
  have hle:=hB.le
  obtain ⟨_,c0,c1,c2,c3,f1,f2,f3⟩:=hR.facts
  have T0:Hid (Calls Tryz.prog 92 #[.pointer (some ⟨rb,0,none⟩),.int .i64 1] (w.alloc (.cells #[.pointer (some ⟨rb,0,none⟩)] 126)) fun e w'=>(∃ ad,e = .returned (.slice (some ad) 1 (cp-at0))∧w'.cell? ad=some (.int .u8 (z at0))∧(ad.spot=none))∧RdAt w' rb (.slice (some ⟨g,0,none⟩) n cp) ((at0+1:Nat):Int) p0 0∧(w.alloc (.cells #[.pointer (some ⟨rb,0,none⟩)] 126)).grownBy w' (some rb)):=by
    refine (take_ok rb g n cp at0 1 p0 _ W0.out hle (by omega) hk).mono ?_
    rintro e w' ⟨⟨ad,rfl,had⟩,q1,q2⟩
    obtain rfl:=had (by omega)
    exact ⟨⟨_,rfl,(O0.out.own.grown q2 O0.out.ne).2 at0 (by omega),rfl⟩,q1,q2⟩
  have hmf:=hmf
  clear hR hB
  go_enter_defers Tryz.func65,Tryz.ntmps65
  go_wp2_with (go_at_call 92;refine T0.out.mono ?_;rintro e w1 ⟨⟨⟨ab,ao,asp⟩,rfl,hcl,hsp⟩,hR1,hg1⟩;simp only at hsp;subst hsp;have bx1:=box_cell hlt hg1;have X1:Hid (RdAt w1 rb (.slice (some ⟨g,0,none⟩) n cp) ((at0+1:Nat):Int) p0 0∧(w.alloc (.cells #[.pointer (some ⟨rb,0,none⟩)] 126)).grownBy w1 (some rb)):=⟨hR1,hg1⟩;clear hR1 hg1)
  refine leaves_cons (f:=90) (args:=#[.int .i64 at0,.pointer (some ⟨w.heap.size,0,none⟩)]) (by simp) (by simp [go_sem]) ?_
  refine (cloB_idle rb _ at0 _ bx1).mono ?_
  rintro e u' w4 ⟨rfl,rfl,hb4⟩
  simp [Leaves,settle,results,Tryz.results65,go_sem]
  exact ⟨X1.out.1.kept hb4,gb_trans (gb_trans (gb_alloc (gb_refl _ _) _) X1.out.2) (gb_below hb4)⟩
theorem number_ok (rb g n cp at0:Nat) (p0:Int) (z:Nat→Int) (w:World) (hR:RdAt w rb (.slice (some ⟨g,0,none⟩) n cp) at0 p0 0) (hB:Rb w rb g n cp z) (hk:at0+2≤n) :
    Calls Tryz.prog 99 #[.pointer (some ⟨rb,0,none⟩)] w fun e w'=>e = .returned (.int .i64 (z at0*256+z (at0+1)))∧RdAt w' rb (.slice (some ⟨g,0,none⟩) n cp) ((at0+2:Nat):Int) p0 0∧w.grownBy w' (some rb):=by
  have hlt:rb<w.heap.size:=lt_of_block hR
  have hf:=hB.few
  have W0:Hid (RdAt (w.alloc (.cells #[.pointer (some ⟨rb,0,none⟩)] 126)) rb (.slice (some ⟨g,0,none⟩) n cp) at0 p0 0):=hR.kept ((Below.refl _ _).alloc (Nat.le_refl _) _)
  have O0:=(hB.below ((Below.refl _ _).alloc (Nat.le_refl _) (.cells #[.pointer (some ⟨rb,0,none⟩)] 126))).own
  have N0:Hid (Calls Tryz.prog 129 #[.pointer (some ⟨rb,0,none⟩),.int .i64 2] (w.alloc (.cells #[.pointer (some ⟨rb,0,none⟩)] 126)) fun e w'=>e = .returned (.int .i64 (z at0*256+z (at0+1)))∧RdAt w' rb (.slice (some ⟨g,0,none⟩) n cp) ((at0+2:Nat):Int) p0 0∧(w.alloc (.cells #[.pointer (some ⟨rb,0,none⟩)] 126)).grownBy w' (some rb)) :=
    num2_ok rb g n cp at0 p0 (z at0) (z (at0+1)) _ W0.out hB.le (by omega) hk hB.ne (hB.own.1 _) (hB.own.1 _) (O0.2 _ (by omega)) (O0.2 _ (by omega))
  obtain ⟨_,c0,c1,c2,c3,f1,f2,f3⟩:=hR.facts
  have hmf:=hmf
  clear hR hB O0
  go_enter_defers Tryz.func99,Tryz.ntmps99
  go_wp2_with (go_at_call 129;refine N0.out.mono ?_;rintro e w1 ⟨rfl,hR1,hg1⟩;have bx1:=box_cell hlt hg1;have X1:Hid (RdAt w1 rb (.slice (some ⟨g,0,none⟩) n cp) ((at0+2:Nat):Int) p0 0∧(w.alloc (.cells #[.pointer (some ⟨rb,0,none⟩)] 126)).grownBy w1 (some rb)):=⟨hR1,hg1⟩;clear hR1 hg1)
  refine leaves_cons (f:=128) (args:=#[.int .i64 at0,.pointer (some ⟨w.heap.size,0,none⟩)]) (by simp) (by simp [go_sem]) ?_
  refine (cloN_idle rb _ at0 _ bx1).mono ?_
  rintro e u' w4 ⟨rfl,rfl,hb4⟩
  simp [Leaves,settle,results,Tryz.results99,go_sem]
  exact ⟨X1.out.1.kept hb4,gb_trans (gb_trans (gb_alloc (gb_refl _ _) _) X1.out.2) (gb_below hb4)⟩
theorem end_ok (rb g n cp:Nat) (p0:Int) (w:World) (hR:RdAt w rb (.slice (some ⟨g,0,none⟩) n cp) n p0 0) (h2:n≤cp) (h3:n≤1000000) :
    Calls Tryz.prog 100 #[.pointer (some ⟨rb,0,none⟩)] w fun e w'=>e = .returned (.tuple #[])∧RdAt w' rb (.slice (some ⟨g,0,none⟩) n cp) n p0 0∧w.grownBy w' (some rb):=by
  have hlt:rb<w.heap.size:=lt_of_block hR
  have W0:Hid (RdAt (w.alloc (.cells #[.pointer (some ⟨rb,0,none⟩)] 126)) rb (.slice (some ⟨g,0,none⟩) n cp) n p0 0):=hR.kept ((Below.refl _ _).alloc (Nat.le_refl _) _)
  obtain ⟨_,c0,c1,c2,c3,f1,f2,f3⟩:=hR.facts
  have L0:Hid (Calls Tryz.prog 120 #[.pointer (some ⟨rb,0,none⟩)] (w.alloc (.cells #[.pointer (some ⟨rb,0,none⟩)] 126)) fun e w'=>(∃ ad,e = .returned (.slice (some ad) 0 (cp-n)))∧w'=(w.alloc (.cells #[.pointer (some ⟨rb,0,none⟩)] 126)).drew):=by
    refine (left_ok rb g n cp n p0 _ W0.out (Nat.le_refl _) h2 h3).mono ?_
    rintro e w' ⟨⟨ad,rfl,_⟩,rfl⟩
    exact ⟨⟨ad,by rw [Nat.sub_self]⟩,rfl⟩
  have hmf:=hmf
  clear hR
  go_enter_defers Tryz.func100,Tryz.ntmps100
  go_wp2_with (go_at_call 120;refine L0.out.mono ?_;rintro e w' ⟨⟨ad,rfl⟩,rfl⟩)
  refine leaves_cons (f:=130) (args:=#[.int .i64 n,.pointer (some ⟨w.heap.size,0,none⟩)]) (by simp) (by simp [go_sem]) ?_
  refine (cloE_idle rb _ n _ ?_).mono ?_
  · simp [go_sem]
  rintro e u' w4 ⟨rfl,rfl,hb4⟩
  simp [Leaves,settle,results,Tryz.results100,go_sem]
  have hb5:Below (w.alloc (.cells #[.pointer (some ⟨rb,0,none⟩)] 126)).heap.size (w.alloc (.cells #[.pointer (some ⟨rb,0,none⟩)] 126)) w4:=(Below.refl _ _).drew.trans hb4
  exact ⟨W0.out.kept hb5,gb_trans (gb_alloc (gb_refl _ _) _) (gb_below hb5)⟩
end Go.Proofs.YtpldoeeahhaimaaGreatDoor
