import Derived.Test.YtceigllifjgalaaGreatDoorPWb
import Derived.Lib.QuietBelow
namespace Go.Proofs.YtceigllifjgalaaGreatDoor.Pkt
open Go Go.RowKit Go.Sort
set_option linter.unusedSimpArgs false
set_option linter.unusedVariables false
set_option maxHeartbeats 400000
theorem below2 (w:World) (o o':Obj):Below w.heap.size w ((w.alloc o).alloc o'):=((Below.refl _ _).alloc (Nat.le_refl _) _).alloc (by simp) _
theorem zbd (t:ByteArray) (a:Option Addr) (n c:Nat) (q:Int) (r:Bool) (w:World):Calls Tryz.prog 108 #[.agg #[.string t,.slice a n c,.int .i64 q,.bool r]] w fun e w'=>e = .returned (.agg #[.string t,.int .i64 q,.bool r])∧Below w.heap.size w w':=by
 go_enter Tryz.func108,Tryz.ntmps108
 go_wp2
 exact bodyPost_ret (results_cell_row rfl _ _ _ _ _ _ _ rfl (heap_alloc2_new _ _ _) Tryz.underlying91 rfl (by kernel_rfl)) rfl ⟨rfl,below2 _ _ _⟩
theorem zb2 (w:World) (cs:Array Value) (t:TypeId) (k:Nat) (v:Value) (h:cs[k]?=some v):(w.alloc (.cells cs t)).cell? ⟨w.heap.size,k,none⟩=some v:=by
 rw [World.cell?_alloc_at _ _ _ _ rfl]
 simpa using h
theorem zag {w W:World} {cs:Array Value} {t:TypeId} (hW:W=w.alloc (.cells cs t)):Below w.heap.size w W:=by rw [hW];exact (Below.refl _ _).alloc (Nat.le_refl _) _
def Cb (w:World) (g:Nat) (x:Int):Prop:=w.heap[g]?=some (.cells #[.int .i64 x] 125)
structure Cg (g:Nat) (x:Int) (w w':World):Prop where
 os:w'.os=w.os
 tape:w'.tape=w.tape
 output:w'.output=w.output
 size:w.heap.size≤w'.heap.size
 keep:∀ k,k<w.heap.size→k≠g→w'.heap[k]?=w.heap[k]?
 blk:Cb w' g x
theorem Cg.trans {g:Nat} {x y:Int} {w w1 w2:World} (h:Cg g x w w1) (h2:Cg g y w1 w2):Cg g y w w2 :=
 ⟨h2.os.trans h.os,h2.tape.trans h.tape,h2.output.trans h.output,Nat.le_trans h.size h2.size,fun k hk hn=>(h2.keep k (Nat.lt_of_lt_of_le hk h.size) hn).trans (h.keep k hk hn),h2.blk⟩
theorem Cg.refl {g:Nat} {x:Int} {w:World} (h:Cb w g x):Cg g x w w:=⟨rfl,rfl,rfl,Nat.le_refl _,fun _ _ _=>rfl,h⟩
theorem Cg.alloc {g:Nat} {x:Int} {w w':World} (h:Cg g x w w') (o:Obj):Cg g x w (w'.alloc o) :=
 ⟨h.os,h.tape,h.output,Nat.le_trans h.size (by show w'.heap.size≤(w'.heap.push o).size;simp),fun k hk hn=>(heap_alloc_old w' o (Nat.lt_of_lt_of_le hk h.size)).trans (h.keep k hk hn),by
  have hg:g<w'.heap.size:=by
   rcases Nat.lt_or_ge g w'.heap.size with h1 | h1
   · exact h1
   · have:=h.blk;unfold Cb at this;rw [Array.getElem?_eq_none h1] at this;cases this
  exact (heap_alloc_old w' o hg).trans h.blk⟩
theorem Cg.cell {g:Nat} {x:Int} {w w':World} (h:Cg g x w w') {a:Addr} {v:Value} (ha:w.cell? a=some v) (hn:a.block≠g):w'.cell? a=some v:=by
 have hlt:=World.block_lt_of_cell? _ _ ha
 unfold World.cell? at ha ⊢
 rw [h.keep a.block hlt hn]
 exact ha
theorem Cb.cell {w:World} {g:Nat} {x:Int} (h:Cb w g x):w.cell? ⟨g,0,none⟩=some (.int .i64 x):=by
 unfold World.cell?
 have:w.heap[g]?=some (.cells #[.int .i64 x] 125):=h
 simp [this]
theorem Cb.frozen {w:World} {g:Nat} {x:Int} (h:Cb w g x):w.frozen? ⟨g,0,none⟩=false:=by
 have:w.heap[g]?=some (.cells #[.int .i64 x] 125):=h
 simp [World.frozen?,this]
theorem cg_set {w:World} {g:Nat} {x:Int} (h:Cb w g x) (y:Int):Cg g y w (w.setCell ⟨g,0,none⟩ (.int .i64 y)):=by
 refine ⟨rfl,rfl,rfl,?_,fun k hk hn=>heap_setCell_other w _ k _ hn,?_⟩
 · show w.heap.size≤(w.heap.modify g _).size
   simp
 · have:=heap_setCell_same w g 0 #[.int .i64 x] 125 (.int .i64 y) h
   exact this
def less (x n:Int):Int:=if 0≤x then x-n else x
theorem add_any (w:World) (g:Nat) (x n:Int) (h:Cb w g x) (h0:0≤n) (h1:n≤9223372036854775807) (h2:x≤1000000000) (h3:-9223372036854775807≤x):Calls Tryz.prog 143 #[.pointer (some ⟨g,0,none⟩),.int .i64 n] w fun e w'=>e = .returned (.bool (decide (0≤less x n)))∧Cg g (less x n) w w':=by
 have hc:=h.cell
 have hf:=h.frozen
 have HB:Hid (Cb w g x):=h
 clear h
 by_cases hx:0≤x
 ·
  have hw:wrap64 (x-n)=x-n:=by unfold wrap64;omega
  have hs:=fun y=>Cb.cell (cg_set HB.out y).blk
  rw [show less x n=x-n by simp [less,hx]]
  have HW:Hid (Cg g (x-n) w (w.setCell ⟨g,0,none⟩ (.int .i64 (x-n)))):=cg_set HB.out _
  have HD:Hid (decide (n≤x)=decide (0≤x-n)):=decide_eq_decide.2 (by omega)
  go_enter Tryz.func143,Tryz.ntmps143
  go_wp2
  go_ret
  exact ⟨by rw [← HD.out];rfl,HW.out⟩
 ·
  rw [show less x n=x by simp [less,hx]]
  have HD:Hid (decide (0≤x)=false):=decide_eq_false hx
  go_enter Tryz.func143,Tryz.ntmps143
  go_wp2
  go_ret
  exact ⟨by rw [HD.out];rfl,Cg.refl HB.out⟩
def St (x:Int) (t:Nat) (y:Int):Prop:=(0≤y→y+t=x)∧y≤1000000000∧-9223372036854775807≤y
theorem st_less {x:Int} {n:Nat} (h1:n≤9223372036854775807) (h2:x≤1000000000) (h3:-9223372036854775807≤x):St x n (less x n):=by
 unfold St less
 by_cases h:0≤x
 · rw [if_pos h];refine ⟨fun _=>by omega,by omega,by omega⟩
 · rw [if_neg h];refine ⟨fun h'=>absurd h' h,by omega,by omega⟩
theorem St.trans {x y z:Int} {t u:Nat} (h:St x t y) (h2:St y u z):St x (t+u) z:=by
 refine ⟨fun hz=>?_,h2.2⟩
 have a:=h2.1 hz
 have b:=h.1 (by omega)
 omega
theorem ok_any (w:World) (g:Nat) (x:Int) (h:Cb w g x):Calls Tryz.prog 27 #[.pointer (some ⟨g,0,none⟩)] w fun e w'=>e = .returned (.bool (decide (0≤x)))∧w'=w:=by
 have hc:=h.cell
 clear h
 go_enter Tryz.func27,Tryz.ntmps27
 go_wp2
 go_ret
 exact ⟨rfl,rfl⟩
theorem zaS (w:World) (g:Nat) (x:Int) (n:Nat) (h:Cb w g x) (h1:n≤9223372036854775807) (h2:x≤1000000000) (h3:-9223372036854775807≤x):Calls Tryz.prog 143 #[.pointer (some ⟨g,0,none⟩),.int .i64 (n:Int)] w fun e w'=>∃ y b,e = .returned (.bool b)∧Cg g y w w'∧St x n y:=by
 refine (add_any w g x n h (by omega) (by omega) h2 h3).mono ?_
 rintro e w' ⟨rfl,hc⟩
 exact ⟨_,_,rfl,hc,st_less h1 h2 h3⟩
theorem zaR (w:World) (g:Nat) (x:Int) (s:ByteArray) (h:Cb w g x) (h1:s.size≤9223372036854775807) (h2:x≤1000000000) (h3:-9223372036854775807≤x):Calls Tryz.prog 140 #[.pointer (some ⟨g,0,none⟩),.string s] w fun e w'=>∃ y,e = .returned (.tuple #[])∧Cg g y w w'∧St x (1+s.size) y:=by
 have HB:Hid (Cb w g x):=h
 clear h
 go_enter Tryz.func140,Tryz.ntmps140
 go_wp2_with fail
 go_must (go_at_call 143)
 refine (zaS w g x 1 HB.out (by decide) h2 h3).mono ?_
 rintro e w1 ⟨y,b,rfl,hc1,st1⟩
 have C1:Hid (Cg g y w w1):=hc1
 have S1:Hid (St x 1 y):=st1
 clear hc1 st1
 go_wp2_with fail
 go_must (go_at_call 143)
 refine (zaS w1 g y s.size C1.out.blk h1 S1.out.2.1 S1.out.2.2).mono ?_
 rintro e w2 ⟨z,b2,rfl,hc2,st2⟩
 have C2:Hid (Cg g z w w2):=C1.out.trans hc2
 have S2:Hid (St x (1+s.size) z):=S1.out.trans st2
 clear hc2 st2
 go_wp2
 go_end0
 exact ⟨z,rfl,C2.out,S2.out⟩
theorem zbz (w:World) (g:Nat) (x:Int) (s:Sl) (h:Cb w g x) (h1:s.n≤9223372036854775807) (h2:x≤1000000000) (h3:-9223372036854775807≤x):Calls Tryz.prog 97 #[.pointer (some ⟨g,0,none⟩),.slice s.a s.n s.c] w fun e w'=>∃ y,e = .returned (.tuple #[])∧Cg g y w w'∧St x (1+s.n) y:=by
 have HB:Hid (Cb w g x):=h
 clear h
 go_enter Tryz.func97,Tryz.ntmps97
 go_wp2_with fail
 go_must (go_at_call 143)
 refine (zaS w g x 1 HB.out (by decide) h2 h3).mono ?_
 rintro e w1 ⟨y,b,rfl,hc1,st1⟩
 have C1:Hid (Cg g y w w1):=hc1
 have S1:Hid (St x 1 y):=st1
 clear hc1 st1
 go_wp2_with fail
 go_must (go_at_call 143)
 refine (zaS w1 g y s.n C1.out.blk h1 S1.out.2.1 S1.out.2.2).mono ?_
 rintro e w2 ⟨z,b2,rfl,hc2,st2⟩
 have C2:Hid (Cg g z w w2):=C1.out.trans hc2
 have S2:Hid (St x (1+s.n) z):=S1.out.trans st2
 clear hc2 st2
 go_wp2
 go_end0
 exact ⟨z,rfl,C2.out,S2.out⟩
theorem zbb (w:World) (g:Nat) (x:Int) (t:ByteArray) (s:Sl) (q:Int) (r:Bool) (h:Cb w g x) (h0:t.size≤9223372036854775807) (h1:s.n≤9223372036854775807) (h2:x≤1000000000) (h3:-9223372036854775807≤x):Calls Tryz.prog 141 #[.pointer (some ⟨g,0,none⟩),.agg #[.string t,.slice s.a s.n s.c,.int .i64 q,.bool r]] w fun e w'=>∃ y,e = .returned (.tuple #[])∧Cg g y w w'∧St x (1+t.size+(1+s.n)) y:=by
 have C0:Hid (Cg g x w (w.alloc (.cells #[.string t,.slice s.a s.n s.c,.int .i64 q,.bool r] 24))):=(Cg.refl h).alloc _
 have hn:Hid (g≠w.heap.size):=by
  intro e
  have:w.heap[g]?=some (.cells #[.int .i64 x] 125):=h
  rw [e,Array.getElem?_eq_none (Nat.le_refl _)] at this
  cases this
 clear h
 go_enter Tryz.func141,Tryz.ntmps141
 go_wp2_with fail
 go_must (go_at_call 140)
 refine (zaR _ g x t C0.out.blk h0 h2 h3).mono ?_
 rintro e w1 ⟨y,rfl,hc1,st1⟩
 have q1:=hc1.cell (zb2 w _ _ 1 _ rfl) (fun e=>hn.out e.symm)
 have C1:Hid (Cg g y w w1):=C0.out.trans hc1
 have S1:Hid (St x (1+t.size) y):=st1
 clear hc1 st1
 go_wp2_with fail
 go_must (go_at_call 97)
 refine (zbz w1 g y s C1.out.blk h1 S1.out.2.1 S1.out.2.2).mono ?_
 rintro e w2 ⟨z,rfl,hc2,st2⟩
 have C2:Hid (Cg g z w w2):=C1.out.trans hc2
 have S2:Hid (St x (1+t.size+(1+s.n)) z):=S1.out.trans st2
 clear hc2 st2
 go_wp2
 go_end0
 exact ⟨z,rfl,C2.out,S2.out⟩
end Go.Proofs.YtceigllifjgalaaGreatDoor.Pkt
