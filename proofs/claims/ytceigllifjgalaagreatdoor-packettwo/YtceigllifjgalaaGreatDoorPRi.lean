import Derived.Shelf.Small.Utf8
import Derived.Shelf.Utf8.RuneCount
import Derived.Shelf.Strings.Shaped
import Derived.Shelf.Strings.Prefix
import Derived.Shelf.Strings.Split
import Derived.Shelf.Strings.RuneCount
import Derived.Shelf.Strings.IndexAnyAll
import Derived.Test.YtceigllifjgalaaGreatDoorPFa
import Derived.Deep.Light
namespace Go.Proofs.YtceigllifjgalaaGreatDoor.Pkt
open Go Go.RowKit
set_option linter.unusedSimpArgs false
set_option linter.unusedVariables false
def sgF (s:ByteArray):Nat→Nat→Bool
 | 0,_=>false
 | b+1,k=>if k<s.size then (if (Utf8.decode s k).1=43∨(Utf8.decode s k).1=35 then true else sgF s b (k+(Utf8.decode s k).2)) else false
theorem za4 {w:World} {g:Nat} {o:Obj} (h:w.heap[g]?=some o):g<w.heap.size:=by
 rcases Nat.lt_or_ge g w.heap.size with h1 | h1
 · exact h1
 · rw [Array.getElem?_eq_none h1] at h;cases h
end Go.Proofs.YtceigllifjgalaaGreatDoor.Pkt
set_option maxRecDepth 100000
namespace Go.Proofs.YtceigllifjgalaaGreatDoor.Pkt
open Go Go.RowKit
set_option linter.unusedSimpArgs false
set_option linter.unusedVariables false
def sgn (s:ByteArray):Bool:=if 8<s.size then decide (0≤Lib.indexAny s.data.toList [43,35]) else sgF s s.size 0
def ct (s:ByteArray):Int:=if s.size=0 then 50 else if txt s then 0 else 51
def top (s:ByteArray):Bool:=!decide (s.size=0) && txt s && !sgn s
def lvs (s:ByteArray):Nat→Nat→Nat→List ByteArray
 | 0,f,_=>[s.extract f s.size]
 | b+1,f,i=>if i<s.size then (if atB s i=47 then s.extract f i::lvs s b (i+1) (i+1) else lvs s b f (i+1)) else [s.extract f s.size]
def levels (s:ByteArray):List ByteArray:=lvs s s.size 0 0
def hsN (s:ByteArray):Nat→Bool
 | 0=>false
 | n+1=>hsN s n || (atB s n==43) || (atB s n==35)
def hasS (s:ByteArray):Bool:=hsN s s.size
def isHash (t:ByteArray):Bool:=t.toList==(⟨#[35]⟩:ByteArray).toList
def lvX (t:ByteArray) (more:Bool):Bool:=(hasS t && decide (1<t.size)) || (isHash t && more)
def lvAny:List ByteArray→Bool
 | []=>false
 | t::r=>lvX t (!r.isEmpty) || lvAny r
def rfc (s:ByteArray):Int:=if ct s=0 then (if lvAny (levels s) then 52 else 0) else ct s
def fcode (s:ByteArray):Int:=rfc s
def flt (s:ByteArray):Bool:=fcode s==0
open Go Go.RowKit Go.Sort
structure Small (p:Pk) (c:Cn):Prop where
 cl:p.client.size≤1000000
 us:p.user.size≤1000000
 wt:p.wT.size≤1000000
 mt:p.mT.size≤1000000
 wp:p.wP.n≤1000000
 ps:p.pass.n≤1000000
 mp:p.mP.n≤1000000
 an:p.asks.n≤1000000
 cn:p.codes.n≤1000000
 fn:p.filters.n≤1000000
 sa:sumN (fun i=>3+(c.af i).size) p.asks.n≤100000000
 sf:sumN (fun i=>2+(c.fs i).size) p.filters.n≤100000000
theorem load_row {w:World} {g:Nat} {cs:Array Value} {fr:Nat×Nat} (hg:w.heap[g]?=some (.cells cs 29 fr)) (hs:cs.size=25):(loadVar 29 ⟨g,0,none⟩).run Tryz.prog w = .ok (.agg cs) w :=
 run_loadVar_row w g 29 29 cs fr _ hg Tryz.underlying29 rfl (by rw [hs];kernel_rfl)
theorem zaA {ops:Array Oper} {C:World→Prop} {Q:Act→Prop} {a:Act} {o:Oper} {rest:List Oper} {x:Operand} (hwant:Region.wanted o (yielded ops a.tmps)=true) (ho:o.op = .load 29 x) (g:Nat)
    (hx:a.eval x = .pointer (some ⟨g,0,none⟩)) (v:Value) (hrun:∀ w,C w→(loadVar 29 ⟨g,0,none⟩).run Tryz.prog w = .ok v w) (h:wpQuiet Tryz.prog ops C Q rest (a.put o.dst v)):wpQuiet Tryz.prog ops C Q (o::rest) a:=by
  show (if Region.wanted o (yielded ops a.tmps) then _ else _)
  rw [if_pos hwant]
  refine ⟨v,fun w hC=>?_,h⟩
  unfold Oper.quietAt execOp
  simp only [ho,hx,Instr.loadAt,Instr.sureAddr,Sem.run_bind,Sem.run_pure,Result.andThen_ok,hrun w hC]
  exact ⟨rfl,rfl⟩
theorem za2 {ops:Array Oper} {Q:Exit→Act→World→Prop} {a:Act} {w:World} {o:Oper} {rest:List Oper} (hw:Region.wanted o (yielded ops a.tmps)=true) (x:Operand) (ho:o.op = .load 29 x) (g:Nat)
    (hx:a.eval x = .pointer (some ⟨g,0,none⟩)) (cs:Array Value) (fr:Nat×Nat) (hg:w.heap[g]?=some (.cells cs 29 fr)) (hs:cs.size=25) (h:wpList Tryz.prog ops Q rest (a.put o.dst (.agg cs)) w):wpList Tryz.prog ops Q (o::rest) a w :=
  wpList_step fun K hK=>by
    rw [if_pos hw]
    exact wp_load_row 29 x ho g hx 29 cs fr _ hg Tryz.underlying29 rfl (by rw [hs];kernel_rfl) (hK _ _ h)
def pkCells (p:Pk):Array Value:=#[.int .i64 p.kind,.int .i64 p.level,.bool p.clean,.int .i64 p.keep,.string p.client,.bool p.hasWill,.string p.wT,.slice p.wP.a p.wP.n p.wP.c,.int .i64 p.wQ,.bool p.wR,.bool p.hasUser,.string p.user,.bool p.hasPass,.slice p.pass.a p.pass.n p.pass.c,.bool p.present,.int .i64 p.code,.bool p.dup,.string p.mT,.slice p.mP.a p.mP.n p.mP.c,.int .i64 p.mQ,.bool p.mR,.int .i64 p.id,.slice p.asks.a p.asks.n p.asks.c,.slice p.codes.a p.codes.n p.codes.c,.slice p.filters.a p.filters.n p.filters.c]
set_option maxHeartbeats 1000000
theorem cb_lt {w:World} {g:Nat} {x:Int} (h:Cb w g x):g<w.heap.size:=by
 rcases Nat.lt_or_ge g w.heap.size with h1 | h1
 · exact h1
 · unfold Cb at h;rw [Array.getElem?_eq_none h1] at h;cases h
theorem asks_any (w:World) (g:Nat) (x:Int) (s:Sl) (f:Nat→ByteArray) (q:Nat→Int) (h:Cb w g x) (ha:As w s f q) (hd:0<s.n→∀ b off,s.a=some ⟨b,off,none⟩→b≠g) (hs:s.n≤9223372036854775807) (hf:∀ i,i<s.n→(f i).size≤9223372036854775807) (h2:x≤1000000000) (h3:-9223372036854775807≤x) :
    Calls Tryz.prog 142 #[.pointer (some ⟨g,0,none⟩),.slice s.a s.n s.c] w fun e w'=>∃ y,e = .returned (.tuple #[])∧Cg g y w w'∧St x (sumN (fun i=>1+(f i).size) s.n) y:=by
  obtain ⟨aa,an,ac⟩:=s
  simp only at hs hf hd ⊢
  have HA:Hid (As w ⟨aa,an,ac⟩ f q):=ha
  have HC:Hid (Cg g x w w):=Cg.refl h
  have HD:Hid (0<an→∀ b off,aa=some ⟨b,off,none⟩→b≠g):=hd
  have HF:Hid (∀ i,i<an→(f i).size≤9223372036854775807):=hf
  have HX:Hid (x≤1000000000∧-9223372036854775807≤x):=⟨h2,h3⟩
  clear ha h hd hf h2 h3
  go_enter Tryz.func142,Tryz.ntmps142
  go_wp2_with fail
  go_loopg [4] an (fun gg s4 wx=>∃ (k:Nat) (y:Int),s4 = .int .i64 k∧k+gg=an∧Hid (Cg g y w wx)∧Hid (St x (sumN (fun i=>1+(f i).size) k) y))
  case atStart=>exact ⟨0,x,rfl,by omega,HC,⟨fun _=>by simp [sumN],HX.out.1,HX.out.2⟩⟩
  case round =>
    obtain ⟨k,y,rfl,hkg,C1,S1⟩:=hrel
    by_cases hk:k<an
    · have hk':(k:Int)<an:=by omega
      by_cases hy:0≤y
      · obtain ⟨b,off,he,hc⟩:∃ b off,aa=some ⟨b,off,none⟩∧∀ i,i<an→(w.cell? ⟨b,off+i*2,none⟩=some (.string (f i))∧w.cell? ⟨b,off+i*2+1,none⟩=some (.int .i64 (q i))):=by
          rcases HA.out.2 with h | h
          · simp only at h;omega
          · exact h
        have hbg:=HD.out (by omega) b off he
        subst he
        have hac:an≤ac:=HA.out.1
        have c0:=C1.out.cell (hc k hk).1 hbg
        have hfk:=HF.out k hk
        obtain ⟨gg,hg⟩:∃ gg,gk=gg+1:=⟨gk-1,by omega⟩
        clear hc hbg
        go_wp2_with fail
        go_must (go_at_call 27)
        refine (ok_any _ g y C1.out.blk).mono ?_
        rintro e w1 ⟨rfl,hw1⟩
        obtain rfl:=hw1.symm
        clear hw1
        rw [decide_eq_true hy]
        go_wp2_with fail
        go_must (go_at_call 140)
        refine (zaR _ g y (f k) C1.out.blk hfk S1.out.2.1 S1.out.2.2).mono ?_
        rintro e w2 ⟨z,rfl,hc2,st2⟩
        have C2:Hid (Cg g z w w2):=C1.out.trans hc2
        have S2:Hid (St x (sumN (fun i=>1+(f i).size) (k+1)) z):=S1.out.trans st2
        clear hc2 st2 c0
        go_wp2
        go_roundg gg
        case measure=>omega
        case rel=>exact ⟨k+1,z,by first | rfl | simp,by omega,C2,S2⟩
      · have HY:Hid (St x (sumN (fun i=>1+(f i).size) an) y):=⟨fun h=>absurd h hy,S1.out.2⟩
        go_wp2_with fail
        go_must (go_at_call 27)
        refine (ok_any _ g y C1.out.blk).mono ?_
        rintro e w1 ⟨rfl,hw1⟩
        obtain rfl:=hw1.symm
        clear hw1
        rw [show decide (0≤y)=false from decide_eq_false (by omega)]
        go_wp2
        go_end0
        first | exact ⟨y,rfl,C1.out,HY.out⟩ | exact ⟨rfl,y,C1.out,HY.out⟩
    · obtain rfl:k=an:=by omega
      have hk':¬ (k:Int)<k:=by omega
      go_wp2
      go_end0
      first | exact ⟨y,rfl,C1.out,S1.out⟩ | exact ⟨rfl,y,C1.out,S1.out⟩
theorem texts_any (w:World) (g:Nat) (x:Int) (s:Sl) (f:Nat→ByteArray) (h:Cb w g x) (ha:Ss w s f) (hd:0<s.n→∀ b off,s.a=some ⟨b,off,none⟩→b≠g) (hs:s.n≤9223372036854775807) (hf:∀ i,i<s.n→(f i).size≤9223372036854775807) (h2:x≤1000000000) (h3:-9223372036854775807≤x) :
    Calls Tryz.prog 144 #[.pointer (some ⟨g,0,none⟩),.slice s.a s.n s.c] w fun e w'=>∃ y,e = .returned (.tuple #[])∧Cg g y w w'∧St x (sumN (fun i=>1+(f i).size) s.n) y:=by
  obtain ⟨aa,an,ac⟩:=s
  simp only at hs hf hd ⊢
  have HA:Hid (Ss w ⟨aa,an,ac⟩ f):=ha
  have HC:Hid (Cg g x w w):=Cg.refl h
  have HD:Hid (0<an→∀ b off,aa=some ⟨b,off,none⟩→b≠g):=hd
  have HF:Hid (∀ i,i<an→(f i).size≤9223372036854775807):=hf
  have HX:Hid (x≤1000000000∧-9223372036854775807≤x):=⟨h2,h3⟩
  clear ha h hd hf h2 h3
  go_enter Tryz.func144,Tryz.ntmps144
  go_wp2_with fail
  go_loopg [4] an (fun gg s4 wx=>∃ (k:Nat) (y:Int),s4 = .int .i64 k∧k+gg=an∧Hid (Cg g y w wx)∧Hid (St x (sumN (fun i=>1+(f i).size) k) y))
  case atStart=>exact ⟨0,x,rfl,by omega,HC,⟨fun _=>by simp [sumN],HX.out.1,HX.out.2⟩⟩
  case round =>
    obtain ⟨k,y,rfl,hkg,C1,S1⟩:=hrel
    by_cases hk:k<an
    · have hk':(k:Int)<an:=by omega
      by_cases hy:0≤y
      · obtain ⟨b,off,he,hc⟩:∃ b off,aa=some ⟨b,off,none⟩∧∀ i,i<an→w.cell? ⟨b,off+i,none⟩=some (.string (f i)):=by
          rcases HA.out.2 with h | h
          · simp only at h;omega
          · exact h
        have hbg:=HD.out (by omega) b off he
        subst he
        have hac:an≤ac:=HA.out.1
        have c0:=C1.out.cell (hc k hk) hbg
        have hfk:=HF.out k hk
        obtain ⟨gg,hg⟩:∃ gg,gk=gg+1:=⟨gk-1,by omega⟩
        clear hc hbg
        go_wp2_with fail
        go_must (go_at_call 27)
        refine (ok_any _ g y C1.out.blk).mono ?_
        rintro e w1 ⟨rfl,hw1⟩
        obtain rfl:=hw1.symm
        clear hw1
        rw [decide_eq_true hy]
        go_wp2_with fail
        go_must (go_at_call 140)
        refine (zaR _ g y (f k) C1.out.blk hfk S1.out.2.1 S1.out.2.2).mono ?_
        rintro e w2 ⟨z,rfl,hc2,st2⟩
        have C2:Hid (Cg g z w w2):=C1.out.trans hc2
        have S2:Hid (St x (sumN (fun i=>1+(f i).size) (k+1)) z):=S1.out.trans st2
        clear hc2 st2 c0
        go_wp2
        go_roundg gg
        case measure=>omega
        case rel=>exact ⟨k+1,z,by first | rfl | simp,by omega,C2,S2⟩
      · have HY:Hid (St x (sumN (fun i=>1+(f i).size) an) y):=⟨fun h=>absurd h hy,S1.out.2⟩
        go_wp2_with fail
        go_must (go_at_call 27)
        refine (ok_any _ g y C1.out.blk).mono ?_
        rintro e w1 ⟨rfl,hw1⟩
        obtain rfl:=hw1.symm
        clear hw1
        rw [show decide (0≤y)=false from decide_eq_false (by omega)]
        go_wp2
        go_end0
        first | exact ⟨y,rfl,C1.out,HY.out⟩ | exact ⟨rfl,y,C1.out,HY.out⟩
    · obtain rfl:k=an:=by omega
      have hk':¬ (k:Int)<k:=by omega
      go_wp2
      go_end0
      first | exact ⟨y,rfl,C1.out,S1.out⟩ | exact ⟨rfl,y,C1.out,S1.out⟩
structure Off (g:Nat) (p:Pk):Prop where
 asks:0<p.asks.n→∀ b off,p.asks.a=some ⟨b,off,none⟩→b≠g
 filters:0<p.filters.n→∀ b off,p.filters.a=some ⟨b,off,none⟩→b≠g
structure Fit (p:Pk) (c:Cn):Prop where
 cl:p.client.size≤9223372036854775807
 us:p.user.size≤9223372036854775807
 wt:p.wT.size≤9223372036854775807
 mt:p.mT.size≤9223372036854775807
 wp:p.wP.n≤9223372036854775807
 ps:p.pass.n≤9223372036854775807
 mp:p.mP.n≤9223372036854775807
 an:p.asks.n≤9223372036854775807
 cn:p.codes.n≤9223372036854775807
 fn:p.filters.n≤9223372036854775807
 af:∀ i,i<p.asks.n→(c.af i).size≤9223372036854775807
 fs:∀ i,i<p.filters.n→(c.fs i).size≤9223372036854775807
def parts (p:Pk) (c:Cn):Nat:=1+p.client.size+(1+p.user.size)+(1+p.pass.n)+(1+p.wT.size+(1+p.wP.n))+(1+p.mT.size+(1+p.mP.n))+sumN (fun i=>1+(c.af i).size) p.asks.n+p.codes.n+sumN (fun i=>1+(c.fs i).size) p.filters.n
theorem zbf (p:Pk) (c:Cn) (w:World) (g:Nat) (x:Int) (h:Cb w g x) (hin:In w p c) (ho:Off g p) (hf:Fit p c) (h2:x≤1000000000) (h3:-9223372036854775807≤x) :
    Calls Tryz.prog 92 #[.pointer (some ⟨g,0,none⟩),p.v] w fun e w'=>∃ y,e = .returned (.tuple #[])∧Cg g y w w'∧St x (parts p c) y:=by
  have HX:Hid (x≤1000000000∧-9223372036854775807≤x):=⟨h2,h3⟩
  have HF:Hid (Fit p c):=hf
  have HO:Hid (Off g p):=ho
  have HA:Hid (∀ w',Cg g x w w'∨True→∀ y,Cg g y w w'→As w' p.asks c.af c.aq):=fun w' _ y hc=>by
    obtain ⟨h1,h2 | ⟨b,off,e,h2⟩⟩:=hin.asks
    · exact ⟨h1,.inl h2⟩
    · exact ⟨h1,.inr ⟨b,off,e,fun i hi=>⟨hc.cell (h2 i hi).1 (ho.asks (by omega) b off e),hc.cell (h2 i hi).2 (ho.asks (by omega) b off e)⟩⟩⟩
  have HS:Hid (∀ w',Cg g x w w'∨True→∀ y,Cg g y w w'→Ss w' p.filters c.fs):=fun w' _ y hc=>by
    obtain ⟨h1,h2 | ⟨b,off,e,h2⟩⟩:=hin.filters
    · exact ⟨h1,.inl h2⟩
    · exact ⟨h1,.inr ⟨b,off,e,fun i hi=>hc.cell (h2 i hi) (ho.filters (by omega) b off e)⟩⟩
  have hn:Hid (g≠w.heap.size):=Nat.ne_of_lt (cb_lt h)
  obtain ⟨cs,hcs⟩:∃ cs,cs=pkCells p:=⟨_,rfl⟩
  rw [show p.v = .agg cs by rw [hcs];rfl]
  have a0:Hid (cs[0]?=some (.int .i64 p.kind)):=by show _=_;rw [hcs];rfl
  have a1:Hid (cs[1]?=some (.int .i64 p.level)):=by show _=_;rw [hcs];rfl
  have a2:Hid (cs[2]?=some (.bool p.clean)):=by show _=_;rw [hcs];rfl
  have a3:Hid (cs[3]?=some (.int .i64 p.keep)):=by show _=_;rw [hcs];rfl
  have a4:Hid (cs[4]?=some (.string p.client)):=by show _=_;rw [hcs];rfl
  have a5:Hid (cs[5]?=some (.bool p.hasWill)):=by show _=_;rw [hcs];rfl
  have a6:Hid (cs[6]?=some (.string p.wT)):=by show _=_;rw [hcs];rfl
  have a7:Hid (cs[7]?=some (.slice p.wP.a p.wP.n p.wP.c)):=by show _=_;rw [hcs];rfl
  have a8:Hid (cs[8]?=some (.int .i64 p.wQ)):=by show _=_;rw [hcs];rfl
  have a9:Hid (cs[9]?=some (.bool p.wR)):=by show _=_;rw [hcs];rfl
  have a10:Hid (cs[10]?=some (.bool p.hasUser)):=by show _=_;rw [hcs];rfl
  have a11:Hid (cs[11]?=some (.string p.user)):=by show _=_;rw [hcs];rfl
  have a12:Hid (cs[12]?=some (.bool p.hasPass)):=by show _=_;rw [hcs];rfl
  have a13:Hid (cs[13]?=some (.slice p.pass.a p.pass.n p.pass.c)):=by show _=_;rw [hcs];rfl
  have a14:Hid (cs[14]?=some (.bool p.present)):=by show _=_;rw [hcs];rfl
  have a15:Hid (cs[15]?=some (.int .i64 p.code)):=by show _=_;rw [hcs];rfl
  have a16:Hid (cs[16]?=some (.bool p.dup)):=by show _=_;rw [hcs];rfl
  have a17:Hid (cs[17]?=some (.string p.mT)):=by show _=_;rw [hcs];rfl
  have a18:Hid (cs[18]?=some (.slice p.mP.a p.mP.n p.mP.c)):=by show _=_;rw [hcs];rfl
  have a19:Hid (cs[19]?=some (.int .i64 p.mQ)):=by show _=_;rw [hcs];rfl
  have a20:Hid (cs[20]?=some (.bool p.mR)):=by show _=_;rw [hcs];rfl
  have a21:Hid (cs[21]?=some (.int .i64 p.id)):=by show _=_;rw [hcs];rfl
  have a22:Hid (cs[22]?=some (.slice p.asks.a p.asks.n p.asks.c)):=by show _=_;rw [hcs];rfl
  have a23:Hid (cs[23]?=some (.slice p.codes.a p.codes.n p.codes.c)):=by show _=_;rw [hcs];rfl
  have a24:Hid (cs[24]?=some (.slice p.filters.a p.filters.n p.filters.c)):=by show _=_;rw [hcs];rfl
  clear hcs
  have C0:Hid (Cg g x w (w.alloc (.cells cs 29))):=(Cg.refl h).alloc _
  have FA:Hid (∀ k v,cs[k]?=some v→∀ w' y,Cg g y (w.alloc (.cells cs 29)) w'→w'.cell? ⟨w.heap.size,k,none⟩=some v):=fun k v hk w' y hc=>hc.cell (zb2 w cs 29 k v hk) (fun e=>hn.out e.symm)
  have R0:Hid (Cg g x (w.alloc (.cells cs 29)) (w.alloc (.cells cs 29))):=Cg.refl C0.out.blk
  clear h hin ho hf h2 h3
  have f4:=FA.out 4 _ a4.out _ x R0.out
  go_enter Tryz.func92,Tryz.ntmps92
  go_wp2_with fail
  go_must (go_at_call 140)
  refine (zaR _ g x p.client C0.out.blk HF.out.cl HX.out.1 HX.out.2).mono ?_
  rintro e w1 ⟨y1,rfl,hc,st⟩
  have C1:Hid (Cg g y1 w w1):=C0.out.trans hc
  have R1:Hid (Cg g y1 (w.alloc (.cells cs 29)) w1):=R0.out.trans hc
  have S1:Hid (St x ((1+p.client.size)) y1):=st
  clear hc st
  have f11:=FA.out 11 _ a11.out w1 y1 R1.out
  go_wp2_with fail
  go_must (go_at_call 140)
  refine (zaR w1 g y1 p.user C1.out.blk HF.out.us S1.out.2.1 S1.out.2.2).mono ?_
  rintro e w2 ⟨y2,rfl,hc,st⟩
  have C2:Hid (Cg g y2 w w2):=C1.out.trans hc
  have R2:Hid (Cg g y2 (w.alloc (.cells cs 29)) w2):=R1.out.trans hc
  have S2:Hid (St x ((1+p.client.size)+(1+p.user.size)) y2):=S1.out.trans st
  clear hc st
  have f13:=FA.out 13 _ a13.out w2 y2 R2.out
  go_wp2_with fail
  go_must (go_at_call 97)
  refine (zbz w2 g y2 p.pass C2.out.blk HF.out.ps S2.out.2.1 S2.out.2.2).mono ?_
  rintro e w3 ⟨y3,rfl,hc,st⟩
  have C3:Hid (Cg g y3 w w3):=C2.out.trans hc
  have R3:Hid (Cg g y3 (w.alloc (.cells cs 29)) w3):=R2.out.trans hc
  have S3:Hid (St x ((1+p.client.size)+(1+p.user.size)+(1+p.pass.n)) y3):=S2.out.trans st
  clear hc st
  have f6:=FA.out 6 _ a6.out w3 y3 R3.out
  have f7:=FA.out 7 _ a7.out w3 y3 R3.out
  have f8:=FA.out 8 _ a8.out w3 y3 R3.out
  have f9:=FA.out 9 _ a9.out w3 y3 R3.out
  go_wp2_with fail
  go_must (go_at_call 141)
  refine (zbb w3 g y3 p.wT p.wP p.wQ p.wR C3.out.blk HF.out.wt HF.out.wp S3.out.2.1 S3.out.2.2).mono ?_
  rintro e w4 ⟨y4,rfl,hc,st⟩
  have C4:Hid (Cg g y4 w w4):=C3.out.trans hc
  have R4:Hid (Cg g y4 (w.alloc (.cells cs 29)) w4):=R3.out.trans hc
  have S4:Hid (St x ((1+p.client.size)+(1+p.user.size)+(1+p.pass.n)+(1+p.wT.size+(1+p.wP.n))) y4):=S3.out.trans st
  clear hc st
  have f17:=FA.out 17 _ a17.out w4 y4 R4.out
  have f18:=FA.out 18 _ a18.out w4 y4 R4.out
  have f19:=FA.out 19 _ a19.out w4 y4 R4.out
  have f20:=FA.out 20 _ a20.out w4 y4 R4.out
  go_wp2_with fail
  go_must (go_at_call 141)
  refine (zbb w4 g y4 p.mT p.mP p.mQ p.mR C4.out.blk HF.out.mt HF.out.mp S4.out.2.1 S4.out.2.2).mono ?_
  rintro e w5 ⟨y5,rfl,hc,st⟩
  have C5:Hid (Cg g y5 w w5):=C4.out.trans hc
  have R5:Hid (Cg g y5 (w.alloc (.cells cs 29)) w5):=R4.out.trans hc
  have S5:Hid (St x ((1+p.client.size)+(1+p.user.size)+(1+p.pass.n)+(1+p.wT.size+(1+p.wP.n))+(1+p.mT.size+(1+p.mP.n))) y5):=S4.out.trans st
  clear hc st
  have f22:=FA.out 22 _ a22.out w5 y5 R5.out
  go_wp2_with fail
  go_must (go_at_call 142)
  refine (asks_any w5 g y5 p.asks c.af c.aq C5.out.blk (HA.out _ (.inr trivial) _ C5.out) HO.out.asks HF.out.an HF.out.af S5.out.2.1 S5.out.2.2).mono ?_
  rintro e w6 ⟨y6,rfl,hc,st⟩
  have C6:Hid (Cg g y6 w w6):=C5.out.trans hc
  have R6:Hid (Cg g y6 (w.alloc (.cells cs 29)) w6):=R5.out.trans hc
  have S6:Hid (St x ((1+p.client.size)+(1+p.user.size)+(1+p.pass.n)+(1+p.wT.size+(1+p.wP.n))+(1+p.mT.size+(1+p.mP.n))+sumN (fun i=>1+(c.af i).size) p.asks.n) y6):=S5.out.trans st
  clear hc st
  have f23:=FA.out 23 _ a23.out w6 y6 R6.out
  go_wp2_with fail
  go_must (go_at_call 143)
  refine (zaS w6 g y6 p.codes.n C6.out.blk HF.out.cn S6.out.2.1 S6.out.2.2).mono ?_
  rintro e w7 ⟨y7,bb,rfl,hc,st⟩
  have C7:Hid (Cg g y7 w w7):=C6.out.trans hc
  have R7:Hid (Cg g y7 (w.alloc (.cells cs 29)) w7):=R6.out.trans hc
  have S7:Hid (St x ((1+p.client.size)+(1+p.user.size)+(1+p.pass.n)+(1+p.wT.size+(1+p.wP.n))+(1+p.mT.size+(1+p.mP.n))+sumN (fun i=>1+(c.af i).size) p.asks.n+p.codes.n) y7):=S6.out.trans st
  clear hc st
  have f24:=FA.out 24 _ a24.out w7 y7 R7.out
  go_wp2_with fail
  go_must (go_at_call 144)
  refine (texts_any w7 g y7 p.filters c.fs C7.out.blk (HS.out _ (.inr trivial) _ C7.out) HO.out.filters HF.out.fn HF.out.fs S7.out.2.1 S7.out.2.2).mono ?_
  rintro e w8 ⟨y8,rfl,hc,st⟩
  have C8:Hid (Cg g y8 w w8):=C7.out.trans hc
  have R8:Hid (Cg g y8 (w.alloc (.cells cs 29)) w8):=R7.out.trans hc
  have S8:Hid (St x ((1+p.client.size)+(1+p.user.size)+(1+p.pass.n)+(1+p.wT.size+(1+p.wP.n))+(1+p.mT.size+(1+p.mP.n))+sumN (fun i=>1+(c.af i).size) p.asks.n+p.codes.n+sumN (fun i=>1+(c.fs i).size) p.filters.n) y8):=S7.out.trans st
  clear hc st
  go_wp2
  go_end0
  exact ⟨y8,rfl,C8.out,S8.out⟩
theorem zb8 (t t':ByteArray) (q q':Int) (w:World):(binOp .neq 98 (.agg #[.string t,.int .i64 q]) (.agg #[.string t',.int .i64 q'])).run Tryz.prog w = .ok (.bool (!((t.toList==t'.toList) && (q==q')))) w:=by
 have hu:Tryz.prog.underlying 98=some (.struct (Tryz.prog.fieldsOf 98)):=by kernel_rfl
 have hp:Tryz.prog.stoodInHeld 98=false:=by kernel_rfl
 rw [run_neq_struct,run_equalIn_agg w 9999 98 _ _ hu hp]
 clear hu hp
 simp only [Program.fieldsOf,Tryz.underlying98]
 cases h1:(t.toList==t'.toList)
 · go_simp
 ·
  cases h2:(q==q')
  · go_simp
  · go_simp
theorem zaY (t:ByteArray) (q:Int) (w:World):(binOp .neq 98 (.agg #[.string t,.int .i64 q]) (.agg #[.string t,.int .i64 q])).run Tryz.prog w = .ok (.bool false) w:=by
 rw [zb8];simp
def Pk.re (p:Pk) (s1 s2 s3 s4 s5 s6:Sl):Pk:={ p with wP:=s1,pass:=s2,mP:=s3,asks:=s4,codes:=s5,filters:=s6 }
theorem hidp {p:Prop} (h:p):Hid p:=h
def bEq (z:Nat→Int) (n:Nat) (z':Nat→Int) (m:Nat):Bool:=(strZ z n).toList==(strZ z' m).toList
def iEq (z:Nat→Int) (n:Nat) (z':Nat→Int) (m:Nat):Bool:=decide (n=m∧∀ i,i<n→z i=z' i)
def tEq (z:Nat→ByteArray) (n:Nat) (z':Nat→ByteArray) (m:Nat):Bool:=decide (n=m∧∀ i,i<n→z i=z' i)
def aEq (f:Nat→ByteArray) (q:Nat→Int) (n:Nat) (f':Nat→ByteArray) (q':Nat→Int) (m:Nat):Bool:=decide (n=m∧∀ i,i<n→f i=f' i∧q i=q' i)
def hdEq (t t':ByteArray) (q q':Int) (r r':Bool):Bool:=(t.toList==t'.toList) && (q==q') && (r==r')
def plEq (p q:Pk):Bool :=
 (p.kind==q.kind) && (p.level==q.level) && (p.keep==q.keep) && (p.code==q.code) && (p.id==q.id) && (p.clean==q.clean) && (p.present==q.present) && (p.dup==q.dup) && (p.hasWill==q.hasWill) && (p.hasUser==q.hasUser) && (p.hasPass==q.hasPass) &&
 (p.client.toList==q.client.toList) && (p.user.toList==q.user.toList) && hdEq p.wT q.wT p.wQ q.wQ p.wR q.wR && hdEq p.mT q.mT p.mQ q.mQ p.mR q.mR
def sm (p:Pk) (c:Cn) (q:Pk) (d:Cn):Bool :=
 plEq p q && bEq c.wz p.wP.n d.wz q.wP.n && bEq c.pz p.pass.n d.pz q.pass.n && bEq c.mz p.mP.n d.mz q.mP.n && aEq c.af c.aq p.asks.n d.af d.aq q.asks.n && iEq c.cs p.codes.n d.cs q.codes.n && tEq c.fs p.filters.n d.fs q.filters.n
theorem str_eq {a b:ByteArray} (h:(a.toList==b.toList)=true):a=b:=by
 have h:=eq_of_beq h
 rw [Lib.toList_data,Lib.toList_data] at h
 obtain ⟨⟨x⟩⟩:=a
 obtain ⟨⟨y⟩⟩:=b
 simp only at h
 rw [h]
theorem zbn (a:ByteArray):(a.toList==a.toList)=true:=by simp
theorem bEq_size {z z':Nat→Int} {n m:Nat} (h:bEq z n z' m=true):n=m:=by
 have:=congrArg ByteArray.size (str_eq h)
 rwa [zbv,zbv] at this
theorem zbS (z:Nat→Int) (n:Nat):bEq z n z n=true:=zbn _
theorem sm_two (p:Pk) (c:Cn) (s1 s2 s3 s4 s5 s6 t1 t2 t3 t4 t5 t6:Sl) (h1:s1.n=t1.n) (h2:s2.n=t2.n) (h3:s3.n=t3.n) (h4:s4.n=t4.n) (h5:s5.n=t5.n) (h6:s6.n=t6.n):sm (p.re s1 s2 s3 s4 s5 s6) c (p.re t1 t2 t3 t4 t5 t6) c=true:=by
 simp [sm,plEq,hdEq,Pk.re,h1,h2,h3,h4,h5,h6,zbS,iEq,tEq,aEq]
theorem zbJ (p:Pk) (c:Cn):sm p c p c=true:=by
 simp [sm,plEq,hdEq,zbS,iEq,tEq,aEq]
theorem zbZ {z z':Nat→Int} {n:Nat} (hz:∀ i,0≤z i∧z i≤255) (hz':∀ i,0≤z' i∧z' i≤255):bEq z n z' n=true↔∀ i,i<n→z i=z' i:=by
 constructor
 ·
  intro h i hi
  have e:=congrArg (fun b:ByteArray=>b.data.toList[i]?) (str_eq h)
  simp [strZ,strOfNums,hi] at e
  have e3:=congrArg UInt8.toNat e
  have:=hz i;have:=hz' i
  simp at e3
  omega
 ·
  intro h
  have:strZ z n=strZ z' n:=by
   unfold strZ
   rw [List.map_congr_left fun i hi=>h i (List.mem_range.1 hi)]
  unfold bEq
  rw [this]
  simp
theorem asks_same (s s':Sl) (f f':Nat→ByteArray) (q q':Nat→Int) (w:World) (h:As w s f q) (h':As w s' f' q') (hm:s.n≤1000000) :
    Calls Tryz.prog 37 #[.slice s.a s.n s.c,.slice s'.a s'.n s'.c] w fun e w'=>e = .returned (.bool (aEq f q s.n f' q' s'.n))∧Below w.heap.size w w':=by
  obtain ⟨a,n,c⟩:=s
  obtain ⟨a',n',c'⟩:=s'
  simp only at hm
  by_cases hn:n=n'
  · subst hn
    have HA:Hid (As w ⟨a,n,c⟩ f q):=h
    have HB:Hid (As w ⟨a',n,c'⟩ f' q'):=h'
    have B0:Hid (Below w.heap.size w w):=Below.refl _ _
    clear h h'
    go_enter Tryz.func37,Tryz.ntmps37
    go_wp2_with fail
    go_loopg [13] n (fun gg s4 wx=>∃ (k:Nat),s4 = .int .i64 k∧k+gg=n∧Hid (Below w.heap.size w wx)∧Hid (∀ i,i<k→f i=f' i∧q i=q' i))
    case atStart=>exact ⟨0,rfl,by omega,B0,fun i hi=>absurd hi (Nat.not_lt_zero _)⟩
    case round =>
      obtain ⟨k,rfl,hkg,B1,S1⟩:=hrel
      by_cases hk:k<n
      · have hk':(k:Int)<n:=by omega
        obtain ⟨b,off,he,hc⟩:∃ b off,a=some ⟨b,off,none⟩∧∀ i,i<n→(w.cell? ⟨b,off+i*2,none⟩=some (.string (f i))∧w.cell? ⟨b,off+i*2+1,none⟩=some (.int .i64 (q i))):=by
          rcases HA.out.2 with h | h
          · simp only at h;omega
          · exact h
        obtain ⟨b',off',he',hc'⟩:∃ b off,a'=some ⟨b,off,none⟩∧∀ i,i<n→(w.cell? ⟨b,off+i*2,none⟩=some (.string (f' i))∧w.cell? ⟨b,off+i*2+1,none⟩=some (.int .i64 (q' i))):=by
          rcases HB.out.2 with h | h
          · simp only at h;omega
          · exact h
        subst he he'
        have hac:n≤c:=HA.out.1
        have hac':n≤c':=HB.out.1
        have c0:=cell_later B1.out (hc k hk).1
        have c1:=cell_later B1.out (hc k hk).2
        have d0:=cell_later B1.out (hc' k hk).1
        have d1:=cell_later B1.out (hc' k hk).2
        have EQ:=zb8 (f k) (f' k) (q k) (q' k)
        have EG:Tryz.prog.eqGuardType Tryz.prog.depth 98=false:=by kernel_rfl
        obtain ⟨gg,hg⟩:∃ gg,gk=gg+1:=⟨gk-1,by omega⟩
        clear hc hc'
        by_cases hB:f k=f' k∧q k=q' k
        · have t0:((f k).toList==(f' k).toList && q k==q' k)=true:=by rw [hB.1,hB.2];simp
          rw [t0] at EQ
          have HN:Hid (∀ i,i<k+1→f i=f' i∧q i=q' i):=fun i hi=>by
            by_cases hik:i<k
            · exact S1.out i hik
            · obtain rfl:i=k:=by omega
              exact hB
          clear hB
          clear t0
          go_wp2_with fail
          go_region
          all_goals
            go_wp2
            go_roundg gg
            case measure=>omega
            case rel=>exact ⟨k+1,by first | rfl | simp,by omega,by first | exact B1 | exact B1.out.drew,HN⟩
        · have t0:((f k).toList==(f' k).toList && q k==q' k)=false:=Bool.eq_false_iff.2 fun h=>by rw [Bool.and_eq_true] at h;exact hB ⟨str_eq h.1,by simpa using h.2⟩
          rw [t0] at EQ
          have HN:Hid (aEq f q n f' q' n=false):=by
            exact decide_eq_false fun hh=>hB (hh.2 k hk)
          clear hB
          clear t0
          go_wp2_with fail
          go_region
          all_goals
            go_wp2
            go_ret
            first | exact ⟨by rw [HN.out];rfl,B1.out⟩ | exact ⟨by rw [HN.out];rfl,B1.out.drew⟩
      · obtain rfl:k=n:=by omega
        have hk':¬ (k:Int)<k:=by omega
        have HN:Hid (aEq f q k f' q' k=true):=decide_eq_true ⟨rfl,S1.out⟩
        go_wp2
        go_ret
        exact ⟨by rw [HN.out];rfl,B1.out⟩
  · have hn':((n:Int) != n')=true:=by simp;omega
    have HN:Hid (aEq f q n f' q' n'=false):=decide_eq_false fun hh=>hn hh.1
    clear h h'
    go_enter Tryz.func37,Tryz.ntmps37
    go_wp2
    go_ret
    exact ⟨by rw [HN.out];rfl,Below.refl _ _⟩
theorem ints_same (s s':Sl) (z z':Nat→Int) (w:World) (h:Is w s z) (h':Is w s' z') (hm:s.n≤1000000) :
    Calls Tryz.prog 38 #[.slice s.a s.n s.c,.slice s'.a s'.n s'.c] w fun e w'=>e = .returned (.bool (iEq z s.n z' s'.n))∧Below w.heap.size w w':=by
  obtain ⟨a,n,c⟩:=s
  obtain ⟨a',n',c'⟩:=s'
  simp only at hm
  by_cases hn:n=n'
  · subst hn
    have HA:Hid (Is w ⟨a,n,c⟩ z):=h
    have HB:Hid (Is w ⟨a',n,c'⟩ z'):=h'
    have B0:Hid (Below w.heap.size w w):=Below.refl _ _
    clear h h'
    go_enter Tryz.func38,Tryz.ntmps38
    go_wp2_with fail
    go_loopg [13] n (fun gg s4 wx=>∃ (k:Nat),s4 = .int .i64 k∧k+gg=n∧Hid (Below w.heap.size w wx)∧Hid (∀ i,i<k→z i=z' i))
    case atStart=>exact ⟨0,rfl,by omega,B0,fun i hi=>absurd hi (Nat.not_lt_zero _)⟩
    case round =>
      obtain ⟨k,rfl,hkg,B1,S1⟩:=hrel
      by_cases hk:k<n
      · have hk':(k:Int)<n:=by omega
        obtain ⟨b,off,he,hc⟩:∃ b off,a=some ⟨b,off,none⟩∧∀ i,i<n→w.cell? ⟨b,off+i,none⟩=some (.int .i64 (z i)):=by
          rcases HA.out.2 with h | h
          · simp only at h;omega
          · exact h
        obtain ⟨b',off',he',hc'⟩:∃ b off,a'=some ⟨b,off,none⟩∧∀ i,i<n→w.cell? ⟨b,off+i,none⟩=some (.int .i64 (z' i)):=by
          rcases HB.out.2 with h | h
          · simp only at h;omega
          · exact h
        subst he he'
        have hac:n≤c:=HA.out.1
        have hac':n≤c':=HB.out.1
        have c0:=cell_later B1.out (hc k hk)
        have d0:=cell_later B1.out (hc' k hk)
        obtain ⟨x,hx⟩:∃ x,z k=x:=⟨_,rfl⟩
        obtain ⟨y,hy⟩:∃ x,z' k=x:=⟨_,rfl⟩
        rw [hx] at c0
        rw [hy] at d0
        obtain ⟨gg,hg⟩:∃ gg,gk=gg+1:=⟨gk-1,by omega⟩
        clear hc hc'
        by_cases hB:z k=z' k
        · have t0:(x != y)=false:=by rw [hx,hy] at hB;simpa using hB
          have HN:Hid (∀ i,i<k+1→z i=z' i):=fun i hi=>by
            by_cases hik:i<k
            · exact S1.out i hik
            · obtain rfl:i=k:=by omega
              exact hB
          clear hB
          clear hx hy
          go_wp2_with fail
          go_region
          all_goals
            go_wp2
            go_roundg gg
            case measure=>omega
            case rel=>exact ⟨k+1,by first | rfl | simp,by omega,by first | exact B1 | exact B1.out.drew,HN⟩
        · have t0:(x != y)=true:=by rw [hx,hy] at hB;simpa using hB
          have HN:Hid (iEq z n z' n=false):=by
            exact decide_eq_false fun hh=>hB (hh.2 k hk)
          clear hB
          clear hx hy
          go_wp2_with fail
          go_region
          all_goals
            go_wp2
            go_ret
            first | exact ⟨by rw [HN.out];rfl,B1.out⟩ | exact ⟨by rw [HN.out];rfl,B1.out.drew⟩
      · obtain rfl:k=n:=by omega
        have hk':¬ (k:Int)<k:=by omega
        have HN:Hid (iEq z k z' k=true):=decide_eq_true ⟨rfl,S1.out⟩
        go_wp2
        go_ret
        exact ⟨by rw [HN.out];rfl,B1.out⟩
  · have hn':((n:Int) != n')=true:=by simp;omega
    have HN:Hid (iEq z n z' n'=false):=decide_eq_false fun hh=>hn hh.1
    clear h h'
    go_enter Tryz.func38,Tryz.ntmps38
    go_wp2
    go_ret
    exact ⟨by rw [HN.out];rfl,Below.refl _ _⟩
theorem texts_same (s s':Sl) (z z':Nat→ByteArray) (w:World) (h:Ss w s z) (h':Ss w s' z') (hm:s.n≤1000000) :
    Calls Tryz.prog 39 #[.slice s.a s.n s.c,.slice s'.a s'.n s'.c] w fun e w'=>e = .returned (.bool (tEq z s.n z' s'.n))∧Below w.heap.size w w':=by
  obtain ⟨a,n,c⟩:=s
  obtain ⟨a',n',c'⟩:=s'
  simp only at hm
  by_cases hn:n=n'
  · subst hn
    have HA:Hid (Ss w ⟨a,n,c⟩ z):=h
    have HB:Hid (Ss w ⟨a',n,c'⟩ z'):=h'
    have B0:Hid (Below w.heap.size w w):=Below.refl _ _
    clear h h'
    go_enter Tryz.func39,Tryz.ntmps39
    go_wp2_with fail
    go_loopg [13] n (fun gg s4 wx=>∃ (k:Nat),s4 = .int .i64 k∧k+gg=n∧Hid (Below w.heap.size w wx)∧Hid (∀ i,i<k→z i=z' i))
    case atStart=>exact ⟨0,rfl,by omega,B0,fun i hi=>absurd hi (Nat.not_lt_zero _)⟩
    case round =>
      obtain ⟨k,rfl,hkg,B1,S1⟩:=hrel
      by_cases hk:k<n
      · have hk':(k:Int)<n:=by omega
        obtain ⟨b,off,he,hc⟩:∃ b off,a=some ⟨b,off,none⟩∧∀ i,i<n→w.cell? ⟨b,off+i,none⟩=some (.string (z i)):=by
          rcases HA.out.2 with h | h
          · simp only at h;omega
          · exact h
        obtain ⟨b',off',he',hc'⟩:∃ b off,a'=some ⟨b,off,none⟩∧∀ i,i<n→w.cell? ⟨b,off+i,none⟩=some (.string (z' i)):=by
          rcases HB.out.2 with h | h
          · simp only at h;omega
          · exact h
        subst he he'
        have hac:n≤c:=HA.out.1
        have hac':n≤c':=HB.out.1
        have c0:=cell_later B1.out (hc k hk)
        have d0:=cell_later B1.out (hc' k hk)
        obtain ⟨x,hx⟩:∃ x,z k=x:=⟨_,rfl⟩
        obtain ⟨y,hy⟩:∃ x,z' k=x:=⟨_,rfl⟩
        rw [hx] at c0
        rw [hy] at d0
        obtain ⟨gg,hg⟩:∃ gg,gk=gg+1:=⟨gk-1,by omega⟩
        clear hc hc'
        by_cases hB:z k=z' k
        · have t0:(x.toList==y.toList)=true:=by rw [hx,hy] at hB;rw [hB];exact zbn _
          have HN:Hid (∀ i,i<k+1→z i=z' i):=fun i hi=>by
            by_cases hik:i<k
            · exact S1.out i hik
            · obtain rfl:i=k:=by omega
              exact hB
          clear hB
          clear hx hy
          go_wp2_with fail
          go_region
          all_goals
            go_wp2
            go_roundg gg
            case measure=>omega
            case rel=>exact ⟨k+1,by first | rfl | simp,by omega,by first | exact B1 | exact B1.out.drew,HN⟩
        · have t0:(x.toList==y.toList)=false:=by rw [hx,hy] at hB;exact Bool.eq_false_iff.2 fun h=>hB (str_eq h)
          have HN:Hid (tEq z n z' n=false):=by
            exact decide_eq_false fun hh=>hB (hh.2 k hk)
          clear hB
          clear hx hy
          go_wp2_with fail
          go_region
          all_goals
            go_wp2
            go_ret
            first | exact ⟨by rw [HN.out];rfl,B1.out⟩ | exact ⟨by rw [HN.out];rfl,B1.out.drew⟩
      · obtain rfl:k=n:=by omega
        have hk':¬ (k:Int)<k:=by omega
        have HN:Hid (tEq z k z' k=true):=decide_eq_true ⟨rfl,S1.out⟩
        go_wp2
        go_ret
        exact ⟨by rw [HN.out];rfl,B1.out⟩
  · have hn':((n:Int) != n')=true:=by simp;omega
    have HN:Hid (tEq z n z' n'=false):=decide_eq_false fun hh=>hn hh.1
    clear h h'
    go_enter Tryz.func39,Tryz.ntmps39
    go_wp2
    go_ret
    exact ⟨by rw [HN.out];rfl,Below.refl _ _⟩
theorem zaQ (s s':Sl) (z z':Nat→Int) (w:World) (h:By w s z) (h':By w s' z') (hm:s.n≤1000000) :
    Calls Tryz.prog 41 #[.slice s.a s.n s.c,.slice s'.a s'.n s'.c] w fun e w'=>e = .returned (.bool (bEq z s.n z' s'.n))∧Below w.heap.size w w':=by
  obtain ⟨a,n,c⟩:=s
  obtain ⟨a',n',c'⟩:=s'
  simp only at hm
  by_cases hn:n=n'
  · subst hn
    have HA:Hid (By w ⟨a,n,c⟩ z):=h
    have HB:Hid (By w ⟨a',n,c'⟩ z'):=h'
    have B0:Hid (Below w.heap.size w w):=Below.refl _ _
    clear h h'
    go_enter Tryz.func41,Tryz.ntmps41
    go_wp2_with fail
    go_loopg [5] n (fun gg s4 wx=>∃ (k:Nat),s4 = .int .i64 k∧k+gg=n∧Hid (Below w.heap.size w wx)∧Hid (∀ i,i<k→z i=z' i))
    case atStart=>exact ⟨0,rfl,by omega,B0,fun i hi=>absurd hi (Nat.not_lt_zero _)⟩
    case round =>
      obtain ⟨k,rfl,hkg,B1,S1⟩:=hrel
      by_cases hk:k<n
      · have hk':(k:Int)<n:=by omega
        obtain ⟨b,off,he,hc⟩:∃ b off,a=some ⟨b,off,none⟩∧∀ i,i<n→w.cell? ⟨b,off+i,none⟩=some (.int .u8 (z i)):=by
          rcases HA.out.2.2 with h | h
          · simp only at h;omega
          · exact h
        obtain ⟨b',off',he',hc'⟩:∃ b off,a'=some ⟨b,off,none⟩∧∀ i,i<n→w.cell? ⟨b,off+i,none⟩=some (.int .u8 (z' i)):=by
          rcases HB.out.2.2 with h | h
          · simp only at h;omega
          · exact h
        subst he he'
        have hac:n≤c:=HA.out.1
        have hac':n≤c':=HB.out.1
        have c0:=cell_later B1.out (hc k hk)
        have d0:=cell_later B1.out (hc' k hk)
        obtain ⟨x,hx⟩:∃ x,z k=x:=⟨_,rfl⟩
        obtain ⟨y,hy⟩:∃ x,z' k=x:=⟨_,rfl⟩
        rw [hx] at c0
        rw [hy] at d0
        obtain ⟨gg,hg⟩:∃ gg,gk=gg+1:=⟨gk-1,by omega⟩
        clear hc hc'
        by_cases hB:z k=z' k
        · have t0:(x != y)=false:=by rw [hx,hy] at hB;simpa using hB
          have HN:Hid (∀ i,i<k+1→z i=z' i):=fun i hi=>by
            by_cases hik:i<k
            · exact S1.out i hik
            · obtain rfl:i=k:=by omega
              exact hB
          clear hB
          clear hx hy
          go_wp2_with fail
          go_region
          all_goals
            go_wp2
            go_roundg gg
            case measure=>omega
            case rel=>exact ⟨k+1,by first | rfl | simp,by omega,by first | exact B1 | exact B1.out.drew,HN⟩
        · have t0:(x != y)=true:=by rw [hx,hy] at hB;simpa using hB
          have HN:Hid (bEq z n z' n=false):=by
            refine Bool.eq_false_iff.2 fun hh=>hB ((zbZ HA.out.2.1 HB.out.2.1).1 hh k hk)
          clear hB
          clear hx hy
          go_wp2_with fail
          go_region
          all_goals
            go_wp2
            go_ret
            first | exact ⟨by rw [HN.out];rfl,B1.out⟩ | exact ⟨by rw [HN.out];rfl,B1.out.drew⟩
      · obtain rfl:k=n:=by omega
        have hk':¬ (k:Int)<k:=by omega
        have HN:Hid (bEq z k z' k=true):=(zbZ HA.out.2.1 HB.out.2.1).2 S1.out
        go_wp2
        go_ret
        exact ⟨by rw [HN.out];rfl,B1.out⟩
  · have hn':((n:Int) != n')=true:=by simp;omega
    have HN:Hid (bEq z n z' n'=false):=Bool.eq_false_iff.2 fun hh=>hn (bEq_size hh)
    clear h h'
    go_enter Tryz.func41,Tryz.ntmps41
    go_wp2
    go_ret
    exact ⟨by rw [HN.out];rfl,Below.refl _ _⟩
theorem zaF {B:Nat} {w w':World} (h:Below B w w') (g:Nat) (cs:Array Value) (hg:B≤g):Below B w (w'.setRow g cs):=by
 refine ⟨h.os,h.tape,h.output,?_,fun k hk=>?_⟩
 ·
  show w.heap.size≤(w'.heap.modify _ _).size
  have:=h.size
  simpa using this
 · rw [setRow_other w' g k cs (by omega)]
   exact h.block k hk
theorem below1 (w:World) (o:Obj):Below w.heap.size w (w.alloc o):=(Below.refl _ _).alloc (Nat.le_refl _) _
theorem zbc (f:Nat→Nat) (n:Nat) (h:∀ i,i<n→1≤f i):n≤sumN f n:=by
 induction n with
 | zero=>simp [sumN]
 | succ n ih =>
  have h1:=ih (fun i hi=>h i (by omega))
  have h2:=h n (by omega)
  simp only [sumN]
  omega
theorem Right.q2 {T:Tx} {p:Pk} {c:Cn} (h:Right T p c):p.mQ=0∨p.mQ=1∨p.mQ=2:=by
 have:=h.ql
 simp [qls,isQ] at this
 omega
def rb (p:Pk) (c:Cn):Nat :=
 if p.kind=1 then szc p else if p.kind=2 then 2 else if p.kind=3 then 2+p.mT.size+p.mP.n else if p.kind=8 then sumN (fun i=>3+(c.af i).size) p.asks.n
 else if p.kind=9 then p.codes.n else if p.kind=10 then sumN (fun i=>2+(c.fs i).size) p.filters.n else 0
theorem sumN_step (f:Nat→Nat) (n k:Nat) (h:k<n):sumN f k+f k≤sumN f n:=by
 induction n with
 | zero=>omega
 | succ n ih =>
  by_cases e:k=n
  · subst e;exact Nat.le_refl _
  · have:=ih (by omega)
    show sumN f k+f k≤sumN f n+f n
    omega
end Go.Proofs.YtceigllifjgalaaGreatDoor.Pkt
