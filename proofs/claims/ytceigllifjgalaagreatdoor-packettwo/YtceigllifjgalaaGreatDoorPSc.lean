import Derived.Test.YtceigllifjgalaaGreatDoorPFc
import Derived.Deep.RegionHeld
namespace Go.Proofs.YtceigllifjgalaaGreatDoor.Pkt
open Go Go.RowKit Go.Sort
set_option linter.unusedSimpArgs false
set_option linter.unusedVariables false
def lotI (i:Nat):Int:=if i % 2=0 then -7701 else -7702
def wordB (i:Nat):ByteArray:=if i % 2=0 then ⟨#[60,111,110,101,62]⟩ else ⟨#[60,116,119,111,62]⟩
def markU (i:Nat):Int:=if i % 2=0 then 235 else 234
theorem zc1 (i:Nat):(lotI i = -7701∧markU i=235)∨(lotI i = -7702∧markU i=234):=by
 unfold lotI markU
 by_cases h:i % 2=0
 · exact .inl ⟨if_pos h,if_pos h⟩
 · exact .inr ⟨if_neg h,if_neg h⟩
theorem zbj (i:Nat) (hi:i≤1000000) (w:World):Calls Tryz.prog 132 #[.int .i64 i] w fun e w'=>e = .returned (.int .i64 (lotI i))∧w'=w:=by
 unfold lotI
 by_cases h:i % 2=0
 ·
  rw [if_pos h]
  have h':((i:Int) % 2==0)=true:=by simp;omega
  clear h
  go_enter Tryz.func132,Tryz.ntmps132
  go_wp2
  go_ret
  exact ⟨rfl,rfl⟩
 ·
  rw [if_neg h]
  have h':((i:Int) % 2==0)=false:=by simp;omega
  clear h
  go_enter Tryz.func132,Tryz.ntmps132
  go_wp2
  go_ret
  exact ⟨rfl,rfl⟩
theorem zb5 (i:Nat) (hi:i≤1000000) (w:World):Calls Tryz.prog 133 #[.int .i64 i] w fun e w'=>e = .returned (.string (wordB i))∧w'=w:=by
 unfold wordB
 by_cases h:i % 2=0
 ·
  rw [if_pos h]
  have h':((i:Int) % 2==0)=true:=by simp;omega
  clear h
  go_enter Tryz.func133,Tryz.ntmps133
  go_wp2
  go_ret
  exact ⟨rfl,rfl⟩
 ·
  rw [if_neg h]
  have h':((i:Int) % 2==0)=false:=by simp;omega
  clear h
  go_enter Tryz.func133,Tryz.ntmps133
  go_wp2
  go_ret
  exact ⟨rfl,rfl⟩
def mB (k:Nat):List Value:=(List.range k).map fun i=>.int .u8 (markU i)
def mI (k:Nat):List Value:=(List.range k).map fun i=>.int .i64 (lotI i)
def mS (k:Nat):List Value:=(List.range k).map fun i=>.string (wordB i)
def mA (k:Nat):List Value:=(List.range k).flatMap fun i=>[.string (wordB i),.int .i64 0]
theorem zc0 (k:Nat):mB (k+1)=mB k++[.int .u8 (markU k)]:=by simp [mB,List.range_succ]
theorem mI_succ (k:Nat):mI (k+1)=mI k++[.int .i64 (lotI k)]:=by simp [mI,List.range_succ]
theorem mS_succ (k:Nat):mS (k+1)=mS k++[.string (wordB k)]:=by simp [mS,List.range_succ]
theorem mA_succ (k:Nat):mA (k+1)=mA k++[.string (wordB k),.int .i64 0]:=by simp [mA,List.range_succ]
theorem own_ne {w:World} {base e size n R t:Nat} {v:Value} {xs:List Value} {cs:Array Value} (h:w.ownsRow base e size v n xs) (hR:w.heap[R]?=some (.cells cs t (0,0))) (hne:e≠t):v.ownBlock≠some R:=by
 obtain ⟨_,h | ⟨g,cp,cur,rfl,_,hh,_⟩⟩:=h
 · rw [h.1];simp [Value.ownBlock]
 ·
  intro k
  simp [Value.ownBlock] at k
  subst k
  rw [hh] at hR
  simp at hR
  exact hne hR.2
theorem zc9 {w:World} {base e e' size n n':Nat} {v v':Value} {xs xs':List Value} (h:w.ownsRow base e size v n xs) (h':w.ownsRow base e' size v' n' xs') (hne:e≠e'):v.ownBlock=none∨v.ownBlock≠v'.ownBlock:=by
 obtain ⟨_,k | ⟨g,cp,cur,rfl,_,hh,_⟩⟩:=h
 · rw [k.1];exact .inl rfl
 ·
  right
  have:=own_ne h' hh (Ne.symm hne)
  exact fun q=>this q.symm
theorem grown_of_below {w w':World} (h:Below w.heap.size w w'):w.grownBy w' none:=⟨h.os,h.tape,h.output,h.size,fun k hk _=>h.block k hk⟩
theorem zal {w w':World} {base e size n:Nat} {v:Value} {xs:List Value} (h:w.ownsRow base e size v n xs) (hb:Below w.heap.size w w'):w'.ownsRow base e size v n xs:=h.kept (grown_of_below hb) (by cases v.ownBlock <;> simp)
theorem zab {w:World} {R i t:Nat} {cs:Array Value} (h:w.heap[R]?=some (.cells cs t (0,0))) (v:Value):(w.setCell ⟨R,i,none⟩ v).heap[R]?=some (.cells (cs.setIfInBounds i v) t (0,0)):=by
 simp [World.setCell,Array.getElem?_modify,h]
theorem zat {w:World} {base e size n:Nat} {v:Value} {xs:List Value} (h:w.ownsRow base e size v n xs) (hn:¬ v = .slice none 0 0):∃ g cp,v = .slice (some ⟨g,0,none⟩) n cp:=by
 obtain ⟨_,k | ⟨g,cp,cur,hv,_⟩⟩:=h
 · exact absurd k.1 hn
 · exact ⟨g,cp,hv⟩
theorem zaE (w:World) (a:Addr) (v x:Value) (t:TypeId):∀ (j:Nat) (u:Value),[x][j]?=some u→((w.setCell a v).alloc (.cells #[x] t)).cell? ((⟨w.heap.size,0,none⟩:Addr).add j)=some u:=by
 have e:(w.setCell a v).heap.size=w.heap.size:=by simp [World.setCell]
 rw [← e]
 exact cell_one_new _ _ _
def Frm (w w':World) (R:Nat) (vb va:Value):Prop:=∀ k,k<w.heap.size→k≠R→vb.ownBlock≠some k→va.ownBlock≠some k→w'.heap[k]?=w.heap[k]?
theorem zbk {w wr w3:World} {R base m g te tl i:Nat} {cs cur:Array Value} {vb va v3:Value} {xsb xsa news:List Value} {b1:Array Value} (hte:te≠48) (hte3:te≠3)
    (hbel:Below w.heap.size w wr) (hRlt:R<w.heap.size) (hbase:base≤R) (hR:wr.heap[R]?=some (.cells cs 48 (0,0))) (ob:wr.ownsRow base te 1 vb m xsb) (oa:wr.ownsRow base 3 1 va m xsa)
    (kb:∀ k,vb.ownBlock=some k→k<w.heap.size) (hg:w.heap.size≤g) (hh:wr.heap[g]?=some (.cells cur tl (0,0)))
    (hown3:w3.ownsRow base te 1 v3 (m+1) (xsb++news)) (hgrow3:(wr.alloc (.cells b1 te)).grownBy w3 vb.ownBlock) :
    w3.heap[R]?=some (.cells cs 48 (0,0))∧w3.ownsRow base 3 1 va m xsa∧w3.heap[g]?=some (.cells cur tl (0,0))∧Below base w w3∧(w3.setCell ⟨R,i,none⟩ v3).ownsRow base 3 1 va m xsa∧base≤w3.heap.size∧Frm w w3 R vb va:=by
  have hlt:wr.heap.size≤w3.heap.size:=Nat.le_trans (by simp) hgrow3.size
  have hRr:R<wr.heap.size:=lt_of_block hR
  have hgr:g<wr.heap.size:=lt_of_block hh
  have e1:w3.heap[R]?=some (.cells cs 48 (0,0)):=by
    rw [hgrow3.block R (by simp;omega) (fun q=>own_ne ob hR hte q.symm),Below.heap_alloc wr _ R hRr,hR]
  have e2:w3.ownsRow base 3 1 va m xsa:=(oa.alloc _).kept hgrow3 (zc9 oa ob (Ne.symm hte3))
  have e3:w3.heap[g]?=some (.cells cur tl (0,0)):=by
    rw [hgrow3.block g (by simp;omega) (fun q=>by have:=kb g q.symm;omega),Below.heap_alloc wr _ g hgr,hh]
  have hs:=hbel.size
  refine ⟨e1,e2,e3,?_,ownsRow_setCell_other e2 (own_ne e2 e1 (by decide)) _,by omega,?_⟩
  · exact ((hbel.mono (by omega)).alloc (by omega) _).grown hgrow3 (by simp;omega) (fun k hk=>(ob.lt k hk).1)
  · intro k hk _ hb _
    rw [hgrow3.block k (by simp;omega) (fun q=>hb q.symm),Below.heap_alloc wr _ k (by omega),hbel.block k hk]
theorem zb4 {w w3 w5:World} {R base m g te tl i:Nat} {cs cur:Array Value} {vb va v3 v5:Value} {xsb xsa news:List Value} {b1:Array Value} (hte:te≠48) (hte3:te≠3)
    (hR:w3.heap[R]?=some (.cells cs 48 (0,0))) (oa:w3.ownsRow base 3 1 va m xsa) (hh:w3.heap[g]?=some (.cells cur tl (0,0))) (hbel:Below base w w3) (hbase:base≤R) (hws:w.heap.size≤w3.heap.size)
    (ka:∀ k,va.ownBlock=some k→k<w.heap.size) (hg:w.heap.size≤g) (hRlt:R<w.heap.size) (hF:Frm w w3 R vb va)
    (hown3:w3.ownsRow base te 1 v3 (m+1) xsb) (hown5:w5.ownsRow base 3 1 v5 (m+1) (xsa++news)) (hgrow5:((w3.setCell ⟨R,i,none⟩ v3).alloc (.cells b1 3)).grownBy w5 va.ownBlock) :
    w5.heap[R]?=some (.cells (cs.setIfInBounds i v3) 48 (0,0))∧(w5.setCell ⟨R,i+1,none⟩ v5).heap[R]?=some (.cells ((cs.setIfInBounds i v3).setIfInBounds (i+1) v5) 48 (0,0))∧(w5.setCell ⟨R,i+1,none⟩ v5).ownsRow base te 1 v3 (m+1) xsb∧(w5.setCell ⟨R,i+1,none⟩ v5).ownsRow base 3 1 v5 (m+1) (xsa++news) ∧
      (w5.setCell ⟨R,i+1,none⟩ v5).heap[g]?=some (.cells cur tl (0,0))∧Below base w (w5.setCell ⟨R,i+1,none⟩ v5)∧Frm w (w5.setCell ⟨R,i+1,none⟩ v5) R vb va∧w.heap.size≤(w5.setCell ⟨R,i+1,none⟩ v5).heap.size:=by
  have hRr:R<w3.heap.size:=lt_of_block hR
  have hgr:g<w3.heap.size:=lt_of_block hh
  have hgR:g≠R:=by omega
  have sz:(w3.setCell ⟨R,i,none⟩ v3).heap.size=w3.heap.size:=by simp [World.setCell]
  have r4:=zab (i:=i) hR v3
  have o4:(w3.setCell ⟨R,i,none⟩ v3).ownsRow base te 1 v3 (m+1) xsb:=ownsRow_setCell_other hown3 (own_ne hown3 hR hte) _
  have a4:(w3.setCell ⟨R,i,none⟩ v3).ownsRow base 3 1 va m xsa:=ownsRow_setCell_other oa (own_ne oa hR (by decide)) _
  have g4:(w3.setCell ⟨R,i,none⟩ v3).heap[g]?=some (.cells cur tl (0,0)):=(Below.heap_setCell w3 _ v3 g (by simpa using hgR)).trans hh
  have b4:Below base w (w3.setCell ⟨R,i,none⟩ v3):=hbel.setCell (by simpa using hbase) _
  have r5:w5.heap[R]?=some (.cells (cs.setIfInBounds i v3) 48 (0,0)):=by
    rw [hgrow5.block R (by simp;omega) (fun q=>own_ne oa hR (by decide) q.symm),Below.heap_alloc _ _ R (by omega),r4]
  have o5:w5.ownsRow base te 1 v3 (m+1) xsb:=(o4.alloc _).kept hgrow5 (zc9 o4 a4 hte3)
  have g5:w5.heap[g]?=some (.cells cur tl (0,0)):=by
    rw [hgrow5.block g (by simp;omega) (fun q=>by have:=ka g q.symm;omega),Below.heap_alloc _ _ g (by omega),g4]
  have hs5:w3.heap.size≤w5.heap.size:=by have:=hgrow5.size;simp at this;omega
  have b5:Below base w w5:=(b4.alloc (by omega) _).grown hgrow5 (by simp;omega) (fun k hk=>(oa.lt k hk).1)
  refine ⟨r5,zab r5 v5,ownsRow_setCell_other o5 (own_ne o5 r5 hte) _,ownsRow_setCell_other hown5 (own_ne hown5 r5 (by decide)) _,(Below.heap_setCell w5 _ v5 g (by simpa using hgR)).trans g5,b5.setCell (by simpa using hbase) _,?_,by simp [World.setCell];omega⟩
  intro k hk hkR hb ha
  rw [Below.heap_setCell w5 _ v5 k (by simpa using hkR),hgrow5.block k (by simp;omega) (fun q=>ha q.symm),Below.heap_alloc _ _ k (by omega),Below.heap_setCell w3 _ v3 k (by simpa using hkR),hF k hk hkR hb ha]
theorem zaJ {P:Program} {w:World} {ops:Array Oper} {rest:List Oper} {o:Oper} {a:Act} {Q:Exit→Act→World→Prop} (hgd:o.guard=none) (s x:Operand) (t:TypeId)
    (ho:o.op = .call { callee:=.builtin .append,args:=#[s,x],argTypes:=#[t,t] })
    (base:Nat) (e:TypeId) (i:TypeInfo) (z:Value) (size bytes:Nat) (ht:P.underlying t=some (.slice e)) (hi:P.info? e=some i) (hz:i.zero=some z)
    (hsize:i.size=size) (hby:i.bytes=bytes) (hzs:z.cells.size=size) (hsz:0<size)
    (v:Value) (n:Nat) (xs:List Value) (hs:a.eval s=v) (hown:w.ownsRow base e size v n xs)
    (ao:Option Addr) (m c:Nat) (news:List Value) (hx:a.eval x = .slice ao m c) (hl:news.length=m*size) (hsrc:(ao=none∧m=0∧c=0)∨∃ ad,ao=some ad∧∀ j u,news[j]?=some u→w.cell? (ad.add j)=some u) (h1:∀ u ∈ news,u.oneCell'=true)
    (h63:n+m≤maxLen) (hbytes:(n+m)*bytes≤140737488355328) (hbase:base≤w.heap.size) (hnn:v≠.slice none 0 0)
    (h:∀ v' w',w'.ownsRow base e size v' (n+m) (xs++news)→w.grownBy w' v.ownBlock→v'≠.slice none 0 0→wpList P ops Q rest (a.put o.dst v') w'):wpList P ops Q (o::rest) a w:=by
  rcases hsrc with ⟨rfl,rfl,rfl⟩|⟨ad,rfl,hc⟩
  · obtain rfl:news=[]:=List.length_eq_zero_iff.1 (by omega)
    refine wpList_append_own_none hgd s x t ho base e i size ht hi v n xs hs hown hx (h v w ?_ ⟨rfl,rfl,rfl,Nat.le_refl _,fun _ _ _=>rfl⟩ hnn)
    rw [List.append_nil];exact hown
  · exact wpList_append_own w hgd s x t ho base e i z size bytes ht hi hz hsize hby hzs hsz v n xs hs hown ad m c news hx hl hc h1 h63 hbytes hbase (fun v' w' h2 h3 h4=>h v' w' h2 h3 (fun q=>hnn (h4.1 q).1))
def Src (w:World) (s:Sl) (xs:List Value):Prop:=(s.a=none∧s.n=0∧s.c=0)∨∃ ad,s.a=some ad∧∀ j u,xs[j]?=some u→w.cell? (ad.add j)=some u
theorem Src.below {w w':World} {s:Sl} {xs:List Value} (h:Src w s xs) (hb:Below w.heap.size w w'):Src w' s xs:=by
 rcases h with h | ⟨ad,e,h⟩
 · exact .inl h
 · exact .inr ⟨ad,e,fun j u hj=>cell_later hb (h j u hj)⟩
set_option maxRecDepth 100000
set_option maxHeartbeats 1000000
theorem hold38 (R:Nat) (w:World) (h:w.cell? ⟨R,8,none⟩=some (.slice none 0 0)):Calls Tryz.prog 77 #[.pointer (some ⟨R,0,none⟩)] w fun e w'=>e = .returned (.bool true)∧w'=w:=by
 go_enter Tryz.func77,Tryz.ntmps77
 go_wp2
 go_loop [3] (fun i=>i = .int .i64 0) (fun _=>0)
 case atStart=>rfl
 case round =>
  subst hrel
  go_wp2
  go_ret
  exact ⟨rfl,rfl⟩
theorem hold39 (R:Nat) (w:World) (h:w.cell? ⟨R,10,none⟩=some (.slice none 0 0)):Calls Tryz.prog 78 #[.pointer (some ⟨R,0,none⟩)] w fun e w'=>e = .returned (.bool true)∧w'=w:=by
 go_enter Tryz.func78,Tryz.ntmps78
 go_wp2
 go_loop [3] (fun i=>i = .int .i64 0) (fun _=>0)
 case atStart=>rfl
 case round =>
  subst hrel
  go_wp2
  go_ret
  exact ⟨rfl,rfl⟩
theorem hold40 (R:Nat) (w:World) (h:w.cell? ⟨R,12,none⟩=some (.slice none 0 0)):Calls Tryz.prog 79 #[.pointer (some ⟨R,0,none⟩)] w fun e w'=>e = .returned (.bool true)∧w'=w:=by
 go_enter Tryz.func79,Tryz.ntmps79
 go_wp2
 go_loop [3] (fun i=>i = .int .i64 0) (fun _=>0)
 case atStart=>rfl
 case round =>
  subst hrel
  go_wp2
  go_ret
  exact ⟨rfl,rfl⟩
theorem hold41 (R:Nat) (w:World) (h:w.cell? ⟨R,14,none⟩=some (.slice none 0 0)):Calls Tryz.prog 80 #[.pointer (some ⟨R,0,none⟩)] w fun e w'=>e = .returned (.bool true)∧w'=w:=by
 go_enter Tryz.func80,Tryz.ntmps80
 go_wp2
 go_loop [3] (fun i=>i = .int .i64 0) (fun _=>0)
 case atStart=>rfl
 case round =>
  subst hrel
  go_wp2
  go_ret
  exact ⟨rfl,rfl⟩
theorem hold42 (R:Nat) (w:World) (h:w.cell? ⟨R,16,none⟩=some (.slice none 0 0)):Calls Tryz.prog 81 #[.pointer (some ⟨R,0,none⟩)] w fun e w'=>e = .returned (.bool true)∧w'=w:=by
 go_enter Tryz.func81,Tryz.ntmps81
 go_wp2
 go_loop [3] (fun i=>i = .int .i64 0) (fun _=>0)
 case atStart=>rfl
 case round =>
  subst hrel
  go_wp2
  go_ret
  exact ⟨rfl,rfl⟩
theorem hold43 (R:Nat) (w:World) (h:w.cell? ⟨R,18,none⟩=some (.slice none 0 0)):Calls Tryz.prog 82 #[.pointer (some ⟨R,0,none⟩)] w fun e w'=>e = .returned (.bool true)∧w'=w:=by
 go_enter Tryz.func82,Tryz.ntmps82
 go_wp2
 go_loop [3] (fun i=>i = .int .i64 0) (fun _=>0)
 case atStart=>rfl
 case round =>
  subst hrel
  go_wp2
  go_ret
  exact ⟨rfl,rfl⟩
theorem hold44 (R:Nat) (w:World) (h:w.cell? ⟨R,20,none⟩=some (.slice none 0 0)):Calls Tryz.prog 83 #[.pointer (some ⟨R,0,none⟩)] w fun e w'=>e = .returned (.bool true)∧w'=w:=by
 go_enter Tryz.func83,Tryz.ntmps83
 go_wp2
 go_loop [3] (fun i=>i = .int .i64 0) (fun _=>0)
 case atStart=>rfl
 case round =>
  subst hrel
  go_wp2
  go_ret
  exact ⟨rfl,rfl⟩
theorem hold45 (R:Nat) (w:World) (h:w.cell? ⟨R,22,none⟩=some (.slice none 0 0)):Calls Tryz.prog 84 #[.pointer (some ⟨R,0,none⟩)] w fun e w'=>e = .returned (.bool true)∧w'=w:=by
 go_enter Tryz.func84,Tryz.ntmps84
 go_wp2
 go_loop [3] (fun i=>i = .int .i64 0) (fun _=>0)
 case atStart=>rfl
 case round =>
  subst hrel
  go_wp2
  go_ret
  exact ⟨rfl,rfl⟩
theorem hold46 (R:Nat) (w:World) (h:w.cell? ⟨R,24,none⟩=some (.slice none 0 0)):Calls Tryz.prog 85 #[.pointer (some ⟨R,0,none⟩)] w fun e w'=>e = .returned (.bool true)∧w'=w:=by
 go_enter Tryz.func85,Tryz.ntmps85
 go_wp2
 go_loop [3] (fun i=>i = .int .i64 0) (fun _=>0)
 case atStart=>rfl
 case round =>
  subst hrel
  go_wp2
  go_ret
  exact ⟨rfl,rfl⟩
theorem hold47 (R:Nat) (w:World) (h:w.cell? ⟨R,26,none⟩=some (.slice none 0 0)):Calls Tryz.prog 86 #[.pointer (some ⟨R,0,none⟩)] w fun e w'=>e = .returned (.bool true)∧w'=w:=by
 go_enter Tryz.func86,Tryz.ntmps86
 go_wp2
 go_loop [3] (fun i=>i = .int .i64 0) (fun _=>0)
 case atStart=>rfl
 case round =>
  subst hrel
  go_wp2
  go_ret
  exact ⟨rfl,rfl⟩
theorem hold_bytes (R m gb cb ga ca:Nat) (G N C:Nat→Nat) (w:World) (hm:m≤1000) (hN:∀ i,i<m→N i≤1000000∧N i+600≤C i) (hmb:m≤cb) (hma:m≤ca)
    (cR0:w.cell? ⟨R,0,none⟩=some (.slice (some ⟨gb,0,none⟩) m cb)) (cR1:w.cell? ⟨R,1,none⟩=some (.slice (some ⟨ga,0,none⟩) m ca))
    (hb:∀ i,i<m→w.cell? ⟨gb,i,none⟩=some (.slice (some ⟨G i,0,none⟩) (N i+600) (C i))) (ha:∀ i,i<m→w.cell? ⟨ga,i,none⟩=some (.int .i64 (N i)))
    (hk:∀ i,i<m→∀ k,k<600→w.cell? ⟨G i,N i+k,none⟩=some (.int .u8 (markU k))) :
    Calls Tryz.prog 73 #[.pointer (some ⟨R,0,none⟩)] w fun e w'=>e = .returned (.bool true)∧w'=w:=by
  have HB:Hid (∀ i,i<m→w.cell? ⟨gb,i,none⟩=some (.slice (some ⟨G i,0,none⟩) (N i+600) (C i))):=hb
  have HA:Hid (∀ i,i<m→w.cell? ⟨ga,i,none⟩=some (.int .i64 (N i))):=ha
  have HK:Hid (∀ i,i<m→∀ k,k<600→w.cell? ⟨G i,N i+k,none⟩=some (.int .u8 (markU k))):=hk
  have HN:Hid (∀ i,i<m→N i≤1000000∧N i+600≤C i):=hN
  clear hb ha hk hN
  go_enter Tryz.func73,Tryz.ntmps73
  go_wp2
  go_loop [3,4,5,6] (fun i _ _ _=>∃ j:Nat,j≤m∧i = .int .i64 j) (fun i _ _ _=>m-(intOf i).toNat)
  case atStart=>exact ⟨0,by omega,rfl⟩
  case round =>
    obtain ⟨j,hj,rfl⟩:=hrel
    by_cases hlt:j<m
    · have b1:=HB.out j hlt
      have a1:=HA.out j hlt
      have k1:=HK.out j hlt
      have n1:=HN.out j hlt
      obtain ⟨Gj,hG⟩:∃ x,G j=x:=⟨_,rfl⟩
      obtain ⟨Nj,hNj⟩:∃ x,N j=x:=⟨_,rfl⟩
      obtain ⟨Cj,hC⟩:∃ x,C j=x:=⟨_,rfl⟩
      rw [hG,hNj,hC] at b1
      rw [hNj] at a1
      rw [hG,hNj] at k1
      rw [hNj,hC] at n1
      clear hG hNj hC
      have K1:Hid (∀ k,k<600→w.cell? ⟨Gj,Nj+k,none⟩=some (.int .u8 (markU k))):=k1
      clear k1
      go_wp2
      go_loop [5,6] (fun x _=>∃ k:Nat,k≤600∧x = .int .i64 ((Nj+k:Nat):Int)) (fun x _=>Nj+600-(intOf x).toNat)
      case atStart=>exact ⟨0,by omega,rfl⟩
      case round =>
        obtain ⟨k,hk,rfl⟩:=hrel
        by_cases hkl:k<600
        · have ck:=K1.out k hkl
          have es:(Nj:Int)+(k:Int)-(Nj:Int)=(k:Int):=by omega
          have HZ:Hid (∀ w,Calls Tryz.prog 132 #[.int .i64 k] w fun e w'=>e = .returned (.int .i64 (lotI k))∧w'=w):=fun w=>zbj k (by omega) w
          rcases zc1 k with ⟨q1,q2⟩|⟨q1,q2⟩
          all_goals
            rw [q1] at HZ
            rw [q2] at ck
            clear q1 q2
            go_wp2_with (go_at_call 132;refine (HZ.out _).mono ?_;rintro e w' ⟨rfl,rfl⟩)
            go_round
            case rel=>exact ⟨k+1,by omega,by go_num⟩
            case measure=>simp [intOf];omega
        · obtain rfl:k=600:=by omega
          go_wp2
          go_round
          case rel=>exact ⟨j+1,by omega,by go_num⟩
          case measure=>simp [intOf];omega
    · obtain rfl:j=m:=by omega
      go_wp2
      go_ret
      exact ⟨rfl,rfl⟩
theorem hold_ints (R m gb cb ga ca:Nat) (G N C:Nat→Nat) (w:World) (hm:m≤1000) (hN:∀ i,i<m→N i≤1000000∧N i+40≤C i) (hmb:m≤cb) (hma:m≤ca)
    (cR0:w.cell? ⟨R,2,none⟩=some (.slice (some ⟨gb,0,none⟩) m cb)) (cR1:w.cell? ⟨R,3,none⟩=some (.slice (some ⟨ga,0,none⟩) m ca))
    (hb:∀ i,i<m→w.cell? ⟨gb,i,none⟩=some (.slice (some ⟨G i,0,none⟩) (N i+40) (C i))) (ha:∀ i,i<m→w.cell? ⟨ga,i,none⟩=some (.int .i64 (N i)))
    (hk:∀ i,i<m→∀ k,k<40→w.cell? ⟨G i,N i+k,none⟩=some (.int .i64 (lotI k))) :
    Calls Tryz.prog 74 #[.pointer (some ⟨R,0,none⟩)] w fun e w'=>e = .returned (.bool true)∧w'=w:=by
  have HB:Hid (∀ i,i<m→w.cell? ⟨gb,i,none⟩=some (.slice (some ⟨G i,0,none⟩) (N i+40) (C i))):=hb
  have HA:Hid (∀ i,i<m→w.cell? ⟨ga,i,none⟩=some (.int .i64 (N i))):=ha
  have HK:Hid (∀ i,i<m→∀ k,k<40→w.cell? ⟨G i,N i+k,none⟩=some (.int .i64 (lotI k))):=hk
  have HN:Hid (∀ i,i<m→N i≤1000000∧N i+40≤C i):=hN
  clear hb ha hk hN
  go_enter Tryz.func74,Tryz.ntmps74
  go_wp2
  go_loop [3,4,5,6] (fun i _ _ _=>∃ j:Nat,j≤m∧i = .int .i64 j) (fun i _ _ _=>m-(intOf i).toNat)
  case atStart=>exact ⟨0,by omega,rfl⟩
  case round =>
    obtain ⟨j,hj,rfl⟩:=hrel
    by_cases hlt:j<m
    · have b1:=HB.out j hlt
      have a1:=HA.out j hlt
      have k1:=HK.out j hlt
      have n1:=HN.out j hlt
      obtain ⟨Gj,hG⟩:∃ x,G j=x:=⟨_,rfl⟩
      obtain ⟨Nj,hNj⟩:∃ x,N j=x:=⟨_,rfl⟩
      obtain ⟨Cj,hC⟩:∃ x,C j=x:=⟨_,rfl⟩
      rw [hG,hNj,hC] at b1
      rw [hNj] at a1
      rw [hG,hNj] at k1
      rw [hNj,hC] at n1
      clear hG hNj hC
      have K1:Hid (∀ k,k<40→w.cell? ⟨Gj,Nj+k,none⟩=some (.int .i64 (lotI k))):=k1
      clear k1
      go_wp2
      go_loop [5,6] (fun x _=>∃ k:Nat,k≤40∧x = .int .i64 ((Nj+k:Nat):Int)) (fun x _=>Nj+40-(intOf x).toNat)
      case atStart=>exact ⟨0,by omega,rfl⟩
      case round =>
        obtain ⟨k,hk,rfl⟩:=hrel
        by_cases hkl:k<40
        · have ck:=K1.out k hkl
          have es:(Nj:Int)+(k:Int)-(Nj:Int)=(k:Int):=by omega
          have HZ:Hid (∀ w,Calls Tryz.prog 132 #[.int .i64 k] w fun e w'=>e = .returned (.int .i64 (lotI k))∧w'=w):=fun w=>zbj k (by omega) w
          obtain ⟨x,hx⟩:∃ x,lotI k=x:=⟨_,rfl⟩
          rw [hx] at HZ ck
          clear hx
          go_wp2_with (go_at_call 132;refine (HZ.out _).mono ?_;rintro e w' ⟨rfl,rfl⟩)
          go_round
          case rel=>exact ⟨k+1,by omega,by go_num⟩
          case measure=>simp [intOf];omega
        · obtain rfl:k=40:=by omega
          go_wp2
          go_round
          case rel=>exact ⟨j+1,by omega,by go_num⟩
          case measure=>simp [intOf];omega
    · obtain rfl:j=m:=by omega
      go_wp2
      go_ret
      exact ⟨rfl,rfl⟩
theorem hold_texts (R m gb cb ga ca:Nat) (G N C:Nat→Nat) (w:World) (hm:m≤1000) (hN:∀ i,i<m→N i≤1000000∧N i+40≤C i) (hmb:m≤cb) (hma:m≤ca)
    (cR0:w.cell? ⟨R,4,none⟩=some (.slice (some ⟨gb,0,none⟩) m cb)) (cR1:w.cell? ⟨R,5,none⟩=some (.slice (some ⟨ga,0,none⟩) m ca))
    (hb:∀ i,i<m→w.cell? ⟨gb,i,none⟩=some (.slice (some ⟨G i,0,none⟩) (N i+40) (C i))) (ha:∀ i,i<m→w.cell? ⟨ga,i,none⟩=some (.int .i64 (N i)))
    (hk:∀ i,i<m→∀ k,k<40→w.cell? ⟨G i,N i+k,none⟩=some (.string (wordB k))) :
    Calls Tryz.prog 75 #[.pointer (some ⟨R,0,none⟩)] w fun e w'=>e = .returned (.bool true)∧w'=w:=by
  have HB:Hid (∀ i,i<m→w.cell? ⟨gb,i,none⟩=some (.slice (some ⟨G i,0,none⟩) (N i+40) (C i))):=hb
  have HA:Hid (∀ i,i<m→w.cell? ⟨ga,i,none⟩=some (.int .i64 (N i))):=ha
  have HK:Hid (∀ i,i<m→∀ k,k<40→w.cell? ⟨G i,N i+k,none⟩=some (.string (wordB k))):=hk
  have HN:Hid (∀ i,i<m→N i≤1000000∧N i+40≤C i):=hN
  clear hb ha hk hN
  go_enter Tryz.func75,Tryz.ntmps75
  go_wp2
  go_loop [3,4,5,6] (fun i _ _ _=>∃ j:Nat,j≤m∧i = .int .i64 j) (fun i _ _ _=>m-(intOf i).toNat)
  case atStart=>exact ⟨0,by omega,rfl⟩
  case round =>
    obtain ⟨j,hj,rfl⟩:=hrel
    by_cases hlt:j<m
    · have b1:=HB.out j hlt
      have a1:=HA.out j hlt
      have k1:=HK.out j hlt
      have n1:=HN.out j hlt
      obtain ⟨Gj,hG⟩:∃ x,G j=x:=⟨_,rfl⟩
      obtain ⟨Nj,hNj⟩:∃ x,N j=x:=⟨_,rfl⟩
      obtain ⟨Cj,hC⟩:∃ x,C j=x:=⟨_,rfl⟩
      rw [hG,hNj,hC] at b1
      rw [hNj] at a1
      rw [hG,hNj] at k1
      rw [hNj,hC] at n1
      clear hG hNj hC
      have K1:Hid (∀ k,k<40→w.cell? ⟨Gj,Nj+k,none⟩=some (.string (wordB k))):=k1
      clear k1
      go_wp2
      go_loop [5,6] (fun x _=>∃ k:Nat,k≤40∧x = .int .i64 ((Nj+k:Nat):Int)) (fun x _=>Nj+40-(intOf x).toNat)
      case atStart=>exact ⟨0,by omega,rfl⟩
      case round =>
        obtain ⟨k,hk,rfl⟩:=hrel
        by_cases hkl:k<40
        · have ck:=K1.out k hkl
          have es:(Nj:Int)+(k:Int)-(Nj:Int)=(k:Int):=by omega
          have HZ:Hid (∀ w,Calls Tryz.prog 133 #[.int .i64 k] w fun e w'=>e = .returned (.string (wordB k))∧w'=w):=fun w=>zb5 k (by omega) w
          obtain ⟨x,hx⟩:∃ x,wordB k=x:=⟨_,rfl⟩
          rw [hx] at HZ ck
          clear hx
          go_wp2_with (go_at_call 133;refine (HZ.out _).mono ?_;rintro e w' ⟨rfl,rfl⟩)
          go_round
          case rel=>exact ⟨k+1,by omega,by go_num⟩
          case measure=>simp [intOf];omega
        · obtain rfl:k=40:=by omega
          go_wp2
          go_round
          case rel=>exact ⟨j+1,by omega,by go_num⟩
          case measure=>simp [intOf];omega
    · obtain rfl:j=m:=by omega
      go_wp2
      go_ret
      exact ⟨rfl,rfl⟩
set_option maxHeartbeats 2000000
theorem hold_asks (R m gb cb ga ca:Nat) (G N C:Nat→Nat) (w:World) (hm:m≤1000) (hN:∀ i,i<m→N i≤1000000∧N i+40≤C i) (hmb:m≤cb) (hma:m≤ca)
    (cR0:w.cell? ⟨R,6,none⟩=some (.slice (some ⟨gb,0,none⟩) m cb)) (cR1:w.cell? ⟨R,7,none⟩=some (.slice (some ⟨ga,0,none⟩) m ca))
    (hb:∀ i,i<m→w.cell? ⟨gb,i,none⟩=some (.slice (some ⟨G i,0,none⟩) (N i+40) (C i))) (ha:∀ i,i<m→w.cell? ⟨ga,i,none⟩=some (.int .i64 (N i)))
    (hk:∀ i,i<m→∀ k,k<40→(w.cell? ⟨G i,(N i+k)*2,none⟩=some (.string (wordB k))∧w.cell? ⟨G i,(N i+k)*2+1,none⟩=some (.int .i64 0))) :
    Calls Tryz.prog 76 #[.pointer (some ⟨R,0,none⟩)] w fun e w'=>e = .returned (.bool true)∧Below w.heap.size w w':=by
  have HB:Hid (∀ i,i<m→w.cell? ⟨gb,i,none⟩=some (.slice (some ⟨G i,0,none⟩) (N i+40) (C i))):=hb
  have HA:Hid (∀ i,i<m→w.cell? ⟨ga,i,none⟩=some (.int .i64 (N i))):=ha
  have HK:Hid (∀ i,i<m→∀ k,k<40→(w.cell? ⟨G i,(N i+k)*2,none⟩=some (.string (wordB k))∧w.cell? ⟨G i,(N i+k)*2+1,none⟩=some (.int .i64 0))):=hk
  have HN:Hid (∀ i,i<m→N i≤1000000∧N i+40≤C i):=hN
  have HR0:Hid (w.cell? ⟨R,6,none⟩=some (.slice (some ⟨gb,0,none⟩) m cb)):=cR0
  have HR1:Hid (w.cell? ⟨R,7,none⟩=some (.slice (some ⟨ga,0,none⟩) m ca)):=cR1
  have EG:Tryz.prog.eqGuardType Tryz.prog.depth 98=false:=by kernel_rfl
  have B0:Hid (Below w.heap.size w w):=Below.refl _ _
  clear hb ha hk hN cR0 cR1
  go_enter Tryz.func76,Tryz.ntmps76
  go_wp2
  go_loopg [3,4,5,6] m (fun gg s3 s4 s5 s6 wx=>∃ j:Nat,s3 = .int .i64 j∧j+gg=m∧Hid (Below w.heap.size w wx))
  case atStart=>exact ⟨0,rfl,by omega,B0⟩
  case round =>
    obtain ⟨j,rfl,hjg,B1⟩:=hrel
    obtain ⟨gj,hgj⟩:∃ x,x=gk:=⟨_,rfl⟩
    have r0:=cell_later B1.out HR0.out
    have r1:=cell_later B1.out HR1.out
    by_cases hlt:j<m
    · have hlt':(j:Int)<m:=by omega
      have b1:=cell_later B1.out (HB.out j hlt)
      have a1:=cell_later B1.out (HA.out j hlt)
      have k1:=HK.out j hlt
      have n1:=HN.out j hlt
      obtain ⟨Gj,hG⟩:∃ x,G j=x:=⟨_,rfl⟩
      obtain ⟨Nj,hNj⟩:∃ x,N j=x:=⟨_,rfl⟩
      obtain ⟨Cj,hC⟩:∃ x,C j=x:=⟨_,rfl⟩
      have HB1:Hid (w.cell? ⟨gb,j,none⟩=some (.slice (some ⟨Gj,0,none⟩) (Nj+40) Cj)):=by have:=HB.out j hlt;rw [hG,hNj,hC] at this;exact this
      rw [hG,hNj,hC] at b1
      rw [hNj] at a1
      rw [hG,hNj] at k1
      rw [hNj,hC] at n1
      clear hG hNj hC
      have K1:Hid (∀ k,k<40→(w.cell? ⟨Gj,(Nj+k)*2,none⟩=some (.string (wordB k))∧w.cell? ⟨Gj,(Nj+k)*2+1,none⟩=some (.int .i64 0))):=k1
      clear k1
      go_wp2_with fail
      clear r0 r1 a1 b1
      go_loopg [5,6] 40 (fun gg s5 s6 wx=>∃ k:Nat,s5 = .int .i64 ((Nj+k:Nat):Int)∧k+gg=40∧Hid (Below w.heap.size w wx))
      case atStart=>exact ⟨0,rfl,by omega,B1⟩
      case round =>
        obtain ⟨k,rfl,hkg,B2⟩:=hrel
        have r0:=cell_later B2.out HR0.out
        have b1:=cell_later B2.out HB1.out
        by_cases hkl:k<40
        · have hkl':((Nj+k:Nat):Int)<((Nj+40:Nat):Int):=by omega
          have c0:=cell_later B2.out (K1.out k hkl).1
          have c1:=cell_later B2.out (K1.out k hkl).2
          have es:(Nj:Int)+(k:Int)-(Nj:Int)=(k:Int):=by omega
          have HZ:Hid (∀ w,Calls Tryz.prog 133 #[.int .i64 k] w fun e w'=>e = .returned (.string (wordB k))∧w'=w):=fun w=>zb5 k (by omega) w
          obtain ⟨x,hx⟩:∃ x,wordB k=x:=⟨_,rfl⟩
          rw [hx] at HZ c0
          clear hx
          have EQ:=zaY x 0
          go_wp2_with fail
          obtain ⟨X,hX⟩:∃ X,X=wr.alloc (.cells #[.string x,.int .i64 0] 98):=⟨_,rfl⟩
          have BX:Hid (Below wr.heap.size wr X):=zag hX
          have g0:Hid (X.heap[wr.heap.size]?=some (.cells #[.string x,.int .i64 0] 98)):=by show _=_;rw [hX];exact heap_alloc_new wr _
          rw [← hX]
          clear hX c0 c1 r0 b1
          have k0:∀ d os,(grow (redrawn X d) os).cell? ⟨wr.heap.size,0,none⟩=some (.string x):=fun d os=>cell_later (below_regrown X d os) (by simp [World.cell?,g0.out])
          have k1:∀ d os,(grow (redrawn X d) os).cell? ⟨wr.heap.size,1,none⟩=some (.int .i64 0):=fun d os=>cell_later (below_regrown X d os) (by simp [World.cell?,g0.out])
          have C1:Hid (∀ w,Calls Tryz.prog 133 #[.int .i64 k] w fun e w'=>e = .returned (.string x)∧Below w.heap.size w w'):=fun w=>(HZ.out w).mono fun e w' ⟨he,hw⟩=>⟨he,by rw [hw];exact Below.refl _ _⟩
          have hwk:IntKind.i64.wrap (k:Int)=(k:Int):=by rw [IntKind.wrap_i64];omega
          obtain ⟨gg,hgg⟩:∃ gg,gk=gg+1:=⟨gk-1,by omega⟩
          refine wp_region_quiet_below (by kernel_rfl) (by kernel_rfl) ?_
          repeat (quiet_step ((go_at_call 133;exact Calls.regrown_of (C1.out _))))
          refine wpQuiet_nil ?_
          rintro _ ⟨⟨d,os⟩,rfl⟩
          have B3:Hid (Below w.heap.size w (grow (redrawn X d) os)):=(B2.out.trans (BX.out.mono B2.out.size)).trans ((below_regrown X d os).mono (B2.out.trans (BX.out.mono B2.out.size)).size)
          go_wp2
          go_roundg gg
          case measure=>omega
          case rel=>exact ⟨k+1,by go_num,by omega,B3⟩
        · obtain rfl:k=40:=by omega
          have hkl':¬ ((Nj+40:Nat):Int)<((Nj+40:Nat):Int):=by omega
          obtain ⟨gg,hgg⟩:∃ gg,gj=gg+1:=⟨gj-1,by omega⟩
          go_wp2
          go_roundg gg
          case measure=>omega
          case rel=>exact ⟨j+1,by go_num,by omega,B2⟩
    · obtain rfl:j=m:=by omega
      have hlt':¬ (j:Int)<j:=by omega
      go_wp2
      go_ret
      exact ⟨rfl,B1.out⟩
def Keeps (w:World) (R f m room:Nat) (mark:Nat→Nat→Nat→Prop):Prop :=
 ∃ (gb cb ga ca:Nat) (G N C:Nat→Nat),m≤1000∧(∀ i,i<m→N i≤1000000∧N i+room≤C i)∧m≤cb∧m≤ca∧w.cell? ⟨R,f,none⟩=some (.slice (some ⟨gb,0,none⟩) m cb)∧w.cell? ⟨R,f+1,none⟩=some (.slice (some ⟨ga,0,none⟩) m ca) ∧
  (∀ i,i<m→w.cell? ⟨gb,i,none⟩=some (.slice (some ⟨G i,0,none⟩) (N i+room) (C i)))∧(∀ i,i<m→w.cell? ⟨ga,i,none⟩=some (.int .i64 (N i)))∧∀ i,i<m→∀ k,k<room→mark (G i) (N i+k) k
theorem Keeps.below {w w':World} {R f m room:Nat} {mk mk':Nat→Nat→Nat→Prop} (h:Keeps w R f m room mk) (hb:Below w.heap.size w w') (hmk:∀ g j k,mk g j k→mk' g j k):Keeps w' R f m room mk':=by
 obtain ⟨gb,cb,ga,ca,G,N,C,h1,h2,h3,h4,h5,h6,h7,h8,h9⟩:=h
 exact ⟨gb,cb,ga,ca,G,N,C,h1,h2,h3,h4,cell_later hb h5,cell_later hb h6,fun i hi=>cell_later hb (h7 i hi),fun i hi=>cell_later hb (h8 i hi),fun i hi k hk=>hmk _ _ _ (h9 i hi k hk)⟩
def markB (w:World) (g j k:Nat):Prop:=w.cell? ⟨g,j,none⟩=some (.int .u8 (markU k))
def markI (w:World) (g j k:Nat):Prop:=w.cell? ⟨g,j,none⟩=some (.int .i64 (lotI k))
def markS (w:World) (g j k:Nat):Prop:=w.cell? ⟨g,j,none⟩=some (.string (wordB k))
def markA (w:World) (g j k:Nat):Prop:=w.cell? ⟨g,j*2,none⟩=some (.string (wordB k))∧w.cell? ⟨g,j*2+1,none⟩=some (.int .i64 0)
structure RoomOk (w:World) (R mb mi ms ma:Nat):Prop where
 bytes:Keeps w R 0 mb 600 (markB w)
 ints:Keeps w R 2 mi 40 (markI w)
 texts:Keeps w R 4 ms 40 (markS w)
 asks:Keeps w R 6 ma 40 (markA w)
 none:∀ i,8≤i→i<28→w.cell? ⟨R,i,none⟩=some (.slice none 0 0)
theorem RoomOk.below {w w':World} {R mb mi ms ma:Nat} (h:RoomOk w R mb mi ms ma) (hb:Below w.heap.size w w'):RoomOk w' R mb mi ms ma where
 bytes:=h.bytes.below hb fun g j k q=>cell_later hb q
 ints:=h.ints.below hb fun g j k q=>cell_later hb q
 texts:=h.texts.below hb fun g j k q=>cell_later hb q
 asks:=h.asks.below hb fun g j k q=>⟨cell_later hb q.1,cell_later hb q.2⟩
 none i h1 h2:=cell_later hb (h.none i h1 h2)
theorem zbl (R mb mi ms ma:Nat) (w:World) (h:RoomOk w R mb mi ms ma):Calls Tryz.prog 18 #[.pointer (some ⟨R,0,none⟩)] w fun e w'=>e = .returned (.bool true)∧Below w.heap.size w w':=by
 have H0:Hid (Calls Tryz.prog 73 #[.pointer (some ⟨R,0,none⟩)] w fun e w''=>e = .returned (.bool true)∧w''=w):=by
  obtain ⟨gb,cb,ga,ca,G,N,C,h1,h2,h3,h4,h5,h6,h7,h8,h9⟩:=h.bytes
  exact hold_bytes R mb gb cb ga ca G N C w h1 h2 h3 h4 h5 h6 h7 h8 h9
 have H1:Hid (Calls Tryz.prog 74 #[.pointer (some ⟨R,0,none⟩)] w fun e w''=>e = .returned (.bool true)∧w''=w):=by
  obtain ⟨gb,cb,ga,ca,G,N,C,h1,h2,h3,h4,h5,h6,h7,h8,h9⟩:=h.ints
  exact hold_ints R mi gb cb ga ca G N C w h1 h2 h3 h4 h5 h6 h7 h8 h9
 have H2:Hid (Calls Tryz.prog 75 #[.pointer (some ⟨R,0,none⟩)] w fun e w''=>e = .returned (.bool true)∧w''=w):=by
  obtain ⟨gb,cb,ga,ca,G,N,C,h1,h2,h3,h4,h5,h6,h7,h8,h9⟩:=h.texts
  exact hold_texts R ms gb cb ga ca G N C w h1 h2 h3 h4 h5 h6 h7 h8 h9
 have H3:Hid (Calls Tryz.prog 76 #[.pointer (some ⟨R,0,none⟩)] w fun e w''=>e = .returned (.bool true)∧Below w.heap.size w w''):=by
  obtain ⟨gb,cb,ga,ca,G,N,C,h1,h2,h3,h4,h5,h6,h7,h8,h9⟩:=h.asks
  exact hold_asks R ma gb cb ga ca G N C w h1 h2 h3 h4 h5 h6 h7 h8 h9
 have HN:Hid (∀ w',Below w.heap.size w w'→∀ i,8≤i→i<28→w'.cell? ⟨R,i,none⟩=some (.slice none 0 0)):=fun w' hb=>(h.below hb).none
 clear h
 go_enter Tryz.func18,Tryz.ntmps18
 go_wp2_with fail
 go_must (go_at_call 73)
 refine H0.out.mono ?_
 rintro e w' ⟨rfl,hee⟩
 obtain rfl:=hee.symm
 clear hee
 go_wp2_with fail
 go_must (go_at_call 74)
 refine H1.out.mono ?_
 rintro e w' ⟨rfl,hee⟩
 obtain rfl:=hee.symm
 clear hee
 go_wp2_with fail
 go_must (go_at_call 75)
 refine H2.out.mono ?_
 rintro e w' ⟨rfl,hee⟩
 obtain rfl:=hee.symm
 clear hee
 go_wp2_with fail
 go_must (go_at_call 76)
 refine H3.out.mono ?_
 rintro e w1 ⟨rfl,hb⟩
 have B1:Hid (Below w.heap.size w w1):=hb
 clear hb
 go_wp2_with (first | (go_at_call 77;refine (hold38 R _ (HN.out _ B1.out 8 (by decide) (by decide))).mono ?_;rintro e w' ⟨rfl,hee⟩;obtain rfl:=hee.symm;clear hee)|(go_at_call 78;refine (hold39 R _ (HN.out _ B1.out 10 (by decide) (by decide))).mono ?_;rintro e w' ⟨rfl,hee⟩;obtain rfl:=hee.symm;clear hee)|(go_at_call 79;refine (hold40 R _ (HN.out _ B1.out 12 (by decide) (by decide))).mono ?_;rintro e w' ⟨rfl,hee⟩;obtain rfl:=hee.symm;clear hee)|(go_at_call 80;refine (hold41 R _ (HN.out _ B1.out 14 (by decide) (by decide))).mono ?_;rintro e w' ⟨rfl,hee⟩;obtain rfl:=hee.symm;clear hee)|(go_at_call 81;refine (hold42 R _ (HN.out _ B1.out 16 (by decide) (by decide))).mono ?_;rintro e w' ⟨rfl,hee⟩;obtain rfl:=hee.symm;clear hee)|(go_at_call 82;refine (hold43 R _ (HN.out _ B1.out 18 (by decide) (by decide))).mono ?_;rintro e w' ⟨rfl,hee⟩;obtain rfl:=hee.symm;clear hee)|(go_at_call 83;refine (hold44 R _ (HN.out _ B1.out 20 (by decide) (by decide))).mono ?_;rintro e w' ⟨rfl,hee⟩;obtain rfl:=hee.symm;clear hee)|(go_at_call 84;refine (hold45 R _ (HN.out _ B1.out 22 (by decide) (by decide))).mono ?_;rintro e w' ⟨rfl,hee⟩;obtain rfl:=hee.symm;clear hee)|(go_at_call 85;refine (hold46 R _ (HN.out _ B1.out 24 (by decide) (by decide))).mono ?_;rintro e w' ⟨rfl,hee⟩;obtain rfl:=hee.symm;clear hee)|(go_at_call 86;refine (hold47 R _ (HN.out _ B1.out 26 (by decide) (by decide))).mono ?_;rintro e w' ⟨rfl,hee⟩;obtain rfl:=hee.symm;clear hee))
 go_ret
 exact ⟨rfl,B1.out⟩
set_option maxHeartbeats 1000000
theorem zbO {g:Nat} {y:Int} {w0 w wx:World} (hb:Below w0.heap.size w0 w) (hg:w0.heap.size≤g) (h:Cg g y w wx):Below w0.heap.size w0 wx :=
 ⟨h.os.trans hb.os,h.tape.trans hb.tape,h.output.trans hb.output,Nat.le_trans hb.size h.size,fun k hk=>(h.keep k (by have:=hb.size;omega) (by omega)).trans (hb.block k hk)⟩
theorem two_at (p q:Pk) (k:Nat) (v:Value) (h:(pkCells p).toList[k]?=some v):(pkCells p++pkCells q)[k]?=some v∧(pkCells q++pkCells p)[25+k]?=some v:=by
 have hk:k<25:=by
  have:=(List.getElem?_eq_some_iff.1 h).1
  simpa [pkCells] using this
 have h':(pkCells p)[k]?=some v:=by simpa using h
 refine ⟨?_,?_⟩
 · rw [Array.getElem?_append_left (by show k<25;exact hk)];exact h'
 · rw [Array.getElem?_append_right (by show 25≤25+k;omega),show 25+k-(pkCells q).size=k by show 25+k-25=k;omega];exact h'
theorem packets2_any (p q:Pk) (c d:Cn) (w0 w:World) (g h0:Nat) (x:Int) (h:Cb w g x) (hin:In w0 p c) (hin':In w0 q d) (hw:Below w0.heap.size w0 w) (hg:w0.heap.size≤g) (ho:Off g p) (ho':Off g q) (hf:Fit p c) (hf':Fit q d) (h2:x≤1000000000) (h3:0≤x) (hb:w.heap[h0]?=some (.cells (pkCells p++pkCells q) 29 (0,0))) (hne:h0≠g) :
    Calls Tryz.prog 25 #[.pointer (some ⟨g,0,none⟩),.slice (some ⟨h0,0,none⟩) 2 2] w fun e w'=>e = .returned (.tuple #[])∧∃ y,Cg g y w w'∧(0≤y→y+((parts p c+parts q d:Nat):Int)=x):=by
  have HC:Hid (Cb w g x):=h
  have HR:Hid (∀ y wx,Cg g y w wx→wx.rangeAt h0 0 (pkCells p).toList∧wx.rangeAt h0 25 (pkCells q).toList):=fun y wx hc=>by
    have e:=(hc.keep h0 (za4 hb) hne).trans hb
    refine ⟨fun j v hv=>?_,fun j v hv=>?_⟩
    · rw [Nat.zero_add];simp only [World.cell?,e];exact (two_at p q j v hv).1
    · simp only [World.cell?,e];exact (two_at q p j v hv).2
  have HP:Hid (∀ y wx,Cg g y w wx→y≤1000000000→-9223372036854775807≤y→Calls Tryz.prog 92 #[.pointer (some ⟨g,0,none⟩),.agg (pkCells p)] wx fun e w'=>∃ z,e = .returned (.tuple #[])∧Cg g z wx w'∧St y (parts p c) z):=fun y wx hc a b=>zbf p c wx g y hc.blk (hin.below (zbO hw hg hc)) ho hf a b
  have HQ:Hid (∀ y wx,Cg g y w wx→y≤1000000000→-9223372036854775807≤y→Calls Tryz.prog 92 #[.pointer (some ⟨g,0,none⟩),.agg (pkCells q)] wx fun e w'=>∃ z,e = .returned (.tuple #[])∧Cg g z wx w'∧St y (parts q d) z):=fun y wx hc a b=>zbf q d wx g y hc.blk (hin'.below (zbO hw hg hc)) ho' hf' a b
  have LP:Hid ((Tryz.prog.info? 29).map (·.size)=some (pkCells p).toList.length):=by show _=_;kernel_rfl
  have LQ:Hid ((Tryz.prog.info? 29).map (·.size)=some (pkCells q).toList.length):=by show _=_;kernel_rfl
  have HX:Hid (x≤1000000000∧0≤x):=⟨h2,h3⟩
  obtain ⟨lp,hlp⟩:∃ l,l=(pkCells p).toList:=⟨_,rfl⟩
  obtain ⟨lq,hlq⟩:∃ l,l=(pkCells q).toList:=⟨_,rfl⟩
  rw [← hlp] at HR LP
  rw [← hlq] at HR LQ
  have vp:Hid (pkCells p=lp.toArray):=by show _=_;rw [hlp]
  have vq:Hid (pkCells q=lq.toArray):=by show _=_;rw [hlq]
  rw [vp.out] at HP
  rw [vq.out] at HQ
  obtain ⟨np,hnp⟩:∃ n:Nat,n=parts p c:=⟨_,rfl⟩
  obtain ⟨nq,hnq⟩:∃ n:Nat,n=parts q d:=⟨_,rfl⟩
  rw [← hnp] at HP ⊢
  rw [← hnq] at HQ ⊢
  clear hb h hin hin' hw hg ho ho' hf hf' h2 h3 hlp hlq vp vq hnp hnq
  go_enter Tryz.func25,Tryz.ntmps25
  go_wp2_with fail
  go_loopg [4] 2 (fun gg s4 wx=>∃ (k:Nat) (y:Int),s4 = .int .i64 k∧k+gg=2∧Hid (Cg g y w wx)∧Hid (y≤1000000000∧-9223372036854775807≤y∧(k=0→y=x)∧(k=1→0≤y→y+(np:Int)=x)∧(k=2→0≤y→y+((np+nq:Nat):Int)=x)))
  case atStart=>exact ⟨0,x,rfl,rfl,Cg.refl HC.out,HX.out.1,by have:=HX.out.2;omega,fun _=>rfl,fun h=>by omega,fun h=>by omega⟩
  case round =>
    obtain ⟨k,y,rfl,hkg,C1,S1⟩:=hrel
    by_cases hk2:k=2
    · subst hk2
      have S3:Hid (0≤y→y+((np+nq:Nat):Int)=x):=S1.out.2.2.2.2 rfl
      clear S1
      have hlt:¬ (((2:Nat):Int)<2):=by omega
      go_wp2
      go_end0
      exact ⟨rfl,y,C1.out,S3.out⟩
    · have hlt:(k:Int)<2:=by omega
      obtain ⟨gg,hgg⟩:∃ gg,gk=gg+1:=⟨gk-1,by omega⟩
      go_wp2_with fail
      go_must (go_at_call 27)
      refine (ok_any _ g y C1.out.blk).mono ?_
      rintro e w1 ⟨rfl,hw1⟩
      obtain rfl:=hw1.symm
      clear hw1
      by_cases hy:0≤y
      rotate_left
      · rw [decide_eq_false hy]
        have HY:Hid (∀ n:Int,0≤y→y+n=x):=fun n h=>absurd h hy
        clear hy
        go_wp2
        go_end0
        exact ⟨rfl,y,C1.out,HY.out _⟩
      rw [decide_eq_true hy]
      have HY:Hid (0≤y):=hy
      clear hy
      have hwk:IntKind.i64.wrap ((k:Int)+1)=((k+1:Nat):Int):=by rw [IntKind.wrap_i64];omega
      by_cases hk0:k=0
      · subst hk0
        have S3:Hid (y=x∧y≤1000000000∧-9223372036854775807≤y):=⟨S1.out.2.2.1 rfl,S1.out.1,S1.out.2.1⟩
        clear S1
        have RR:=(show Hid _ from (HR.out y _ C1.out).1)
        go_wp2_with (first | (refine wpList_load_mid rfl 29 _ rfl h0 0 rfl lp _ RR.out Tryz.underlying29 rfl LP.out ?_) | fail)
        go_must (go_at_call 92)
        refine (HP.out y _ C1.out S3.out.2.1 S3.out.2.2).mono ?_
        rintro e w2 ⟨z,rfl,hc2,st2⟩
        have C2:Hid (Cg g z w w2):=C1.out.trans hc2
        have S2:Hid (St y np z):=st2
        clear hc2 st2
        go_wp2
        go_roundg gg
        case measure=>omega
        case rel=>exact ⟨1,z,by first | rfl | simp,by omega,C2,S2.out.2.1,S2.out.2.2,fun h=>by omega,fun _ h=>by have:=S2.out.1 h;rw [S3.out.1] at this;exact this,fun h=>by omega⟩
      · obtain rfl:k=1:=by omega
        have S3:Hid (y+(np:Int)=x∧y≤1000000000∧-9223372036854775807≤y):=⟨S1.out.2.2.2.1 rfl HY.out,S1.out.1,S1.out.2.1⟩
        clear S1
        have RR:=(show Hid _ from (HR.out y _ C1.out).2)
        go_wp2_with (first | (refine wpList_load_mid rfl 29 _ rfl h0 25 rfl lq _ RR.out Tryz.underlying29 rfl LQ.out ?_) | fail)
        go_must (go_at_call 92)
        refine (HQ.out y _ C1.out S3.out.2.1 S3.out.2.2).mono ?_
        rintro e w2 ⟨z,rfl,hc2,st2⟩
        have C2:Hid (Cg g z w w2):=C1.out.trans hc2
        have S2:Hid (St y nq z):=st2
        clear hc2 st2
        go_wp2
        go_roundg gg
        case measure=>omega
        case rel=>exact ⟨2,z,by first | rfl | simp,by omega,C2,S2.out.2.1,S2.out.2.2,fun h=>by omega,fun h=>by omega,fun _ h=>by have a:=S2.out.1 h;have b:=S3.out.1;omega⟩
theorem zca {w:World} {p:Pk} {c:Cn} (hin:In w p c) {g:Nat} (hg:w.heap.size≤g):Off g p:=by
 refine ⟨fun hn b off e he=>?_,fun hn b off e he=>?_⟩
 ·
  obtain ⟨_,h2 | ⟨b',off',e',h2⟩⟩:=hin.asks
  · omega
  ·
   have h3:=World.block_lt_of_cell? _ _ (h2 0 hn).1
   rw [e] at e'
   simp only [Option.some.injEq,Addr.mk.injEq] at e'
   simp only at h3
   omega
 ·
  obtain ⟨_,h2 | ⟨b',off',e',h2⟩⟩:=hin.filters
  · omega
  ·
   have h3:=World.block_lt_of_cell? _ _ (h2 0 hn)
   rw [e] at e'
   simp only [Option.some.injEq,Addr.mk.injEq] at e'
   simp only at h3
   omega
def FewIs (w w':World) (n:Nat) (e:Ending):Prop:=∃ b:Bool,e = .returned (.bool b)∧Below w.heap.size w w'∧(b=true→n≤300000)
theorem few2_any (p q:Pk) (c d:Cn) (w0 w:World) (h0:Nat) (hin:In w0 p c) (hin':In w0 q d) (hw:Below w0.heap.size w0 w) (hf:Fit p c) (hf':Fit q d) (hb:w.heap[h0]?=some (.cells (pkCells p++pkCells q) 29 (0,0))) :
    Calls Tryz.prog 9 #[.slice (some ⟨h0,0,none⟩) 2 2] w fun e w'=>FewIs w w' (parts p c+parts q d) e:=by
  have bb:Below w.heap.size w (w.alloc (.cells #[.int .i64 300000] 125)):=(Below.refl _ _).alloc (Nat.le_refl _) _
  have hlt:h0<w.heap.size:=za4 hb
  have hs:=hw.size
  have HP:Hid (Calls Tryz.prog 25 #[.pointer (some ⟨w.heap.size,0,none⟩),.slice (some ⟨h0,0,none⟩) 2 2] (w.alloc (.cells #[.int .i64 300000] 125)) fun e w'=>e = .returned (.tuple #[])∧∃ y,Cg w.heap.size y (w.alloc (.cells #[.int .i64 300000] 125)) w'∧(0≤y→y+((parts p c+parts q d:Nat):Int)=300000)) :=
    packets2_any p q c d w0 _ w.heap.size h0 300000 (heap_alloc_new w _) hin hin' (hw.trans (bb.mono hs)) hs (zca hin hs) (zca hin' hs) hf hf' (by decide) (by decide) ((heap_alloc_old w _ hlt).trans hb) (by omega)
  obtain ⟨N,hN⟩:∃ n:Nat,n=parts p c+parts q d:=⟨_,rfl⟩
  rw [← hN] at HP ⊢
  clear hin hin' hf hf' hb hlt bb hw hs hN
  go_enter Tryz.func9,Tryz.ntmps9
  go_wp2_with fail
  go_must (go_at_call 24)
  refine (many_any _ _).mono ?_
  rintro e w1 ⟨rfl,rfl⟩
  go_wp2_with fail
  go_must (go_at_call 25)
  refine HP.out.mono ?_
  rintro e w2 ⟨rfl,y,hc2,st2⟩
  have C2:Hid (Cg w.heap.size y (w.alloc (.cells #[.int .i64 300000] 125)) w2):=hc2
  have S2:Hid (0≤y→y+(N:Int)=300000):=st2
  clear hc2 st2
  go_wp2_with fail
  go_must (go_at_call 27)
  refine (ok_any _ _ y C2.out.blk).mono ?_
  rintro e w3 ⟨rfl,hw3⟩
  obtain rfl:=hw3.symm
  clear hw3
  go_wp2
  go_ret
  refine ⟨decide (0≤y),rfl,?_,fun h=>?_⟩
  · have hs:(w.alloc (.cells #[.int .i64 300000] 125)).heap.size=w.heap.size+1:=by show (w.heap.push _).size=_;simp
    refine ⟨C2.out.os,C2.out.tape,C2.out.output,by have:=C2.out.size;omega,fun k hk=>?_⟩
    rw [C2.out.keep k (by omega) (by omega)]
    exact heap_alloc_old w _ hk
  · have hy:0≤y:=of_decide_eq_true h
    have:=S2.out hy
    omega
set_option maxHeartbeats 4000000
def plCells (p:Pk):Array Value:=#[.int .i64 p.kind,.int .i64 p.level,.int .i64 p.keep,.int .i64 p.code,.int .i64 p.id,.bool p.clean,.bool p.present,.bool p.dup,.bool p.hasWill,.bool p.hasUser,.bool p.hasPass,.string p.client,.string p.user,.string p.wT,.int .i64 p.wQ,.bool p.wR,.string p.mT,.int .i64 p.mQ,.bool p.mR]
theorem zaZ (d:Nat) (t t':ByteArray) (q q':Int) (r r':Bool) (w:World):(Op.equalIn (d+2) 91 (.agg #[.string t,.int .i64 q,.bool r]) (.agg #[.string t',.int .i64 q',.bool r'])).run Tryz.prog w = .ok (hdEq t t' q q' r r') w:=by
 have hu:Tryz.prog.underlying 91=some (.struct (Tryz.prog.fieldsOf 91)):=by kernel_rfl
 have hp:Tryz.prog.stoodInHeld 91=false:=by kernel_rfl
 rw [run_equalIn_agg w (d+1) 91 _ _ hu hp]
 clear hu hp
 simp only [Program.fieldsOf,Tryz.underlying91,hdEq]
 cases h1:(t.toList==t'.toList)
 · go_simp
 ·
  cases h2:(q==q')
  · go_simp
  · cases r <;> cases r' <;> go_simp
theorem eq_plain (p q:Pk) (w:World):(binOp .eql 93 (.agg (plCells p)) (.agg (plCells q))).run Tryz.prog w = .ok (.bool (plEq p q)) w:=by
 have hu:Tryz.prog.underlying 93=some (.struct (Tryz.prog.fieldsOf 93)):=by kernel_rfl
 have hp:Tryz.prog.stoodInHeld 93=false:=by kernel_rfl
 rw [run_eql_struct,run_equalIn_agg w 9999 93 _ _ hu hp]
 clear hu hp
 have E1:=fun d=>zaZ d p.wT q.wT p.wQ q.wQ p.wR q.wR
 have E2:=fun d=>zaZ d p.mT q.mT p.mQ q.mQ p.mR q.mR
 have E1:∀ w,(Op.equalIn 9999 91 (.agg #[.string p.wT,.int .i64 p.wQ,.bool p.wR]) (.agg #[.string q.wT,.int .i64 q.wQ,.bool q.wR])).run Tryz.prog w = .ok (hdEq p.wT q.wT p.wQ q.wQ p.wR q.wR) w:=E1 9997
 have E2:∀ w,(Op.equalIn 9999 91 (.agg #[.string p.mT,.int .i64 p.mQ,.bool p.mR]) (.agg #[.string q.mT,.int .i64 q.mQ,.bool q.mR])).run Tryz.prog w = .ok (hdEq p.mT q.mT p.mQ q.mQ p.mR q.mR) w:=E2 9997
 simp only [Program.fieldsOf,Tryz.underlying93,plEq,plCells]
 cases h0:(p.kind==q.kind)
 · go_simp
 cases h1:(p.level==q.level)
 · go_simp
 cases h2:(p.keep==q.keep)
 · go_simp
 cases h3:(p.code==q.code)
 · go_simp
 cases h4:(p.id==q.id)
 · go_simp
 cases h5:(p.clean==q.clean)
 · go_simp
 cases h6:(p.present==q.present)
 · go_simp
 cases h7:(p.dup==q.dup)
 · go_simp
 cases h8:(p.hasWill==q.hasWill)
 · go_simp
 cases h9:(p.hasUser==q.hasUser)
 · go_simp
 cases h10:(p.hasPass==q.hasPass)
 · go_simp
 cases h11:(p.client.toList==q.client.toList)
 · go_simp
 cases h12:(p.user.toList==q.user.toList)
 · go_simp
 cases h13:(hdEq p.wT q.wT p.wQ q.wQ p.wR q.wR)
 · go_simp
 cases h14:(hdEq p.mT q.mT p.mQ q.mQ p.mR q.mR)
 · go_simp
 go_simp
end Go.Proofs.YtceigllifjgalaaGreatDoor.Pkt
