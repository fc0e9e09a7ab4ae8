import Derived.Test.YtceigllifjgalaaGreatDoorRdc
import Derived.Test.YtceigllifjgalaaGreatDoorPSc
namespace Go.Proofs.YtceigllifjgalaaGreatDoor
open Go Go.RowKit
open Pkt (Pk Cn Sl In By Is Ss As pkCells)
set_option linter.unusedSimpArgs false
set_option linter.unusedVariables false
def Nx (B:Nat) (s:Sl):Prop:=∀ b off,s.a=some ⟨b,off,none⟩→B≤b
structure NxAll (B:Nat) (p:Pk):Prop where
 wP:Nx B p.wP
 pass:Nx B p.pass
 mP:Nx B p.mP
 asks:Nx B p.asks
 codes:Nx B p.codes
 filters:Nx B p.filters
def Keep (B:Nat) (w w':World):Prop:=∀ a v,w.cell? a=some v→B≤a.block→w'.cell? a=some v
theorem zbg {B rb:Nat} {w w':World} (hg:w.grownBy w' (some rb)) (hlt:rb<B):Keep B w w':=fun a v ha hb=>hg.cell ha (by simp;omega)
section
variable {w0 w w':World} {rb g n cp pb:Nat} {z:Nat→Int} {r r':Rs} {p:Pk} {c:Cn}
end
def mk (m b:Int):Bool:=bits .and .u8 m b != 0
theorem zaP {P:Program} (w:World) (base:Nat) (t ty e:TypeId) (i:TypeInfo) (z:Value) (size bytes:Nat) (ht:P.underlying t=some (.slice e)) (hi:P.info? e=some i) (hz:i.zero=some z)
    (hsize:i.size=size) (hby:i.bytes=bytes) (hzs:z.cells.size=size) (hsz:0<size) (v:Value) (n:Nat) (xs:List Value) (hown:w.ownsRow base e size v n xs)
    (a:Addr) (m c:Nat) (news:List Value) (hm:0<m) (hl:news.length=m*size) (hnews:∀ j u,news[j]?=some u→w.cell? (a.add j)=some u) (h1:∀ u ∈ news,u.oneCell'=true)
    (h63:n+m≤maxLen) (hbytes:(n+m)*bytes≤140737488355328) (hbase:base≤w.heap.size) :
    ∃ v' w',(Builtin.append_ #[t,t] ty #[v,.slice (some a) m c]).run P w = .ok v' w'∧w'.ownsRow base e size v' (n+m) (xs++news)∧w.grownBy w' v.ownBlock∧v'≠.slice none 0 0∧(v'.ownBlock=v.ownBlock∨v'.ownBlock=some w.heap.size):=by
  obtain ⟨v',w',hr,h2,h3,h4⟩:=run_append_own (P:=P) w base t ty e i z size bytes ht hi hz hsize hby hzs hsz v n xs hown a m c news hl hnews h1 h63 hbytes hbase
  refine ⟨v',w',hr,h2,h3,fun q=>by have:=(h4.1 q).2;omega,?_⟩
  subst hsize hby
  have hsm:n+m≤9223372036854775807:=by simp only [maxLen] at h63;omega
  rcases hown.2 with ⟨rfl,rfl⟩|⟨g,cap,cur,rfl,_,hg,hnc,_,hcs,_⟩
  · have q:=run_append_nil (P:=P) w t ty e i z ht hi hz a m c news hl hnews hm (by omega) (by have hb:=hbytes;simp only [Nat.zero_add] at hb;omega)
    rw [q] at hr
    cases hr
    exact .inr rfl
  · by_cases hroom:n+m≤cap
    · have q:=run_append_room (P:=P) w t ty e i ht hi g n cap cur hg a m c news hl hnews h1 hroom (by rw [hl,hcs,← Nat.add_mul];exact Nat.mul_le_mul_right _ hroom)
      rw [q] at hr
      cases hr
      exact .inl rfl
    · have q:=run_append_grow (P:=P) w t ty e i z ht hi hz ⟨g,0,none⟩ n cap xs hown.1 (hown.cells (g:=g) rfl) a m c news hl hnews (by omega) (by omega) (growslice_fits (by omega) hbytes)
      rw [q] at hr
      cases hr
      exact .inr rfl
theorem zaw {P:Program} {w:World} {ops:Array Oper} {rest:List Oper} {o:Oper} {a:Act} {Q:Exit→Act→World→Prop} (hgd:o.guard=none) (s x:Operand) (t:TypeId)
    (ho:o.op = .call { callee:=.builtin .append,args:=#[s,x],argTypes:=#[t,t] })
    (base:Nat) (e:TypeId) (i:TypeInfo) (z:Value) (size bytes:Nat) (ht:P.underlying t=some (.slice e)) (hi:P.info? e=some i) (hz:i.zero=some z)
    (hsize:i.size=size) (hby:i.bytes=bytes) (hzs:z.cells.size=size) (hsz:0<size) (v:Value) (n:Nat) (xs:List Value) (hs:a.eval s=v) (hown:w.ownsRow base e size v n xs)
    (ad:Addr) (m c:Nat) (news:List Value) (hx:a.eval x = .slice (some ad) m c) (hm:0<m) (hl:news.length=m*size) (hnews:∀ j u,news[j]?=some u→w.cell? (ad.add j)=some u) (h1:∀ u ∈ news,u.oneCell'=true)
    (h63:n+m≤maxLen) (hbytes:(n+m)*bytes≤140737488355328) (hbase:base≤w.heap.size)
    (h:∀ v' w',w'.ownsRow base e size v' (n+m) (xs++news)→w.grownBy w' v.ownBlock→v'≠.slice none 0 0→(v'.ownBlock=v.ownBlock∨v'.ownBlock=some w.heap.size)→wpList P ops Q rest (a.put o.dst v') w'):wpList P ops Q (o::rest) a w:=by
  refine wpList_plain hgd fun K hK=>?_
  obtain ⟨v',w',hr,h2,h3,h4,h5⟩:=zaP (P:=P) w base t o.type e i z size bytes ht hi hz hsize hby hzs hsz v n xs hown ad m c news hm hl hnews h1 h63 hbytes hbase
  unfold Oper.wp
  simp [execOp,ho,resolve,invoke,builtin,hs,hx,hr,Result.andThen]
  exact hK _ _ (h v' w' h2 h3 h4 h5)
end Go.Proofs.YtceigllifjgalaaGreatDoor
namespace Go.Proofs.YtceigllifjgalaaGreatDoor.Pkt
open Go Go.RowKit Go.Sort
set_option linter.unusedSimpArgs false
set_option linter.unusedVariables false
set_option maxRecDepth 100000
set_option maxHeartbeats 4000000
theorem Tryz.infoBe:(Tryz.prog.info? 5).map (fun i=>(i.zero,i.size,i.bytes))=some (some (.int .u8 0),1,1):=by kernel_rfl
theorem Tryz.infoBt:(Tryz.prog.info? 22).map (fun i=>(i.zero,i.size,i.bytes))=some (some (.slice none 0 0),1,24):=by kernel_rfl
theorem Tryz.infoBn:(Tryz.prog.info? 3).map (fun i=>(i.zero,i.size,i.bytes))=some (some (.int .i64 0),1,8):=by kernel_rfl
theorem layB (R base m:Nat) (cs:Array Value) (vb va:Value) (xsb xsa:List Value) (s:Sl) (xs:List Value) (w:World) (hm:s.n≤1000000) (hm1:m≤1000) (hl:xs.length=s.n*1) (h1:∀ u ∈ xs,u.oneCell'=true) (hc:Src w s xs)
    (hR:w.heap[R]?=some (.cells cs 48 (0,0))) (hb:cs[0]?=some vb) (ha:cs[1]?=some va) (hbase:base≤R) (hob:w.ownsRow base 22 1 vb m xsb) (hoa:w.ownsRow base 3 1 va m xsa) :
    Calls Tryz.prog 87 #[.pointer (some ⟨R,0,none⟩),.slice s.a s.n s.c,.int .i64 600] w fun e w'=>∃ g cp cur vb' va',e = .returned (.slice (some ⟨g,0,none⟩) s.n (s.n+600))∧(∀ k,va'.ownBlock=some k→va.ownBlock=some k∨(w.heap.size≤k∧k≠g)) ∧
      w.heap.size≤g∧w'.heap[g]?=some (.cells cur 5 (0,0))∧cur.size=cp*1∧s.n+600≤cp∧cur.toList.take ((s.n+600)*1)=xs++mB 600 ∧
      w'.heap[R]?=some (.cells ((cs.setIfInBounds 0 vb').setIfInBounds 1 va') 48 (0,0))∧w'.ownsRow base 22 1 vb' (m+1) (xsb++[.slice (some ⟨g,0,none⟩) (s.n+600) cp])∧w'.ownsRow base 3 1 va' (m+1) (xsa++[.int .i64 s.n]) ∧
      Below base w w'∧Frm w w' R vb va∧w.heap.size≤w'.heap.size:=by
  obtain ⟨sa,len,sc⟩:=s
  simp only at hm hl ⊢
  have HR:Hid (w.heap[R]?=some (.cells cs 48 (0,0))∧cs[0]?=some vb∧cs[1]?=some va∧base≤R∧w.ownsRow base 22 1 vb m xsb∧w.ownsRow base 3 1 va m xsa):=⟨hR,hb,ha,hbase,hob,hoa⟩
  have KB:Hid (∀ k,vb.ownBlock=some k→k<w.heap.size):=fun k hk=>(hob.lt k hk).2
  have KA:Hid (∀ k,va.ownBlock=some k→k<w.heap.size):=fun k hk=>(hoa.lt k hk).2
  have HL:Hid (xs.length=len*1∧(∀ u ∈ xs,u.oneCell'=true)∧Src w ⟨sa,len,sc⟩ xs):=⟨hl,h1,hc⟩
  clear hR hb ha hbase hob hoa hl h1 hc
  obtain ⟨j0,hj,hj0,hj1,hj2⟩:=info_parts Tryz.infoBt
  obtain ⟨l0,hl,hl0,hl1,hl2⟩:=info_parts Tryz.infoBn
  obtain ⟨i0,hi,hz0,hz1,hz2⟩:=info_parts Tryz.infoBe
  have OWN0:Hid ((w.alloc (.cells #[] 5)).ownsRow w.heap.size 5 1 (.slice (some ⟨w.heap.size,0,none⟩) 0 0) 0 []):=World.ownsRow_made w #[] 0 (Nat.le_refl _) (by decide) (by decide)
  go_enter Tryz.func87,Tryz.ntmps87
  go_wp2_with (at_builtin;refine zaJ rfl (.tmp 10) (.tmp 11) 22 rfl w.heap.size 5 i0 (.int .u8 0) 1 1 Tryz.underlying22 hi hz0 hz1 hz2 rfl (by decide) _ _ _ rfl OWN0.out sa len sc xs rfl HL.out.1 ?c1 HL.out.2.1 ?c3 ?c4 ?c5 ?c6 ?_)
  case c1=>exact HL.out.2.2.below (below1 _ _)
  case c3=>unfold maxLen;omega
  case c4=>omega
  case c5=>simp
  case c6=>show (Value.slice (some ⟨w.heap.size,0,none⟩) 0 0)≠_;simp
  intro v1 w1 hown1 hgrow1 hnil1
  have hb1:Below w.heap.size w w1:=((Below.refl w.heap.size w).alloc (Nat.le_refl _) _).grown hgrow1 (by simp) (by intro k hk;simp [Value.ownBlock] at hk;omega)
  have HS:Hid (w1.ownsRow w.heap.size 5 1 v1 (len+0) (xs++mB 0)∧Below w.heap.size w w1∧v1≠.slice none 0 0):=⟨by simpa [mB] using hown1,hb1,hnil1⟩
  clear hown1 hgrow1 hnil1 hb1
  go_wp2
  go_loopw [7,8] (fun v i wr=>∃ k:Nat,k≤600∧i = .int .i64 k∧wr.ownsRow w.heap.size 5 1 v (len+k) (xs++mB k)∧Below w.heap.size w wr∧v≠.slice none 0 0) (fun _ i _=>600-(intOf i).toNat)
  case atStart=>exact ⟨0,by omega,rfl,HS.out⟩
  case round =>
    obtain ⟨k,hk,rfl,hown,hbel,hnn⟩:=hrel
    have HO:Hid (wr.ownsRow w.heap.size 5 1 u7 (len+k) (xs++mB k)):=hown
    have HB:Hid (Below w.heap.size w wr):=hbel
    have HN:Hid (u7≠.slice none 0 0):=hnn
    clear hown hbel hnn
    by_cases hlt:k<600
    · have HZ:Hid (∀ w,Calls Tryz.prog 132 #[.int .i64 k] w fun e w'=>e = .returned (.int .i64 (lotI k))∧w'=w):=fun w=>zbj k (by omega) w
      rcases zc1 k with ⟨q1,q2⟩|⟨q1,q2⟩
      · rw [q1] at HZ
        have HL0:=HZ
        have HM:Hid (markU k=235):=q2
        clear q1 q2 HZ
        go_wp2_with (first | (go_at_call 132;refine (HL0.out _).mono ?_;rintro e w' ⟨rfl,rfl⟩)|(at_builtin;refine wpList_append_own _ rfl (.tmp 18) (.tmp 22) 22 rfl w.heap.size 5 i0 (.int .u8 0) 1 1 Tryz.underlying22 hi hz0 hz1 hz2 rfl (by decide) _ _ _ rfl (HO.out.alloc _) ⟨_,0,none⟩ 1 1 [.int .u8 235] rfl rfl ?d1 ?d2 ?d3 ?d4 ?d5 ?_))
        case d1=>exact cell_one_new _ _ _
        case d2=>intro u hu;simp at hu;subst hu;rfl
        case d3=>unfold maxLen;omega
        case d4=>omega
        case d5=>have:=HB.out.size;simp;omega
        intro v2 w2 hown2 hgrow2 hnil2
        have hb2:=(HB.out.alloc HB.out.size _).grown hgrow2 (by have:=HB.out.size;simp;omega) (by intro q hq;exact (HO.out.lt _ hq).1)
        have HS2:Hid (w2.ownsRow w.heap.size 5 1 v2 (len+(k+1)) (xs++mB (k+1))∧Below w.heap.size w w2∧v2≠.slice none 0 0):=⟨by rw [zc0,HM.out];exact hown2,hb2,hnil2⟩
        clear hown2 hgrow2 hnil2 hb2
        go_wp2
        go_roundw
        case rel=>exact ⟨k+1,by omega,by go_num,HS2.out⟩
        case measure=>simp [intOf];omega
      · rw [q1] at HZ
        have HL0:=HZ
        have HM:Hid (markU k=234):=q2
        clear q1 q2 HZ
        go_wp2_with (first | (go_at_call 132;refine (HL0.out _).mono ?_;rintro e w' ⟨rfl,rfl⟩)|(at_builtin;refine wpList_append_own _ rfl (.tmp 18) (.tmp 22) 22 rfl w.heap.size 5 i0 (.int .u8 0) 1 1 Tryz.underlying22 hi hz0 hz1 hz2 rfl (by decide) _ _ _ rfl (HO.out.alloc _) ⟨_,0,none⟩ 1 1 [.int .u8 234] rfl rfl ?d1 ?d2 ?d3 ?d4 ?d5 ?_))
        case d1=>exact cell_one_new _ _ _
        case d2=>intro u hu;simp at hu;subst hu;rfl
        case d3=>unfold maxLen;omega
        case d4=>omega
        case d5=>have:=HB.out.size;simp;omega
        intro v2 w2 hown2 hgrow2 hnil2
        have hb2:=(HB.out.alloc HB.out.size _).grown hgrow2 (by have:=HB.out.size;simp;omega) (by intro q hq;exact (HO.out.lt _ hq).1)
        have HS2:Hid (w2.ownsRow w.heap.size 5 1 v2 (len+(k+1)) (xs++mB (k+1))∧Below w.heap.size w w2∧v2≠.slice none 0 0):=⟨by rw [zc0,HM.out];exact hown2,hb2,hnil2⟩
        clear hown2 hgrow2 hnil2 hb2
        go_wp2
        go_roundw
        case rel=>exact ⟨k+1,by omega,by go_num,HS2.out⟩
        case measure=>simp [intOf];omega
    · obtain rfl:k=600:=by omega
      obtain ⟨hlen,h | ⟨g,cp,cur,rfl,hg,hh,h1,h2,h3,h4⟩⟩:=HO.out
      · exact absurd h.1 HN.out
      obtain ⟨hR,hb,ha,hbase,hob,hoa⟩:=HR.out
      have hRlt:R<w.heap.size:=lt_of_block hR
      have OB:Hid (wr.ownsRow base 22 1 vb m xsb):=zal hob HB.out
      have OA:Hid (wr.ownsRow base 3 1 va m xsa):=zal hoa HB.out
      have hR':wr.heap[R]?=some (.cells cs 48 (0,0)):=(HB.out.block R hRlt).trans hR
      have cR0:wr.cell? ⟨R,0,none⟩=some vb:=by simp [World.cell?,hR',hb]
      have HG:Hid (w.heap.size≤g∧wr.heap[g]?=some (.cells cur 5 (0,0))∧len+600≤cp∧cur.size=cp*1∧cur.toList.take ((len+600)*1)=xs++mB 600∧R<w.heap.size∧wr.heap[R]?=some (.cells cs 48 (0,0))):=⟨hg,hh,h1,h3,h4,hRlt,hR'⟩
      clear hR hb ha hbase hob hoa hg hh h2 h3 h4 hlen hR'
      have hbs:base≤wr.heap.size:=by have:=HB.out.size;have:=HR.out.2.2.2.1;have:=HG.out.2.2.2.2.2.1;omega
      go_wp2_with (at_builtin;refine wpList_append_own _ rfl (.tmp 28) (.tmp 30) 33 rfl base 22 j0 (.slice none 0 0) 1 24 Tryz.underlying33 hj hj0 hj1 hj2 rfl (by decide) _ _ _ rfl (OB.out.alloc _) ⟨_,0,none⟩ 1 1 [.slice (some ⟨g,0,none⟩) (len+600) cp] rfl rfl ?f1 ?f2 ?f3 ?f4 ?f5 ?_)
      case f1=>exact cell_one_new _ _ _
      case f2=>intro u hu;simp at hu;subst hu;rfl
      case f3=>unfold maxLen;omega
      case f4=>omega
      case f5=>simp;omega
      intro v3 w3 hown3 hgrow3 hnil3
      obtain ⟨gv,cv,rfl⟩:=zat hown3 hnil3
      clear hnil3
      have L:=zbk (i:=0) (by decide) (by decide) HB.out HG.out.2.2.2.2.2.1 HR.out.2.2.2.1 HG.out.2.2.2.2.2.2 OB.out OA.out KB.out HG.out.1 HG.out.2.1 hown3 hgrow3
      have f3:w3.frozen? ⟨R,0,none⟩=false:=by simp [World.frozen?,L.1]
      have g3:w3.cell? ⟨R,0,none⟩=some vb:=by simp [World.cell?,L.1,HR.out.2.1]
      have k3:w3.cell? ⟨R,1,none⟩=some va:=by simp [World.cell?,L.1,HR.out.2.2.1]
      have HX:Hid (w3.ownsRow base 22 1 (.slice (some ⟨gv,0,none⟩) (m+1) cv) (m+1) (xsb++[.slice (some ⟨g,0,none⟩) (len+600) cp])):=hown3
      have hws3:Hid (w.heap.size≤w3.heap.size):=Nat.le_trans HB.out.size (Nat.le_trans (by simp) hgrow3.size)
      clear hown3 hgrow3
      obtain ⟨l1,l2,l3,l4,l5,l6,l7⟩:=L
      have HLL:Hid (w3.heap[R]?=some (.cells cs 48 (0,0))∧w3.ownsRow base 3 1 va m xsa∧w3.heap[g]?=some (.cells cur 5 (0,0))∧Below base w w3∧(w3.setCell ⟨R,0,none⟩ (.slice (some ⟨gv,0,none⟩) (m+1) cv)).ownsRow base 3 1 va m xsa):=⟨l1,l2,l3,l4,l5⟩
      have HF:Hid (Frm w w3 R vb va):=l7
      clear l1 l2 l3 l4 l5 l7
      go_wp2_with (at_builtin;refine zaw rfl (.tmp 38) (.tmp 41) 26 rfl base 3 l0 (.int .i64 0) 1 8 Tryz.underlying26 hl hl0 hl1 hl2 rfl (by decide) _ _ _ rfl (HLL.out.2.2.2.2.alloc _) ⟨_,0,none⟩ 1 1 [.int .i64 len] rfl (by decide) rfl ?q1 ?q2 ?q3 ?q4 ?q5 ?_)
      case q1=>exact zaE _ _ _ _ _
      case q2=>intro u hu;simp at hu;subst hu;rfl
      case q3=>unfold maxLen;omega
      case q4=>omega
      case q5=>simp;omega
      intro v5 w5 hown5 hgrow5 hnil5 hwh5
      obtain ⟨ga,ca,rfl⟩:=zat hown5 hnil5
      have FR:Hid (∀ k,(Value.slice (some ⟨ga,0,none⟩) (m+1) ca).ownBlock=some k→va.ownBlock=some k∨(w.heap.size≤k∧k≠g)):=fun k e=>by
        have hgl:=za4 HLL.out.2.2.1
        have h3:=hws3.out
        rcases hwh5 with q | q
        · exact .inl (q ▸ e)
        · rw [q] at e
          simp [World.setCell] at e
          exact .inr (by omega)
      clear hwh5
      clear hnil5
      have M:=zb4 (by decide) (by decide) HLL.out.1 HLL.out.2.1 HLL.out.2.2.1 HLL.out.2.2.2.1 HR.out.2.2.2.1 hws3.out KA.out HG.out.1 HG.out.2.2.2.2.2.1 HF.out HX.out hown5 hgrow5
      have f5:w5.frozen? ⟨R,1,none⟩=false:=by simp [World.frozen?,M.1]
      have g5:w5.cell? ⟨R,1,none⟩=some va:=by have h:=HR.out.2.2.1;simp [World.cell?,M.1,h]
      obtain ⟨_,m2,m3,m4,m5,m6,m7,m8⟩:=M
      have HM:Hid (w.heap.size≤g∧(w5.setCell ⟨R,1,none⟩ (.slice (some ⟨ga,0,none⟩) (m+1) ca)).heap[g]?=some (.cells cur 5 (0,0))∧cur.size=cp*1∧len+600≤cp∧cur.toList.take ((len+600)*1)=xs++mB 600 ∧
        (w5.setCell ⟨R,1,none⟩ (.slice (some ⟨ga,0,none⟩) (m+1) ca)).heap[R]?=some (.cells ((cs.setIfInBounds 0 (.slice (some ⟨gv,0,none⟩) (m+1) cv)).setIfInBounds 1 (.slice (some ⟨ga,0,none⟩) (m+1) ca)) 48 (0,0)) ∧
        (w5.setCell ⟨R,1,none⟩ (.slice (some ⟨ga,0,none⟩) (m+1) ca)).ownsRow base 22 1 (.slice (some ⟨gv,0,none⟩) (m+1) cv) (m+1) (xsb++[.slice (some ⟨g,0,none⟩) (len+600) cp])∧(w5.setCell ⟨R,1,none⟩ (.slice (some ⟨ga,0,none⟩) (m+1) ca)).ownsRow base 3 1 (.slice (some ⟨ga,0,none⟩) (m+1) ca) (m+1) (xsa++[.int .i64 len]) ∧
        Below base w (w5.setCell ⟨R,1,none⟩ (.slice (some ⟨ga,0,none⟩) (m+1) ca))∧Frm w (w5.setCell ⟨R,1,none⟩ (.slice (some ⟨ga,0,none⟩) (m+1) ca)) R vb va∧w.heap.size≤(w5.setCell ⟨R,1,none⟩ (.slice (some ⟨ga,0,none⟩) (m+1) ca)).heap.size):=⟨HG.out.1,m5,HG.out.2.2.2.1,h1,HG.out.2.2.2.2.1,m2,m3,m4,m6,m7,m8⟩
      clear hown5 hgrow5 m2 m3 m4 m5 m6 m7 m8
      go_wp2
      go_ret
      exact ⟨g,cp,cur,_,_,rfl,FR.out,HM.out⟩
theorem Tryz.infoAe:(Tryz.prog.info? 98).map (fun i=>(i.zero,i.size,i.bytes))=some (some (.agg #[.string ⟨#[]⟩,.int .i64 0]),2,24):=by kernel_rfl
theorem Tryz.infoAt:(Tryz.prog.info? 25).map (fun i=>(i.zero,i.size,i.bytes))=some (some (.slice none 0 0),1,24):=by kernel_rfl
theorem Tryz.infoAn:(Tryz.prog.info? 3).map (fun i=>(i.zero,i.size,i.bytes))=some (some (.int .i64 0),1,8):=by kernel_rfl
theorem layA (R base m:Nat) (cs:Array Value) (vb va:Value) (xsb xsa:List Value) (s:Sl) (xs:List Value) (w:World) (hm:s.n≤1000000) (hm1:m≤1000) (hl:xs.length=s.n*2) (h1:∀ u ∈ xs,u.oneCell'=true) (hc:Src w s xs)
    (hR:w.heap[R]?=some (.cells cs 48 (0,0))) (hb:cs[6]?=some vb) (ha:cs[7]?=some va) (hbase:base≤R) (hob:w.ownsRow base 25 1 vb m xsb) (hoa:w.ownsRow base 3 1 va m xsa) :
    Calls Tryz.prog 109 #[.pointer (some ⟨R,0,none⟩),.slice s.a s.n s.c,.int .i64 40] w fun e w'=>∃ g cp cur vb' va',e = .returned (.slice (some ⟨g,0,none⟩) s.n (s.n+40))∧(∀ k,va'.ownBlock=some k→va.ownBlock=some k∨(w.heap.size≤k∧k≠g)) ∧
      w.heap.size≤g∧w'.heap[g]?=some (.cells cur 98 (0,0))∧cur.size=cp*2∧s.n+40≤cp∧cur.toList.take ((s.n+40)*2)=xs++mA 40 ∧
      w'.heap[R]?=some (.cells ((cs.setIfInBounds 6 vb').setIfInBounds 7 va') 48 (0,0))∧w'.ownsRow base 25 1 vb' (m+1) (xsb++[.slice (some ⟨g,0,none⟩) (s.n+40) cp])∧w'.ownsRow base 3 1 va' (m+1) (xsa++[.int .i64 s.n]) ∧
      Below base w w'∧Frm w w' R vb va∧w.heap.size≤w'.heap.size:=by
  obtain ⟨sa,len,sc⟩:=s
  simp only at hm hl ⊢
  have HR:Hid (w.heap[R]?=some (.cells cs 48 (0,0))∧cs[6]?=some vb∧cs[7]?=some va∧base≤R∧w.ownsRow base 25 1 vb m xsb∧w.ownsRow base 3 1 va m xsa):=⟨hR,hb,ha,hbase,hob,hoa⟩
  have KB:Hid (∀ k,vb.ownBlock=some k→k<w.heap.size):=fun k hk=>(hob.lt k hk).2
  have KA:Hid (∀ k,va.ownBlock=some k→k<w.heap.size):=fun k hk=>(hoa.lt k hk).2
  have HL:Hid (xs.length=len*2∧(∀ u ∈ xs,u.oneCell'=true)∧Src w ⟨sa,len,sc⟩ xs):=⟨hl,h1,hc⟩
  clear hR hb ha hbase hob hoa hl h1 hc
  obtain ⟨j0,hj,hj0,hj1,hj2⟩:=info_parts Tryz.infoAt
  obtain ⟨l0,hl,hl0,hl1,hl2⟩:=info_parts Tryz.infoAn
  obtain ⟨i0,hi,hz0,hz1,hz2⟩:=info_parts Tryz.infoAe
  have OWN0:Hid ((w.alloc (.cells #[] 98)).ownsRow w.heap.size 98 2 (.slice (some ⟨w.heap.size,0,none⟩) 0 0) 0 []):=World.ownsRow_made w #[] 0 (Nat.le_refl _) (by decide) (by decide)
  go_enter Tryz.func109,Tryz.ntmps109
  go_wp2_with (at_builtin;refine zaJ rfl (.tmp 10) (.tmp 11) 25 rfl w.heap.size 98 i0 (.agg #[.string ⟨#[]⟩,.int .i64 0]) 2 24 Tryz.underlying25 hi hz0 hz1 hz2 rfl (by decide) _ _ _ rfl OWN0.out sa len sc xs rfl HL.out.1 ?c1 HL.out.2.1 ?c3 ?c4 ?c5 ?c6 ?_)
  case c1=>exact HL.out.2.2.below (below1 _ _)
  case c3=>unfold maxLen;omega
  case c4=>omega
  case c5=>simp
  case c6=>show (Value.slice (some ⟨w.heap.size,0,none⟩) 0 0)≠_;simp
  intro v1 w1 hown1 hgrow1 hnil1
  have hb1:Below w.heap.size w w1:=((Below.refl w.heap.size w).alloc (Nat.le_refl _) _).grown hgrow1 (by simp) (by intro k hk;simp [Value.ownBlock] at hk;omega)
  have HS:Hid (w1.ownsRow w.heap.size 98 2 v1 (len+0) (xs++mA 0)∧Below w.heap.size w w1∧v1≠.slice none 0 0):=⟨by simpa [mA] using hown1,hb1,hnil1⟩
  clear hown1 hgrow1 hnil1 hb1
  go_wp2
  go_loopw [7,8] (fun v i wr=>∃ k:Nat,k≤40∧i = .int .i64 k∧wr.ownsRow w.heap.size 98 2 v (len+k) (xs++mA k)∧Below w.heap.size w wr∧v≠.slice none 0 0) (fun _ i _=>40-(intOf i).toNat)
  case atStart=>exact ⟨0,by omega,rfl,HS.out⟩
  case round =>
    obtain ⟨k,hk,rfl,hown,hbel,hnn⟩:=hrel
    have HO:Hid (wr.ownsRow w.heap.size 98 2 u7 (len+k) (xs++mA k)):=hown
    have HB:Hid (Below w.heap.size w wr):=hbel
    have HN:Hid (u7≠.slice none 0 0):=hnn
    clear hown hbel hnn
    by_cases hlt:k<40
    · have HL0:Hid (∀ w,Calls Tryz.prog 133 #[.int .i64 k] w fun e w'=>e = .returned (.string (wordB k))∧w'=w):=fun w=>zb5 k (by omega) w
      go_wp2_with (first | (go_at_call 133;refine (HL0.out _).mono ?_;rintro e w' ⟨rfl,rfl⟩)|(at_builtin;refine wpList_append_own _ rfl (.tmp 18) (.tmp 22) 25 rfl w.heap.size 98 i0 (.agg #[.string ⟨#[]⟩,.int .i64 0]) 2 24 Tryz.underlying25 hi hz0 hz1 hz2 rfl (by decide) _ _ _ rfl (HO.out.alloc _) ⟨_,0,none⟩ 1 1 [.string (wordB k),.int .i64 0] rfl rfl ?d1 ?d2 ?d3 ?d4 ?d5 ?_))
      case d1=>exact cell_two_new _ _ _ _
      case d2=>intro u hu;simp at hu;rcases hu with rfl | rfl <;> rfl
      case d3=>unfold maxLen;omega
      case d4=>omega
      case d5=>have:=HB.out.size;simp;omega
      intro v2 w2 hown2 hgrow2 hnil2
      have hb2:=(HB.out.alloc HB.out.size _).grown hgrow2 (by have:=HB.out.size;simp;omega) (by intro q hq;exact (HO.out.lt _ hq).1)
      have HS2:Hid (w2.ownsRow w.heap.size 98 2 v2 (len+(k+1)) (xs++mA (k+1))∧Below w.heap.size w w2∧v2≠.slice none 0 0):=⟨by rw [mA_succ];exact hown2,hb2,hnil2⟩
      clear hown2 hgrow2 hnil2 hb2
      go_wp2
      go_roundw
      case rel=>exact ⟨k+1,by omega,by go_num,HS2.out⟩
      case measure=>simp [intOf];omega
    · obtain rfl:k=40:=by omega
      obtain ⟨hlen,h | ⟨g,cp,cur,rfl,hg,hh,h1,h2,h3,h4⟩⟩:=HO.out
      · exact absurd h.1 HN.out
      obtain ⟨hR,hb,ha,hbase,hob,hoa⟩:=HR.out
      have hRlt:R<w.heap.size:=lt_of_block hR
      have OB:Hid (wr.ownsRow base 25 1 vb m xsb):=zal hob HB.out
      have OA:Hid (wr.ownsRow base 3 1 va m xsa):=zal hoa HB.out
      have hR':wr.heap[R]?=some (.cells cs 48 (0,0)):=(HB.out.block R hRlt).trans hR
      have cR0:wr.cell? ⟨R,6,none⟩=some vb:=by simp [World.cell?,hR',hb]
      have HG:Hid (w.heap.size≤g∧wr.heap[g]?=some (.cells cur 98 (0,0))∧len+40≤cp∧cur.size=cp*2∧cur.toList.take ((len+40)*2)=xs++mA 40∧R<w.heap.size∧wr.heap[R]?=some (.cells cs 48 (0,0))):=⟨hg,hh,h1,h3,h4,hRlt,hR'⟩
      clear hR hb ha hbase hob hoa hg hh h2 h3 h4 hlen hR'
      have hbs:base≤wr.heap.size:=by have:=HB.out.size;have:=HR.out.2.2.2.1;have:=HG.out.2.2.2.2.2.1;omega
      go_wp2_with (at_builtin;refine wpList_append_own _ rfl (.tmp 28) (.tmp 30) 36 rfl base 25 j0 (.slice none 0 0) 1 24 Tryz.underlying36 hj hj0 hj1 hj2 rfl (by decide) _ _ _ rfl (OB.out.alloc _) ⟨_,0,none⟩ 1 1 [.slice (some ⟨g,0,none⟩) (len+40) cp] rfl rfl ?f1 ?f2 ?f3 ?f4 ?f5 ?_)
      case f1=>exact cell_one_new _ _ _
      case f2=>intro u hu;simp at hu;subst hu;rfl
      case f3=>unfold maxLen;omega
      case f4=>omega
      case f5=>simp;omega
      intro v3 w3 hown3 hgrow3 hnil3
      obtain ⟨gv,cv,rfl⟩:=zat hown3 hnil3
      clear hnil3
      have L:=zbk (i:=6) (by decide) (by decide) HB.out HG.out.2.2.2.2.2.1 HR.out.2.2.2.1 HG.out.2.2.2.2.2.2 OB.out OA.out KB.out HG.out.1 HG.out.2.1 hown3 hgrow3
      have f3:w3.frozen? ⟨R,6,none⟩=false:=by simp [World.frozen?,L.1]
      have g3:w3.cell? ⟨R,6,none⟩=some vb:=by simp [World.cell?,L.1,HR.out.2.1]
      have k3:w3.cell? ⟨R,7,none⟩=some va:=by simp [World.cell?,L.1,HR.out.2.2.1]
      have HX:Hid (w3.ownsRow base 25 1 (.slice (some ⟨gv,0,none⟩) (m+1) cv) (m+1) (xsb++[.slice (some ⟨g,0,none⟩) (len+40) cp])):=hown3
      have hws3:Hid (w.heap.size≤w3.heap.size):=Nat.le_trans HB.out.size (Nat.le_trans (by simp) hgrow3.size)
      clear hown3 hgrow3
      obtain ⟨l1,l2,l3,l4,l5,l6,l7⟩:=L
      have HLL:Hid (w3.heap[R]?=some (.cells cs 48 (0,0))∧w3.ownsRow base 3 1 va m xsa∧w3.heap[g]?=some (.cells cur 98 (0,0))∧Below base w w3∧(w3.setCell ⟨R,6,none⟩ (.slice (some ⟨gv,0,none⟩) (m+1) cv)).ownsRow base 3 1 va m xsa):=⟨l1,l2,l3,l4,l5⟩
      have HF:Hid (Frm w w3 R vb va):=l7
      clear l1 l2 l3 l4 l5 l7
      go_wp2_with (at_builtin;refine zaw rfl (.tmp 38) (.tmp 41) 26 rfl base 3 l0 (.int .i64 0) 1 8 Tryz.underlying26 hl hl0 hl1 hl2 rfl (by decide) _ _ _ rfl (HLL.out.2.2.2.2.alloc _) ⟨_,0,none⟩ 1 1 [.int .i64 len] rfl (by decide) rfl ?q1 ?q2 ?q3 ?q4 ?q5 ?_)
      case q1=>exact zaE _ _ _ _ _
      case q2=>intro u hu;simp at hu;subst hu;rfl
      case q3=>unfold maxLen;omega
      case q4=>omega
      case q5=>simp;omega
      intro v5 w5 hown5 hgrow5 hnil5 hwh5
      obtain ⟨ga,ca,rfl⟩:=zat hown5 hnil5
      have FR:Hid (∀ k,(Value.slice (some ⟨ga,0,none⟩) (m+1) ca).ownBlock=some k→va.ownBlock=some k∨(w.heap.size≤k∧k≠g)):=fun k e=>by
        have hgl:=za4 HLL.out.2.2.1
        have h3:=hws3.out
        rcases hwh5 with q | q
        · exact .inl (q ▸ e)
        · rw [q] at e
          simp [World.setCell] at e
          exact .inr (by omega)
      clear hwh5
      clear hnil5
      have M:=zb4 (by decide) (by decide) HLL.out.1 HLL.out.2.1 HLL.out.2.2.1 HLL.out.2.2.2.1 HR.out.2.2.2.1 hws3.out KA.out HG.out.1 HG.out.2.2.2.2.2.1 HF.out HX.out hown5 hgrow5
      have f5:w5.frozen? ⟨R,7,none⟩=false:=by simp [World.frozen?,M.1]
      have g5:w5.cell? ⟨R,7,none⟩=some va:=by have h:=HR.out.2.2.1;simp [World.cell?,M.1,h]
      obtain ⟨_,m2,m3,m4,m5,m6,m7,m8⟩:=M
      have HM:Hid (w.heap.size≤g∧(w5.setCell ⟨R,7,none⟩ (.slice (some ⟨ga,0,none⟩) (m+1) ca)).heap[g]?=some (.cells cur 98 (0,0))∧cur.size=cp*2∧len+40≤cp∧cur.toList.take ((len+40)*2)=xs++mA 40 ∧
        (w5.setCell ⟨R,7,none⟩ (.slice (some ⟨ga,0,none⟩) (m+1) ca)).heap[R]?=some (.cells ((cs.setIfInBounds 6 (.slice (some ⟨gv,0,none⟩) (m+1) cv)).setIfInBounds 7 (.slice (some ⟨ga,0,none⟩) (m+1) ca)) 48 (0,0)) ∧
        (w5.setCell ⟨R,7,none⟩ (.slice (some ⟨ga,0,none⟩) (m+1) ca)).ownsRow base 25 1 (.slice (some ⟨gv,0,none⟩) (m+1) cv) (m+1) (xsb++[.slice (some ⟨g,0,none⟩) (len+40) cp])∧(w5.setCell ⟨R,7,none⟩ (.slice (some ⟨ga,0,none⟩) (m+1) ca)).ownsRow base 3 1 (.slice (some ⟨ga,0,none⟩) (m+1) ca) (m+1) (xsa++[.int .i64 len]) ∧
        Below base w (w5.setCell ⟨R,7,none⟩ (.slice (some ⟨ga,0,none⟩) (m+1) ca))∧Frm w (w5.setCell ⟨R,7,none⟩ (.slice (some ⟨ga,0,none⟩) (m+1) ca)) R vb va∧w.heap.size≤(w5.setCell ⟨R,7,none⟩ (.slice (some ⟨ga,0,none⟩) (m+1) ca)).heap.size):=⟨HG.out.1,m5,HG.out.2.2.2.1,h1,HG.out.2.2.2.2.1,m2,m3,m4,m6,m7,m8⟩
      clear hown5 hgrow5 m2 m3 m4 m5 m6 m7 m8
      go_wp2
      go_ret
      exact ⟨g,cp,cur,_,_,rfl,FR.out,HM.out⟩
theorem Tryz.infoIe:(Tryz.prog.info? 3).map (fun i=>(i.zero,i.size,i.bytes))=some (some (.int .i64 0),1,8):=by kernel_rfl
theorem Tryz.infoIt:(Tryz.prog.info? 26).map (fun i=>(i.zero,i.size,i.bytes))=some (some (.slice none 0 0),1,24):=by kernel_rfl
theorem Tryz.infoIn:(Tryz.prog.info? 3).map (fun i=>(i.zero,i.size,i.bytes))=some (some (.int .i64 0),1,8):=by kernel_rfl
theorem layI (R base m:Nat) (cs:Array Value) (vb va:Value) (xsb xsa:List Value) (s:Sl) (xs:List Value) (w:World) (hm:s.n≤1000000) (hm1:m≤1000) (hl:xs.length=s.n*1) (h1:∀ u ∈ xs,u.oneCell'=true) (hc:Src w s xs)
    (hR:w.heap[R]?=some (.cells cs 48 (0,0))) (hb:cs[2]?=some vb) (ha:cs[3]?=some va) (hbase:base≤R) (hob:w.ownsRow base 26 1 vb m xsb) (hoa:w.ownsRow base 3 1 va m xsa) :
    Calls Tryz.prog 110 #[.pointer (some ⟨R,0,none⟩),.slice s.a s.n s.c,.int .i64 40] w fun e w'=>∃ g cp cur vb' va',e = .returned (.slice (some ⟨g,0,none⟩) s.n (s.n+40))∧(∀ k,va'.ownBlock=some k→va.ownBlock=some k∨(w.heap.size≤k∧k≠g)) ∧
      w.heap.size≤g∧w'.heap[g]?=some (.cells cur 3 (0,0))∧cur.size=cp*1∧s.n+40≤cp∧cur.toList.take ((s.n+40)*1)=xs++mI 40 ∧
      w'.heap[R]?=some (.cells ((cs.setIfInBounds 2 vb').setIfInBounds 3 va') 48 (0,0))∧w'.ownsRow base 26 1 vb' (m+1) (xsb++[.slice (some ⟨g,0,none⟩) (s.n+40) cp])∧w'.ownsRow base 3 1 va' (m+1) (xsa++[.int .i64 s.n]) ∧
      Below base w w'∧Frm w w' R vb va∧w.heap.size≤w'.heap.size:=by
  obtain ⟨sa,len,sc⟩:=s
  simp only at hm hl ⊢
  have HR:Hid (w.heap[R]?=some (.cells cs 48 (0,0))∧cs[2]?=some vb∧cs[3]?=some va∧base≤R∧w.ownsRow base 26 1 vb m xsb∧w.ownsRow base 3 1 va m xsa):=⟨hR,hb,ha,hbase,hob,hoa⟩
  have KB:Hid (∀ k,vb.ownBlock=some k→k<w.heap.size):=fun k hk=>(hob.lt k hk).2
  have KA:Hid (∀ k,va.ownBlock=some k→k<w.heap.size):=fun k hk=>(hoa.lt k hk).2
  have HL:Hid (xs.length=len*1∧(∀ u ∈ xs,u.oneCell'=true)∧Src w ⟨sa,len,sc⟩ xs):=⟨hl,h1,hc⟩
  clear hR hb ha hbase hob hoa hl h1 hc
  obtain ⟨j0,hj,hj0,hj1,hj2⟩:=info_parts Tryz.infoIt
  obtain ⟨l0,hl,hl0,hl1,hl2⟩:=info_parts Tryz.infoIn
  obtain ⟨i0,hi,hz0,hz1,hz2⟩:=info_parts Tryz.infoIe
  have OWN0:Hid ((w.alloc (.cells #[] 3)).ownsRow w.heap.size 3 1 (.slice (some ⟨w.heap.size,0,none⟩) 0 0) 0 []):=World.ownsRow_made w #[] 0 (Nat.le_refl _) (by decide) (by decide)
  go_enter Tryz.func110,Tryz.ntmps110
  go_wp2_with (at_builtin;refine zaJ rfl (.tmp 10) (.tmp 11) 26 rfl w.heap.size 3 i0 (.int .i64 0) 1 8 Tryz.underlying26 hi hz0 hz1 hz2 rfl (by decide) _ _ _ rfl OWN0.out sa len sc xs rfl HL.out.1 ?c1 HL.out.2.1 ?c3 ?c4 ?c5 ?c6 ?_)
  case c1=>exact HL.out.2.2.below (below1 _ _)
  case c3=>unfold maxLen;omega
  case c4=>omega
  case c5=>simp
  case c6=>show (Value.slice (some ⟨w.heap.size,0,none⟩) 0 0)≠_;simp
  intro v1 w1 hown1 hgrow1 hnil1
  have hb1:Below w.heap.size w w1:=((Below.refl w.heap.size w).alloc (Nat.le_refl _) _).grown hgrow1 (by simp) (by intro k hk;simp [Value.ownBlock] at hk;omega)
  have HS:Hid (w1.ownsRow w.heap.size 3 1 v1 (len+0) (xs++mI 0)∧Below w.heap.size w w1∧v1≠.slice none 0 0):=⟨by simpa [mI] using hown1,hb1,hnil1⟩
  clear hown1 hgrow1 hnil1 hb1
  go_wp2
  go_loopw [7,8] (fun v i wr=>∃ k:Nat,k≤40∧i = .int .i64 k∧wr.ownsRow w.heap.size 3 1 v (len+k) (xs++mI k)∧Below w.heap.size w wr∧v≠.slice none 0 0) (fun _ i _=>40-(intOf i).toNat)
  case atStart=>exact ⟨0,by omega,rfl,HS.out⟩
  case round =>
    obtain ⟨k,hk,rfl,hown,hbel,hnn⟩:=hrel
    have HO:Hid (wr.ownsRow w.heap.size 3 1 u7 (len+k) (xs++mI k)):=hown
    have HB:Hid (Below w.heap.size w wr):=hbel
    have HN:Hid (u7≠.slice none 0 0):=hnn
    clear hown hbel hnn
    by_cases hlt:k<40
    · have HL0:Hid (∀ w,Calls Tryz.prog 132 #[.int .i64 k] w fun e w'=>e = .returned (.int .i64 (lotI k))∧w'=w):=fun w=>zbj k (by omega) w
      go_wp2_with (first | (go_at_call 132;refine (HL0.out _).mono ?_;rintro e w' ⟨rfl,rfl⟩)|(at_builtin;refine wpList_append_own _ rfl (.tmp 18) (.tmp 21) 26 rfl w.heap.size 3 i0 (.int .i64 0) 1 8 Tryz.underlying26 hi hz0 hz1 hz2 rfl (by decide) _ _ _ rfl (HO.out.alloc _) ⟨_,0,none⟩ 1 1 [.int .i64 (lotI k)] rfl rfl ?d1 ?d2 ?d3 ?d4 ?d5 ?_))
      case d1=>exact cell_one_new _ _ _
      case d2=>intro u hu;simp at hu;subst hu;rfl
      case d3=>unfold maxLen;omega
      case d4=>omega
      case d5=>have:=HB.out.size;simp;omega
      intro v2 w2 hown2 hgrow2 hnil2
      have hb2:=(HB.out.alloc HB.out.size _).grown hgrow2 (by have:=HB.out.size;simp;omega) (by intro q hq;exact (HO.out.lt _ hq).1)
      have HS2:Hid (w2.ownsRow w.heap.size 3 1 v2 (len+(k+1)) (xs++mI (k+1))∧Below w.heap.size w w2∧v2≠.slice none 0 0):=⟨by rw [mI_succ];exact hown2,hb2,hnil2⟩
      clear hown2 hgrow2 hnil2 hb2
      go_wp2
      go_roundw
      case rel=>exact ⟨k+1,by omega,by go_num,HS2.out⟩
      case measure=>simp [intOf];omega
    · obtain rfl:k=40:=by omega
      obtain ⟨hlen,h | ⟨g,cp,cur,rfl,hg,hh,h1,h2,h3,h4⟩⟩:=HO.out
      · exact absurd h.1 HN.out
      obtain ⟨hR,hb,ha,hbase,hob,hoa⟩:=HR.out
      have hRlt:R<w.heap.size:=lt_of_block hR
      have OB:Hid (wr.ownsRow base 26 1 vb m xsb):=zal hob HB.out
      have OA:Hid (wr.ownsRow base 3 1 va m xsa):=zal hoa HB.out
      have hR':wr.heap[R]?=some (.cells cs 48 (0,0)):=(HB.out.block R hRlt).trans hR
      have cR0:wr.cell? ⟨R,2,none⟩=some vb:=by simp [World.cell?,hR',hb]
      have HG:Hid (w.heap.size≤g∧wr.heap[g]?=some (.cells cur 3 (0,0))∧len+40≤cp∧cur.size=cp*1∧cur.toList.take ((len+40)*1)=xs++mI 40∧R<w.heap.size∧wr.heap[R]?=some (.cells cs 48 (0,0))):=⟨hg,hh,h1,h3,h4,hRlt,hR'⟩
      clear hR hb ha hbase hob hoa hg hh h2 h3 h4 hlen hR'
      have hbs:base≤wr.heap.size:=by have:=HB.out.size;have:=HR.out.2.2.2.1;have:=HG.out.2.2.2.2.2.1;omega
      go_wp2_with (at_builtin;refine wpList_append_own _ rfl (.tmp 27) (.tmp 29) 34 rfl base 26 j0 (.slice none 0 0) 1 24 Tryz.underlying34 hj hj0 hj1 hj2 rfl (by decide) _ _ _ rfl (OB.out.alloc _) ⟨_,0,none⟩ 1 1 [.slice (some ⟨g,0,none⟩) (len+40) cp] rfl rfl ?f1 ?f2 ?f3 ?f4 ?f5 ?_)
      case f1=>exact cell_one_new _ _ _
      case f2=>intro u hu;simp at hu;subst hu;rfl
      case f3=>unfold maxLen;omega
      case f4=>omega
      case f5=>simp;omega
      intro v3 w3 hown3 hgrow3 hnil3
      obtain ⟨gv,cv,rfl⟩:=zat hown3 hnil3
      clear hnil3
      have L:=zbk (i:=2) (by decide) (by decide) HB.out HG.out.2.2.2.2.2.1 HR.out.2.2.2.1 HG.out.2.2.2.2.2.2 OB.out OA.out KB.out HG.out.1 HG.out.2.1 hown3 hgrow3
      have f3:w3.frozen? ⟨R,2,none⟩=false:=by simp [World.frozen?,L.1]
      have g3:w3.cell? ⟨R,2,none⟩=some vb:=by simp [World.cell?,L.1,HR.out.2.1]
      have k3:w3.cell? ⟨R,3,none⟩=some va:=by simp [World.cell?,L.1,HR.out.2.2.1]
      have HX:Hid (w3.ownsRow base 26 1 (.slice (some ⟨gv,0,none⟩) (m+1) cv) (m+1) (xsb++[.slice (some ⟨g,0,none⟩) (len+40) cp])):=hown3
      have hws3:Hid (w.heap.size≤w3.heap.size):=Nat.le_trans HB.out.size (Nat.le_trans (by simp) hgrow3.size)
      clear hown3 hgrow3
      obtain ⟨l1,l2,l3,l4,l5,l6,l7⟩:=L
      have HLL:Hid (w3.heap[R]?=some (.cells cs 48 (0,0))∧w3.ownsRow base 3 1 va m xsa∧w3.heap[g]?=some (.cells cur 3 (0,0))∧Below base w w3∧(w3.setCell ⟨R,2,none⟩ (.slice (some ⟨gv,0,none⟩) (m+1) cv)).ownsRow base 3 1 va m xsa):=⟨l1,l2,l3,l4,l5⟩
      have HF:Hid (Frm w w3 R vb va):=l7
      clear l1 l2 l3 l4 l5 l7
      go_wp2_with (at_builtin;refine zaw rfl (.tmp 37) (.tmp 40) 26 rfl base 3 l0 (.int .i64 0) 1 8 Tryz.underlying26 hl hl0 hl1 hl2 rfl (by decide) _ _ _ rfl (HLL.out.2.2.2.2.alloc _) ⟨_,0,none⟩ 1 1 [.int .i64 len] rfl (by decide) rfl ?q1 ?q2 ?q3 ?q4 ?q5 ?_)
      case q1=>exact zaE _ _ _ _ _
      case q2=>intro u hu;simp at hu;subst hu;rfl
      case q3=>unfold maxLen;omega
      case q4=>omega
      case q5=>simp;omega
      intro v5 w5 hown5 hgrow5 hnil5 hwh5
      obtain ⟨ga,ca,rfl⟩:=zat hown5 hnil5
      have FR:Hid (∀ k,(Value.slice (some ⟨ga,0,none⟩) (m+1) ca).ownBlock=some k→va.ownBlock=some k∨(w.heap.size≤k∧k≠g)):=fun k e=>by
        have hgl:=za4 HLL.out.2.2.1
        have h3:=hws3.out
        rcases hwh5 with q | q
        · exact .inl (q ▸ e)
        · rw [q] at e
          simp [World.setCell] at e
          exact .inr (by omega)
      clear hwh5
      clear hnil5
      have M:=zb4 (by decide) (by decide) HLL.out.1 HLL.out.2.1 HLL.out.2.2.1 HLL.out.2.2.2.1 HR.out.2.2.2.1 hws3.out KA.out HG.out.1 HG.out.2.2.2.2.2.1 HF.out HX.out hown5 hgrow5
      have f5:w5.frozen? ⟨R,3,none⟩=false:=by simp [World.frozen?,M.1]
      have g5:w5.cell? ⟨R,3,none⟩=some va:=by have h:=HR.out.2.2.1;simp [World.cell?,M.1,h]
      obtain ⟨_,m2,m3,m4,m5,m6,m7,m8⟩:=M
      have HM:Hid (w.heap.size≤g∧(w5.setCell ⟨R,3,none⟩ (.slice (some ⟨ga,0,none⟩) (m+1) ca)).heap[g]?=some (.cells cur 3 (0,0))∧cur.size=cp*1∧len+40≤cp∧cur.toList.take ((len+40)*1)=xs++mI 40 ∧
        (w5.setCell ⟨R,3,none⟩ (.slice (some ⟨ga,0,none⟩) (m+1) ca)).heap[R]?=some (.cells ((cs.setIfInBounds 2 (.slice (some ⟨gv,0,none⟩) (m+1) cv)).setIfInBounds 3 (.slice (some ⟨ga,0,none⟩) (m+1) ca)) 48 (0,0)) ∧
        (w5.setCell ⟨R,3,none⟩ (.slice (some ⟨ga,0,none⟩) (m+1) ca)).ownsRow base 26 1 (.slice (some ⟨gv,0,none⟩) (m+1) cv) (m+1) (xsb++[.slice (some ⟨g,0,none⟩) (len+40) cp])∧(w5.setCell ⟨R,3,none⟩ (.slice (some ⟨ga,0,none⟩) (m+1) ca)).ownsRow base 3 1 (.slice (some ⟨ga,0,none⟩) (m+1) ca) (m+1) (xsa++[.int .i64 len]) ∧
        Below base w (w5.setCell ⟨R,3,none⟩ (.slice (some ⟨ga,0,none⟩) (m+1) ca))∧Frm w (w5.setCell ⟨R,3,none⟩ (.slice (some ⟨ga,0,none⟩) (m+1) ca)) R vb va∧w.heap.size≤(w5.setCell ⟨R,3,none⟩ (.slice (some ⟨ga,0,none⟩) (m+1) ca)).heap.size):=⟨HG.out.1,m5,HG.out.2.2.2.1,h1,HG.out.2.2.2.2.1,m2,m3,m4,m6,m7,m8⟩
      clear hown5 hgrow5 m2 m3 m4 m5 m6 m7 m8
      go_wp2
      go_ret
      exact ⟨g,cp,cur,_,_,rfl,FR.out,HM.out⟩
theorem Tryz.infoSe:(Tryz.prog.info? 9).map (fun i=>(i.zero,i.size,i.bytes))=some (some (.string ⟨#[]⟩),1,16):=by kernel_rfl
theorem Tryz.infoSt:(Tryz.prog.info? 27).map (fun i=>(i.zero,i.size,i.bytes))=some (some (.slice none 0 0),1,24):=by kernel_rfl
theorem Tryz.infoSn:(Tryz.prog.info? 3).map (fun i=>(i.zero,i.size,i.bytes))=some (some (.int .i64 0),1,8):=by kernel_rfl
theorem layS (R base m:Nat) (cs:Array Value) (vb va:Value) (xsb xsa:List Value) (s:Sl) (xs:List Value) (w:World) (hm:s.n≤1000000) (hm1:m≤1000) (hl:xs.length=s.n*1) (h1:∀ u ∈ xs,u.oneCell'=true) (hc:Src w s xs)
    (hR:w.heap[R]?=some (.cells cs 48 (0,0))) (hb:cs[4]?=some vb) (ha:cs[5]?=some va) (hbase:base≤R) (hob:w.ownsRow base 27 1 vb m xsb) (hoa:w.ownsRow base 3 1 va m xsa) :
    Calls Tryz.prog 111 #[.pointer (some ⟨R,0,none⟩),.slice s.a s.n s.c,.int .i64 40] w fun e w'=>∃ g cp cur vb' va',e = .returned (.slice (some ⟨g,0,none⟩) s.n (s.n+40))∧(∀ k,va'.ownBlock=some k→va.ownBlock=some k∨(w.heap.size≤k∧k≠g)) ∧
      w.heap.size≤g∧w'.heap[g]?=some (.cells cur 9 (0,0))∧cur.size=cp*1∧s.n+40≤cp∧cur.toList.take ((s.n+40)*1)=xs++mS 40 ∧
      w'.heap[R]?=some (.cells ((cs.setIfInBounds 4 vb').setIfInBounds 5 va') 48 (0,0))∧w'.ownsRow base 27 1 vb' (m+1) (xsb++[.slice (some ⟨g,0,none⟩) (s.n+40) cp])∧w'.ownsRow base 3 1 va' (m+1) (xsa++[.int .i64 s.n]) ∧
      Below base w w'∧Frm w w' R vb va∧w.heap.size≤w'.heap.size:=by
  obtain ⟨sa,len,sc⟩:=s
  simp only at hm hl ⊢
  have HR:Hid (w.heap[R]?=some (.cells cs 48 (0,0))∧cs[4]?=some vb∧cs[5]?=some va∧base≤R∧w.ownsRow base 27 1 vb m xsb∧w.ownsRow base 3 1 va m xsa):=⟨hR,hb,ha,hbase,hob,hoa⟩
  have KB:Hid (∀ k,vb.ownBlock=some k→k<w.heap.size):=fun k hk=>(hob.lt k hk).2
  have KA:Hid (∀ k,va.ownBlock=some k→k<w.heap.size):=fun k hk=>(hoa.lt k hk).2
  have HL:Hid (xs.length=len*1∧(∀ u ∈ xs,u.oneCell'=true)∧Src w ⟨sa,len,sc⟩ xs):=⟨hl,h1,hc⟩
  clear hR hb ha hbase hob hoa hl h1 hc
  obtain ⟨j0,hj,hj0,hj1,hj2⟩:=info_parts Tryz.infoSt
  obtain ⟨l0,hl,hl0,hl1,hl2⟩:=info_parts Tryz.infoSn
  obtain ⟨i0,hi,hz0,hz1,hz2⟩:=info_parts Tryz.infoSe
  have OWN0:Hid ((w.alloc (.cells #[] 9)).ownsRow w.heap.size 9 1 (.slice (some ⟨w.heap.size,0,none⟩) 0 0) 0 []):=World.ownsRow_made w #[] 0 (Nat.le_refl _) (by decide) (by decide)
  go_enter Tryz.func111,Tryz.ntmps111
  go_wp2_with (at_builtin;refine zaJ rfl (.tmp 10) (.tmp 11) 27 rfl w.heap.size 9 i0 (.string ⟨#[]⟩) 1 16 Tryz.underlying27 hi hz0 hz1 hz2 rfl (by decide) _ _ _ rfl OWN0.out sa len sc xs rfl HL.out.1 ?c1 HL.out.2.1 ?c3 ?c4 ?c5 ?c6 ?_)
  case c1=>exact HL.out.2.2.below (below1 _ _)
  case c3=>unfold maxLen;omega
  case c4=>omega
  case c5=>simp
  case c6=>show (Value.slice (some ⟨w.heap.size,0,none⟩) 0 0)≠_;simp
  intro v1 w1 hown1 hgrow1 hnil1
  have hb1:Below w.heap.size w w1:=((Below.refl w.heap.size w).alloc (Nat.le_refl _) _).grown hgrow1 (by simp) (by intro k hk;simp [Value.ownBlock] at hk;omega)
  have HS:Hid (w1.ownsRow w.heap.size 9 1 v1 (len+0) (xs++mS 0)∧Below w.heap.size w w1∧v1≠.slice none 0 0):=⟨by simpa [mS] using hown1,hb1,hnil1⟩
  clear hown1 hgrow1 hnil1 hb1
  go_wp2
  go_loopw [7,8] (fun v i wr=>∃ k:Nat,k≤40∧i = .int .i64 k∧wr.ownsRow w.heap.size 9 1 v (len+k) (xs++mS k)∧Below w.heap.size w wr∧v≠.slice none 0 0) (fun _ i _=>40-(intOf i).toNat)
  case atStart=>exact ⟨0,by omega,rfl,HS.out⟩
  case round =>
    obtain ⟨k,hk,rfl,hown,hbel,hnn⟩:=hrel
    have HO:Hid (wr.ownsRow w.heap.size 9 1 u7 (len+k) (xs++mS k)):=hown
    have HB:Hid (Below w.heap.size w wr):=hbel
    have HN:Hid (u7≠.slice none 0 0):=hnn
    clear hown hbel hnn
    by_cases hlt:k<40
    · have HL0:Hid (∀ w,Calls Tryz.prog 133 #[.int .i64 k] w fun e w'=>e = .returned (.string (wordB k))∧w'=w):=fun w=>zb5 k (by omega) w
      go_wp2_with (first | (go_at_call 133;refine (HL0.out _).mono ?_;rintro e w' ⟨rfl,rfl⟩)|(at_builtin;refine wpList_append_own _ rfl (.tmp 18) (.tmp 21) 27 rfl w.heap.size 9 i0 (.string ⟨#[]⟩) 1 16 Tryz.underlying27 hi hz0 hz1 hz2 rfl (by decide) _ _ _ rfl (HO.out.alloc _) ⟨_,0,none⟩ 1 1 [.string (wordB k)] rfl rfl ?d1 ?d2 ?d3 ?d4 ?d5 ?_))
      case d1=>exact cell_one_new _ _ _
      case d2=>intro u hu;simp at hu;subst hu;rfl
      case d3=>unfold maxLen;omega
      case d4=>omega
      case d5=>have:=HB.out.size;simp;omega
      intro v2 w2 hown2 hgrow2 hnil2
      have hb2:=(HB.out.alloc HB.out.size _).grown hgrow2 (by have:=HB.out.size;simp;omega) (by intro q hq;exact (HO.out.lt _ hq).1)
      have HS2:Hid (w2.ownsRow w.heap.size 9 1 v2 (len+(k+1)) (xs++mS (k+1))∧Below w.heap.size w w2∧v2≠.slice none 0 0):=⟨by rw [mS_succ];exact hown2,hb2,hnil2⟩
      clear hown2 hgrow2 hnil2 hb2
      go_wp2
      go_roundw
      case rel=>exact ⟨k+1,by omega,by go_num,HS2.out⟩
      case measure=>simp [intOf];omega
    · obtain rfl:k=40:=by omega
      obtain ⟨hlen,h | ⟨g,cp,cur,rfl,hg,hh,h1,h2,h3,h4⟩⟩:=HO.out
      · exact absurd h.1 HN.out
      obtain ⟨hR,hb,ha,hbase,hob,hoa⟩:=HR.out
      have hRlt:R<w.heap.size:=lt_of_block hR
      have OB:Hid (wr.ownsRow base 27 1 vb m xsb):=zal hob HB.out
      have OA:Hid (wr.ownsRow base 3 1 va m xsa):=zal hoa HB.out
      have hR':wr.heap[R]?=some (.cells cs 48 (0,0)):=(HB.out.block R hRlt).trans hR
      have cR0:wr.cell? ⟨R,4,none⟩=some vb:=by simp [World.cell?,hR',hb]
      have HG:Hid (w.heap.size≤g∧wr.heap[g]?=some (.cells cur 9 (0,0))∧len+40≤cp∧cur.size=cp*1∧cur.toList.take ((len+40)*1)=xs++mS 40∧R<w.heap.size∧wr.heap[R]?=some (.cells cs 48 (0,0))):=⟨hg,hh,h1,h3,h4,hRlt,hR'⟩
      clear hR hb ha hbase hob hoa hg hh h2 h3 h4 hlen hR'
      have hbs:base≤wr.heap.size:=by have:=HB.out.size;have:=HR.out.2.2.2.1;have:=HG.out.2.2.2.2.2.1;omega
      go_wp2_with (at_builtin;refine wpList_append_own _ rfl (.tmp 27) (.tmp 29) 35 rfl base 27 j0 (.slice none 0 0) 1 24 Tryz.underlying35 hj hj0 hj1 hj2 rfl (by decide) _ _ _ rfl (OB.out.alloc _) ⟨_,0,none⟩ 1 1 [.slice (some ⟨g,0,none⟩) (len+40) cp] rfl rfl ?f1 ?f2 ?f3 ?f4 ?f5 ?_)
      case f1=>exact cell_one_new _ _ _
      case f2=>intro u hu;simp at hu;subst hu;rfl
      case f3=>unfold maxLen;omega
      case f4=>omega
      case f5=>simp;omega
      intro v3 w3 hown3 hgrow3 hnil3
      obtain ⟨gv,cv,rfl⟩:=zat hown3 hnil3
      clear hnil3
      have L:=zbk (i:=4) (by decide) (by decide) HB.out HG.out.2.2.2.2.2.1 HR.out.2.2.2.1 HG.out.2.2.2.2.2.2 OB.out OA.out KB.out HG.out.1 HG.out.2.1 hown3 hgrow3
      have f3:w3.frozen? ⟨R,4,none⟩=false:=by simp [World.frozen?,L.1]
      have g3:w3.cell? ⟨R,4,none⟩=some vb:=by simp [World.cell?,L.1,HR.out.2.1]
      have k3:w3.cell? ⟨R,5,none⟩=some va:=by simp [World.cell?,L.1,HR.out.2.2.1]
      have HX:Hid (w3.ownsRow base 27 1 (.slice (some ⟨gv,0,none⟩) (m+1) cv) (m+1) (xsb++[.slice (some ⟨g,0,none⟩) (len+40) cp])):=hown3
      have hws3:Hid (w.heap.size≤w3.heap.size):=Nat.le_trans HB.out.size (Nat.le_trans (by simp) hgrow3.size)
      clear hown3 hgrow3
      obtain ⟨l1,l2,l3,l4,l5,l6,l7⟩:=L
      have HLL:Hid (w3.heap[R]?=some (.cells cs 48 (0,0))∧w3.ownsRow base 3 1 va m xsa∧w3.heap[g]?=some (.cells cur 9 (0,0))∧Below base w w3∧(w3.setCell ⟨R,4,none⟩ (.slice (some ⟨gv,0,none⟩) (m+1) cv)).ownsRow base 3 1 va m xsa):=⟨l1,l2,l3,l4,l5⟩
      have HF:Hid (Frm w w3 R vb va):=l7
      clear l1 l2 l3 l4 l5 l7
      go_wp2_with (at_builtin;refine zaw rfl (.tmp 37) (.tmp 40) 26 rfl base 3 l0 (.int .i64 0) 1 8 Tryz.underlying26 hl hl0 hl1 hl2 rfl (by decide) _ _ _ rfl (HLL.out.2.2.2.2.alloc _) ⟨_,0,none⟩ 1 1 [.int .i64 len] rfl (by decide) rfl ?q1 ?q2 ?q3 ?q4 ?q5 ?_)
      case q1=>exact zaE _ _ _ _ _
      case q2=>intro u hu;simp at hu;subst hu;rfl
      case q3=>unfold maxLen;omega
      case q4=>omega
      case q5=>simp;omega
      intro v5 w5 hown5 hgrow5 hnil5 hwh5
      obtain ⟨ga,ca,rfl⟩:=zat hown5 hnil5
      have FR:Hid (∀ k,(Value.slice (some ⟨ga,0,none⟩) (m+1) ca).ownBlock=some k→va.ownBlock=some k∨(w.heap.size≤k∧k≠g)):=fun k e=>by
        have hgl:=za4 HLL.out.2.2.1
        have h3:=hws3.out
        rcases hwh5 with q | q
        · exact .inl (q ▸ e)
        · rw [q] at e
          simp [World.setCell] at e
          exact .inr (by omega)
      clear hwh5
      clear hnil5
      have M:=zb4 (by decide) (by decide) HLL.out.1 HLL.out.2.1 HLL.out.2.2.1 HLL.out.2.2.2.1 HR.out.2.2.2.1 hws3.out KA.out HG.out.1 HG.out.2.2.2.2.2.1 HF.out HX.out hown5 hgrow5
      have f5:w5.frozen? ⟨R,5,none⟩=false:=by simp [World.frozen?,M.1]
      have g5:w5.cell? ⟨R,5,none⟩=some va:=by have h:=HR.out.2.2.1;simp [World.cell?,M.1,h]
      obtain ⟨_,m2,m3,m4,m5,m6,m7,m8⟩:=M
      have HM:Hid (w.heap.size≤g∧(w5.setCell ⟨R,5,none⟩ (.slice (some ⟨ga,0,none⟩) (m+1) ca)).heap[g]?=some (.cells cur 9 (0,0))∧cur.size=cp*1∧len+40≤cp∧cur.toList.take ((len+40)*1)=xs++mS 40 ∧
        (w5.setCell ⟨R,5,none⟩ (.slice (some ⟨ga,0,none⟩) (m+1) ca)).heap[R]?=some (.cells ((cs.setIfInBounds 4 (.slice (some ⟨gv,0,none⟩) (m+1) cv)).setIfInBounds 5 (.slice (some ⟨ga,0,none⟩) (m+1) ca)) 48 (0,0)) ∧
        (w5.setCell ⟨R,5,none⟩ (.slice (some ⟨ga,0,none⟩) (m+1) ca)).ownsRow base 27 1 (.slice (some ⟨gv,0,none⟩) (m+1) cv) (m+1) (xsb++[.slice (some ⟨g,0,none⟩) (len+40) cp])∧(w5.setCell ⟨R,5,none⟩ (.slice (some ⟨ga,0,none⟩) (m+1) ca)).ownsRow base 3 1 (.slice (some ⟨ga,0,none⟩) (m+1) ca) (m+1) (xsa++[.int .i64 len]) ∧
        Below base w (w5.setCell ⟨R,5,none⟩ (.slice (some ⟨ga,0,none⟩) (m+1) ca))∧Frm w (w5.setCell ⟨R,5,none⟩ (.slice (some ⟨ga,0,none⟩) (m+1) ca)) R vb va∧w.heap.size≤(w5.setCell ⟨R,5,none⟩ (.slice (some ⟨ga,0,none⟩) (m+1) ca)).heap.size):=⟨HG.out.1,m5,HG.out.2.2.2.1,h1,HG.out.2.2.2.2.1,m2,m3,m4,m6,m7,m8⟩
      clear hown5 hgrow5 m2 m3 m4 m5 m6 m7 m8
      go_wp2
      go_ret
      exact ⟨g,cp,cur,_,_,rfl,FR.out,HM.out⟩
end Go.Proofs.YtceigllifjgalaaGreatDoor.Pkt
