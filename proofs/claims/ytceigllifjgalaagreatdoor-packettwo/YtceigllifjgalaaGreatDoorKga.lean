import Derived.Test.YtceigllifjgalaaGreatDoorKra
import Derived.Deep.CutRange
namespace Go.Proofs.YtceigllifjgalaaGreatDoor.Bk
open Go Go.RowKit
set_option linter.unusedSimpArgs false
set_option linter.unusedVariables false
set_option maxRecDepth 100000
set_option maxHeartbeats 4000000
theorem grow_kA (k0:Array Value) (bb B:Nat) (S:Nat→Prop) (D:Nat→Nat→Prop) (cs:Array Value) (rv:Nat→Value) (xs xs0:Nat→List Value) (xw0 xn0:List Value) (kk K:Nat) (t deep seen:Int) (w0 w:World)
    (hq:Bq kA k0 w0 w bb B S cs rv xs t deep seen) (hm:Mi kA w0 w B bb rv S D xw0 xn0 kk (xs 0) (xs 1) (xs 2) (xs 3) (xs 4)) (mn:Mn xs0 xs K) (hB:B≤w.heap.size) (hl:(xs0 0).length+2*K≤800000) (hI:ItS S w0) :
    Calls Tryz.prog 190 #[.pointer (some ⟨bb,0,none⟩)] w fun e w'=>e = .returned (.tuple #[])∧Bgrown kA k0 w0 w' bb B S D ((xs0 0).length+2*K) t deep seen:=by
  have H0:Hid (Bq kA k0 w0 w bb B S cs rv xs t deep seen):=hq
  have HMI:Hid (Mi kA w0 w B bb rv S D xw0 xn0 kk (xs 0) (xs 1) (xs 2) (xs 3) (xs 4)∧Mn xs0 xs K):=⟨hm,mn⟩
  have HF:Hid (FrL kA w w0 B bb rv S D (xs 4) (xs 7)):=frl_of hm mn
  have HB:Hid (B≤w.heap.size∧(xs 0).length+(xs 4).length≤900000):=⟨hB,by have:=mn.l04;have:=mn.l24;omega⟩
  have HI0:Hid (ItS S w0):=hI
  clear hI
  clear hq hB hl hm mn
  go_enter Tryz.func190,Tryz.ntmps190
  go_wp2_with fail
  go_loopg [2] (xs 4).length (fun gg s2 wx=>∃ (k:Nat) (D':Nat→Nat→Prop) (cs':Array Value) (rv':Nat→Value) (xo xt:List Value),s2 = .int .i64 k∧k+gg=(xs 4).length∧Hid (Bq kA k0 w0 wx bb B S cs' rv' (upd (upd xs 0 xo) 1 xt) t deep seen)∧Hid (Dk wx bb rv' D'∧PD kA wx D' xo xt∧Sb S w0 D D'∧Keeps D w wx)∧Hid (Aside w wx D D' bb rv rv' (xs 4) k)∧Hid (xo.length=(xs 0).length+k∧w.heap.size≤wx.heap.size))
  case atStart =>
    refine ⟨0,D,cs,rv,xs 0,xs 1,rfl,by omega,?_,⟨HMI.out.1.dk,HMI.out.1.pd,⟨fun _ _ q=>q,fun _ _ q=>.inl q⟩,fun _ _ _=>rfl⟩,fun g hg ho _=>⟨rfl,fun _ q=>q,ho⟩,⟨by omega,Nat.le_refl _⟩⟩
    rw [zb1];exact H0
  case round =>
    obtain ⟨k,D',cs',rv',xo,xt,hs2,hk,HQ,HDP,HA,HL⟩:=hrel
    subst hs2
    obtain ⟨a4,k4,a7,k7,c8,c11,O47⟩:=HQ.out.fresh 44 47 rfl rfl
    by_cases hlt:k<(xs 4).length
    · have p0:(k:Int)<((xs 4).length:Int):=by omega
      obtain ⟨v,hv⟩:∃ v,(xs 4)[k]?=some v:=⟨_,List.getElem?_eq_getElem hlt⟩
      obtain ⟨mk,hmk⟩:∃ v,(xs 7)[k]?=some v:=⟨_,List.getElem?_eq_getElem (by have:=HF.out.len;omega)⟩
      obtain ⟨mark,rfl⟩:=HF.out.ints k mk hmk
      obtain ⟨n,L,hol⟩:=HF.out.each k v hv
      obtain ⟨g4,ea4,c4⟩:=zac O47.out.1 hv
      obtain ⟨g7,ea7,c7⟩:=zac O47.out.2 hmk
      have HAV:Hid ((wr.heap.size=wr.heap.size)∧Ol kA wr B bb rv' D' v n L):=by
        have q:∀ g,v.ownBlock=some g→_:=fun g e=>HA.out g (hol.own.lt g e).2 (hol.lim g e).2 (fun i u hi hu e'=>ps_get HF.out.sep (show i≠k by omega) hu hv g e' e)
        exact ⟨rfl,hol.keep (fun g e=>(q g e).1) (fun g e=>(q g e).2)⟩
      have HV:Hid ((xs 4)[k]?=some v∧n≤1900000):=⟨hv,hol.few⟩
      obtain ⟨va,vc,hva⟩:=own_sl hol.own
      subst hva
      have hl7:(xs 7).length=(xs 4).length:=HF.out.len
      have p7:(k:Int)<((xs 7).length:Int):=by omega
      clear hol hv hmk
      subst ea4 ea7
      skip
      go_wp2_with fail
      go_loopg [4,5] 30 (fun gg s4 s5 wy=>∃ (i:Nat) (ga:Option Addr) (gc:Nat) (M:List Value),s4 = .slice ga (n+i) gc∧s5 = .int .i64 i∧i+gg=30∧Hid (Gw kA wr wy B n i (.slice va n vc) (.slice ga (n+i) gc) L M)∧Hid (Kd.ok kA M))
      case atStart=>exact ⟨0,va,vc,[],rfl,rfl,by omega,Gw.start HAV.out.2.own,⟨[],rfl⟩⟩
      case round =>
        obtain ⟨i,ga,gc,M,hs4,hs5,hi,GW,HM⟩:=hrel
        subst hs4 hs5
        by_cases hi5:i<30
        · have q0:(i:Int)<30:=by omega
          have hwi:IntKind.i64.wrap ((i:Int)+1)=((i+1:Nat):Int):=by rw [IntKind.wrap_i64];omega
          have SZ:Hid (B≤wr.heap.size∧i<30∧i+gk=30):=⟨by have:=HB.out.1;have:=HL.out.2;have:=GW.out.ch.size;omega,hi5,hi⟩
          have IT:Hid (Ito wr):=HI0.out _ (HQ.out.aside GW.out.ch (fun g q=>⟨(HAV.out.2.lim g q).2,HF.out.ins k _ HV.out.1 g q⟩)).ch
          go_wp2_with fail
          go_must (go_at_call 249)
          refine (IT.out _ ?b0 ?b1).mono ?_
          case b0=>first | (unfold wrap64;omega)|(rw [IntKind.wrap_i64];omega)
          case b1=>first | (unfold wrap64;omega)|(rw [IntKind.wrap_i64];omega)
          rintro e wi ⟨⟨x,rfl⟩,hbi⟩
          have GI:=(show Hid (Gw kA _ wi B n i (.slice va n vc) (.slice ga (n+i) gc) L M) from GW.out.below HAV.out.2.own hbi)
          have SZi:Hid (B≤wi.heap.size):=Nat.le_trans SZ.out.1 hbi.size
          clear hbi
          obtain ⟨wz,hwz⟩:∃ W,W=wi.alloc (.cells #[.string x,.int .i64 0] 98):=⟨_,rfl⟩
          have GZ:=(show Hid (Gw kA _ wz B n i (.slice va n vc) (.slice ga (n+i) gc) L M) from by rw [hwz];exact GI.out.below HAV.out.2.own ((Below.refl _ _).alloc (Nat.le_refl _) _))
          have ZZ:Hid (wz.heap[wi.heap.size]?=some (.cells #[.string x,.int .i64 0] 98 (0,0))):=by show _=_;rw [hwz];exact heap_alloc_new wi _
          have SZ2:Hid (B≤wz.heap.size):=by show _≤_;rw [hwz,World.size_alloc];have:=SZi.out;omega
          have OX:Hid (Kd.ok kA [.string x,.int .i64 0]):=⟨[(x,0)],rfl⟩
          have OM:Hid (Kd.ok kA (M++[.string x,.int .i64 0])):=zbF HM.out OX.out
          go_wp2_with (first | (at_builtin;rw [← hwz];refine zay (X:=[.string x,.int .i64 0]) kA_ok rfl (.tmp 33) (.tmp 41) rfl GZ.out HAV.out.2.own rfl wi.heap.size rfl rfl ZZ.out OX.out (by have:=HV.out.2;have:=SZ.out;omega) SZ2.out ?_;intro gv' w' gw' hsl;obtain ⟨ga',gc',hg'⟩:=hsl;subst hg';have GW2:=(show Hid (Gw kA _ w' B n (i+1) (.slice va n vc) (.slice ga' (n+i+1) gc') L (M++[.string x,.int .i64 0])) from gw');clear gw') | fail)
          go_roundg (30-(i+1))
          all_goals first | (have:=SZ.out;omega) | exact ⟨i+1,ga',gc',M++[.string x,.int .i64 0],rfl,rfl,by have:=SZ.out;omega,GW2,OM⟩ | exact ⟨i+1,ga',gc',M++[.string x,.int .i64 0],rfl,by simp,by have:=SZ.out;omega,GW2,OM⟩
        · have hi150:i=30:=by omega
          subst hi150
          have SZ:Hid (B≤wr.heap.size∧w.heap.size≤wr.heap.size):=⟨by have:=HB.out.1;have:=HL.out.2;have:=GW.out.ch.size;omega,by have:=HL.out.2;have:=GW.out.ch.size;omega⟩
          have GS:Hid (∀ k,(Value.slice va n vc).ownBlock=some k→S k∨w0.heap.size≤k):=HF.out.ins k _ HV.out.1
          have HQ2:=(show Hid (Bq kA k0 w0 wr bb B S cs' rv' (upd (upd xs 0 xo) 1 xt) t deep seen) from HQ.out.aside GW.out.ch (fun g q=>⟨(HAV.out.2.lim g q).2,GS.out g q⟩))
          have X0:Hid (upd (upd xs 0 xo) 1 xt 0=xo∧upd (upd xs 0 xo) 1 xt 1=xt):=⟨by rw [upd_ne _ _ (by decide),za5],za5 _ _ _⟩
          have c40:wr.cell? ⟨bb,40,none⟩=some (rv' 0):=(HQ2.out.br.cell 0 (by decide)).1
          have AL:Hid (Below wr.heap.size wr (wr.alloc (.cells #[.slice ga (n+30) gc] 25))):=(Below.refl _ _).alloc (Nat.le_refl _) _
          have BA:Hid (BR kA (wr.alloc (.cells #[.slice ga (n+30) gc] 25)) bb B cs' rv' (upd (upd xs 0 xo) 1 xt)):=HQ2.out.br.below AL.out
          go_wp2_with (first | (at_builtin;refine za3 kA_ok rfl (.tmp 47) (.tmp 49) 36 rfl BA.out 0 (by decide) Tryz.underlying36 rfl wr.heap.size (.slice ga (n+30) gc) rfl (heap_alloc_new wr _) rfl (by rw [X0.out.1];have:=HL.out.1;have:=HB.out.2;omega) (by have:=SZ.out.1;simp;omega) ?_) | fail)
          intro v2 w2 pu
          obtain ⟨a2,n2,k2,rfl,cw1,cw2,w3,hw3,cs3,H3⟩:=HQ2.out.pushed AL.out (by decide) 40 rfl pu
          clear pu
          rw [X0.out.1] at H3
          obtain ⟨xs3,hxs3⟩:∃ c,c=upd (upd (upd xs 0 xo) 1 xt) 0 (xo++[.slice ga (n+30) gc]):=⟨_,rfl⟩
          rw [← hxs3] at H3
          have X3:Hid (xs3=upd (upd (upd xs 0 xo) 1 xt) 0 (xo++[.slice ga (n+30) gc])):=hxs3
          clear hxs3 c40
          go_upto_region 10 with fail
          rw [← hw3]
          clear hw3 cw1 cw2
          have goff:∀ g,(Value.slice ga (n+30) gc).ownBlock=some g→Off bb rv' g:=fun g e=>by
            rcases GW.out.wh with q | ⟨k',q,hk'⟩
            · rw [q] at e;exact (HAV.out.2.lim g e).2
            · rw [q] at e;cases e;exact HQ.out.br.new hk'
          have CL3:=(show Hid (CL kA w3 ga (n+30) gc (L++M)) from zaa (za7 GW.out.own (fun q e=>H3.out.2.keep q (GW.out.own.lt q e).2 (goff q e))))
          clear goff
          have HM2:Hid (Kd.ok kA (L++M)):=zbF HAV.out.2.one HM.out
          have HR3:Hid (upd rv' 0 (.slice a2 n2 k2) 1=rv' 1):=upd_ne _ _ (by decide)
          have HX3:Hid (xs3 1=xt):=by show _=_;rw [X3.out,upd_ne _ _ (by decide),za5]
          have c7o:w3.cell? ⟨bb,41,none⟩=some (rv' 1):=by have:=(H3.out.1.br.cell 1 (by decide)).1;rw [HR3.out] at this;exact this
          have BA3:Hid (Below w3.heap.size w3 (w3.alloc (.cells #[] 98)).drew):=((Below.refl _ _).alloc (Nat.le_refl _) _).drew
          have c7a:(w3.alloc (.cells #[] 98)).drew.cell? ⟨bb,41,none⟩=some (rv' 1):=cell_later BA3.out c7o
          have HE:Hid ((w3.alloc (.cells #[] 98)).drew.heap[w3.heap.size]?=some (.cells #[] 98 (0,0))):=heap_alloc_new w3 _
          have HC3:Hid (CL kA (w3.alloc (.cells #[] 98)).drew ga (n+30) gc (L++M)):=CL3.out.below BA3.out
          have N15:Hid (n+30≤2000000):=by have:=HV.out.2;show _≤_;omega
          first | go_region_law (first | (refine zah kA_ok rfl (.tmp 58) (.tmp 59) rfl rfl BA3.out HE.out ga (n+30) gc (L++M) rfl HC3.out HM2.out N15.out ?_;intro v4 w4 cp;have CP4:Hid (Cp kA w3 w4 (n+30) (L++M) v4):=cp;obtain ⟨a4,k4,hv4,_⟩:=cp.sl;clear cp;subst hv4;have c7b:w4.cell? ⟨bb,41,none⟩=some (rv' 1):=cell_later CP4.out.be c7o;have AL4:Hid (Below w3.heap.size w3 (w4.alloc (.cells #[.slice a4 (n+30) k4] 25))):=CP4.out.be.alloc CP4.out.be.size _;have BR4a:Hid (BR kA (w4.alloc (.cells #[.slice a4 (n+30) k4] 25)) bb B cs3 (upd rv' 0 (.slice a2 n2 k2)) xs3):=H3.out.1.br.below AL4.out;have c7c:(w4.alloc (.cells #[.slice a4 (n+30) k4] 25)).cell? ⟨bb,41,none⟩=some (rv' 1):=cell_later AL4.out c7o)|(refine za6 kA_ok rfl (.tmp 57) (.tmp 61) 36 rfl BR4a.out 1 (by decide) Tryz.underlying36 HR3.out.symm w4.heap.size (.slice a4 (n+30) k4) rfl (heap_alloc_new w4 _) rfl (by rw [HX3.out];have:=HL.out.1;have:=HB.out.2;have:=HDP.out.2.1.1;omega) (by have h1:=CP4.out.be.size;have:=SZ.out.1;have:=H3.out.2.sz;simp;omega) ?_;intro v5 w5 pu5;have PU5:Hid (Pu kA (w4.alloc (.cells #[.slice a4 (n+30) k4] 25)) w5 bb B cs3 (upd rv' 0 (.slice a2 n2 k2)) xs3 1 (.slice a4 (n+30) k4) v5):=pu5;obtain ⟨a5,n5,k5,hv5⟩:=pu5.sl;clear pu5;subst hv5;have c7d:w5.cell? ⟨bb,41,none⟩=some (rv' 1):=(by have:=(za0 PU5.out.bk (BR4a.out.fld 1 (by decide))).1;rw [HR3.out] at this;exact this);have z7d:w5.frozen? ⟨bb,41,none⟩=false:=(za0 PU5.out.bk (BR4a.out.fld 1 (by decide))).2) | go_simp) | fail
          all_goals
            obtain ⟨wx,hwx⟩:∃ W,W=w5.setCell ⟨bb,41,none⟩ (.slice a5 n5 k5):=⟨_,rfl⟩
            obtain ⟨DD,hDD⟩:∃ DD,Hid (Bq kA k0 w0 wx bb B S (cs3.setIfInBounds 41 (.slice a5 n5 k5)) (upd (upd rv' 0 (.slice a2 n2 k2)) 1 (.slice a5 n5 k5)) (upd (upd xs 0 (xo++[.slice ga (n+30) gc])) 1 (xt++[.slice a4 (n+30) k4])) t deep seen)∧Hid (Dk wx bb (upd (upd rv' 0 (.slice a2 n2 k2)) 1 (.slice a5 n5 k5)) DD∧PD kA wx DD (xo++[.slice ga (n+30) gc]) (xt++[.slice a4 (n+30) k4])∧Sb S w0 D DD∧Keeps D w wx)∧Hid (Aside w wx D DD bb rv (upd (upd rv' 0 (.slice a2 n2 k2)) 1 (.slice a5 n5 k5)) (xs 4) (k+1))∧Hid ((xo++[Value.slice ga (n+30) gc]).length=(xs 0).length+(k+1)∧w.heap.size≤wx.heap.size):=by
              have B5:=H3.out.1.push1 AL4.out (by decide) PU5.out
              rw [zb3 HX3.out X3.out] at B5
              have N4:Nl kA bb (upd rv' 0 (.slice a2 n2 k2)) w3 w4 a4 (n+30) k4 (L++M):=CP4.out.nl H3.out.1.br
              have F4:Fv bb w4 (upd rv' 0 (.slice a2 n2 k2)) _ _:=(Fv.below ((Below.refl w4.heap.size w4).alloc (Nat.le_refl _) _)).trans (PU5.out.fv (by decide))
              obtain ⟨DD,g1,g2,g3,g4,g5⟩:=zaN HQ.out.br HDP.out.1 HDP.out.2.1 HDP.out.2.2.1 GS.out HQ.out.ch.size HDP.out.2.2.2 HAV.out.2 HA.out HV.out.1 HL.out.2 GW.out (by decide) ((N4.fv F4).old H3.out.2.sz) (H3.out.2.trans B5.2) HM2.out
              rw [hwx]
              refine ⟨DD,B5.1,⟨g1,g2,g3,g4⟩,g5,?_,?_⟩
              · have:=HL.out.1;simp;omega
              · exact Nat.le_trans SZ.out.2 (H3.out.2.trans B5.2).sz
            obtain ⟨R1,R2,R3,R4⟩:=hDD
            have hwk:IntKind.i64.wrap ((k:Int)+1)=((k+1:Nat):Int):=by have:=HB.out.2;rw [IntKind.wrap_i64];omega
            have HK:Hid (k<(xs 4).length):=hlt
            subst hwx
            go_wp2_with fail
            go_roundg ((xs 4).length-(k+1))
            all_goals first | (have:=HK.out;omega) | exact ⟨k+1,DD,_,_,_,_,rfl,by have:=HK.out;omega,R1,R2,R3,R4⟩
    · have hk0:k=(xs 4).length:=by omega
      subst hk0
      have p0:¬ (((xs 4).length:Nat):Int)<((xs 4).length:Int):=by omega
      have z8:wr.frozen? ⟨bb,44,none⟩=false:=(HQ.out.br.cell 4 (by decide)).2
      have z11:wr.frozen? ⟨bb,47,none⟩=false:=(HQ.out.br.cell 7 (by decide)).2
      go_wp2_with fail
      go_end0
      have hf:Fv bb wr rv' _ _:=(Fv.nil (κ:=kA) (bb:=bb) (w:=wr) (rv:=rv') 4).trans (Fv.nil (κ:=kA) 7)
      have hd:=HDP.out.1
      have mi:=zaI HMI.out.1 (hd.fv hf) (HDP.out.2.1.keep (hd.keeps hf) (fun _ _ q=>q)) HDP.out.2.2.1 (HDP.out.2.2.2.trans (fun g j q=>hd.keeps hf g j (HDP.out.2.2.1.sub g j q))) (fun g hg ho hne=>by
        have h:=HA.out g hg ho hne
        exact ⟨(hf.keep g (by have:=HL.out.2;omega) h.2.2).trans h.1,h.2.1,hf.off g (by have:=HL.out.2;omega) h.2.2⟩)
      have m:=HMI.out.2
      have h0:=HL.out.1
      refine ⟨rfl,D',_,_,_,⟨(HQ.out.nil 4 (by decide)).nil 7 (by decide),?_,?_,?_,?_,?_⟩,HDP.out.2.2.1.sub,?_⟩
      · simpa [upd] using mi
      · simp [upd]
      · have:=m.m5;have:=m.m6;have:=HMI.out.1.wl;simp [upd];omega
      · intro u hu;exact m.i5 u (by simpa [upd] using hu)
      · intro u hu;exact m.i6 u (by simpa [upd] using hu)
      · have:=m.l24;have:=m.l04;simp [upd];omega
end Go.Proofs.YtceigllifjgalaaGreatDoor.Bk
