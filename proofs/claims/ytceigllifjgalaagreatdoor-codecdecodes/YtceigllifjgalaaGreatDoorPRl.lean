import Derived.Test.YtceigllifjgalaaGreatDoorPRk
namespace Go.Proofs.YtceigllifjgalaaGreatDoor.Pkt
open Go Go.RowKit
set_option linter.unusedSimpArgs false
set_option linter.unusedVariables false
set_option maxRecDepth 100000
set_option maxHeartbeats 4000000
theorem zd1 (s:ByteArray) (w:World):Calls Tryz.prog 225 #[.string s] w fun e w'=>e = .returned (.int .i64 (rfc s))/\Below w.heap.size w w':=by
 by_cases h0:s.size=0;·
  have e:rfc s=50:=by simp [rfc,ct,h0]
  have h0':((s.size:Int)==0)=true:=by rw [h0];rfl
  rw [e];clear e h0;go_enter Tryz.func225,Tryz.ntmps225;go_wp2;go_ret;exact ⟨rfl,Below.refl _ _⟩
 have h0':((s.size:Int)==0)=false:=by rw [beq_eq_false_iff_ne];omega
 cases ht:txt s with
 | false =>
  have e:rfc s=51:=by simp [rfc,ct,h0,ht]
  rw [e];clear e h0;go_enter Tryz.func225,Tryz.ntmps225;go_wp2_with (go_at_call 147;refine (zaL s _).mono ?_;rintro e w' ⟨rfl,hee⟩;obtain rfl:=hee.symm;clear hee;rw [ht]);go_ret;exact ⟨rfl,Below.refl _ _⟩
 | true =>
  have HS:=Hi (zds ht);obtain ⟨x,hx⟩:∃ x,x=rfc s:=⟨_,rfl⟩;rw [<-hx];have HX:Hid (x=if lvAny (levels s) then 52 else 0):=by show _=_;rw [hx];simp [rfc,ct,h0,ht]
  clear hx h0;go_enter Tryz.func225,Tryz.ntmps225;go_wp2_with (first | (go_at_call 147;refine (zaL s _).mono ?_;rintro e w' ⟨rfl,hee⟩;obtain rfl:=hee.symm;clear hee;rw [ht]) | fail);go_must (go_at_call 270);refine (levels_any s HS.out w).mono ?_;rintro e w1 ⟨v,rfl,ho,hb⟩;have B1:=Hi hb;have hl1:=zek s s.size 0 0;have hl2:=zcq s s.size 0 0;obtain ⟨g,cap,hv⟩:∃ g cap,v = .slice (some ⟨g,0,none⟩) (levels s).length cap:=by
   rcases ho.2 with h | ⟨g,cap,cur,h,_⟩;· exact absurd h.2 (by unfold levels;omega)
   · exact ⟨g,cap,h⟩
  subst hv;have HCap:Hid ((levels s).length<=cap):=by
   rcases ho.2 with h | ⟨g',cap',cur,h,_,_,hc,_⟩;· exact absurd h.2 (by unfold levels;omega)
   · cases h;exact hc
  have HCell:Hid (∀ k,(h:k<(levels s).length)->w1.cell? ⟨g,k,none⟩=some (.string ((levels s)[k]'h))):=fun k h=>by rw [ho.cellAt k (by omega)];simp [h]
  have HSz:Hid (∀ k,(h:k<(levels s).length)->((levels s)[k]'h).size<=1000000):=fun k h=>by have h1:=zcB s s.size 0 0 _ (List.getElem_mem h);have:=HS.out;omega
  have HN:Hid ((levels s).length<=65536):=by show _<=_;unfold levels;have:=HS.out;omega
  obtain ⟨l,hl⟩:∃ l,l=levels s:=⟨_,rfl⟩;rw [<-hl] at HCap HCell HSz HN HX ⊢;clear ho hb hl1 hl2 hl ht;go_wp2_with fail;have HT:Hid (lvAny l=lvAny (l.drop 0)):=rfl;go_loopg [4] l.length (fun gg s4 wx=>wx=w1/\∃ k:Nat,k<=l.length/\gg=l.length-k/\s4 = .int .i64 k/\Hid (lvAny l=lvAny (l.drop k)));case atStart=>exact ⟨rfl,0,Nat.zero_le _,rfl,rfl,HT⟩
  case round =>
   obtain ⟨hw0,k,hk,rfl,rfl,HD⟩:=hrel;obtain rfl:=hw0.symm;clear hw0;by_cases hlt:k<l.length;·
    have hlt':(k:Int)<l.length:=by omega
    obtain ⟨t,htt⟩:∃ t,t=l[k]'hlt:=⟨_,rfl⟩;have c1:=HCell.out k hlt;rw [<-htt] at c1;have HZ:Hid (t.size<=1000000):=by show _<=_;rw [htt];exact HSz.out k hlt
    have hcap:=HCap.out;have hw:IntKind.i64.wrap ((k:Int)+1)=(k:Int)+1:=by rw [IntKind.wrap_i64];have:=HN.out;omega
    have HE:Hid (lvAny (l.drop k)=(lvX t (decide (k+1<l.length)) || lvAny (l.drop (k+1)))):=by
     show _=_;rw [List.drop_eq_getElem_cons hlt,<-htt];simp only [lvAny];congr 2;by_cases hm:k+1<l.length;· rw [decide_eq_true hm];cases hd:List.drop (k+1) l with | nil=>have:=congrArg List.length hd;simp at this;omega;| cons a r=>rfl
     · rw [decide_eq_false hm,List.drop_eq_nil_of_le (by omega)];rfl
    clear htt;have HBad:Hid (lvX t (decide (k+1<l.length))=true->x=52):=fun h=>by rw [HX.out,HD.out,HE.out,h];rfl
    have HOk:Hid (lvX t (decide (k+1<l.length))=false->lvAny l=lvAny (l.drop (k+1))):=fun h=>by rw [HD.out,HE.out,h];rfl
    clear HE;by_cases hm:k+1<l.length;·
     have hm':(k:Int)+1<l.length:=by omega
     cases hg:hasS t;case false =>
      cases hh:isHash t;case false =>
       have hq:(t.toList==(⟨#[35]⟩:ByteArray).toList)=false:=hh;have hq2:(t.toList==[35])=false:=by rw [<-zaZ];exact hh
       have HD2:Hid (lvAny l=lvAny (l.drop (k+1))):=HOk.out (by simp [lvX,hg,hh]);go_wp2_with (go_at_call 269;refine (zaO t HZ.out _).mono ?_;rintro e w' ⟨rfl,hee⟩;obtain rfl:=hee.symm;clear hee;rw [hg]);go_roundg (l.length-(k+1));case measure=>omega
       case rel=>exact ⟨rfl,k+1,by omega,by omega,by first | rfl | simp,HD2⟩
      have hq:(t.toList==(⟨#[35]⟩:ByteArray).toList)=true:=hh;have hq2:(t.toList==[35])=true:=by rw [<-zaZ];exact hh
      have HR:Hid (x=52):=HBad.out (by simp [lvX,hg,hh,hm]);go_wp2_with (go_at_call 269;refine (zaO t HZ.out _).mono ?_;rintro e w' ⟨rfl,hee⟩;obtain rfl:=hee.symm;clear hee;rw [hg]);go_ret;exact ⟨by rw [HR.out];rfl,B1.out⟩
     by_cases h2:1<t.size
     · have h2':(1:Int)<t.size:=by omega
       have HR:Hid (x=52):=HBad.out (by simp [lvX,hg,h2]);go_wp2_with (go_at_call 269;refine (zaO t HZ.out _).mono ?_;rintro e w' ⟨rfl,hee⟩;obtain rfl:=hee.symm;clear hee;rw [hg]);go_ret;exact ⟨by rw [HR.out];rfl,B1.out⟩
     have h2':¬ (1:Int)<t.size:=by omega
     cases hh:isHash t;case false =>
      have hq:(t.toList==(⟨#[35]⟩:ByteArray).toList)=false:=hh;have hq2:(t.toList==[35])=false:=by rw [<-zaZ];exact hh
      have HD2:Hid (lvAny l=lvAny (l.drop (k+1))):=HOk.out (by simp [lvX,hg,h2,hh]);go_wp2_with (go_at_call 269;refine (zaO t HZ.out _).mono ?_;rintro e w' ⟨rfl,hee⟩;obtain rfl:=hee.symm;clear hee;rw [hg]);go_roundg (l.length-(k+1));case measure=>omega
      case rel=>exact ⟨rfl,k+1,by omega,by omega,by first | rfl | simp,HD2⟩
     have hq:(t.toList==(⟨#[35]⟩:ByteArray).toList)=true:=hh;have hq2:(t.toList==[35])=true:=by rw [<-zaZ];exact hh
     have HR:Hid (x=52):=HBad.out (by simp [lvX,hg,h2,hh,hm]);go_wp2_with (go_at_call 269;refine (zaO t HZ.out _).mono ?_;rintro e w' ⟨rfl,hee⟩;obtain rfl:=hee.symm;clear hee;rw [hg]);go_ret;exact ⟨by rw [HR.out];rfl,B1.out⟩
    ·
     have hm':¬ (k:Int)+1<l.length:=by omega
     cases hg:hasS t;case false =>
      cases hh:isHash t;case false =>
       have hq:(t.toList==(⟨#[35]⟩:ByteArray).toList)=false:=hh;have hq2:(t.toList==[35])=false:=by rw [<-zaZ];exact hh
       have HD2:Hid (lvAny l=lvAny (l.drop (k+1))):=HOk.out (by simp [lvX,hg,hh]);go_wp2_with (go_at_call 269;refine (zaO t HZ.out _).mono ?_;rintro e w' ⟨rfl,hee⟩;obtain rfl:=hee.symm;clear hee;rw [hg]);go_roundg (l.length-(k+1));case measure=>omega
       case rel=>exact ⟨rfl,k+1,by omega,by omega,by first | rfl | simp,HD2⟩
      have hq:(t.toList==(⟨#[35]⟩:ByteArray).toList)=true:=hh;have hq2:(t.toList==[35])=true:=by rw [<-zaZ];exact hh
      have HD2:Hid (lvAny l=lvAny (l.drop (k+1))):=HOk.out (by simp [lvX,hg,hh,hm]);go_wp2_with (go_at_call 269;refine (zaO t HZ.out _).mono ?_;rintro e w' ⟨rfl,hee⟩;obtain rfl:=hee.symm;clear hee;rw [hg]);go_roundg (l.length-(k+1));case measure=>omega
      case rel=>exact ⟨rfl,k+1,by omega,by omega,by first | rfl | simp,HD2⟩
     by_cases h2:1<t.size
     · have h2':(1:Int)<t.size:=by omega
       have HR:Hid (x=52):=HBad.out (by simp [lvX,hg,h2]);go_wp2_with (go_at_call 269;refine (zaO t HZ.out _).mono ?_;rintro e w' ⟨rfl,hee⟩;obtain rfl:=hee.symm;clear hee;rw [hg]);go_ret;exact ⟨by rw [HR.out];rfl,B1.out⟩
     have h2':¬ (1:Int)<t.size:=by omega
     cases hh:isHash t;case false =>
      have hq:(t.toList==(⟨#[35]⟩:ByteArray).toList)=false:=hh;have hq2:(t.toList==[35])=false:=by rw [<-zaZ];exact hh
      have HD2:Hid (lvAny l=lvAny (l.drop (k+1))):=HOk.out (by simp [lvX,hg,h2,hh]);go_wp2_with (go_at_call 269;refine (zaO t HZ.out _).mono ?_;rintro e w' ⟨rfl,hee⟩;obtain rfl:=hee.symm;clear hee;rw [hg]);go_roundg (l.length-(k+1));case measure=>omega
      case rel=>exact ⟨rfl,k+1,by omega,by omega,by first | rfl | simp,HD2⟩
     have hq:(t.toList==(⟨#[35]⟩:ByteArray).toList)=true:=hh;have hq2:(t.toList==[35])=true:=by rw [<-zaZ];exact hh
     have HD2:Hid (lvAny l=lvAny (l.drop (k+1))):=HOk.out (by simp [lvX,hg,h2,hh,hm]);go_wp2_with (go_at_call 269;refine (zaO t HZ.out _).mono ?_;rintro e w' ⟨rfl,hee⟩;obtain rfl:=hee.symm;clear hee;rw [hg]);go_roundg (l.length-(k+1));case measure=>omega
     case rel=>exact ⟨rfl,k+1,by omega,by omega,by first | rfl | simp,HD2⟩
   ·
    obtain rfl:k=l.length:=by omega
    have hlt':¬ (l.length:Int)<l.length:=by omega
    have HR:Hid (x=0):=by show _=_;rw [HX.out,HD.out,List.drop_length];rfl
    go_wp2;go_ret;exact ⟨by rw [HR.out];rfl,B1.out⟩
end Go.Proofs.YtceigllifjgalaaGreatDoor.Pkt
