import Derived.Test.YtpldoeeahhaimaaGreatDoorPWj
namespace Go.Proofs.YtpldoeeahhaimaaGreatDoor.Pkt
open Go Go.RowKit
set_option linter.all false
set_option maxHeartbeats 1000000
theorem sgF_iff (s:ByteArray):∀ (b k:Nat),s.size<=k+b->(sgF s b k=true↔∃ i,k<=i/\i<s.size/\(atB s i=43\/atB s i=35))
 | 0,k,h=>by simp only [sgF,Bool.false_eq_true,false_iff];rintro ⟨i,h1,h2,_⟩;omega;| b+1,k,h=>by
  by_cases hk:k<s.size;·
   have hd:=dec_sg (atB s k) (atB s (k+1)) (atB s (k+2)) (atB s (k+3));rw [<-decode_dec] at hd;obtain ⟨n1,n4,h1,h2,h3,h4⟩:=hd;simp only [sgF,hk,if_true];by_cases hr:(Utf8.decode s k).1=43\/(Utf8.decode s k).1=35
   · rw [if_pos hr]
     simp only [true_iff];exact ⟨k,Nat.le_refl _,hk,h1.1 hr⟩
   ·
    rw [if_neg hr,sgF_iff s b _ (by omega)];constructor
    · rintro ⟨i,g1,g2,g3⟩
      exact ⟨i,by omega,g2,g3⟩
    ·
     rintro ⟨i,g1,g2,g3⟩;refine ⟨i,?_,g2,g3⟩;apply Classical.byContradiction;intro hn;have hc:i=k\/i=k+1\/i=k+2\/i=k+3:=by omega
     rcases hc with e | e | e | e;· subst e;exact hr (h1.2 g3)
     · subst e;have:=h2 (by omega);omega
     · subst e;have:=h3 (by omega);omega
     · subst e;have:=h4 (by omega);omega
  · simp only [sgF,hk,if_false,Bool.false_eq_true,false_iff]
    rintro ⟨i,g1,g2,_⟩;omega
theorem indexAny_iff (l:List UInt8):(0<=Lib.indexAny l [43,35])↔∃ x ∈ l,x=43\/x=35:=by
 induction l with
 | nil=>simp [Lib.indexAny];| cons a l ih =>
  have hg:=Lib.indexAny_ge [43,35] l;unfold Lib.indexAny;by_cases ha:a=43\/a=35;·
   have:([43,35]:List UInt8).contains a=true:=by rcases ha with rfl | rfl <;> decide
   rw [if_pos this];simp only [Int.le_refl,true_iff];exact ⟨a,by simp,ha⟩
  ·
   have:([43,35]:List UInt8).contains a=false:=by simp;exact ⟨fun h=>ha (.inl h),fun h=>ha (.inr h)⟩
   rw [if_neg (by rw [this];decide)];have e:(∃ x ∈ a::l,x=43\/x=35)↔∃ x ∈ l,x=43\/x=35:=by
    constructor
    · rintro ⟨x,hx,h⟩
      rcases List.mem_cons.1 hx with rfl | hx;· exact absurd h ha
      · exact ⟨x,hx,h⟩
    · rintro ⟨x,hx,h⟩
      exact ⟨x,by simp [hx],h⟩
   rw [e,<-ih];split;· rename_i h;simp at h;omega
   · rename_i h;simp at h;omega
theorem mem_atB (s:ByteArray) (v:UInt8):v ∈ s.data.toList↔∃ i,i<s.size/\atB s i=v.toNat:=by
 constructor;·
  intro h;obtain ⟨i,hi,e⟩:=List.mem_iff_getElem.1 h;have hs:i<s.size:=by rw [Array.length_toList] at hi;exact hi
  refine ⟨i,hs,?_⟩;rw [atB_list,List.getElem?_eq_getElem hi,Option.getD_some,e]
 ·
  rintro ⟨i,hi,e⟩;have hi':i<s.data.toList.length:=by rw [Array.length_toList];exact hi
  rw [atB_list,List.getElem?_eq_getElem hi',Option.getD_some] at e;have:s.data.toList[i]=v:=UInt8.toNat_inj.1 e;rw [<-this];exact List.getElem_mem _
theorem sgn_has (s:ByteArray):sgn s=hasS s:=by
 refine Bool.eq_iff_iff.2 ?_;unfold hasS;rw [hsN_iff];unfold sgn;split;·
  rw [decide_eq_true_eq,indexAny_iff];constructor;·
   rintro ⟨x,hx,h⟩;obtain ⟨i,h1,h2⟩:=(mem_atB s x).1 hx;refine ⟨i,h1,?_⟩;rcases h with rfl | rfl;· exact .inl h2
   · exact .inr h2
  · rintro ⟨i,h1,h2 | h2⟩
    · exact ⟨43,(mem_atB s 43).2 ⟨i,h1,h2⟩,.inl rfl⟩
    · exact ⟨35,(mem_atB s 35).2 ⟨i,h1,h2⟩,.inr rfl⟩
 ·
  rw [sgF_iff s s.size 0 (by omega)];constructor;· rintro ⟨i,_,h1,h2⟩;exact ⟨i,h1,h2⟩
  · rintro ⟨i,h1,h2⟩;exact ⟨i,Nat.zero_le _,h1,h2⟩
theorem sign_any (s:ByteArray) (hs:s.size<=1000000) (w:World):Calls Tryz.prog 139 #[.string s] w fun e w'=>e = .returned (.bool (hasS s))/\w'=w:=by
 have HS:Hid (s.size<=1000000):=hs;clear hs;obtain ⟨x,hx⟩:∃ x,x=hasS s:=⟨_,rfl⟩;rw [<-hx];have HX:Hid (x=hasS s):=hx;clear hx;go_enter Tryz.func139,Tryz.ntmps139;go_wp2_with fail;go_loopg [3] s.size (fun g s3 wx=>wx=w/\∃ k:Nat,k<=s.size/\g=s.size-k/\s3 = .int .i64 k/\Hid (hsN s k=false));case atStart=>exact ⟨rfl,0,Nat.zero_le _,rfl,rfl,rfl⟩
 case round =>
  obtain ⟨hw0,k,hk,rfl,rfl,HC⟩:=hrel;obtain rfl:=hw0.symm;clear hw0;by_cases hlt:k<s.size;·
   have hlt':(k:Int)<s.size:=by omega
   have HA:Hid (atB s k=(s[k]'hlt).toNat):=atB_in s k hlt;have hw:IntKind.i64.wrap ((k:Int)+1)=(k:Int)+1:=by rw [IntKind.wrap_i64];have:=HS.out;omega
   by_cases h1:(s[k]'hlt).toNat=43;·
    have h1':(((s[k]'hlt).toNat:Int)==43)=true:=by simp [h1]
    have HR:Hid (x=true):=by show _=_;rw [HX.out];exact (hsN_iff s _).2 ⟨k,hlt,.inl (by rw [HA.out];exact h1)⟩
    clear h1;go_wp2;go_ret;exact ⟨by rw [HR.out];rfl,rfl⟩
   have h1':(((s[k]'hlt).toNat:Int)==43)=false:=by simp;omega
   by_cases h2:(s[k]'hlt).toNat=35;·
    have h2':(((s[k]'hlt).toNat:Int)==35)=true:=by simp [h2]
    have HR:Hid (x=true):=by show _=_;rw [HX.out];exact (hsN_iff s _).2 ⟨k,hlt,.inr (by rw [HA.out];exact h2)⟩
    clear h1 h2;go_wp2;go_ret;exact ⟨by rw [HR.out];rfl,rfl⟩
   have h2':(((s[k]'hlt).toNat:Int)==35)=false:=by simp;omega
   have HN:Hid (hsN s (k+1)=false):=by
    show _=_;have e1:(atB s k==43)=false:=by rw [HA.out];simp;exact h1
    have e2:(atB s k==35)=false:=by rw [HA.out];simp;exact h2
    simp [hsN,HC.out,e1,e2]
   clear h1 h2;go_wp2;go_roundg (s.size-(k+1));case measure=>omega
   case rel=>exact ⟨rfl,k+1,by omega,by omega,by first | rfl | simp,HN⟩
  ·
   obtain rfl:k=s.size:=by omega
   have hlt':¬ (s.size:Int)<s.size:=by omega
   have HR:Hid (x=false):=by show _=_;rw [HX.out];exact HC.out
   go_wp2;go_ret;exact ⟨by rw [HR.out];rfl,rfl⟩
theorem rcheck_any (s:ByteArray) (w:World):Calls Tryz.prog 118 #[.string s] w fun e w'=>e = .returned (.int .i64 (tcode s))/\w'=w:=by
 by_cases h0:s.size=0;·
  have e:tcode s=50:=by simp [tcode,ct,h0]
  have h0':((s.size:Int)==0)=true:=by rw [h0];rfl
  rw [e];clear e h0;go_enter Tryz.func118,Tryz.ntmps118;go_wp2;go_ret;exact ⟨rfl,rfl⟩
 have h0':((s.size:Int)==0)=false:=by rw [beq_eq_false_iff_ne];omega
 cases ht:txt s with
 | false =>
  have e:tcode s=51:=by simp [tcode,ct,h0,ht]
  rw [e];clear e h0;go_enter Tryz.func118,Tryz.ntmps118;go_wp2_with (go_at_call 82;refine (rtext_any s _).mono ?_;rintro e w' ⟨rfl,hee⟩;obtain rfl:=hee.symm;clear hee;rw [ht]);go_ret;exact ⟨rfl,rfl⟩
 | true =>
  have hs:s.size<=1000000:=by have:=txt_size ht;omega
  have HS:Hid (s.size<=1000000):=hs;clear hs;cases hg:hasS s with
  | true =>
   have e:tcode s=52:=by simp [tcode,ct,h0,ht,sgn_has,hg]
   rw [e];clear e h0;go_enter Tryz.func118,Tryz.ntmps118;go_wp2_with (first | (go_at_call 82;refine (rtext_any s _).mono ?_;rintro e w' ⟨rfl,hee⟩;obtain rfl:=hee.symm;clear hee;rw [ht])|(go_at_call 139;refine (sign_any s HS.out _).mono ?_;rintro e w' ⟨rfl,hee⟩;obtain rfl:=hee.symm;clear hee;rw [hg]));go_ret;exact ⟨rfl,rfl⟩
  | false =>
   have e:tcode s=0:=by simp [tcode,ct,h0,ht,sgn_has,hg]
   rw [e];clear e h0;go_enter Tryz.func118,Tryz.ntmps118;go_wp2_with (first | (go_at_call 82;refine (rtext_any s _).mono ?_;rintro e w' ⟨rfl,hee⟩;obtain rfl:=hee.symm;clear hee;rw [ht])|(go_at_call 139;refine (sign_any s HS.out _).mono ?_;rintro e w' ⟨rfl,hee⟩;obtain rfl:=hee.symm;clear hee;rw [hg]));go_ret;exact ⟨rfl,rfl⟩
set_option maxRecDepth 100000
set_option maxHeartbeats 2000000
theorem levels_any (s:ByteArray) (hs:s.size<=65535) (w:World):Calls Tryz.prog 140 #[.string s] w fun e w'=>∃ v,e = .returned v/\w'.ownsRow w.heap.size 9 1 v (levels s).length ((levels s).map Value.string)/\Below w.heap.size w w':=by
 obtain ⟨i0,hi,hz0,hz1,hz2⟩:∃ i0,Tryz.prog.info? 9=some i0/\i0.zero=some (.string ⟨#[]⟩)/\i0.size=1/\i0.bytes=16:=⟨_,rfl,rfl,rfl,rfl⟩;have HS:Hid (s.size<=65535):=hs;have HT:Hid (levels s=[]++lvs s s.size 0 0):=rfl;clear hs;go_enter Tryz.func140,Tryz.ntmps140;go_wp2_with fail;go_loopg [3,4,5] s.size (fun g s3 s4 s5 wx=>∃ (f i b:Nat) (xs:List ByteArray),f<=i/\i<=s.size/\g=s.size-i/\s4 = .int .i64 f/\s5 = .int .i64 i/\Hid (wx.ownsRow w.heap.size 9 1 s3 xs.length (xs.map Value.string))/\Hid (Below w.heap.size w wx)/\Hid (levels s=xs++lvs s b f i)/\Hid (s.size<=i+b)/\Hid (xs.length<=i));case atStart=>exact ⟨0,0,s.size,[],Nat.le_refl _,Nat.zero_le _,rfl,rfl,rfl,World.ownsRow_nil _ _ _ _,Below.refl _ _,HT,by show _<=_;omega,Nat.le_refl _⟩
 case round =>
  obtain ⟨f,i,b,xs,hfi,hisz,rfl,rfl,rfl,HO,HB,HL,HF,HN⟩:=hrel;by_cases hlt:i<s.size;·
   have hlt':(i:Int)<s.size:=by omega
   have HA:Hid (atB s i=(s[i]'hlt).toNat):=atB_in s i hlt;have hw:IntKind.i64.wrap ((i:Int)+1)=(i:Int)+1:=by rw [IntKind.wrap_i64];have:=HS.out;omega
   by_cases h47:(s[i]'hlt).toNat=47;·
    have h47':(((s[i]'hlt).toNat:Int)==47)=true:=by simp [h47]
    have HC:Hid (atB s i=47):=by show _=_;rw [HA.out];exact h47
    have hfi':(f:Int)<=i:=by omega
    have hisz':(i:Int)<=s.size:=by omega
    clear h47;go_wp2_with (at_builtin;refine wpList_append_own _ rfl (.tmp 16) (.tmp 21) 37 rfl w.heap.size 9 i0 (.string ⟨#[]⟩) 1 16 Tryz.underlying37 hi hz0 hz1 hz2 rfl (by decide) _ _ _ rfl (HO.out.alloc _) ⟨_,0,none⟩ 1 1 [.string (s.extract f i)] rfl rfl ?d1 ?d2 ?d3 ?d4 ?d5 ?_);case d1=>exact cell_one_new _ _ _
    case d2=>intro u hu;simp at hu;subst hu;rfl
    case d3=>have:=HN.out;have:=HS.out;unfold maxLen;omega
    case d4=>have:=HN.out;have:=HS.out;omega
    case d5=>have:=HB.out.size;simp;omega
    intro v2 w2 hown2 hgrow2 hnil2;have hb2:=(HB.out.alloc HB.out.size _).grown hgrow2 (by have:=HB.out.size;simp;omega) (by intro q hq;exact (HO.out.lt _ hq).1);obtain ⟨b',e1,e2⟩:=lvs_cut s b f i hlt HF.out HC.out;have HO2:Hid (w2.ownsRow w.heap.size 9 1 v2 (xs++[s.extract f i]).length ((xs++[s.extract f i]).map Value.string)):=by show World.ownsRow _ _ _ _ _ _ _;simpa using hown2
    have HB2:Hid (Below w.heap.size w w2):=hb2;have HL2:Hid (levels s=(xs++[s.extract f i])++lvs s b' (i+1) (i+1)):=by show _=_;rw [HL.out,e1];simp
    have HF2:Hid (s.size<=i+1+b'):=e2;have HN2:Hid ((xs++[s.extract f i]).length<=i+1):=by show _<=_;have:=HN.out;simp;omega
    clear hown2 hgrow2 hnil2 hb2 e1 e2;go_wp2;go_roundg (s.size-(i+1));case measure=>omega
    case rel=>exact ⟨i+1,i+1,b',xs++[s.extract f i],Nat.le_refl _,by omega,by omega,by first | rfl | simp,by first | rfl | simp,HO2,HB2,HL2,HF2,HN2⟩
   ·
    have h47':(((s[i]'hlt).toNat:Int)==47)=false:=by simp;omega
    obtain ⟨b',e1,e2⟩:=lvs_on s b f i hlt HF.out (by rw [HA.out];exact h47);have HL2:Hid (levels s=xs++lvs s b' f (i+1)):=by show _=_;rw [HL.out,e1]
    have HF2:Hid (s.size<=i+1+b'):=e2;have HN2:Hid (xs.length<=i+1):=Nat.le_succ_of_le HN.out;clear h47 e1 e2;go_wp2;go_roundg (s.size-(i+1));case measure=>omega
    case rel=>exact ⟨f,i+1,b',xs,by omega,by omega,by omega,rfl,by first | rfl | simp,HO,HB,HL2,HF2,HN2⟩
  ·
   obtain rfl:i=s.size:=by omega
   have hlt':¬ (s.size:Int)<s.size:=by omega
   have hfi':(f:Int)<=s.size:=by omega
   have HE:Hid (levels s=xs++[s.extract f s.size]):=by show _=_;rw [HL.out,lvs_end s b f _ hlt]
   go_wp2_with (at_builtin;refine wpList_append_own _ rfl (.tmp 25) (.tmp 29) 37 rfl w.heap.size 9 i0 (.string ⟨#[]⟩) 1 16 Tryz.underlying37 hi hz0 hz1 hz2 rfl (by decide) _ _ _ rfl (HO.out.alloc _) ⟨_,0,none⟩ 1 1 [.string (s.extract f s.size)] rfl rfl (cell_one_new _ _ _) ?x2 ?x3 ?x4 ?x5 ?_);any_goals first | rfl | (intro u hu;simp at hu;subst hu;rfl;done)|(have:=HN.out;have:=HS.out;unfold maxLen;omega;done)|(have:=HN.out;have:=HS.out;omega;done)|(have:=HB.out.size;simp;omega;done)
   intro v2 w2 hown2 hgrow2 hnil2;have hb2:=(HB.out.alloc HB.out.size _).grown hgrow2 (by have:=HB.out.size;simp;omega) (by intro q hq;exact (HO.out.lt _ hq).1);have HO2:Hid (w2.ownsRow w.heap.size 9 1 v2 (levels s).length ((levels s).map Value.string)):=by show World.ownsRow _ _ _ _ _ _ _;rw [HE.out];simpa using hown2
   have HB2:Hid (Below w.heap.size w w2):=hb2;clear hown2 hgrow2 hnil2 hb2;go_wp2;go_ret;exact ⟨v2,rfl,HO2.out,HB2.out⟩
set_option maxHeartbeats 4000000
theorem rfilter_any (s:ByteArray) (w:World):Calls Tryz.prog 119 #[.string s] w fun e w'=>e = .returned (.int .i64 (rfc s))/\Below w.heap.size w w':=by
 by_cases h0:s.size=0;·
  have e:rfc s=50:=by simp [rfc,ct,h0]
  have h0':((s.size:Int)==0)=true:=by rw [h0];rfl
  rw [e];clear e h0;go_enter Tryz.func119,Tryz.ntmps119;go_wp2;go_ret;exact ⟨rfl,Below.refl _ _⟩
 have h0':((s.size:Int)==0)=false:=by rw [beq_eq_false_iff_ne];omega
 cases ht:txt s with
 | false =>
  have e:rfc s=51:=by simp [rfc,ct,h0,ht]
  rw [e];clear e h0;go_enter Tryz.func119,Tryz.ntmps119;go_wp2_with (go_at_call 82;refine (rtext_any s _).mono ?_;rintro e w' ⟨rfl,hee⟩;obtain rfl:=hee.symm;clear hee;rw [ht]);go_ret;exact ⟨rfl,Below.refl _ _⟩
 | true =>
  have HS:Hid (s.size<=65535):=txt_size ht;obtain ⟨x,hx⟩:∃ x,x=rfc s:=⟨_,rfl⟩;rw [<-hx];have HX:Hid (x=if lvAny (levels s) then 52 else 0):=by show _=_;rw [hx];simp [rfc,ct,h0,ht]
  clear hx h0;go_enter Tryz.func119,Tryz.ntmps119;go_wp2_with (first | (go_at_call 82;refine (rtext_any s _).mono ?_;rintro e w' ⟨rfl,hee⟩;obtain rfl:=hee.symm;clear hee;rw [ht]) | fail);go_must (go_at_call 140);refine (levels_any s HS.out w).mono ?_;rintro e w1 ⟨v,rfl,ho,hb⟩;have B1:Hid (Below w.heap.size w w1):=hb;have hl1:=lvs_some s s.size 0 0;have hl2:=lvs_most s s.size 0 0;obtain ⟨g,cap,hv⟩:∃ g cap,v = .slice (some ⟨g,0,none⟩) (levels s).length cap:=by
   rcases ho.2 with h | ⟨g,cap,cur,h,_⟩;· exact absurd h.2 (by unfold levels;omega)
   · exact ⟨g,cap,h⟩
  subst hv;have HCap:Hid ((levels s).length<=cap):=by
   rcases ho.2 with h | ⟨g',cap',cur,h,_,_,hc,_⟩;· exact absurd h.2 (by unfold levels;omega)
   · cases h;exact hc
  have HCell:Hid (∀ k,(h:k<(levels s).length)->w1.cell? ⟨g,k,none⟩=some (.string ((levels s)[k]'h))):=fun k h=>by rw [ho.cellAt k (by omega)];simp [h]
  have HSz:Hid (∀ k,(h:k<(levels s).length)->((levels s)[k]'h).size<=1000000):=fun k h=>by have h1:=lvs_size s s.size 0 0 _ (List.getElem_mem h);have:=HS.out;omega
  have HN:Hid ((levels s).length<=65536):=by show _<=_;unfold levels;have:=HS.out;omega
  obtain ⟨l,hl⟩:∃ l,l=levels s:=⟨_,rfl⟩;rw [<-hl] at HCap HCell HSz HN HX ⊢;clear ho hb hl1 hl2 hl ht;go_wp2_with fail;have HT:Hid (lvAny l=lvAny (l.drop 0)):=rfl;go_loopg [4] l.length (fun gg s4 wx=>wx=w1/\∃ k:Nat,k<=l.length/\gg=l.length-k/\s4 = .int .i64 k/\Hid (lvAny l=lvAny (l.drop k)));case atStart=>exact ⟨rfl,0,Nat.zero_le _,rfl,rfl,HT⟩
  case round =>
   obtain ⟨hw0,k,hk,rfl,rfl,HD⟩:=hrel;obtain rfl:=hw0.symm;clear hw0;by_cases hlt:k<l.length;·
    have hlt':(k:Int)<l.length:=by omega
    obtain ⟨t,htt⟩:∃ t,t=l[k]'hlt:=⟨_,rfl⟩;have c1:=HCell.out k hlt;rw [<-htt] at c1;have HZ:Hid (t.size<=1000000):=by show _<=_;rw [htt];exact HSz.out k hlt
    have hcap:=HCap.out;have hw:IntKind.i64.wrap ((k:Int)+1)=(k:Int)+1:=by rw [IntKind.wrap_i64];have:=HN.out;omega
    have HE:Hid (lvAny (l.drop k)=(lvX t (decide (k+1<l.length)) || lvAny (l.drop (k+1)))):=by
     show _=_;rw [List.drop_eq_getElem_cons hlt,<-htt];simp only [lvAny];congr 2;by_cases hm:k+1<l.length;· rw [decide_eq_true hm];cases hd:List.drop (k+1) l with | nil=>have:=congrArg List.length hd;simp at this;omega;| cons a r=>rfl
     · rw [decide_eq_false hm,List.drop_eq_nil_of_le (by omega)];rfl
    clear htt;have HBad:Hid (lvX t (decide (k+1<l.length))=true->x=52):=fun h=>by rw [HX.out,HD.out,HE.out,h];rfl
    have HOk:Hid (lvX t (decide (k+1<l.length))=false->lvAny l=lvAny (l.drop (k+1))):=fun h=>by rw [HD.out,HE.out,h];rfl
    clear HE;by_cases hm:k+1<l.length;·
     have hm':(k:Int)+1<l.length:=by omega
     cases hg:hasS t;case false =>
      cases hh:isHash t;case false =>
       have hq:(t.toList==(⟨#[35]⟩:ByteArray).toList)=false:=hh;have hq2:(t.toList==[35])=false:=by rw [<-hash_list];exact hh
       have HD2:Hid (lvAny l=lvAny (l.drop (k+1))):=HOk.out (by simp [lvX,hg,hh]);go_wp2_with (go_at_call 139;refine (sign_any t HZ.out _).mono ?_;rintro e w' ⟨rfl,hee⟩;obtain rfl:=hee.symm;clear hee;rw [hg]);go_roundg (l.length-(k+1));case measure=>omega
       case rel=>exact ⟨rfl,k+1,by omega,by omega,by first | rfl | simp,HD2⟩
      have hq:(t.toList==(⟨#[35]⟩:ByteArray).toList)=true:=hh;have hq2:(t.toList==[35])=true:=by rw [<-hash_list];exact hh
      have HR:Hid (x=52):=HBad.out (by simp [lvX,hg,hh,hm]);go_wp2_with (go_at_call 139;refine (sign_any t HZ.out _).mono ?_;rintro e w' ⟨rfl,hee⟩;obtain rfl:=hee.symm;clear hee;rw [hg]);go_ret;exact ⟨by rw [HR.out];rfl,B1.out⟩
     by_cases h2:1<t.size
     · have h2':(1:Int)<t.size:=by omega
       have HR:Hid (x=52):=HBad.out (by simp [lvX,hg,h2]);go_wp2_with (go_at_call 139;refine (sign_any t HZ.out _).mono ?_;rintro e w' ⟨rfl,hee⟩;obtain rfl:=hee.symm;clear hee;rw [hg]);go_ret;exact ⟨by rw [HR.out];rfl,B1.out⟩
     have h2':¬ (1:Int)<t.size:=by omega
     cases hh:isHash t;case false =>
      have hq:(t.toList==(⟨#[35]⟩:ByteArray).toList)=false:=hh;have hq2:(t.toList==[35])=false:=by rw [<-hash_list];exact hh
      have HD2:Hid (lvAny l=lvAny (l.drop (k+1))):=HOk.out (by simp [lvX,hg,h2,hh]);go_wp2_with (go_at_call 139;refine (sign_any t HZ.out _).mono ?_;rintro e w' ⟨rfl,hee⟩;obtain rfl:=hee.symm;clear hee;rw [hg]);go_roundg (l.length-(k+1));case measure=>omega
      case rel=>exact ⟨rfl,k+1,by omega,by omega,by first | rfl | simp,HD2⟩
     have hq:(t.toList==(⟨#[35]⟩:ByteArray).toList)=true:=hh;have hq2:(t.toList==[35])=true:=by rw [<-hash_list];exact hh
     have HR:Hid (x=52):=HBad.out (by simp [lvX,hg,h2,hh,hm]);go_wp2_with (go_at_call 139;refine (sign_any t HZ.out _).mono ?_;rintro e w' ⟨rfl,hee⟩;obtain rfl:=hee.symm;clear hee;rw [hg]);go_ret;exact ⟨by rw [HR.out];rfl,B1.out⟩
    ·
     have hm':¬ (k:Int)+1<l.length:=by omega
     cases hg:hasS t;case false =>
      cases hh:isHash t;case false =>
       have hq:(t.toList==(⟨#[35]⟩:ByteArray).toList)=false:=hh;have hq2:(t.toList==[35])=false:=by rw [<-hash_list];exact hh
       have HD2:Hid (lvAny l=lvAny (l.drop (k+1))):=HOk.out (by simp [lvX,hg,hh]);go_wp2_with (go_at_call 139;refine (sign_any t HZ.out _).mono ?_;rintro e w' ⟨rfl,hee⟩;obtain rfl:=hee.symm;clear hee;rw [hg]);go_roundg (l.length-(k+1));case measure=>omega
       case rel=>exact ⟨rfl,k+1,by omega,by omega,by first | rfl | simp,HD2⟩
      have hq:(t.toList==(⟨#[35]⟩:ByteArray).toList)=true:=hh;have hq2:(t.toList==[35])=true:=by rw [<-hash_list];exact hh
      have HD2:Hid (lvAny l=lvAny (l.drop (k+1))):=HOk.out (by simp [lvX,hg,hh,hm]);go_wp2_with (go_at_call 139;refine (sign_any t HZ.out _).mono ?_;rintro e w' ⟨rfl,hee⟩;obtain rfl:=hee.symm;clear hee;rw [hg]);go_roundg (l.length-(k+1));case measure=>omega
      case rel=>exact ⟨rfl,k+1,by omega,by omega,by first | rfl | simp,HD2⟩
     by_cases h2:1<t.size
     · have h2':(1:Int)<t.size:=by omega
       have HR:Hid (x=52):=HBad.out (by simp [lvX,hg,h2]);go_wp2_with (go_at_call 139;refine (sign_any t HZ.out _).mono ?_;rintro e w' ⟨rfl,hee⟩;obtain rfl:=hee.symm;clear hee;rw [hg]);go_ret;exact ⟨by rw [HR.out];rfl,B1.out⟩
     have h2':¬ (1:Int)<t.size:=by omega
     cases hh:isHash t;case false =>
      have hq:(t.toList==(⟨#[35]⟩:ByteArray).toList)=false:=hh;have hq2:(t.toList==[35])=false:=by rw [<-hash_list];exact hh
      have HD2:Hid (lvAny l=lvAny (l.drop (k+1))):=HOk.out (by simp [lvX,hg,h2,hh]);go_wp2_with (go_at_call 139;refine (sign_any t HZ.out _).mono ?_;rintro e w' ⟨rfl,hee⟩;obtain rfl:=hee.symm;clear hee;rw [hg]);go_roundg (l.length-(k+1));case measure=>omega
      case rel=>exact ⟨rfl,k+1,by omega,by omega,by first | rfl | simp,HD2⟩
     have hq:(t.toList==(⟨#[35]⟩:ByteArray).toList)=true:=hh;have hq2:(t.toList==[35])=true:=by rw [<-hash_list];exact hh
     have HD2:Hid (lvAny l=lvAny (l.drop (k+1))):=HOk.out (by simp [lvX,hg,h2,hh,hm]);go_wp2_with (go_at_call 139;refine (sign_any t HZ.out _).mono ?_;rintro e w' ⟨rfl,hee⟩;obtain rfl:=hee.symm;clear hee;rw [hg]);go_roundg (l.length-(k+1));case measure=>omega
     case rel=>exact ⟨rfl,k+1,by omega,by omega,by first | rfl | simp,HD2⟩
   ·
    obtain rfl:k=l.length:=by omega
    have hlt':¬ (l.length:Int)<l.length:=by omega
    have HR:Hid (x=0):=by show _=_;rw [HX.out,HD.out,List.drop_length];rfl
    go_wp2;go_ret;exact ⟨by rw [HR.out];rfl,B1.out⟩
end Go.Proofs.YtpldoeeahhaimaaGreatDoor.Pkt
