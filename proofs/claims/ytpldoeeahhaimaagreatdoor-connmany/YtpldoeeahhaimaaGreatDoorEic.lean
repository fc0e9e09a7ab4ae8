import Derived.Test.YtpldoeeahhaimaaGreatDoorEe
namespace Go.Proofs.YtpldoeeahhaimaaGreatDoor.Dr
open Go Go.RowKit
open Pkt (Pk Cn Sl In By Is Ss As pkCells Small ck TT)
open Co (inC inA ansP kpC cnC KL CnAt onP bdP PkM TookIs lateP)
set_option linter.all false
section
variable {w W W':World} {S T:Nat->Prop} {cb rb:Nat} {most pat:Int} {n m:Nat} {s:CS}
theorem ktick (h:KS w W S cb most pat n m s) (hw:s.wf n m) (hm:m<=1000000) :
 Calls Tryz.prog 14 #[.pointer (some ⟨cb,0,none⟩)] W fun e W'=>e = .returned (.bool (tickA pat s))/\KS w W' (gr S W W') cb most pat n (m+1) (tickS s)/\Ch S W W':=by cases s with
 | over => obtain ⟨si,h1,h2,h3⟩:=h;refine (Co.tick_over h1 ⟨h2.1,by omega⟩).mono ?_;rintro e W' ⟨rfl,a1,a2⟩;exact ⟨rfl,⟨si+1,a1,⟨by omega,by omega⟩,gr_of h3 a1.lt⟩,a2.mono (fun j _ q=>by rw [q];exact h3)⟩;| live st keep si z H =>
  obtain ⟨fb,rf,P,h1,h2,h3,h4,h5⟩:=h;obtain ⟨w1,w2,w3,w4,w5⟩:=hw;refine (Co.kl_tick h1 ⟨w3.1,by omega⟩).mono ?_;rintro e W' ⟨rfl,a1,a2⟩;have lt:=kl_lt a1;refine ⟨by rw [late_same st pat keep _ w1 w2.1];rfl,⟨fb,rf,P,a1,h2,gr_of h3 lt.1,gr_of h4 lt.2.1,fun k e=>gr_of (h5 k e) (lt.2.2 k e)⟩,a2.mono (fun j _ q=>?_)⟩;rcases q with q | q;· rw [q];exact h3
  · rw [q];exact h4
theorem ktook (h:KS w W S cb most pat n m s) (hw:s.wf n m) (hS:∀ k,S k->w.heap.size<=k) (what:Int) (q:Pk) (code err:Int) :
 Calls Tryz.prog 21 #[.pointer (some ⟨cb,0,none⟩),.agg (inC what q code err)] W fun e W'=>e = .returned (.tuple #[])/\KS w W' (gr S W W') cb most pat n m (tookS what q.kind q.keep s)/\Ch S W W':=by cases s with
 | over => obtain ⟨si,h1,h2,h3⟩:=h;refine (Co.took_over h1 what q code err).mono ?_;rintro e W' ⟨rfl,hb⟩;have a1:CnAt W' cb 2 (.pointer none) si 0:=Co.later_at h1 hb;exact ⟨rfl,⟨si,a1,h2,gr_of h3 a1.lt⟩,Below.ch hb⟩;| live st keep si z H =>
  obtain ⟨fb,rf,P,h1,h2,h3,h4,h5⟩:=h;obtain ⟨w1,w2,w3,w4,w5⟩:=hw;have ne2:st≠2:=by rcases w1 with e | e <;> (rw [e];decide)
  refine (Co.took_any h1.lv.cn ne2 what q code err).mono ?_;rintro e W' ⟨rfl,a1,a2⟩;have ch:Ch S W W':=a2.mono (fun j _ q=>by rw [q];exact h3);have lt0:=kl_lt h1;have hcf:cb≠fb:=h1.lv.ne;have fs':FS W' fb most w.heap.size rf P z H:=h1.lv.fs.keep (a2.block fb lt0.2.1 (Ne.symm hcf)) (fun k e=>a2.block k (lt0.2.2 k e) (fun e2=>by
   have hh:=h1.lv.fs;subst e2;obtain ⟨v,nn,z0,d,gone,fa,hfr,hv,_⟩:=hh;rcases hfr.own.2 with ⟨e1,_⟩|⟨g,cap,cur,e1,_,hg,_⟩;· rw [e1] at hv;rw [<-hv] at e;cases e
   · rw [e1] at hv
     have e':g=k:=by rw [e] at hv;simpa [Value.ownBlock] using hv
     subst e';have:=h1.lv.cn;unfold Co.CnAt at this;rw [hg] at this;simp at this))
  have bel':Below w.heap.size w W':=Co.bel_ch h1.bel a2 (fun k e=>by rw [e];exact h1.cbl);refine ⟨rfl,?_,ch⟩;have lf:fb<W'.heap.size:=Nat.lt_of_lt_of_le lt0.2.1 a2.size;have lr:∀ k,rf=some k->k<W'.heap.size:=fun k e=>Nat.lt_of_lt_of_le (lt0.2.2 k e) a2.size;have lc:cb<W'.heap.size:=Nat.lt_of_lt_of_le lt0.1 a2.size;show KS w W' (gr S W W') cb most pat n m (if what=1/\q.kind≠14 then (if q.kind=1 then CS.live 1 (kpC q.keep) 0 z H else .live st keep 0 z H) else .over);unfold Co.TookIs at a1;by_cases c1:what=1/\q.kind≠14
  · rw [if_pos c1] at a1 ⊢
    by_cases c2:q.kind=1
    · rw [if_pos c2] at a1 ⊢
      exact ⟨fb,rf,P,⟨⟨by show CnAt W' cb 1 _ 0 (bdOf 1 pat (kpC q.keep));exact a1,fs'⟩,bel',h1.cbl,h1.fbl,h1.gw,.inr rfl⟩,h2,gr_of h3 lc,gr_of h4 lf,fun k e=>gr_of (h5 k e) (lr k e)⟩
    · rw [if_neg c2] at a1 ⊢
      exact ⟨fb,rf,P,⟨⟨a1,fs'⟩,bel',h1.cbl,h1.fbl,h1.gw,w1⟩,h2,gr_of h3 lc,gr_of h4 lf,fun k e=>gr_of (h5 k e) (lr k e)⟩
  · rw [if_neg c1] at a1 ⊢
    exact ⟨0,a1,⟨Int.le_refl _,by omega⟩,gr_of h3 lc⟩
theorem kstop (h:KS w W S cb most pat n m s) :
 Calls Tryz.prog 19 #[.pointer (some ⟨cb,0,none⟩)] W fun e W'=>e = .returned (.tuple #[])/\KS w W' (gr S W W') cb most pat n m .over/\Ch S W W':=by
 obtain ⟨st,fp,si,bd,hc,hS⟩:∃ st fp si bd,CnAt W cb st fp si bd/\S cb:=by cases s with | over=>obtain ⟨si,h1,h2,h3⟩:=h;exact ⟨_,_,_,_,h1,h3⟩ | live st keep si z H=>obtain ⟨fb,rf,P,h1,h2,h3,h4,h5⟩:=h;exact ⟨_,_,_,_,h1.lv.cn,h3⟩
 refine (Co.stop_any hc).mono ?_;rintro e W' ⟨rfl,a1,a2⟩;exact ⟨rfl,⟨0,a1,⟨Int.le_refl _,by omega⟩,gr_of hS a1.lt⟩,a2.mono (fun j _ q=>by rw [q];exact hS)⟩
theorem kover (h:KS w W S cb most pat n m s) (hw:s.wf n m) : Calls Tryz.prog 12 #[.pointer (some ⟨cb,0,none⟩)] W fun e W'=>e = .returned (.bool (overA s))/\W'=W:=by cases s with | over=>obtain ⟨si,h1,h2,h3⟩:=h;exact Co.over_any h1 | live st keep si z H => obtain ⟨fb,rf,P,h1,h2,h3,h4,h5⟩:=h;refine (Co.over_any h1.lv.cn).mono ?_;rintro e W' ⟨rfl,rfl⟩;refine ⟨?_,rfl⟩;rcases hw.1 with e | e <;> (rw [e];rfl)
theorem dn_lt {gb:Nat} {v:Value} {H:Nat} {z:Nat->Int} {B:Nat} (h:W.ownsRow B 5 1 v H (cellsOf z H)):∀ k,v.ownBlock=some k->k<W.heap.size:=fun k e=>by
 rcases h.2 with ⟨e1,_⟩|⟨g,cap,cur,e1,_,hg,_⟩;· rw [e1] at e;cases e
 ·
  rw [e1] at e;have e':g=k:=by simpa [Value.ownBlock] using e
  subst e';exact (Array.getElem?_eq_some_iff.1 hg).1
theorem own_ne_dc {gb:Nat} {mc st pt keep si:Int} {v:Value} {H B:Nat} {z:Nat->Int} (h1:DcAt W rb gb mc st pt keep si) (h3:W.ownsRow B 5 1 v H (cellsOf z H)):∀ k,v.ownBlock=some k->¬ k=rb:=by
 intro k e q;subst q;rcases h3.2 with ⟨e1,_⟩|⟨g,cap,cur,e1,_,hg,_⟩;· rw [e1] at e;cases e
 ·
  rw [e1] at e;have e':g=k:=by simpa [Value.ownBlock] using e
  subst e';have:=h1;unfold DcAt at this;rw [hg] at this;simp at this
theorem dpush (h:DS w W S rb most pat m s) (hw:s.wf n m) (hn:n<=300000) (hB:w.heap.size<=W.heap.size) (l:Sl) (zb:Nat->Int) (hl:By W l zb) (hln:l.n<=300000) :
 Calls Tryz.prog 10 #[.pointer (some ⟨rb,0,none⟩),.slice l.a l.n l.c] W fun e W'=>e = .returned (.tuple #[])/\DS w W' (gr S W W') rb most pat m (pushS s l.n zb)/\Ch S W W':=by cases s with
 | over => obtain ⟨gb,mc,pt,kp,si,h1,h2,h3,h4⟩:=h;refine (dpush_over h1 l.a l.n l.c).mono ?_;rintro e W' ⟨rfl,rfl⟩;exact ⟨rfl,⟨gb,mc,pt,kp,si,h1,h2,h3,gr_of h4 h1.lt⟩,Ch.refl _ _⟩;| live st keep si z H =>
  obtain ⟨gb,v,t,h1,h2,h3,h4,h5,h6⟩:=h;obtain ⟨w1,w2,w3,w4,w5⟩:=hw;have ne2:st≠2:=by rcases w1 with e | e <;> (rw [e];decide)
  have hne:=dc_ne_df h1 h2;refine (dpush_any h1 ne2 l.a l.n l.c (dfput_any h2 h3 l zb hl (by omega) (by omega) hB)).mono ?_;rintro e W' ⟨rfl,v',a1,a2,a3,a4⟩;have ch:Ch S W W':=a3.mono (fun j _ q=>by
   rcases q with q | q;· rw [q];exact h5
   · exact h6 j q)
  have rne:¬ (rb=gb\/v.ownBlock=some rb):=by
   rintro (e | e);· exact hne e
   · rcases h3.2 with ⟨e1,_⟩|⟨g,cap,cur,e1,_,hg,_⟩
     · rw [e1] at e;cases e
     · rw [e1] at e
       have e':g=rb:=by simpa [Value.ownBlock] using e
       subst e';have:=h1;unfold DcAt at this;rw [hg] at this;simp at this
  have d1:=dc_keep h1 (a3.block rb h1.lt rne);refine ⟨rfl,⟨gb,v',t,d1,a1,a2,gr_of h4 d1.lt,gr_of h5 a1.lt,fun k e=>?_⟩,ch⟩;have lt:=dn_lt (gb:=gb) a2 k e;rcases a4 with q | q;· exact gr_of (h6 k (q ▸ e)) lt
  · rw [q] at e
    have:W.heap.size=k:=Option.some.inj e;exact gr_new (by omega) lt
theorem dnext (h:DS w W S rb most pat m s) (hw:s.wf n m) (hn:n<=300000) (hB:w.heap.size<=W.heap.size) :
 Calls Tryz.prog 16 #[.pointer (some ⟨rb,0,none⟩)] W fun e W'=>NaIs 0 W' e (nextA most s)/\DS w W' (gr S W W') rb most pat m (nextS most s)/\Ch S W W':=by cases s with
 | over => obtain ⟨gb,mc,pt,kp,si,h1,h2,h3,h4⟩:=h;refine (dcnext_over h1).mono ?_;rintro e W' ⟨rfl,hb⟩;have d1:=dc_keep h1 (hb.block rb h1.lt);exact ⟨⟨blank 0,rfl,Go.Proofs.YtpldoeeahhaimaaGreatDoor.in_blank _ _,Alike.refl _,fun g hg=>absurd hg (Nat.not_lt_zero _)⟩,⟨gb,mc,pt,kp,si,d1,h2,h3,gr_of h4 d1.lt⟩,Below.ch hb⟩;| live st keep si z H =>
  obtain ⟨gb,v,t,h1,h2,h3,h4,h5,h6⟩:=h;obtain ⟨w1,w2,w3,w4,w5⟩:=hw;refine (dcnext_any h1 w1 h2 h3 w4 (by omega)).mono ?_;rintro e W' ⟨hx,hc⟩;have ch:Ch S W W':=hc.mono (fun j _ q=>by
   rcases q with q | q;· rw [q];exact h4
   · rw [q];exact h5)
  show NaIs 0 W' e (nextR st (decP z H most))/\DS w W' (gr S W W') rb most pat m (nextQ st keep si z H (decP z H most))/\Ch S W W';cases hR:decP z H most with
  | more =>
   rw [hR] at hx;obtain ⟨rfl,a1,a2⟩:=hx;have f1:=h2.keep a2;have o1:=own_keep h3 (w':=W') (fun k e=>hc.block k (dn_lt (gb:=gb) h3 k e) (fun q=>by
    rcases q with q | q
    · subst q
      rcases h3.2 with ⟨e1,_⟩|⟨g,cap,cur,e1,_,hg,_⟩;· rw [e1] at e;cases e
      · rw [e1] at e
        have e':g=k:=by simpa [Value.ownBlock] using e
        subst e';have:=h1;unfold DcAt at this;rw [hg] at this;simp at this
    · subst q
      exact dfown_ne h2 h3 e))
   exact ⟨⟨blank 0,rfl,Go.Proofs.YtpldoeeahhaimaaGreatDoor.in_blank _ _,Alike.refl _,fun g hg=>absurd hg (Nat.not_lt_zero _)⟩,⟨gb,v,t,a1,f1,o1,gr_of h4 a1.lt,gr_of h5 f1.lt,fun k e=>gr_of (h6 k e) (dn_lt (gb:=gb) o1 k e)⟩,ch⟩
  | fault x => rw [hR] at hx;obtain ⟨rfl,a1⟩:=hx;exact ⟨⟨blank 0,rfl,Go.Proofs.YtpldoeeahhaimaaGreatDoor.in_blank _ _,Alike.refl _,fun g hg=>absurd hg (Nat.not_lt_zero _)⟩,⟨gb,_,_,keep,si,a1,w3,w2,gr_of h4 a1.lt⟩,ch⟩;| ok p c k =>
   rw [hR] at hx;obtain ⟨q,v',t',rfl,a1,a2,a3,a4,a5⟩:=hx;refine ⟨?_,?_,ch⟩
   · show NaIs 0 W' _ ⟨(ansP st p).1,(ansP st p).2.1,(ansP st p).2.2,true,if (ansP st p).1=1 then p else blank 0,if (ansP st p).1=1 then c else noCn⟩
     by_cases e1:(ansP st p).1=1
     · rw [if_pos e1,if_pos e1]
       exact ⟨q,by show Ending.returned (.tuple #[.agg (inA (ansP st p) q),_])=_;unfold Co.inA;rw [if_pos e1],a1,a2,fun g hg=>absurd hg (Nat.not_lt_zero _)⟩
     · rw [if_neg e1,if_neg e1]
       exact ⟨blank 0,by show Ending.returned (.tuple #[.agg (inA (ansP st p) q),_])=_;unfold Co.inA;rw [if_neg e1],Go.Proofs.YtpldoeeahhaimaaGreatDoor.in_blank _ _,Alike.refl _,fun g hg=>absurd hg (Nat.not_lt_zero _)⟩
   · show DS w W' (gr S W W') rb most pat m (if onP st p=true then CS.live 1 (if p.kind=1 then kpC p.keep else keep) 0 (Go.Proofs.YtpldoeeahhaimaaGreatDoor.sh z k) (H-k) else .over)
     have ne2:st≠2:=by rcases w1 with e | e <;> (rw [e];decide)
     unfold dNew dTook at a3;rw [if_neg ne2] at a3;by_cases ho:onP st p=true
     · have hon:(ansP st p).1=1/\p.kind≠14:=by simpa [Co.onP] using ho
       rw [if_pos ho];rw [if_pos hon.1,if_neg (fun e=>e.elim (fun e=>e hon.1) hon.2)] at a3;have o2:W'.ownsRow w.heap.size 5 1 v' (H-k) (cellsOf (Go.Proofs.YtpldoeeahhaimaaGreatDoor.sh z k) (H-k)):=by
        refine ⟨a5.1,?_⟩;rcases a5.2 with e | ⟨g2,cap,cur,e1,hb2,r⟩;· exact .inl e
        · exact .inr ⟨g2,cap,cur,e1,by omega,r⟩
       have own:∀ k,v'.ownBlock=some k->gr S W W' k:=fun k e=>by
        rcases a5.2 with ⟨e1,_⟩|⟨g2,cap,cur,e1,hb2,_⟩;· rw [e1] at e;cases e
        · rw [e1] at e
          have e':g2=k:=by simpa [Value.ownBlock] using e
          subst e';exact gr_new hb2 (dn_lt (gb:=gb) a5 _ (by rw [e1];rfl))
       by_cases k1:p.kind=1
       · rw [if_pos k1] at a3 ⊢
         exact ⟨gb,v',t',a3,a4,o2,gr_of h4 a3.lt,gr_of h5 a4.lt,own⟩
       · rw [if_neg k1] at a3 ⊢
         rcases Co.ans_one w1 hon.1 with ⟨b1,b2⟩|⟨b1,b2⟩;· exact absurd b2 k1
         · rw [b1] at a3
           exact ⟨gb,v',t',a3,a4,o2,gr_of h4 a3.lt,gr_of h5 a4.lt,own⟩
     · rw [if_neg ho]
       have hno:((ansP st p).1≠1\/(if (ansP st p).1=1 then p else blank 0).kind=14):=by
        by_cases e1:(ansP st p).1=1
        · refine .inr ?_
          rw [if_pos e1];by_cases e2:p.kind=14;· exact e2
          · exact absurd (by unfold Co.onP;rw [decide_eq_true e1,decide_eq_true e2];rfl) ho
        · exact .inl e1
       rw [if_pos hno] at a3;exact ⟨gb,_,_,keep,si,a3,w3,w2,gr_of h4 a3.lt⟩
theorem dtick (h:DS w W S rb most pat m s) (hw:s.wf n m) (hm:m<=1000000) : Calls Tryz.prog 18 #[.pointer (some ⟨rb,0,none⟩)] W fun e W'=>e = .returned (.bool (tickA pat s))/\DS w W' (gr S W W') rb most pat (m+1) (tickS s)/\Ch S W W':=by cases s with | over => obtain ⟨gb,mc,pt,kp,si,h1,h2,h3,h4⟩:=h;refine (dtick_any h1 ⟨h2.1,by omega⟩ h3 (.inr (.inr rfl))).mono ?_;rintro e W' ⟨rfl,a1,a2⟩;exact ⟨rfl,⟨gb,mc,pt,kp,si+1,a1,⟨by omega,by omega⟩,h3,gr_of h4 a1.lt⟩,a2.mono (fun j _ q=>by rw [q];exact h4)⟩ | live st keep si z H => obtain ⟨gb,v,t,h1,h2,h3,h4,h5,h6⟩:=h;obtain ⟨w1,w2,w3,w4,w5⟩:=hw;refine (dtick_any h1 ⟨w3.1,by omega⟩ w2 (by rcases w1 with e | e;exact .inl e;exact .inr (.inl e))).mono ?_;rintro e W' ⟨rfl,a1,a2⟩;have ch:Ch S W W':=a2.mono (fun j _ q=>by rw [q];exact h4);have f1:=h2.keep (a2.block gb h2.lt (Ne.symm (dc_ne_df h1 h2)));have o1:=own_keep h3 (w':=W') (fun k e=>a2.block k (dn_lt (gb:=gb) h3 k e) (own_ne_dc h1 h3 k e));exact ⟨rfl,⟨gb,v,t,a1,f1,o1,gr_of h4 a1.lt,gr_of h5 f1.lt,fun k e=>gr_of (h6 k e) (dn_lt (gb:=gb) o1 k e)⟩,ch⟩
theorem dtook (h:DS w W S rb most pat m s) (hw:s.wf n m) (what:Int) (q:Pk) (code err:Int) :
 Calls Tryz.prog 23 #[.pointer (some ⟨rb,0,none⟩),.agg (inC what q code err)] W fun e W'=>e = .returned (.tuple #[])/\DS w W' (gr S W W') rb most pat m (tookS what q.kind q.keep s)/\Ch S W W':=by cases s with
 | over => obtain ⟨gb,mc,pt,kp,si,h1,h2,h3,h4⟩:=h;refine (dtook_any h1 what q code err).mono ?_;rintro e W' ⟨rfl,a1,a2⟩;unfold dTook at a1;rw [if_pos rfl] at a1;exact ⟨rfl,⟨gb,mc,pt,kp,si,a1,h2,h3,gr_of h4 a1.lt⟩,a2.mono (fun j _ q=>by rw [q];exact h4)⟩;| live st keep si z H =>
  obtain ⟨gb,v,t,h1,h2,h3,h4,h5,h6⟩:=h;obtain ⟨w1,w2,w3,w4,w5⟩:=hw;have ne2:st≠2:=by rcases w1 with e | e <;> (rw [e];decide)
  refine (dtook_any h1 what q code err).mono ?_;rintro e W' ⟨rfl,a1,a2⟩;have ch:Ch S W W':=a2.mono (fun j _ q=>by rw [q];exact h4);have f1:=h2.keep (a2.block gb h2.lt (Ne.symm (dc_ne_df h1 h2)));have o1:=own_keep h3 (w':=W') (fun k e=>a2.block k (dn_lt (gb:=gb) h3 k e) (own_ne_dc h1 h3 k e));refine ⟨rfl,?_,ch⟩;show DS w W' (gr S W W') rb most pat m (if what=1/\q.kind≠14 then (if q.kind=1 then CS.live 1 (kpC q.keep) 0 z H else .live st keep 0 z H) else .over);unfold dTook at a1;rw [if_neg ne2] at a1;by_cases c1:what=1/\q.kind≠14
  · rw [if_pos c1]
    rw [if_neg (fun e=>e.elim (fun e=>e c1.1) c1.2)] at a1;by_cases c2:q.kind=1
    · rw [if_pos c2] at a1 ⊢
      exact ⟨gb,v,t,a1,f1,o1,gr_of h4 a1.lt,gr_of h5 f1.lt,fun k e=>gr_of (h6 k e) (dn_lt (gb:=gb) o1 k e)⟩
    · rw [if_neg c2] at a1 ⊢
      exact ⟨gb,v,t,a1,f1,o1,gr_of h4 a1.lt,gr_of h5 f1.lt,fun k e=>gr_of (h6 k e) (dn_lt (gb:=gb) o1 k e)⟩
  · rw [if_neg c1]
    rw [if_pos (by by_cases e1:what=1;exact .inr (Classical.byContradiction fun e=>c1 ⟨e1,e⟩);exact .inl e1)] at a1;exact ⟨gb,_,_,keep,si,a1,w3,w2,gr_of h4 a1.lt⟩
theorem dstop (h:DS w W S rb most pat m s) (hw:s.wf n m) :
 Calls Tryz.prog 20 #[.pointer (some ⟨rb,0,none⟩)] W fun e W'=>e = .returned (.tuple #[])/\DS w W' (gr S W W') rb most pat m .over/\Ch S W W':=by
 obtain ⟨gb,mc,st,pt,kp,si,hc,h2,h3,hS⟩:∃ gb mc st pt kp si,DcAt W rb gb mc st pt kp si/\(0<=si/\si<=(m:Int))/\(0<=kp/\kp<=65535)/\S rb:=by cases s with | over=>obtain ⟨gb,mc,pt,kp,si,h1,h2,h3,h4⟩:=h;exact ⟨_,_,_,_,_,_,h1,h2,h3,h4⟩ | live st keep si z H=>obtain ⟨gb,v,t,h1,h2,h3,h4,h5,h6⟩:=h;exact ⟨_,_,_,_,_,_,h1,hw.2.2.1,hw.2.1,h4⟩
 refine (dstop_any hc).mono ?_;rintro e W' ⟨rfl,a1,a2⟩;exact ⟨rfl,⟨_,_,_,_,_,a1,h2,h3,gr_of hS a1.lt⟩,a2.mono (fun j _ q=>by rw [q];exact hS)⟩
theorem dover (h:DS w W S rb most pat m s) (hw:s.wf n m) : Calls Tryz.prog 24 #[.pointer (some ⟨rb,0,none⟩)] W fun e W'=>e = .returned (.bool (overA s))/\W'=W:=by cases s with | over=>obtain ⟨gb,mc,pt,kp,si,h1,h2,h3,h4⟩:=h;exact dover_any h1 | live st keep si z H => obtain ⟨gb,v,t,h1,h2,h3,h4,h5,h6⟩:=h;refine (dover_any h1).mono ?_;rintro e W' ⟨rfl,rfl⟩;refine ⟨?_,rfl⟩;rcases hw.1 with e | e <;> (rw [e];rfl)
end
structure PR (w W:World) (pb cb rb:Nat) (S1 S2:Nat->Prop):Prop where
 pr:W.heap[pb]?=some (.cells #[.pointer (some ⟨cb,0,none⟩),.pointer (some ⟨rb,0,none⟩)] 30 (0,0))
 np1:¬ S1 pb
 np2:¬ S2 pb
 dj:∀ k,S1 k->¬ S2 k
 b1:∀ k,S1 k->w.heap.size<=k/\k<W.heap.size
 b2:∀ k,S2 k->w.heap.size<=k/\k<W.heap.size
 bel:Below w.heap.size w W
structure PP (w W:World) (pb cb rb:Nat) (S1 S2:Nat->Prop) (most pat:Int) (n m:Nat) (s1 s2:CS):Prop where
 r:PR w W pb cb rb S1 S2
 k:KS w W S1 cb most pat n m s1
 d:DS w W S2 rb most pat m s2
 f1:s1.wf n m
 f2:s2.wf n m
section
variable {w W W':World} {pb cb rb:Nat} {S1 S2:Nat->Prop} {most pat:Int} {n m n' m':Nat} {s1 s2 t1 t2:CS}
theorem PR.plt (h:PR w W pb cb rb S1 S2):pb<W.heap.size:=(Array.getElem?_eq_some_iff.1 h.pr).1
theorem PR.one (h:PR w W pb cb rb S1 S2) (hc:Ch S1 W W'):PR w W' pb cb rb (gr S1 W W') S2 where
 pr:=(hc.block pb h.plt h.np1).trans h.pr
 np1:=fun q=>q.1.elim h.np1 (fun e=>by have:=h.plt;omega)
 np2:=h.np2
 dj:=fun k q q2=>q.1.elim (fun e=>h.dj k e q2) (fun e=>by have:=(h.b2 k q2).2;omega)
 b1:=fun k q=>⟨q.1.elim (fun e=>(h.b1 k e).1) (fun e=>Nat.le_trans h.bel.size e),q.2⟩
 b2:=fun k q=>⟨(h.b2 k q).1,Nat.lt_of_lt_of_le (h.b2 k q).2 hc.size⟩
 bel:=Co.bel_ch h.bel hc (fun k q=>(h.b1 k q).1)
theorem PR.two (h:PR w W pb cb rb S1 S2) (hc:Ch S2 W W'):PR w W' pb cb rb S1 (gr S2 W W') where
 pr:=(hc.block pb h.plt h.np2).trans h.pr
 np1:=h.np1
 np2:=fun q=>q.1.elim h.np2 (fun e=>by have:=h.plt;omega)
 dj:=fun k q q2=>q2.1.elim (fun e=>h.dj k q e) (fun e=>by have:=(h.b1 k q).2;omega)
 b1:=fun k q=>⟨(h.b1 k q).1,Nat.lt_of_lt_of_le (h.b1 k q).2 hc.size⟩
 b2:=fun k q=>⟨q.1.elim (fun e=>(h.b2 k e).1) (fun e=>Nat.le_trans h.bel.size e),q.2⟩
 bel:=Co.bel_ch h.bel hc (fun k q=>(h.b2 k q).1)
theorem PR.keep {T:Nat->Prop} (h:PR w W pb cb rb S1 S2) (hc:Ch T W W') (hp:¬ T pb) (hT:∀ k,T k->w.heap.size<=k):PR w W' pb cb rb S1 S2 where
 pr:=(hc.block pb h.plt hp).trans h.pr
 np1:=h.np1
 np2:=h.np2
 dj:=h.dj
 b1:=fun k q=>⟨(h.b1 k q).1,Nat.lt_of_lt_of_le (h.b1 k q).2 hc.size⟩
 b2:=fun k q=>⟨(h.b2 k q).1,Nat.lt_of_lt_of_le (h.b2 k q).2 hc.size⟩
 bel:=Co.bel_ch h.bel hc hT
theorem PP.keep {T:Nat->Prop} (h:PP w W pb cb rb S1 S2 most pat n m s1 s2) (hc:Ch T W W') (hp:¬ T pb) (hT:∀ k,T k->w.heap.size<=k) (d1:∀ k,S1 k->¬ T k) (d2:∀ k,S2 k->¬ T k):PP w W' pb cb rb S1 S2 most pat n m s1 s2 := ⟨h.r.keep hc hp hT,h.k.keep hc d1 hT,h.d.keep hc d2,h.f1,h.f2⟩
theorem PP.below (h:PP w W pb cb rb S1 S2 most pat n m s1 s2) (hb:Below W.heap.size W W'):PP w W' pb cb rb S1 S2 most pat n m s1 s2 := h.keep (T:=fun _=>False) (Below.ch hb) (fun q=>q) (fun _ q=>q.elim) (fun _ _ q=>q) (fun _ _ q=>q)
theorem PP.one (h:PP w W pb cb rb S1 S2 most pat n m s1 s2) (hc:Ch S1 W W') (hk:KS w W' (gr S1 W W') cb most pat n' m' t1) (hf:t1.wf n' m') (hn:n<=n') (hm:m<=m'):PP w W' pb cb rb (gr S1 W W') S2 most pat n' m' t1 s2 := ⟨h.r.one hc,hk,(h.d.keep hc (fun k q q1=>h.r.dj k q1 q)).mono (fun _ q=>q) hm,hf,h.f2.mono hn hm⟩
theorem PP.two (h:PP w W pb cb rb S1 S2 most pat n m s1 s2) (hc:Ch S2 W W') (hd:DS w W' (gr S2 W W') rb most pat m' t2) (hf:t2.wf n m') (hm:m<=m'):PP w W' pb cb rb S1 (gr S2 W W') most pat n m' s1 t2 := ⟨h.r.two hc,(h.k.keep hc (fun k q q2=>h.r.dj k q q2) (fun k q=>(h.r.b2 k q).1)).mono (fun _ q=>q) (Nat.le_refl _) hm,hd,h.f1.mono (Nat.le_refl _) hm,hf⟩
theorem PP.mono (h:PP w W pb cb rb S1 S2 most pat n m s1 s2) (hn:n<=n') (hm:m<=m'):PP w W pb cb rb S1 S2 most pat n' m' s1 s2 := ⟨h.r,h.k.mono (fun _ q=>q) hn hm,h.d.mono (fun _ q=>q) hm,h.f1.mono hn hm,h.f2.mono hn hm⟩
theorem PP.c0 (h:PP w W pb cb rb S1 S2 most pat n m s1 s2):W.cell? ⟨pb,0,none⟩=some (.pointer (some ⟨cb,0,none⟩)):=dcell h.r.pr 0 _ rfl
theorem PP.c1 (h:PP w W pb cb rb S1 S2 most pat n m s1 s2):W.cell? ⟨pb,1,none⟩=some (.pointer (some ⟨rb,0,none⟩)):=dcell h.r.pr 1 _ rfl
end
def PPd (w W W':World) (pb cb rb:Nat) (S1 S2:Nat->Prop) (most pat:Int) (n m:Nat):Prop := ∃ T1 T2 s,PP w W' pb cb rb T1 T2 most pat n m s s/\Ch (fun k=>S1 k\/S2 k) W W'/\∀ k,(T1 k\/T2 k)->(S1 k\/S2 k)\/W.heap.size<=k
theorem By.ch {W W':World} {T:Nat->Prop} {s:Sl} {z:Nat->Int} (h:By W s z) (hc:Ch T W W') (ha:∀ b off,s.a=some ⟨b,off,none⟩->¬ T b):By W' s z:=by
 refine ⟨h.1,h.2.1,?_⟩;by_cases e0:s.n=0;· exact .inl e0
 ·
  rcases h.2.2 with e | ⟨b,off,e1,e2⟩;· exact .inl e
  · refine .inr ⟨b,off,e1,fun i hi=>?_⟩;have hl:=lt_of_cell (e2 0 (by omega));rw [cell_congr (hc.block b hl (ha b off e1))];exact e2 i hi
theorem in_ch {W W':World} {T:Nat->Prop} {q:Pk} {c:Cn} (h:In W q c) (hc:Ch T W W') (ha:∀ g,T g->Apart q g):In W' q c:=by
 have keep:∀ (s:Sl) (b off:Nat),s.n≠0->s.a=some ⟨b,off,none⟩->(∀ g,T g->Ap s g)->(∃ i v,W.cell? ⟨b,i,none⟩=some v)->∀ i,W'.cell? ⟨b,i,none⟩=W.cell? ⟨b,i,none⟩:=by
  intro s b off h0 e1 hA ⟨i0,v0,hv⟩ i;refine cell_congr (hc.block b (lt_of_cell hv) (fun hT=>?_));rcases hA b hT with e | e;· exact h0 e
  · exact e b off e1 rfl
 refine ⟨⟨h.wP.1,h.wP.2.1,?_⟩,⟨h.pass.1,h.pass.2.1,?_⟩,⟨h.mP.1,h.mP.2.1,?_⟩,⟨h.asks.1,?_⟩,⟨h.codes.1,?_⟩,⟨h.filters.1,?_⟩⟩;·
  by_cases e0:q.wP.n=0;· exact .inl e0
  · rcases h.wP.2.2 with e | ⟨b,off,e1,e2⟩
    · exact .inl e
    · exact .inr ⟨b,off,e1,fun i hi=>(keep _ b off e0 e1 (fun g hg=>(ha g hg).wP) ⟨_,_,e2 i hi⟩ _).trans (e2 i hi)⟩
 ·
  by_cases e0:q.pass.n=0;· exact .inl e0
  · rcases h.pass.2.2 with e | ⟨b,off,e1,e2⟩
    · exact .inl e
    · exact .inr ⟨b,off,e1,fun i hi=>(keep _ b off e0 e1 (fun g hg=>(ha g hg).pass) ⟨_,_,e2 i hi⟩ _).trans (e2 i hi)⟩
 ·
  by_cases e0:q.mP.n=0;· exact .inl e0
  · rcases h.mP.2.2 with e | ⟨b,off,e1,e2⟩
    · exact .inl e
    · exact .inr ⟨b,off,e1,fun i hi=>(keep _ b off e0 e1 (fun g hg=>(ha g hg).mP) ⟨_,_,e2 i hi⟩ _).trans (e2 i hi)⟩
 ·
  by_cases e0:q.asks.n=0;· exact .inl e0
  · rcases h.asks.2 with e | ⟨b,off,e1,e2⟩
    · exact .inl e
    · exact .inr ⟨b,off,e1,fun i hi=>⟨(keep _ b off e0 e1 (fun g hg=>(ha g hg).asks) ⟨_,_,(e2 i hi).1⟩ _).trans (e2 i hi).1,(keep _ b off e0 e1 (fun g hg=>(ha g hg).asks) ⟨_,_,(e2 i hi).1⟩ _).trans (e2 i hi).2⟩⟩
 ·
  by_cases e0:q.codes.n=0;· exact .inl e0
  · rcases h.codes.2 with e | ⟨b,off,e1,e2⟩
    · exact .inl e
    · exact .inr ⟨b,off,e1,fun i hi=>(keep _ b off e0 e1 (fun g hg=>(ha g hg).codes) ⟨_,_,e2 i hi⟩ _).trans (e2 i hi)⟩
 ·
  by_cases e0:q.filters.n=0;· exact .inl e0
  · rcases h.filters.2 with e | ⟨b,off,e1,e2⟩
    · exact .inl e
    · exact .inr ⟨b,off,e1,fun i hi=>(keep _ b off e0 e1 (fun g hg=>(ha g hg).filters) ⟨_,_,e2 i hi⟩ _).trans (e2 i hi)⟩
def opC (kind:Int) (d:Sl) (what:Int) (q:Pk) (code err:Int):Array Value:=#[.int .i64 kind,.slice d.a d.n d.c,.int .i64 what,.int .i64 q.kind,.int .i64 q.level,.bool q.clean,.int .i64 q.keep,.string q.client,.bool q.hasWill,.string q.wT,.slice q.wP.a q.wP.n q.wP.c,.int .i64 q.wQ,.bool q.wR,.bool q.hasUser,.string q.user,.bool q.hasPass,.slice q.pass.a q.pass.n q.pass.c,.bool q.present,.int .i64 q.code,.bool q.dup,.string q.mT,.slice q.mP.a q.mP.n q.mP.c,.int .i64 q.mQ,.bool q.mR,.int .i64 q.id,.slice q.asks.a q.asks.n q.asks.c,.slice q.codes.a q.codes.n q.codes.c,.slice q.filters.a q.filters.n q.filters.c,.int .i64 code,.int .i64 err]
theorem op_in (kind:Int) (d:Sl) (what:Int) (q:Pk) (code err:Int):∀ j,j<28->(opC kind d what q code err)[2+j]?=(inC what q code err)[j]?:=by
 intro j hj;match j,hj with
 | 0,_ | 1,_ | 2,_ | 3,_ | 4,_ | 5,_ | 6,_ | 7,_ | 8,_ | 9,_ | 10,_ | 11,_ | 12,_ | 13,_ | 14,_ | 15,_ | 16,_ | 17,_ | 18,_ | 19,_ | 20,_ | 21,_ | 22,_ | 23,_ | 24,_ | 25,_ | 26,_ | 27,_=>rfl;| n+28,h=>omega
theorem op_pk (kind:Int) (d:Sl) (what:Int) (q:Pk) (code err:Int):∀ j,j<25->(opC kind d what q code err)[3+j]?=(pkCells q)[j]?:=by
 intro j hj;match j,hj with
 | 0,_ | 1,_ | 2,_ | 3,_ | 4,_ | 5,_ | 6,_ | 7,_ | 8,_ | 9,_ | 10,_ | 11,_ | 12,_ | 13,_ | 14,_ | 15,_ | 16,_ | 17,_ | 18,_ | 19,_ | 20,_ | 21,_ | 22,_ | 23,_ | 24,_=>rfl;| n+25,h=>omega
theorem range_op {w:World} {g:Nat} {kind:Int} {d:Sl} {what:Int} {q:Pk} {code err:Int} (h:w.heap[g]?=some (.cells (opC kind d what q code err) 44 (0,0))):w.rangeAt g 3 (pkCells q).toList/\w.rangeAt g 2 (inC what q code err).toList:=by
 refine ⟨fun j v hv=>?_,fun j v hv=>?_⟩
 · rw [Array.getElem?_toList] at hv
   exact dcell h (3+j) v ((op_pk kind d what q code err j (Array.getElem?_eq_some_iff.1 hv).1).trans hv)
 · rw [Array.getElem?_toList] at hv
   exact dcell h (2+j) v ((op_in kind d what q code err j (Array.getElem?_eq_some_iff.1 hv).1).trans hv)
theorem by_own {W:World} {B n:Nat} {a:Option Addr} {c:Nat} {z:Nat->Int} (h:W.ownsRow B 5 1 (.slice a n c) n (cellsOf z n)) (hz:∀ i,0<=z i/\z i<=255):By W ⟨a,n,c⟩ z:=by
 have co:=came_own h hz;refine ⟨co.1.1,hz,?_⟩;rcases co.1.2.2 with ⟨_,e,_⟩|⟨ad,e,cc⟩;· exact .inl e
 ·
  rcases co.2 with e2 | ⟨g,e2⟩;· rw [e2] at e;cases e
  · rw [e2] at e
    cases e;exact .inr ⟨g,0,e2,fun i hi=>by have:=cc i hi;rw [plain_add] at this;exact this⟩
open Co (inC inA ansP kpC cnC KL CnAt onP bdP PkM TookIs lateP wpList_load41 in_info in_one zero_in)
section
variable {w W:World} {pb cb rb:Nat} {S1 S2:Nat->Prop} {most pat:Int} {n m:Nat} {s:CS}
theorem PPd.mk {A B C D E:World} (hWA:Below W.heap.size W A) (hAB:Ch S1 A B) (hBC:Below B.heap.size B C) (hCD:Ch S2 C D) (hDE:Below D.heap.size D E) (hp:PP w D pb cb rb (gr S1 A B) (gr S2 C D) most pat n m s s):PPd w W E pb cb rb S1 S2 most pat n m:=by
 refine ⟨_,_,s,hp.below hDE,?_,?_⟩;· have c1:Ch (fun k=>S1 k\/S2 k) W A:=Below.ch hWA;have c2:Ch (fun k=>S1 k\/S2 k) A B:=hAB.mono (fun _ _ q=>.inl q);have c3:Ch (fun k=>S1 k\/S2 k) B C:=Below.ch hBC;have c4:Ch (fun k=>S1 k\/S2 k) C D:=hCD.mono (fun _ _ q=>.inr q);have c5:Ch (fun k=>S1 k\/S2 k) D E:=Below.ch hDE;exact (((c1.then c2).then c3).then c4).then c5
 ·
  intro k hk;have z1:=hWA.size;have z2:=hAB.size;have z3:=hBC.size;rcases hk with hk | hk
  · rcases hk.1 with q | q
    · exact .inl (.inl q)
    · exact .inr (by omega)
  · rcases hk.1 with q | q
    · exact .inl (.inr q)
    · exact .inr (by omega)
theorem PPd.same {E:World} (hWE:Below W.heap.size W E) (hp:PP w W pb cb rb S1 S2 most pat n m s s):PPd w W E pb cb rb S1 S2 most pat n m:=⟨S1,S2,s,hp.below hWE,Below.ch hWE,fun k q=>.inl q⟩
theorem PPd.mono {E:World} {n' m':Nat} (h:PPd w W E pb cb rb S1 S2 most pat n m) (hn:n<=n') (hm:m<=m'):PPd w W E pb cb rb S1 S2 most pat n' m':=by obtain ⟨T1,T2,s,h1,h2,h3⟩:=h;exact ⟨T1,T2,s,h1.mono hn hm,h2,h3⟩
theorem drew_bel (V:World):Below V.heap.size V V.drew:=(Below.refl _ _).drew
end
set_option maxRecDepth 100000
set_option maxHeartbeats 4000000
section
variable {w W:World} {pb cb rb:Nat} {S1 S2:Nat->Prop} {most pat:Int} {n m:Nat} {s:CS}
theorem plays_other (h:PP w W pb cb rb S1 S2 most pat n m s s) (d:Sl) (zb:Nat->Int) (what:Int) (q:Pk) (code err kind:Int) (k1:kind≠1) (k2:kind≠2) (k3:kind≠3) (k4:kind≠4) (k6:kind≠6) (hn:n+d.n<=300000) (hm:m<=100000) (hd:By w d zb) (hq:PkR w q) :
 Calls Tryz.prog 8 #[.pointer (some ⟨pb,0,none⟩),.agg (opC kind d what q code err)] W fun e W'=>e = .returned (.bool true)/\PPd w W W' pb cb rb S1 S2 most pat (n+d.n) (m+2):=by
 obtain ⟨P,hP⟩:∃ P,P=opC kind d what q code err:=⟨_,rfl⟩;rw [<-hP];obtain ⟨W1,hW1⟩:∃ W1,W1=W.alloc (.cells P 44):=⟨_,rfl⟩;have b1:Below W.heap.size W W1:=by rw [hW1];exact (Below.refl _ _).alloc (Nat.le_refl _) _
 have a1:W1.heap[W.heap.size]?=some (.cells (opC kind d what q code err) 44 (0,0)):=by rw [hW1,<-hP];exact heap_alloc_new _ _
 have B1:=hidi b1;have A1:=hidi a1;have H1:=hidi (h.below b1);have HN:=hidi (And.intro hn hm);have HD:=hidi hd;have HQ:=hidi hq;have H0:=hidi h;have i0:=dcell a1 0 (.int .i64 kind) rfl;have HW1:=hidi hW1;clear hP h hn hm hd hq b1 a1 hW1;go_enter Tryz.func8,Tryz.ntmps8;go_upto_region 1 with fail;rw [<-HW1.out];clear HW1;have e1:(kind==1)=false:=by simpa using k1
 have e2:(kind==2)=false:=by simpa using k2
 have e3:(kind==3)=false:=by simpa using k3
 have e4:(kind==4)=false:=by simpa using k4
 have e6:(kind==6)=false:=by simpa using k6
 have OC1:=hidi (show Calls Tryz.prog 12 #[.pointer (some ⟨cb,0,none⟩)] W1.drew fun e w'=>∃ x,e = .returned x/\(x = .bool (overA s)/\Hid (w'=W1.drew)) from (kover (H1.out.below (drew_bel W1)).k H1.out.f1).mono fun e w' hh=>⟨_,hh.1,rfl,hh.2⟩);have OC2:=hidi (show Calls Tryz.prog 24 #[.pointer (some ⟨rb,0,none⟩)] W1.drew fun e w'=>∃ x,e = .returned x/\(x = .bool (overA s)/\Hid (w'=W1.drew)) from (dover (H1.out.below (drew_bel W1)).d H1.out.f2).mono fun e w' hh=>⟨_,hh.1,rfl,hh.2⟩);have d0:=H1.out.c0;have d1:=H1.out.c1;obtain ⟨ov,hov⟩:∃ ov,overA s=ov:=⟨_,rfl⟩;rw [hov] at OC1 OC2;clear hov;go_upto_region 19 with fail;refine wp_region_held_drew (S:=fun w'=>w'.cell? ⟨pb,0,none⟩=some (.pointer (some ⟨cb,0,none⟩))/\w'.cell? ⟨pb,1,none⟩=some (.pointer (some ⟨rb,0,none⟩))) (by kernel_rfl) ⟨d0,d1⟩ (fun hHeld=>?_);refine tkz 0 ⟨some 115,.move (.tmp 0),25,"exact.go:67",#[],none⟩ (.pointer (some ⟨pb,0,none⟩)) (fun wq _=>pureVal_run (by kernel_rfl) wq) hHeld ?_;simp only [Act.put,zz1,zz2,zz3];refine tkz 1 ⟨some 116,.nilCheck (.tmp 115),0,"exact.go:67",#[⟨0,.data⟩],none⟩ (.pointer (some ⟨pb,0,none⟩)) (by intro wq hSw;clear hSw hHeld;go_simp) hHeld ?_;simp only [Act.put,zz1,zz2,zz3];refine tkz 2 ⟨some 117,.fieldAddr 30 (.tmp 116) 0,0,"exact.go:67",#[⟨1,.data⟩],none⟩ (.pointer (some ⟨pb,0,none⟩)) (by intro wq hSw;clear hSw hHeld;go_simp) hHeld ?_;simp only [Act.put,zz1,zz2,zz3];refine tkz 3 ⟨some 118,.load 27 (.tmp 117),27,"exact.go:67",#[⟨2,.data⟩],none⟩ (.pointer (some ⟨cb,0,none⟩)) (by intro wq hSw;obtain ⟨s0,s1⟩:=hSw;clear hHeld;go_simp) hHeld ?_;simp only [Act.put,zz1,zz2,zz3];refine tkz 5 ⟨some 120,.move (.tmp 0),25,"exact.go:67",#[],none⟩ (.pointer (some ⟨pb,0,none⟩)) (fun wq _=>pureVal_run (by kernel_rfl) wq) hHeld ?_;simp only [Act.put,zz1,zz2,zz3];refine tkz 6 ⟨some 121,.nilCheck (.tmp 120),0,"exact.go:67",#[⟨5,.data⟩],none⟩ (.pointer (some ⟨pb,0,none⟩)) (by intro wq hSw;clear hSw hHeld;go_simp) hHeld ?_;simp only [Act.put,zz1,zz2,zz3];refine tkz 7 ⟨some 122,.fieldAddr 30 (.tmp 121) 1,0,"exact.go:67",#[⟨6,.data⟩],none⟩ (.pointer (some ⟨pb,1,none⟩)) (by intro wq hSw;clear hSw hHeld;go_simp) hHeld ?_;simp only [Act.put,zz1,zz2,zz3];refine tkz 8 ⟨some 123,.load 28 (.tmp 122),28,"exact.go:67",#[⟨7,.data⟩],none⟩ (.pointer (some ⟨rb,0,none⟩)) (by intro wq hSw;obtain ⟨s0,s1⟩:=hSw;clear hHeld;go_simp) hHeld ?_;simp only [Act.put,zz1,zz2,zz3];refine wpAnyH_ready (rs:=[4]) (by kernel_rfl) (by simp) ?_;refine AllReadyH.cons (o:=⟨some 119,.call ⟨.value (.func 12),#[.tmp 118],#[27]⟩,4,"exact.go:67",#[⟨3,.data⟩],none⟩) (by rfl) (fun K hK=>?_) AllReadyH.nil;refine held_call (by kernel_rfl) 12 #[.pointer (some ⟨cb,0,none⟩)] (by clear hHeld hK;go_simp) (R:=fun x w'=>x = .bool ov/\Hid (w'=W1.drew)) OC1.out ?_;rintro _ v1 ⟨rfl,hv1⟩;have hv2:=hv1.out.symm;subst hv2;refine hK.out _ _ ⟨d0,d1⟩ (fun hHeld=>?_);clear hK K hv1;(try simp only [Act.put,zz1,zz2,zz3]);refine wpAnyH_ready (rs:=[9]) (by kernel_rfl) (by simp) ?_;refine AllReadyH.cons (o:=⟨some 124,.call ⟨.value (.func 24),#[.tmp 123],#[28]⟩,4,"exact.go:67",#[⟨8,.data⟩,⟨4,.chain⟩],none⟩) (by rfl) (fun K hK=>?_) AllReadyH.nil;refine held_call (by kernel_rfl) 24 #[.pointer (some ⟨rb,0,none⟩)] (by clear hHeld hK;go_simp) (R:=fun x w'=>x = .bool ov/\Hid (w'=W1.drew)) OC2.out ?_;rintro _ v2 ⟨rfl,hv1⟩;have hv2:=hv1.out.symm;subst hv2;refine hK.out _ _ ⟨d0,d1⟩ (fun hHeld=>?_);clear hK K hv1;(try simp only [Act.put,zz1,zz2,zz3]);refine tkz 10 ⟨some 125,.binOp .eql 4 (.tmp 119) (.tmp 124) 4,4,"exact.go:67",#[⟨4,.data⟩,⟨9,.data⟩],none⟩ (.bool true) (by intro wq hSw;clear hSw hHeld;go_simp) hHeld ?_;simp only [Act.put,zz1,zz2,zz3];refine tkz 11 ⟨some 4,.assign (.tmp 125),4,"exact.go:67",#[⟨10,.data⟩,⟨9,.chain⟩,⟨0,.phase⟩,⟨1,.phase⟩,⟨2,.phase⟩,⟨3,.phase⟩,⟨4,.phase⟩,⟨5,.phase⟩,⟨6,.phase⟩,⟨7,.phase⟩,⟨8,.phase⟩,⟨9,.phase⟩,⟨10,.phase⟩],none⟩ (.bool true) (fun wq _=>pureVal_run (by kernel_rfl) wq) hHeld ?_;simp only [Act.put,zz1,zz2,zz3];clear hHeld;refine wpAnyH_done (by kernel_rfl) ?_ _;go_wp2_with fail;go_ret;exact ⟨rfl,(PPd.same (Co.bel_on B1.out (drew_bel W1)) H0.out).mono (by omega) (by omega)⟩
end
section
variable {w W:World} {pb cb rb:Nat} {S1 S2:Nat->Prop} {most pat:Int} {n m:Nat} {s:CS}
theorem plays_four (h:PP w W pb cb rb S1 S2 most pat n m s s) (d:Sl) (zb:Nat->Int) (what:Int) (q:Pk) (code err:Int) (hn:n+d.n<=300000) (hm:m<=100000) (hd:By w d zb) (hq:PkR w q) :
 Calls Tryz.prog 8 #[.pointer (some ⟨pb,0,none⟩),.agg (opC 4 d what q code err)] W fun e W'=>e = .returned (.bool true)/\PPd w W W' pb cb rb S1 S2 most pat (n+d.n) (m+2):=by
 obtain ⟨P,hP⟩:∃ P,P=opC 4 d what q code err:=⟨_,rfl⟩;rw [<-hP];obtain ⟨W1,hW1⟩:∃ W1,W1=W.alloc (.cells P 44):=⟨_,rfl⟩;have b1:Below W.heap.size W W1:=by rw [hW1];exact (Below.refl _ _).alloc (Nat.le_refl _) _
 have a1:W1.heap[W.heap.size]?=some (.cells (opC 4 d what q code err) 44 (0,0)):=by rw [hW1,<-hP];exact heap_alloc_new _ _
 have B1:=hidi b1;have A1:=hidi a1;have H1:=hidi (h.below b1);have HN:=hidi (And.intro hn hm);have HD:=hidi hd;have HQ:=hidi hq;have H0:=hidi h;have i0:=dcell a1 0 (.int .i64 4) rfl;have HW1:=hidi hW1;clear hP h hn hm hd hq b1 a1 hW1;go_enter Tryz.func8,Tryz.ntmps8;go_upto_region 1 with fail;rw [<-HW1.out];clear HW1;have c0:=H1.out.c0;have K4:=hidi (kstop H1.out.k);go_wp2_with fail;go_must (go_at_call 19);refine K4.out.mono ?_;rintro e V2 ⟨rfl,hk,hc⟩;have H2:=hidi (H1.out.one hc hk trivial (Nat.le_refl _) (Nat.le_refl _));have C1:=hidi hc;clear hk hc K4 c0;have c1:=H2.out.c1;have K4:=hidi (dstop H2.out.d H2.out.f2);go_wp2_with fail;go_must (go_at_call 20);refine K4.out.mono ?_;rintro e V3 ⟨rfl,hk,hc⟩;have H3:=hidi (H2.out.two hc hk trivial (Nat.le_refl _));have C2:=hidi hc;clear hk hc K4 c1;have OC1:=hidi (show Calls Tryz.prog 12 #[.pointer (some ⟨cb,0,none⟩)] V3.drew fun e w'=>∃ x,e = .returned x/\(x = .bool (overA .over)/\Hid (w'=V3.drew)) from (kover (H3.out.below (drew_bel V3)).k H3.out.f1).mono fun e w' hh=>⟨_,hh.1,rfl,hh.2⟩);have OC2:=hidi (show Calls Tryz.prog 24 #[.pointer (some ⟨rb,0,none⟩)] V3.drew fun e w'=>∃ x,e = .returned x/\(x = .bool (overA .over)/\Hid (w'=V3.drew)) from (dover (H3.out.below (drew_bel V3)).d H3.out.f2).mono fun e w' hh=>⟨_,hh.1,rfl,hh.2⟩);have d0:=H3.out.c0;have d1:=H3.out.c1;obtain ⟨ov,hov⟩:∃ ov,overA .over=ov:=⟨_,rfl⟩;rw [hov] at OC1 OC2;clear hov;go_upto_region 19 with fail;refine wp_region_held_drew (S:=fun w'=>w'.cell? ⟨pb,0,none⟩=some (.pointer (some ⟨cb,0,none⟩))/\w'.cell? ⟨pb,1,none⟩=some (.pointer (some ⟨rb,0,none⟩))) (by kernel_rfl) ⟨d0,d1⟩ (fun hHeld=>?_);refine tkz 0 ⟨some 115,.move (.tmp 0),25,"exact.go:67",#[],none⟩ (.pointer (some ⟨pb,0,none⟩)) (fun wq _=>pureVal_run (by kernel_rfl) wq) hHeld ?_;simp only [Act.put,zz1,zz2,zz3];refine tkz 1 ⟨some 116,.nilCheck (.tmp 115),0,"exact.go:67",#[⟨0,.data⟩],none⟩ (.pointer (some ⟨pb,0,none⟩)) (by intro wq hSw;clear hSw hHeld;go_simp) hHeld ?_;simp only [Act.put,zz1,zz2,zz3];refine tkz 2 ⟨some 117,.fieldAddr 30 (.tmp 116) 0,0,"exact.go:67",#[⟨1,.data⟩],none⟩ (.pointer (some ⟨pb,0,none⟩)) (by intro wq hSw;clear hSw hHeld;go_simp) hHeld ?_;simp only [Act.put,zz1,zz2,zz3];refine tkz 3 ⟨some 118,.load 27 (.tmp 117),27,"exact.go:67",#[⟨2,.data⟩],none⟩ (.pointer (some ⟨cb,0,none⟩)) (by intro wq hSw;obtain ⟨s0,s1⟩:=hSw;clear hHeld;go_simp) hHeld ?_;simp only [Act.put,zz1,zz2,zz3];refine tkz 5 ⟨some 120,.move (.tmp 0),25,"exact.go:67",#[],none⟩ (.pointer (some ⟨pb,0,none⟩)) (fun wq _=>pureVal_run (by kernel_rfl) wq) hHeld ?_;simp only [Act.put,zz1,zz2,zz3];refine tkz 6 ⟨some 121,.nilCheck (.tmp 120),0,"exact.go:67",#[⟨5,.data⟩],none⟩ (.pointer (some ⟨pb,0,none⟩)) (by intro wq hSw;clear hSw hHeld;go_simp) hHeld ?_;simp only [Act.put,zz1,zz2,zz3];refine tkz 7 ⟨some 122,.fieldAddr 30 (.tmp 121) 1,0,"exact.go:67",#[⟨6,.data⟩],none⟩ (.pointer (some ⟨pb,1,none⟩)) (by intro wq hSw;clear hSw hHeld;go_simp) hHeld ?_;simp only [Act.put,zz1,zz2,zz3];refine tkz 8 ⟨some 123,.load 28 (.tmp 122),28,"exact.go:67",#[⟨7,.data⟩],none⟩ (.pointer (some ⟨rb,0,none⟩)) (by intro wq hSw;obtain ⟨s0,s1⟩:=hSw;clear hHeld;go_simp) hHeld ?_;simp only [Act.put,zz1,zz2,zz3];refine wpAnyH_ready (rs:=[4]) (by kernel_rfl) (by simp) ?_;refine AllReadyH.cons (o:=⟨some 119,.call ⟨.value (.func 12),#[.tmp 118],#[27]⟩,4,"exact.go:67",#[⟨3,.data⟩],none⟩) (by rfl) (fun K hK=>?_) AllReadyH.nil;refine held_call (by kernel_rfl) 12 #[.pointer (some ⟨cb,0,none⟩)] (by clear hHeld hK;go_simp) (R:=fun x w'=>x = .bool ov/\Hid (w'=V3.drew)) OC1.out ?_;rintro _ v1 ⟨rfl,hv1⟩;have hv2:=hv1.out.symm;subst hv2;refine hK.out _ _ ⟨d0,d1⟩ (fun hHeld=>?_);clear hK K hv1;(try simp only [Act.put,zz1,zz2,zz3]);refine wpAnyH_ready (rs:=[9]) (by kernel_rfl) (by simp) ?_;refine AllReadyH.cons (o:=⟨some 124,.call ⟨.value (.func 24),#[.tmp 123],#[28]⟩,4,"exact.go:67",#[⟨8,.data⟩,⟨4,.chain⟩],none⟩) (by rfl) (fun K hK=>?_) AllReadyH.nil;refine held_call (by kernel_rfl) 24 #[.pointer (some ⟨rb,0,none⟩)] (by clear hHeld hK;go_simp) (R:=fun x w'=>x = .bool ov/\Hid (w'=V3.drew)) OC2.out ?_;rintro _ v2 ⟨rfl,hv1⟩;have hv2:=hv1.out.symm;subst hv2;refine hK.out _ _ ⟨d0,d1⟩ (fun hHeld=>?_);clear hK K hv1;(try simp only [Act.put,zz1,zz2,zz3]);refine tkz 10 ⟨some 125,.binOp .eql 4 (.tmp 119) (.tmp 124) 4,4,"exact.go:67",#[⟨4,.data⟩,⟨9,.data⟩],none⟩ (.bool true) (by intro wq hSw;clear hSw hHeld;go_simp) hHeld ?_;simp only [Act.put,zz1,zz2,zz3];refine tkz 11 ⟨some 4,.assign (.tmp 125),4,"exact.go:67",#[⟨10,.data⟩,⟨9,.chain⟩,⟨0,.phase⟩,⟨1,.phase⟩,⟨2,.phase⟩,⟨3,.phase⟩,⟨4,.phase⟩,⟨5,.phase⟩,⟨6,.phase⟩,⟨7,.phase⟩,⟨8,.phase⟩,⟨9,.phase⟩,⟨10,.phase⟩],none⟩ (.bool true) (fun wq _=>pureVal_run (by kernel_rfl) wq) hHeld ?_;simp only [Act.put,zz1,zz2,zz3];clear hHeld;refine wpAnyH_done (by kernel_rfl) ?_ _;go_wp2_with fail;go_ret;exact ⟨rfl,(PPd.mk B1.out C1.out (Below.refl _ _) C2.out (drew_bel V3) H3.out).mono (by omega) (by omega)⟩
end
section
variable {w W:World} {pb cb rb:Nat} {S1 S2:Nat->Prop} {most pat:Int} {n m:Nat} {s:CS}
theorem plays_three (h:PP w W pb cb rb S1 S2 most pat n m s s) (d:Sl) (zb:Nat->Int) (what:Int) (q:Pk) (code err:Int) (hn:n+d.n<=300000) (hm:m<=100000) (hd:By w d zb) (hq:PkR w q) :
 Calls Tryz.prog 8 #[.pointer (some ⟨pb,0,none⟩),.agg (opC 3 d what q code err)] W fun e W'=>e = .returned (.bool true)/\PPd w W W' pb cb rb S1 S2 most pat (n+d.n) (m+2):=by
 obtain ⟨P,hP⟩:∃ P,P=opC 3 d what q code err:=⟨_,rfl⟩;rw [<-hP];obtain ⟨W1,hW1⟩:∃ W1,W1=W.alloc (.cells P 44):=⟨_,rfl⟩;have b1:Below W.heap.size W W1:=by rw [hW1];exact (Below.refl _ _).alloc (Nat.le_refl _) _
 have a1:W1.heap[W.heap.size]?=some (.cells (opC 3 d what q code err) 44 (0,0)):=by rw [hW1,<-hP];exact heap_alloc_new _ _
 have B1:=hidi b1;have A1:=hidi a1;have H1:=hidi (h.below b1);have HN:=hidi (And.intro hn hm);have HD:=hidi hd;have HQ:=hidi hq;have H0:=hidi h;have i0:=dcell a1 0 (.int .i64 3) rfl;have HW1:=hidi hW1;clear hP h hn hm hd hq b1 a1 hW1;go_enter Tryz.func8,Tryz.ntmps8;go_upto_region 1 with fail;rw [<-HW1.out];clear HW1;have d0:=H1.out.c0;have d1:=H1.out.c1;obtain ⟨tA,htA⟩:∃ tA,tickA pat s=tA:=⟨_,rfl⟩;have HD0:=hidi (H1.out.below (drew_bel W1));have TC1:=hidi (show Calls Tryz.prog 14 #[.pointer (some ⟨cb,0,none⟩)] W1.drew fun e w'=>∃ x,e = .returned x/\(x = .bool tA/\Hid (KS w w' (gr S1 W1.drew w') cb most pat n (m+1) (tickS s))/\Hid (Ch S1 W1.drew w')) from (ktick HD0.out.k HD0.out.f1 (by have:=HN.out;omega)).mono fun e w' hh=>⟨_,hh.1,by rw [htA],hh.2.1,hh.2.2⟩);have TC2:=hidi (show ∀ V,PP w V pb cb rb (gr S1 W1.drew V) S2 most pat n (m+1) (tickS s) s->Calls Tryz.prog 18 #[.pointer (some ⟨rb,0,none⟩)] V fun e w'=>∃ x,e = .returned x/\(x = .bool tA/\Hid (DS w w' (gr S2 V w') rb most pat (m+2) (tickS s))/\Hid (Ch S2 V w')) from fun V hV=>(dtick hV.d hV.f2 (by have:=HN.out;omega)).mono fun e w' hh=>⟨_,hh.1,by rw [htA],hh.2.1,hh.2.2⟩);clear htA;go_upto_region 12 with fail;refine wp_region_held_drew (S:=fun w'=>w'.cell? ⟨pb,0,none⟩=some (.pointer (some ⟨cb,0,none⟩))/\w'.cell? ⟨pb,1,none⟩=some (.pointer (some ⟨rb,0,none⟩))) (by kernel_rfl) ⟨d0,d1⟩ (fun hHeld=>?_);refine tkz 0 ⟨some 64,.move (.tmp 0),25,"exact.go:59",#[],none⟩ (.pointer (some ⟨pb,0,none⟩)) (fun wq _=>pureVal_run (by kernel_rfl) wq) hHeld ?_;simp only [Act.put,zz1,zz2,zz3];refine tkz 1 ⟨some 65,.nilCheck (.tmp 64),0,"exact.go:59",#[⟨0,.data⟩],none⟩ (.pointer (some ⟨pb,0,none⟩)) (by intro wq hSw;clear hSw hHeld;go_simp) hHeld ?_;simp only [Act.put,zz1,zz2,zz3];refine tkz 2 ⟨some 66,.fieldAddr 30 (.tmp 65) 0,0,"exact.go:59",#[⟨1,.data⟩],none⟩ (.pointer (some ⟨pb,0,none⟩)) (by intro wq hSw;clear hSw hHeld;go_simp) hHeld ?_;simp only [Act.put,zz1,zz2,zz3];refine tkz 3 ⟨some 67,.load 27 (.tmp 66),27,"exact.go:59",#[⟨2,.data⟩],none⟩ (.pointer (some ⟨cb,0,none⟩)) (by intro wq hSw;obtain ⟨s0,s1⟩:=hSw;clear hHeld;go_simp) hHeld ?_;simp only [Act.put,zz1,zz2,zz3];refine tkz 5 ⟨some 69,.move (.tmp 0),25,"exact.go:59",#[],none⟩ (.pointer (some ⟨pb,0,none⟩)) (fun wq _=>pureVal_run (by kernel_rfl) wq) hHeld ?_;simp only [Act.put,zz1,zz2,zz3];refine tkz 6 ⟨some 70,.nilCheck (.tmp 69),0,"exact.go:59",#[⟨5,.data⟩],none⟩ (.pointer (some ⟨pb,0,none⟩)) (by intro wq hSw;clear hSw hHeld;go_simp) hHeld ?_;simp only [Act.put,zz1,zz2,zz3];refine tkz 7 ⟨some 71,.fieldAddr 30 (.tmp 70) 1,0,"exact.go:59",#[⟨6,.data⟩],none⟩ (.pointer (some ⟨pb,1,none⟩)) (by intro wq hSw;clear hSw hHeld;go_simp) hHeld ?_;simp only [Act.put,zz1,zz2,zz3];refine tkz 8 ⟨some 72,.load 28 (.tmp 71),28,"exact.go:59",#[⟨7,.data⟩],none⟩ (.pointer (some ⟨rb,0,none⟩)) (by intro wq hSw;obtain ⟨s0,s1⟩:=hSw;clear hHeld;go_simp) hHeld ?_;simp only [Act.put,zz1,zz2,zz3];refine wpAnyH_ready (rs:=[4]) (by kernel_rfl) (by simp) ?_;refine AllReadyH.cons (o:=⟨some 68,.call ⟨.value (.func 14),#[.tmp 67],#[27]⟩,4,"exact.go:59",#[⟨3,.data⟩],none⟩) (by rfl) (fun K hK=>?_) AllReadyH.nil;refine held_call (by kernel_rfl) 14 #[.pointer (some ⟨cb,0,none⟩)] (by clear hHeld hK;go_simp) (R:=fun x w'=>x = .bool tA/\Hid (KS w w' (gr S1 W1.drew w') cb most pat n (m+1) (tickS s))/\Hid (Ch S1 W1.drew w')) TC1.out ?_;rintro _ V2 ⟨rfl,hk,hc⟩;have H2:=hidi (HD0.out.one hc.out hk.out (tickS_wf HD0.out.f1) (Nat.le_refl _) (by omega));refine hK.out _ _ ⟨H2.out.c0,H2.out.c1⟩ (fun hHeld=>?_);clear hK K;(try simp only [Act.put,zz1,zz2,zz3]);refine wpAnyH_ready (rs:=[9]) (by kernel_rfl) (by simp) ?_;refine AllReadyH.cons (o:=⟨some 73,.call ⟨.value (.func 18),#[.tmp 72],#[28]⟩,4,"exact.go:59",#[⟨8,.data⟩,⟨4,.chain⟩],none⟩) (by rfl) (fun K hK=>?_) AllReadyH.nil;refine held_call (by kernel_rfl) 18 #[.pointer (some ⟨rb,0,none⟩)] (by clear hHeld hK;go_simp) (R:=fun x w'=>x = .bool tA/\Hid (DS w w' (gr S2 V2 w') rb most pat (m+2) (tickS s))/\Hid (Ch S2 V2 w')) (TC2.out V2 H2.out) ?_;rintro _ V3 ⟨rfl,hk3,hc3⟩;have H3:=hidi (H2.out.two hc3.out hk3.out ((tickS_wf HD0.out.f1).mono (Nat.le_refl _) (by omega)) (by omega));refine hK.out _ _ ⟨H3.out.c0,H3.out.c1⟩ (fun hHeld=>?_);clear hK K;(try simp only [Act.put,zz1,zz2,zz3]);refine tkz 10 ⟨some 74,.binOp .eql 4 (.tmp 68) (.tmp 73) 4,4,"exact.go:59",#[⟨4,.data⟩,⟨9,.data⟩],none⟩ (.bool true) (by intro wq hSw;clear hSw hHeld;go_simp) hHeld ?_;simp only [Act.put,zz1,zz2,zz3];refine tkz 11 ⟨some 4,.assign (.tmp 74),4,"exact.go:59",#[⟨10,.data⟩,⟨9,.chain⟩,⟨0,.phase⟩,⟨1,.phase⟩,⟨2,.phase⟩,⟨3,.phase⟩,⟨4,.phase⟩,⟨5,.phase⟩,⟨6,.phase⟩,⟨7,.phase⟩,⟨8,.phase⟩,⟨9,.phase⟩,⟨10,.phase⟩],none⟩ (.bool true) (fun wq _=>pureVal_run (by kernel_rfl) wq) hHeld ?_;simp only [Act.put,zz1,zz2,zz3];clear hHeld;refine wpAnyH_done (by kernel_rfl) ?_ _;go_wp2_with fail;go_ret;exact ⟨rfl,(PPd.mk (Co.bel_on B1.out (drew_bel W1)) hc.out (Below.refl _ _) hc3.out (Below.refl _ _) H3.out).mono (by omega) (by omega)⟩
end
end Go.Proofs.YtpldoeeahhaimaaGreatDoor.Dr
