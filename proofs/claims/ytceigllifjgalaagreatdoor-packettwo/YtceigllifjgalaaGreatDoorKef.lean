import Derived.Test.YtceigllifjgalaaGreatDoorKc
namespace Go.Proofs.YtceigllifjgalaaGreatDoor.Bk
open Go Go.RowKit
set_option linter.unusedSimpArgs false
set_option linter.unusedVariables false
structure Hd (κ:Kd) (k0 cs:Array Value) (t deep seen:Int):Prop where
 now:cs[0]?=some (.bool false)
 bad:cs[1]?=some (.bool false)
 turn:cs[2]?=some (.int .i64 t)
 dp:cs[3]?=some (.int .i64 deep)
 sn:cs[κ.c0+8]?=some (.int .i64 seen)
 rest:∀ j,4≤j→(j<κ.c0∨κ.c0+9≤j)→cs[j]?=k0[j]?
 low:4≤κ.c0
section
variable {κ:Kd} {k0 cs:Array Value} {t deep seen:Int}
theorem Hd.row (h:Hd κ k0 cs t deep seen) (i:Nat) (hi:i<8) (v:Value):Hd κ k0 (cs.setIfInBounds (κ.c0+i) v) t deep seen:=by
 have:=h.low
 refine ⟨?_,?_,?_,?_,?_,fun j hj hk=>?_,h.low⟩
 · rw [Array.getElem?_setIfInBounds_ne (by omega)];exact h.now
 · rw [Array.getElem?_setIfInBounds_ne (by omega)];exact h.bad
 · rw [Array.getElem?_setIfInBounds_ne (by omega)];exact h.turn
 · rw [Array.getElem?_setIfInBounds_ne (by omega)];exact h.dp
 · rw [Array.getElem?_setIfInBounds_ne (by omega)];exact h.sn
 · rw [Array.getElem?_setIfInBounds_ne (by omega)];exact h.rest j hj hk
theorem Hd.deeper (h:Hd κ k0 cs t deep seen) (d:Int):Hd κ k0 (cs.setIfInBounds 3 (.int .i64 d)) t d seen:=by
 have:=h.low
 have h3:3<cs.size:=(Array.getElem?_eq_some_iff.1 h.dp).1
 refine ⟨?_,?_,?_,by simp [h3],?_,fun j hj hk=>?_,h.low⟩
 · rw [Array.getElem?_setIfInBounds_ne (by omega)];exact h.now
 · rw [Array.getElem?_setIfInBounds_ne (by omega)];exact h.bad
 · rw [Array.getElem?_setIfInBounds_ne (by omega)];exact h.turn
 · rw [Array.getElem?_setIfInBounds_ne (by omega)];exact h.sn
 · rw [Array.getElem?_setIfInBounds_ne (by omega)];exact h.rest j hj hk
theorem Hd.sees (h:Hd κ k0 cs t deep seen) (d:Int):Hd κ k0 (cs.setIfInBounds (κ.c0+8) (.int .i64 d)) t deep d:=by
 have:=h.low
 have h3:κ.c0+8<cs.size:=(Array.getElem?_eq_some_iff.1 h.sn).1
 refine ⟨?_,?_,?_,?_,by simp [h3],fun j hj hk=>?_,h.low⟩
 · rw [Array.getElem?_setIfInBounds_ne (by omega)];exact h.now
 · rw [Array.getElem?_setIfInBounds_ne (by omega)];exact h.bad
 · rw [Array.getElem?_setIfInBounds_ne (by omega)];exact h.turn
 · rw [Array.getElem?_setIfInBounds_ne (by omega)];exact h.dp
 · rw [Array.getElem?_setIfInBounds_ne (by omega)];exact h.rest j hj hk
theorem Hd.badly (h:Hd κ k0 cs t deep seen):Hd κ k0 (cs.setIfInBounds 1 (.bool false)) t deep seen:=by
 rw [zbU h.bad];exact h
end
structure Bq (κ:Kd) (k0:Array Value) (w0 wx:World) (bb B:Nat) (S:Nat→Prop) (cs:Array Value) (rv:Nat→Value) (xs:Nat→List Value) (t deep seen:Int):Prop where
 br:BR κ wx bb B cs rv xs
 hd:Hd κ k0 cs t deep seen
 ch:Ch S w0 wx
 sb:S bb
 ins:∀ i,i<8→∀ k,(rv i).ownBlock=some k→S k∨w0.heap.size≤k
section
variable {κ:Kd} {k0:Array Value} {w0 w wx w':World} {bb B:Nat} {S:Nat→Prop} {cs:Array Value} {rv:Nat→Value} {xs:Nat→List Value} {t deep seen:Int}
theorem Bq.below (h:Bq κ k0 w0 wx bb B S cs rv xs t deep seen) (hb:Below wx.heap.size wx w'):Bq κ k0 w0 w' bb B S cs rv xs t deep seen :=
 ⟨h.br.below hb,h.hd,Ch.trans (S':=fun _=>False) h.ch (Below.ch hb) (fun _ _ q=>q.elim),h.sb,h.ins⟩
theorem Bq.push (h:Bq κ k0 w0 wx bb B S cs rv xs t deep seen) {i:Nat} (hi:i<8) {x v':Value} (p:Pu κ wx w' bb B cs rv xs i x v'):Bq κ k0 w0 (w'.setCell ⟨bb,κ.c0+i,none⟩ v') bb B S (cs.setIfInBounds (κ.c0+i) v') (upd rv i v') (upd xs i (xs i++[x])) t deep seen:=by
 refine ⟨p.br,h.hd.row i hi v',?_,h.sb,fun j hj k e=>?_⟩
 ·
  refine Ch.trans (S':=fun k=>k=bb) (Ch.trans (S':=fun k=>(rv i).ownBlock=some k) h.ch (zbR p.gr) (fun j hj q=>?_)) (ch_set bb _ _) (fun j _ q=>q ▸ h.sb)
  rcases h.ins i hi j q with q | q
  · exact q
  · omega
 ·
  by_cases q:j=i
  ·
   subst q
   rw [za5] at e
   rcases p.wh with q | q
   · exact h.ins j hj k (q ▸ e)
   · rw [q] at e;cases e;exact .inr h.ch.size
  · rw [upd_ne _ _ q] at e;exact h.ins j hj k e
theorem Bq.other (h:Bq κ k0 w0 wx bb B S cs rv xs t deep seen) (k:Nat) (hk:k<κ.c0∨κ.c0+8≤k) (v:Value) {t' deep' seen':Int} (hh:Hd κ k0 (cs.setIfInBounds k v) t' deep' seen'):Bq κ k0 w0 (wx.setCell ⟨bb,k,none⟩ v) bb B S (cs.setIfInBounds k v) rv xs t' deep' seen' :=
 ⟨h.br.other k hk v,hh,Ch.trans (S':=fun k=>k=bb) h.ch (ch_set bb _ _) (fun j _ q=>q ▸ h.sb),h.sb,h.ins⟩
theorem Bq.nil (h:Bq κ k0 w0 wx bb B S cs rv xs t deep seen) (i:Nat) (hi:i<8):Bq κ k0 w0 (wx.setCell ⟨bb,κ.c0+i,none⟩ (.slice none 0 0)) bb B S (cs.setIfInBounds (κ.c0+i) (.slice none 0 0)) (upd rv i (.slice none 0 0)) (upd xs i []) t deep seen :=
 ⟨h.br.nil i hi,h.hd.row i hi _,Ch.trans (S':=fun k=>k=bb) h.ch (ch_set bb _ _) (fun j _ q=>q ▸ h.sb),h.sb,fun j hj k e=>by
  by_cases q:j=i
  · subst q;rw [za5] at e;cases e
  · rw [upd_ne _ _ q] at e;exact h.ins j hj k e⟩
theorem Bq.back (h:Bq κ k0 w wx bb B (fun k=>S k∨w0.heap.size≤k) cs rv xs t deep seen) (hc:Ch S w0 w) (hs:S bb):Bq κ k0 w0 wx bb B S cs rv xs t deep seen :=
 ⟨h.br,h.hd,Ch.trans hc h.ch (fun j hj q=>by rcases q with q | q;exact q;omega),hs,fun i hi k e=>by
  rcases h.ins i hi k e with q | q
  · exact q
  · exact .inr (Nat.le_trans hc.size q)⟩
theorem Bq.aside (h:Bq κ k0 w0 wx bb B S cs rv xs t deep seen) {T:Nat→Prop} (hc:Ch T wx w') (hT:∀ g,T g→Off bb rv g∧(S g∨w0.heap.size≤g)):Bq κ k0 w0 w' bb B S cs rv xs t deep seen :=
 ⟨h.br.keep (hc.block _ (lt_of_block h.br.at_) (fun q=>(hT _ q).1.1 rfl)) (fun j hj k e=>hc.block _ (h.br.lt hj e) (fun q=>(hT _ q).1.2 j hj e)),h.hd,Ch.trans h.ch hc (fun j hj q=>(hT j q).2.elim id (fun q=>by omega)),h.sb,h.ins⟩
end
structure Mi (κ:Kd) (w0 wx:World) (B bb:Nat) (rv:Nat→Value) (S:Nat→Prop) (D:Nat→Nat→Prop) (xw0 xn0:List Value) (k:Nat) (xo xt xw xn xf:List Value):Prop where
 dk:Dk wx bb rv D
 pd:PD κ wx D xo xt
 ps:PS (xw++(xf++xw0.drop k))
 wl:xw.length=xn.length
 wt:∀ (i:Nat) (v vn:Value),xw[i]?=some v→xn[i]?=some vn→Wt κ wx B bb rv D v vn
 rt:∀ (i:Nat) (v vn:Value),k≤i→xw0[i]?=some v→xn0[i]?=some vn→Wt κ wx B bb rv D v vn
 fr:∀ (i:Nat) (v:Value),xf[i]?=some v→∃ n L,Ol κ wx B bb rv D v n L
 dS:∀ g j,D g j→S g∨w0.heap.size≤g
 ins:∀ v,v ∈ xw0∨v ∈ xw∨v ∈ xf→∀ g,v.ownBlock=some g→S g∨w0.heap.size≤g
theorem zc8 {l:List Value} {k:Nat} {v:Value} (h:l[k]?=some v):l.drop k=v::l.drop (k+1):=by
 obtain ⟨h1,h2⟩:=List.getElem?_eq_some_iff.1 h
 rw [← h2]
 exact List.drop_eq_getElem_cons h1
section
variable {κ:Kd} {w0 wx w':World} {B bb:Nat} {rv rv':Nat→Value} {S:Nat→Prop} {D:Nat→Nat→Prop} {xw0 xn0:List Value} {k:Nat} {xo xt xw xn xf:List Value}
theorem Mi.fv (h:Mi κ w0 wx B bb rv S D xw0 xn0 k xo xt xw xn xf) (hf:Fv bb wx rv w' rv'):Mi κ w0 w' B bb rv' S D xw0 xn0 k xo xt xw xn xf :=
 ⟨h.dk.fv hf,h.pd.keep (h.dk.keeps hf) (fun _ _ q=>q),h.ps,h.wl,fun i v vn e1 e2=>(h.wt i v vn e1 e2).fv h.dk hf,fun i v vn hi e1 e2=>(h.rt i v vn hi e1 e2).fv h.dk hf,fun i v e=>by
  obtain ⟨n,L,ho⟩:=h.fr i v e
  exact ⟨n,L,ho.fv hf⟩,h.dS,h.ins⟩
theorem Mi.wait {v vn:Value} (h:Mi κ w0 wx B bb rv S D xw0 xn0 k xo xt xw xn xf) (hv:xw0[k]?=some v) (hvn:xn0[k]?=some vn):Mi κ w0 wx B bb rv S D xw0 xn0 (k+1) xo xt (xw++[v]) (xn++[vn]) xf:=by
 refine ⟨h.dk,h.pd,?_,by simp [h.wl],fun i u un e1 e2=>?_,fun i u un hi=>h.rt i u un (by omega),h.fr,h.dS,fun u hu=>?_⟩
 ·
  have hp:=h.ps
  rw [zc8 hv] at hp
  have e:(xw++[v])++(xf++xw0.drop (k+1))=xw++(v::(xf++xw0.drop (k+1))):=by simp
  show List.Pairwise NB _
  rw [e]
  exact (List.Perm.pairwise_iff (fun h=>NB.symm h) (List.Perm.append_left xw List.perm_middle)).1 hp
 ·
  by_cases q:i<xw.length
  · rw [List.getElem?_append_left q] at e1
    rw [List.getElem?_append_left (by rw [← h.wl];exact q)] at e2
    exact h.wt i u un e1 e2
  ·
   have hi:i=xw.length:=by have:=(List.getElem?_eq_some_iff.1 e1).1;simp at this;omega
   subst hi
   rw [List.getElem?_append_right (Nat.le_refl _)] at e1
   rw [List.getElem?_append_right (by rw [h.wl];exact Nat.le_refl _)] at e2
   simp [h.wl] at e1 e2
   subst e1 e2
   exact h.rt k v vn (Nat.le_refl _) hv hvn
 ·
  refine h.ins u ?_
  rcases hu with q | q | q
  · exact .inl q
  · rcases List.mem_append.1 q with q | q
    · exact .inr (.inl q)
    · simp at q;subst q;exact .inl (List.mem_of_getElem? hv)
  · exact .inr (.inr q)
theorem Mi.fresh {wy wz:World} {rvz:Nat→Value} {n vc k4:Nat} {L2:List Value} {va a4:Option Addr} {vn:Value} (h:Mi κ w0 wx B bb rv S D xw0 xn0 k xo xt xw xn xf) (hv:xw0[k]?=some (.slice va n vc)) (hvn:xn0[k]?=some vn) (hl:xw0.length=xn0.length) (own2:wy.ownsRow B κ.te κ.es (.slice va n vc) n L2) (hb:κ.ok L2) (hn:n≤1900000) (ch:Ch (fun q=>(Value.slice va n vc).ownBlock=some q) wx wy) (n4:Nl κ bb rvz wy wz a4 n k4 L2) (v4:Fv bb wy rv wz rvz) (hw0:w0.heap.size≤wy.heap.size) :
    ∃ D',Mi κ w0 wz B bb rvz S D' xw0 xn0 (k+1) (xo++[.slice va n vc]) (xt++[.slice a4 n k4]) xw xn (xf++[.slice va n vc])∧∀ g j,D g j→D' g j:=by
  have W:=h.rt k _ _ (Nat.le_refl _) hv hvn
  have K1:Keeps D wx wy:=fun g j q=>zap (ch.block g (h.dk g j q).1 (fun e=>(W.off g e).1 j q))
  have T1:Dk wy bb rv D:=fun g j q=>⟨Nat.lt_of_lt_of_le (h.dk g j q).1 ch.size,(h.dk g j q).2⟩
  have K2:Keeps D wy wz:=T1.keeps v4
  have T2:Dk wz bb rvz D:=T1.fv v4
  have woff:∀ g,(Value.slice va n vc).ownBlock=some g→Off bb rvz g:=fun g e=>v4.off g (own2.lt g e).2 (W.off g e).2
  have O2:wz.ownsRow B κ.te κ.es (.slice va n vc) n L2:=za7 own2 (fun q e=>v4.keep q (own2.lt q e).2 (W.off q e).2)
  have hp:=h.ps
  rw [zc8 hv] at hp
  obtain ⟨_,p2,p3⟩:=List.pairwise_append.1 hp
  obtain ⟨_,p4,p5⟩:=List.pairwise_append.1 p2
  obtain ⟨p6,_⟩:=List.pairwise_cons.1 p4
  have stay:∀ (u:Value),NB u (.slice va n vc)→∀ q,u.ownBlock=some q→q<wx.heap.size→Off bb rv q→wz.heap[q]?=wx.heap[q]?∧q<wy.heap.size∧Off bb rvz q:=fun u hnb q e hq ho=>by
    have h1:=Nat.lt_of_lt_of_le hq ch.size
    exact ⟨(v4.keep q h1 ho).trans (ch.block q hq (hnb q e)),h1,v4.off q h1 ho⟩
  have hD:∀ (u:Value),NB u (.slice va n vc)→∀ g,u.ownBlock=some g→g<wy.heap.size→∀ j,(D g j∨((Value.slice va n vc).ownBlock=some g∧j<n*κ.es)∨∃ off,a4=some ⟨g,off,none⟩)→D g j:=fun u hnb g e hg j q=>by
    rcases q with q | ⟨q,_⟩|⟨off,q⟩
    · exact q
    · exact absurd q (hnb g e)
    · have h1:=(n4.new g off q).1
      omega
  refine ⟨fun g j=>D g j∨((Value.slice va n vc).ownBlock=some g∧j<n*κ.es)∨∃ off,a4=some ⟨g,off,none⟩,⟨?_,?_,?_,h.wl,fun i u un e1 e2=>?_,fun i u un hi e1 e2=>?_,fun i u e=>?_,?_,fun u hu=>?_⟩,fun g j q=>.inl q⟩
  · rintro g j (q | ⟨q,_⟩|⟨off,q⟩)
    · exact T2 g j q
    · exact ⟨(O2.lt g q).2,woff g q⟩
    · exact (n4.new g off q).2
  · exact (h.pd.keep (K1.trans K2) (fun g j q=>Or.inl q)).snoc (by omega) (zaa O2) n4.cl (zc6 O2 (fun g e j hj=>.inr (.inl ⟨e,hj⟩))) (fun g off e j hj=>.inr (.inr ⟨off,e⟩)) hb
  · show List.Pairwise NB _
    have e:xw++(xf++[.slice va n vc]++xw0.drop (k+1))=xw++(xf ++ .slice va n vc::xw0.drop (k+1)):=by simp
    rw [e];exact hp
  · have hw:=h.wt i u un e1 e2
    have hnb:NB u (.slice va n vc):=p3 u (List.mem_of_getElem? e1) _ (List.mem_append.2 (.inr (List.mem_cons.2 (.inl rfl))))
    exact hw.keep (fun q e=>(stay u hnb q e (hw.lt e) (hw.off q e).2).1) (K1.trans K2) (fun g j q=>.inl q) (fun g e=>⟨fun j q=>hD u hnb g e (stay u hnb g e (hw.lt e) (hw.off g e).2).2.1 j q,(stay u hnb g e (hw.lt e) (hw.off g e).2).2.2⟩)
  · have hw:=h.rt i u un (by omega) e1 e2
    have hnb:NB u (.slice va n vc):=(p6 u (by
      refine List.mem_of_getElem? (i:=i-(k+1)) ?_
      rw [List.getElem?_drop,show k+1+(i-(k+1))=i by omega];exact e1)).symm
    exact hw.keep (fun q e=>(stay u hnb q e (hw.lt e) (hw.off q e).2).1) (K1.trans K2) (fun g j q=>.inl q) (fun g e=>⟨fun j q=>hD u hnb g e (stay u hnb g e (hw.lt e) (hw.off g e).2).2.1 j q,(stay u hnb g e (hw.lt e) (hw.off g e).2).2.2⟩)
  · by_cases q:i<xf.length
    · rw [List.getElem?_append_left q] at e
      obtain ⟨m,L,ho⟩:=h.fr i u e
      have hnb:NB u (.slice va n vc):=p5 u (List.mem_of_getElem? e) _ (List.mem_cons.2 (.inl rfl))
      exact ⟨m,L,ho.keep (fun q e=>(stay u hnb q e (ho.own.lt q e).2 (ho.lim q e).2).1) (fun g e=>⟨fun j q=>hD u hnb g e (stay u hnb g e (ho.own.lt g e).2 (ho.lim g e).2).2.1 j q,(stay u hnb g e (ho.own.lt g e).2 (ho.lim g e).2).2.2⟩)⟩
    · have hi:i=xf.length:=by have:=(List.getElem?_eq_some_iff.1 e).1;simp at this;omega
      subst hi
      simp at e
      subst e
      refine ⟨n,L2,⟨O2,fun g e=>⟨?_,woff g e⟩,hb,hn⟩⟩
      rintro j (q | ⟨_,q⟩|⟨off,q⟩)
      · exact absurd q ((W.off g e).1 j)
      · exact q
      · have h1:=(n4.new g off q).1
        have:=(own2.lt g e).2
        omega
  · rintro g j (q | ⟨q,_⟩|⟨off,q⟩)
    · exact h.dS g j q
    · exact h.ins _ (.inl (List.mem_of_getElem? hv)) g q
    · have:=(n4.new g off q).1
      exact .inr (by omega)
  · refine h.ins u ?_
    rcases hu with q | q | q
    · exact .inl q
    · exact .inr (.inl q)
    · rcases List.mem_append.1 q with q | q
      · exact .inr (.inr q)
      · simp at q;subst q;exact .inl (List.mem_of_getElem? hv)
theorem Mi.add {w:World} {n vc k4:Nat} {L:List Value} {va a4:Option Addr} (h:Mi κ w0 w B bb rv S D xw xn 0 xo xt [] [] []) (hl:xn.length=xw.length) (hw0:w0.heap.size≤w.heap.size) (hf:Fv bb w rv wx rv') (ho:w.ownsRow B κ.te κ.es (.slice va n vc) n L) (hnl:Nl κ bb rv' w wx a4 n k4 L) (hoff:∀ g,(Value.slice va n vc).ownBlock=some g→(∀ j,¬ D g j)∧Off bb rv g) (hnb:∀ u ∈ xw,NB u (.slice va n vc)) (hS:∀ g,(Value.slice va n vc).ownBlock=some g→S g∨w0.heap.size≤g) (hb:κ.ok L) (hn:n≤1900000) :
    ∃ D',Mi κ w0 wx B bb rv' S D' (xw++[.slice va n vc]) (xn++[.slice a4 n k4]) 0 xo xt [] [] []∧∀ g j,D g j→D' g j:=by
  have h':=h.fv hf
  have new:∀ g,g<w.heap.size→∀ j,(D g j∨∃ off,a4=some ⟨g,off,none⟩)→D g j:=fun g hg j q=>by
    rcases q with q | ⟨off,q⟩
    · exact q
    · have h1:=(hnl.new g off q).1
      omega
  refine ⟨fun g j=>D g j∨∃ off,a4=some ⟨g,off,none⟩,⟨?_,h'.pd.keep (fun _ _ _=>rfl) (fun g j q=>.inl q),?_,rfl,fun i v vn e=>by simp at e,fun i u un _ e1 e2=>?_,fun i v e=>by simp at e,?_,fun u hu=>?_⟩,fun g j q=>.inl q⟩
  · rintro g j (q | ⟨off,q⟩)
    · exact h'.dk g j q
    · exact (hnl.new g off q).2
  · have hp:List.Pairwise NB xw:=by have:=h.ps;unfold PS at this;simpa using this
    show List.Pairwise NB _
    simp only [List.nil_append,List.drop_zero]
    exact List.pairwise_append.2 ⟨hp,List.pairwise_singleton _ _,fun a ha b hb'=>by simp at hb';subst hb';exact hnb a ha⟩
  · by_cases q:i<xw.length
    · rw [List.getElem?_append_left q] at e1
      rw [List.getElem?_append_left (by rw [hl];exact q)] at e2
      have hw:=h.rt i u un (Nat.zero_le _) e1 e2
      have hw':=h'.rt i u un (Nat.zero_le _) e1 e2
      exact hw'.keep (fun _ _=>rfl) (fun _ _ _=>rfl) (fun g j q=>.inl q) (fun g e=>⟨new g (hw.lt e),(hw'.off g e).2⟩)
    · have hi:i=xw.length:=by have:=(List.getElem?_eq_some_iff.1 e1).1;simp at this;omega
      subst hi
      rw [List.getElem?_append_right (Nat.le_refl _)] at e1
      rw [List.getElem?_append_right (by rw [hl];exact Nat.le_refl _)] at e2
      simp [hl] at e1 e2
      subst e1 e2
      refine ⟨⟨n,L,a4,k4,hn,za7 ho (fun g e=>hf.keep g (ho.lt g e).2 (hoff g e).2),rfl,hnl.cl,fun g off e j hj=>.inr ⟨off,e⟩,hb⟩,fun g e=>⟨fun j q=>(hoff g e).1 j (new g (ho.lt g e).2 j q),hf.off g (ho.lt g e).2 (hoff g e).2⟩⟩
  · rintro g j (q | ⟨off,q⟩)
    · exact h.dS g j q
    · have:=(hnl.new g off q).1
      exact .inr (by omega)
  · rcases hu with q | q | q
    · rcases List.mem_append.1 q with q | q
      · exact h.ins u (.inl q)
      · simp at q;subst q;exact hS
    · cases q
    · cases q
end
section
variable {κ:Kd} {k0:Array Value} {w0 w wx wb w':World} {bb B:Nat} {S:Nat→Prop} {cs cs':Array Value} {rv rv':Nat→Value} {xs xs':Nat→List Value} {t deep seen t' deep' seen':Int}
theorem row_sl {e:Nat} {v:Value} {xs:List Value} (h:w.ownsRow B e 1 v xs.length xs):∃ a c,v = .slice a xs.length c:=own_sl h
theorem zac {e c:Nat} {a:Option Addr} {xs:List Value} (h:w.ownsRow B e 1 (.slice a xs.length c) xs.length xs) {k:Nat} {x:Value} (hk:xs[k]?=some x):∃ g,a=some ⟨g,0,none⟩∧w.cell? ⟨g,k,none⟩=some x:=by
 have hl:k<xs.length:=(List.getElem?_eq_some_iff.1 hk).1
 rcases h.2 with ⟨q,h0⟩|⟨g,cap,cur,q,_⟩
 · omega
 ·
  injection q with q1 q2 q3
  subst q1
  exact ⟨g,rfl,(h.cellAt k (by omega)).trans hk⟩
theorem Bq.push1 (h:Bq κ k0 w0 wx bb B S cs rv xs t deep seen) (hb:Below wx.heap.size wx wb) {i:Nat} (hi:i<8) {x v':Value} (p:Pu κ wb w' bb B cs rv xs i x v') :
    Bq κ k0 w0 (w'.setCell ⟨bb,κ.c0+i,none⟩ v') bb B S (cs.setIfInBounds (κ.c0+i) v') (upd rv i v') (upd xs i (xs i++[x])) t deep seen∧Fv bb wx rv (w'.setCell ⟨bb,κ.c0+i,none⟩ v') (upd rv i v') :=
  ⟨(h.below hb).push hi p,(Fv.below hb).trans (p.fv hi)⟩
def O4 (j:Nat):Prop:=j=2∨j=3∨j=5∨j=6
theorem O4.lt {j:Nat} (h:O4 j):j<8:=by unfold O4 at h;omega
end
structure Ms (κ:Kd) (k0:Array Value) (w0 w wx:World) (bb B:Nat) (S:Nat→Prop) (rv0:Nat→Value) (xs0:Nat→List Value) (cs:Array Value) (rv:Nat→Value) (xs:Nat→List Value) (t deep seen:Int):Prop where
 bq:Bq κ k0 w0 wx bb B S cs rv xs t deep seen
 old:∀ j,O4 j→wx.ownsRow B (et κ.tl j) 1 (rv0 j) (xs0 j).length (xs0 j)
 oof:∀ j,O4 j→∀ k,(rv0 j).ownBlock=some k→Off bb rv k
 sz:w.heap.size≤wx.heap.size
section
variable {κ:Kd} {k0:Array Value} {w0 w wx wb w':World} {bb B:Nat} {S:Nat→Prop} {cs cs':Array Value} {rv rv' rv0:Nat→Value} {xs xs' xs0:Nat→List Value} {t deep seen t' deep' seen':Int}
theorem Ms.step (h:Ms κ k0 w0 w wx bb B S rv0 xs0 cs rv xs t deep seen) (hq:Bq κ k0 w0 w' bb B S cs' rv' xs' t' deep' seen') (hf:Fv bb wx rv w' rv'):Ms κ k0 w0 w w' bb B S rv0 xs0 cs' rv' xs' t' deep' seen' :=
 ⟨hq,fun j hj=>za7 (h.old j hj) (fun k e=>hf.keep k ((h.old j hj).lt k e).2 (h.oof j hj k e)),fun j hj k e=>hf.off k ((h.old j hj).lt k e).2 (h.oof j hj k e),Nat.le_trans h.sz hf.sz⟩
theorem Ms.below (h:Ms κ k0 w0 w wx bb B S rv0 xs0 cs rv xs t deep seen) (hb:Below wx.heap.size wx w'):Ms κ k0 w0 w w' bb B S rv0 xs0 cs rv xs t deep seen:=h.step (h.bq.below hb) (Fv.below hb)
theorem Ms.push1 (h:Ms κ k0 w0 w wx bb B S rv0 xs0 cs rv xs t deep seen) (hb:Below wx.heap.size wx wb) {i:Nat} (hi:i<8) {x v':Value} (p:Pu κ wb w' bb B cs rv xs i x v') :
    Ms κ k0 w0 w (w'.setCell ⟨bb,κ.c0+i,none⟩ v') bb B S rv0 xs0 (cs.setIfInBounds (κ.c0+i) v') (upd rv i v') (upd xs i (xs i++[x])) t deep seen∧Fv bb wx rv (w'.setCell ⟨bb,κ.c0+i,none⟩ v') (upd rv i v') :=
  ⟨h.step (h.bq.push1 hb hi p).1 (h.bq.push1 hb hi p).2,(h.bq.push1 hb hi p).2⟩
theorem Ms.aside (h:Ms κ k0 w0 w wx bb B S rv0 xs0 cs rv xs t deep seen) {T:Nat→Prop} (hc:Ch T wx w') (hT:∀ g,T g→Off bb rv g∧(S g∨w0.heap.size≤g)∧Off bb rv0 g):Ms κ k0 w0 w w' bb B S rv0 xs0 cs rv xs t deep seen :=
 ⟨h.bq.aside hc (fun g q=>⟨(hT g q).1,(hT g q).2.1⟩),fun j hj=>za7 (h.old j hj) (fun k e=>hc.block k ((h.old j hj).lt k e).2 (fun q=>(hT k q).2.2.2 j hj.lt e)),h.oof,Nat.le_trans h.sz hc.size⟩
theorem zan (h:Ms κ k0 w0 w wx bb B S rv0 xs0 cs rv xs t deep seen) {j:Nat} (hj:O4 j) {g N q:Nat} (e:rv0 j = .slice (some ⟨g,0,none⟩) N q) {k:Nat} {u:Value} (hN:N=(xs0 j).length) (hu:(xs0 j)[k]?=some u):wx.cell? ⟨g,k,none⟩=some u:=by
 have o:=h.old j hj
 rw [e,hN] at o
 obtain ⟨g',eg,hc⟩:=zac o hu
 cases eg
 exact hc
theorem Ms.start (h:Bq κ k0 w0 w bb B S cs rv xs t deep seen) :
    ∃ cs',Ms κ k0 w0 w ((((w.setCell ⟨bb,κ.c0+2,none⟩ (.slice none 0 0)).setCell ⟨bb,κ.c0+3,none⟩ (.slice none 0 0)).setCell ⟨bb,κ.c0+5,none⟩ (.slice none 0 0)).setCell ⟨bb,κ.c0+6,none⟩ (.slice none 0 0)) bb B S rv xs cs' (upd (upd (upd (upd rv 2 (.slice none 0 0)) 3 (.slice none 0 0)) 5 (.slice none 0 0)) 6 (.slice none 0 0)) (upd (upd (upd (upd xs 2 []) 3 []) 5 []) 6 []) t deep seen ∧
      Fv bb w rv ((((w.setCell ⟨bb,κ.c0+2,none⟩ (.slice none 0 0)).setCell ⟨bb,κ.c0+3,none⟩ (.slice none 0 0)).setCell ⟨bb,κ.c0+5,none⟩ (.slice none 0 0)).setCell ⟨bb,κ.c0+6,none⟩ (.slice none 0 0)) (upd (upd (upd (upd rv 2 (.slice none 0 0)) 3 (.slice none 0 0)) 5 (.slice none 0 0)) 6 (.slice none 0 0)):=by
  have h1:=(((h.nil 2 (by decide)).nil 3 (by decide)).nil 5 (by decide)).nil 6 (by decide)
  have hf:Fv bb w rv _ _:=(((Fv.nil (κ:=κ) (bb:=bb) (w:=w) (rv:=rv) 2).trans (Fv.nil (κ:=κ) 3)).trans (Fv.nil (κ:=κ) 5)).trans (Fv.nil (κ:=κ) 6)
  refine ⟨_,⟨h1,fun j hj=>za7 (h.br.own j hj.lt) (fun k e=>?_),fun j hj k e=>⟨?_,fun i hi q=>?_⟩,hf.sz⟩,hf⟩
  · have hne:k≠bb:=fun q=>h.br.ne j hj.lt (q ▸ e)
    rw [Below.heap_setCell _ _ _ _ hne,Below.heap_setCell _ _ _ _ hne,Below.heap_setCell _ _ _ _ hne,Below.heap_setCell _ _ _ _ hne]
  · exact fun q=>h.br.ne j hj.lt (q ▸ e)
  · by_cases e6:i=6
    · subst e6;rw [za5] at q;cases q
    rw [upd_ne _ _ e6] at q
    by_cases e5:i=5
    · subst e5;rw [za5] at q;cases q
    rw [upd_ne _ _ e5] at q
    by_cases e3:i=3
    · subst e3;rw [za5] at q;cases q
    rw [upd_ne _ _ e3] at q
    by_cases e2:i=2
    · subst e2;rw [za5] at q;cases q
    rw [upd_ne _ _ e2] at q
    exact h.br.sep j i hj.lt hi (by unfold O4 at hj;omega) k e q
end
structure Mn (xs xs':Nat→List Value) (k:Nat):Prop where
 m5:(xs' 5).length=(xs' 2).length
 m6:(xs' 6).length=(xs' 2).length
 m7:(xs' 7).length=(xs' 4).length
 i5:∀ u ∈ xs' 5,∃ m,u = .int .i64 m
 i6:∀ u ∈ xs' 6,∃ m,u = .int .i64 m
 i7:∀ u ∈ xs' 7,∃ m,u = .int .i64 m
 l24:(xs' 2).length+(xs' 4).length≤k
 l04:(xs' 0).length≤(xs 0).length+(xs' 4).length
def Mdone (κ:Kd) (k0:Array Value) (w0 w':World) (bb B:Nat) (S:Nat→Prop) (D:Nat→Nat→Prop) (xs:Nat→List Value) (t deep seen:Int):Prop :=
 ∃ D' cs' rv' xs',Bq κ k0 w0 w' bb B S cs' rv' xs' t deep seen∧Mi κ w0 w' B bb rv' S D' (xs 2) (xs 3) (xs 2).length (xs' 0) (xs' 1) (xs' 2) (xs' 3) (xs' 4)∧(∀ g j,D g j→D' g j)∧Mn xs xs' (xs 2).length
structure FrL (κ:Kd) (w w0:World) (B bb:Nat) (rv:Nat→Value) (S:Nat→Prop) (D:Nat→Nat→Prop) (xf xm:List Value):Prop where
 len:xm.length=xf.length
 each:∀ (k:Nat) (v:Value),xf[k]?=some v→∃ n L,Ol κ w B bb rv D v n L
 ints:∀ (k:Nat) (x:Value),xm[k]?=some x→∃ m,x = .int .i64 m
 sep:PS xf
 ins:∀ (k:Nat) (v:Value),xf[k]?=some v→∀ g,v.ownBlock=some g→S g∨w0.heap.size≤g
def Aside (w wx:World) (D D':Nat→Nat→Prop) (bb:Nat) (rv rvx:Nat→Value) (xf:List Value) (k:Nat):Prop :=
 ∀ g,g<w.heap.size→Off bb rv g→(∀ (i:Nat) (v:Value),i<k→xf[i]?=some v→v.ownBlock≠some g)→wx.heap[g]?=w.heap[g]?∧(∀ j,D' g j→D g j)∧Off bb rvx g
structure Sb (S:Nat→Prop) (w0:World) (D D':Nat→Nat→Prop):Prop where
 sub:∀ g j,D g j→D' g j
 new:∀ g j,D' g j→D g j∨S g∨w0.heap.size≤g
theorem zaN {κ:Kd} {S:Nat→Prop} {w0 w wp wr wz:World} {B bb n f k gc k4:Nat} {D D':Nat→Nat→Prop} {v:Value} {ga a4:Option Addr} {L M xo xt xf:List Value} {rv rvp rvz:Nat→Value} {cs:Array Value} {xs:Nat→List Value} (hbr:BR κ wp bb B cs rvp xs) (hdk:Dk wp bb rvp D') (hpd:PD κ wp D' xo xt) (hsub:Sb S w0 D D') (hvS:∀ g,v.ownBlock=some g→S g∨w0.heap.size≤g) (hw0:w0.heap.size≤wp.heap.size) (hkp:Keeps D w wp) (hav:Ol κ wp B bb rvp D' v n L) (ha:Aside w wp D D' bb rv rvp xf k) (hv:xf[k]?=some v) (hs:w.heap.size≤wp.heap.size) (gw:Gw κ wp wr B n f v (.slice ga (n+f) gc) L M) (hff:f≤100000) (n4:Nl κ bb rvz wr wz a4 (n+f) k4 (L++M)) (v4:Fv bb wr rvp wz rvz) (hby:κ.ok (L++M)) :
    ∃ D'',Dk wz bb rvz D''∧PD κ wz D'' (xo++[.slice ga (n+f) gc]) (xt++[.slice a4 (n+f) k4])∧Sb S w0 D D''∧Keeps D w wz∧Aside w wz D D'' bb rv rvz xf (k+1):=by
  have hsz:=gw.ch.size
  have K1:Keeps D' wp wr:=fun g j q=>by
    by_cases e:v.ownBlock=some g
    · exact gw.keep g e j ((hav.lim g e).1 j q)
    · exact zap (gw.ch.block g (hdk g j q).1 e)
  have T1:Dk wr bb rvp D':=fun g j q=>⟨Nat.lt_of_lt_of_le (hdk g j q).1 hsz,(hdk g j q).2⟩
  have K2:Keeps D' wr wz:=T1.keeps v4
  have T2:Dk wz bb rvz D':=T1.fv v4
  have goff:∀ g,(Value.slice ga (n+f) gc).ownBlock=some g→Off bb rvp g:=fun g e=>by
    rcases gw.wh with q | ⟨k',q,hk'⟩
    · rw [q] at e;exact (hav.lim g e).2
    · rw [q] at e;cases e;exact hbr.new hk'
  have O2:wz.ownsRow B κ.te κ.es (.slice ga (n+f) gc) (n+f) (L++M):=za7 gw.own (fun q e=>v4.keep q (gw.own.lt q e).2 (goff q e))
  have hfew:=hav.few
  refine ⟨fun g j=>D' g j∨((Value.slice ga (n+f) gc).ownBlock=some g∧j<(n+f)*κ.es)∨∃ off,a4=some ⟨g,off,none⟩,?_,?_,⟨fun g j q=>.inl (hsub.sub g j q),?_⟩,?_,?_⟩
  · rintro g j (q | ⟨q,_⟩|⟨off,q⟩)
    · exact T2 g j q
    · exact ⟨(O2.lt g q).2,v4.off g (gw.own.lt g q).2 (goff g q)⟩
    · exact (n4.new g off q).2
  · exact (hpd.keep (K1.trans K2) (fun g j q=>Or.inl q)).snoc (by omega) (zaa O2) n4.cl (zc6 O2 (fun g e j hj=>.inr (.inl ⟨e,hj⟩))) (fun g off e j hj=>.inr (.inr ⟨off,e⟩)) hby
  · rintro g j (q | ⟨q,_⟩|⟨off,q⟩)
    · exact hsub.new g j q
    · rcases gw.wh with e | ⟨k',e,hk'⟩
      · rw [e] at q;exact .inr (hvS g q)
      · rw [e] at q;cases q;exact .inr (.inr (by omega))
    · have:=(n4.new g off q).1
      exact .inr (.inr (by omega))
  · exact hkp.trans (fun g j q=>(K1.trans K2) g j (hsub.sub g j q))
  · intro g hg hog hne
    have h1:=ha g hg hog (fun i u hi hu=>hne i u (by omega) hu)
    have hvg:v.ownBlock≠some g:=hne k v (by omega) hv
    have hlt:g<wp.heap.size:=by omega
    refine ⟨((v4.keep g (by omega) h1.2.2).trans (gw.ch.block g hlt hvg)).trans h1.1,?_,v4.off g (by omega) h1.2.2⟩
    rintro j (q | ⟨q,_⟩|⟨off,q⟩)
    · exact h1.2.1 j q
    · rcases gw.wh with e | ⟨k',e,hk'⟩
      · rw [e] at q;exact absurd q hvg
      · rw [e] at q;cases q;omega
    · have:=(n4.new g off q).1
      omega
theorem frl_of {κ:Kd} {w0 w1:World} {B bb:Nat} {rv:Nat→Value} {S:Nat→Prop} {D:Nat→Nat→Prop} {xw0 xn0:List Value} {k K:Nat} {xs xs':Nat→List Value} {xo xt xw xn:List Value} (h:Mi κ w0 w1 B bb rv S D xw0 xn0 k xo xt xw xn (xs' 4)) (m:Mn xs xs' K):FrL κ w1 w0 B bb rv S D (xs' 4) (xs' 7):=by
 refine ⟨m.m7,h.fr,fun i x hx=>m.i7 x (List.mem_of_getElem? hx),?_,fun i v hv=>h.ins v (.inr (.inr (List.mem_of_getElem? hv)))⟩
 exact (List.pairwise_append.1 (List.pairwise_append.1 h.ps).2.1).1
theorem zaI {κ:Kd} {w0 w1 w2:World} {B bb:Nat} {rv rv2:Nat→Value} {S:Nat→Prop} {D D2:Nat→Nat→Prop} {xw0 xn0:List Value} {k:Nat} {xo xt xw xn xf xo2 xt2:List Value} (h:Mi κ w0 w1 B bb rv S D xw0 xn0 k xo xt xw xn xf) (hd:Dk w2 bb rv2 D2) (hp:PD κ w2 D2 xo2 xt2) (hsub:Sb S w0 D D2) (hk:Keeps D w1 w2) (ha:Aside w1 w2 D D2 bb rv rv2 xf xf.length):Mi κ w0 w2 B bb rv2 S D2 xw xn 0 xo2 xt2 [] [] []:=by
 obtain ⟨p1,_,p3⟩:=List.pairwise_append.1 h.ps
 refine ⟨hd,hp,by show List.Pairwise NB _;simpa using p1,rfl,fun i v vn e=>by simp at e,fun i v vn _ e1 e2=>?_,fun i v e=>by simp at e,fun g j q=>?_,fun v hv=>?_⟩
 ·
  have hw:=h.wt i v vn e1 e2
  have q:∀ g,v.ownBlock=some g→w2.heap[g]?=w1.heap[g]?∧(∀ j,D2 g j→D g j)∧Off bb rv2 g:=fun g e =>
   ha g (hw.lt e) (hw.off g e).2 (fun i' u _ hu e'=>p3 v (List.mem_of_getElem? e1) u (List.mem_append.2 (.inl (List.mem_of_getElem? hu))) g e e')
  exact hw.keep (fun g e=>(q g e).1) hk hsub.sub (fun g e=>(q g e).2)
 ·
  rcases hsub.new g j q with q | q
  · exact h.dS g j q
  · exact q
 ·
  rcases hv with q | q | q
  · exact h.ins v (.inr (.inl q))
  · cases q
  · cases q
structure Bo (κ:Kd) (k0:Array Value) (w0 w:World) (bb B:Nat) (S:Nat→Prop) (D:Nat→Nat→Prop) (cs:Array Value) (rv:Nat→Value) (xs:Nat→List Value) (t deep seen:Int):Prop where
 bq:Bq κ k0 w0 w bb B S cs rv xs t deep seen
 mi:Mi κ w0 w B bb rv S D (xs 2) (xs 3) 0 (xs 0) (xs 1) [] [] []
 n4:rv 4 = .slice none 0 0∧rv 7 = .slice none 0 0∧xs 4=[]∧xs 7=[]
 len:(xs 3).length=(xs 2).length∧(xs 5).length=(xs 2).length∧(xs 6).length=(xs 2).length
 i5:∀ u ∈ xs 5,∃ m,u = .int .i64 m
 i6:∀ u ∈ xs 6,∃ m,u = .int .i64 m
def Bgrown (κ:Kd) (k0:Array Value) (w0 w':World) (bb B:Nat) (S:Nat→Prop) (D:Nat→Nat→Prop) (N:Nat) (t deep seen:Int):Prop :=
 ∃ D' cs' rv' xs',Bo κ k0 w0 w' bb B S D' cs' rv' xs' t deep seen∧(∀ g j,D g j→D' g j)∧(xs' 0).length+2*(xs' 2).length≤N
set_option maxRecDepth 100000
set_option maxHeartbeats 400000
def okB (L:List Value):Prop:=∀ u ∈ L,∃ x:Int,u = .int .u8 x
def okI (L:List Value):Prop:=∀ u ∈ L,∃ x:Int,u = .int .i64 x
def okT (L:List Value):Prop:=∀ u ∈ L,∃ s:ByteArray,u = .string s
def okA (L:List Value):Prop:=∃ l:List (ByteArray×Int),L=l.flatMap (fun p=>[.string p.1,.int .i64 p.2])
@[reducible] def kB:Kd:=⟨4,22,5,1,okB⟩
@[reducible] def kI:Kd:=⟨13,26,3,1,okI⟩
@[reducible] def kT:Kd:=⟨22,27,9,1,okT⟩
@[reducible] def kA:Kd:=⟨40,25,98,2,okA⟩
theorem inf22:(Tryz.prog.info? 22).map (fun i=>(i.zero,i.size,i.bytes))=some (some (.slice none 0 0),1,24):=by kernel_rfl
theorem inf25:(Tryz.prog.info? 25).map (fun i=>(i.zero,i.size,i.bytes))=some (some (.slice none 0 0),1,24):=by kernel_rfl
theorem inf26:(Tryz.prog.info? 26).map (fun i=>(i.zero,i.size,i.bytes))=some (some (.slice none 0 0),1,24):=by kernel_rfl
theorem inf27:(Tryz.prog.info? 27).map (fun i=>(i.zero,i.size,i.bytes))=some (some (.slice none 0 0),1,24):=by kernel_rfl
theorem inf5:(Tryz.prog.info? 5).map (fun i=>(i.zero,i.size,i.bytes))=some (some (.int .u8 0),1,1):=by kernel_rfl
theorem inf9:(Tryz.prog.info? 9).map (fun i=>(i.zero,i.size,i.bytes))=some (some (.string ⟨#[]⟩),1,16):=by kernel_rfl
theorem inf98:(Tryz.prog.info? 98).map (fun i=>(i.zero,i.size,i.bytes))=some (some (.agg #[.string ⟨#[]⟩,.int .i64 0]),2,24):=by kernel_rfl
theorem kB_ok:KOk kB:=by
 refine ⟨?_,Tryz.underlying22,?_,⟨by decide,by decide⟩,fun L h u hu=>?_,by decide⟩
 · obtain ⟨q,h1,h2,h3,h4⟩:=info_parts inf22;exact ⟨q,_,h1,h2,h3,by omega,rfl⟩
 · obtain ⟨q,h1,h2,h3,h4⟩:=info_parts inf5;exact ⟨q,_,h1,h2,h3,by omega,rfl⟩
 · obtain ⟨x,rfl⟩:=h u hu;rfl
theorem kI_ok:KOk kI:=by
 refine ⟨?_,Tryz.underlying26,?_,⟨by decide,by decide⟩,fun L h u hu=>?_,by decide⟩
 · obtain ⟨q,h1,h2,h3,h4⟩:=info_parts inf26;exact ⟨q,_,h1,h2,h3,by omega,rfl⟩
 · obtain ⟨q,h1,h2,h3,h4⟩:=info_parts binfo3;exact ⟨q,_,h1,h2,h3,by omega,rfl⟩
 · obtain ⟨x,rfl⟩:=h u hu;rfl
theorem kT_ok:KOk kT:=by
 refine ⟨?_,Tryz.underlying27,?_,⟨by decide,by decide⟩,fun L h u hu=>?_,by decide⟩
 · obtain ⟨q,h1,h2,h3,h4⟩:=info_parts inf27;exact ⟨q,_,h1,h2,h3,by omega,rfl⟩
 · obtain ⟨q,h1,h2,h3,h4⟩:=info_parts inf9;exact ⟨q,_,h1,h2,h3,by omega,rfl⟩
 · obtain ⟨x,rfl⟩:=h u hu;rfl
theorem kA_ok:KOk kA:=by
 refine ⟨?_,Tryz.underlying25,?_,⟨by decide,by decide⟩,fun L h u hu=>?_,by decide⟩
 · obtain ⟨q,h1,h2,h3,h4⟩:=info_parts inf25;exact ⟨q,_,h1,h2,h3,by omega,rfl⟩
 · obtain ⟨q,h1,h2,h3,h4⟩:=info_parts inf98;exact ⟨q,_,h1,h2,h3,by omega,rfl⟩
 ·
  obtain ⟨l,rfl⟩:=h
  obtain ⟨p,_,hp⟩:=List.mem_flatMap.1 hu
  simp at hp
  rcases hp with rfl | rfl <;> rfl
theorem zbq (bb:Nat) (cs:Array Value) (n t:Nat) (w:World) (hn:n≤1000000) (ht:t≤1000000) (hB:BkAt w bb cs) (c0:cs[0]?=some (.bool false)) (c2:cs[2]?=some (.int .i64 t)) :
    Calls Tryz.prog 112 #[.pointer (some ⟨bb,0,none⟩),.int .i64 n] w fun e w1=>(∃ d:Nat,e = .returned (.int .i64 d)∧t≤d∧d≤t+8)∧w1=w:=by
  have x0:=(za0 hB c0).1
  have x2:=(za0 hB c2).1
  clear hB c0 c2
  go_enter Tryz.func112,Tryz.ntmps112
  go_wp2
  · go_ret
    exact ⟨⟨t,rfl,by omega,by omega⟩,rfl⟩
  · go_ret
    exact ⟨⟨t+1+n / 3 % 8,by simp,by omega,by omega⟩,rfl⟩
  · go_ret
    exact ⟨⟨t+1,by simp,by omega,by omega⟩,rfl⟩
theorem zc3 {L M:List Value} (h:okB L) (k:okB M):okB (L++M):=fun u hu=>(List.mem_append.1 hu).elim (h u) (k u)
theorem zc2 {L M:List Value} (h:okI L) (k:okI M):okI (L++M):=fun u hu=>(List.mem_append.1 hu).elim (h u) (k u)
theorem zc7 {L M:List Value} (h:okT L) (k:okT M):okT (L++M):=fun u hu=>(List.mem_append.1 hu).elim (h u) (k u)
theorem zbF {L M:List Value} (h:okA L) (k:okA M):okA (L++M):=by
 obtain ⟨l,rfl⟩:=h
 obtain ⟨m,rfl⟩:=k
 exact ⟨l++m,by simp⟩
def Ito (w:World):Prop:=∀ n:Int,-9223372036854775808≤n→n≤9223372036854775807→Calls Tryz.prog 249 #[.int .i64 n] w fun e w'=>(∃ s,e = .returned (.string s))∧Below w.heap.size w w'
def ItS (S:Nat→Prop) (w0:World):Prop:=∀ wx,Ch S w0 wx→Ito wx
theorem ItS.mono {S S':Nat→Prop} {w:World} (h:ItS S' w) (hs:∀ k,S k→S' k):ItS S w:=fun wx c=>h wx (c.mono (fun k _ q=>hs k q))
def Bl (rv:Nat→Value) (xw xf:List Value) (D:Nat→Nat→Prop) (k:Nat):Prop:=(∃ i,i<8∧(rv i).ownBlock=some k)∨(∃ v,(v ∈ xw∨v ∈ xf)∧v.ownBlock=some k)∨∃ j,D k j
structure Fx (m:Bool) (κ:Kd) (w:World) (bb:Nat) (cs:Array Value) (t d:Int) (N:Nat) (U:Nat→Prop):Prop where
 ex:∃ (D:Nat→Nat→Prop) (rv:Nat→Value) (xs xs0:Nat→List Value) (K seen:Nat),Bq κ cs w w bb 0 (fun k=>U k∨k=bb) cs rv xs t d seen∧Mi κ w w 0 bb rv (fun k=>U k∨k=bb) D (if m then [] else xs 2) (if m then [] else xs 3) 0 (xs 0) (xs 1) (if m then xs 2 else []) (if m then xs 3 else []) (xs 4)∧Mn xs0 xs K∧(m=false→rv 4 = .slice none 0 0∧rv 7 = .slice none 0 0∧xs 4=[]∧xs 7=[]∧(xs 3).length=(xs 2).length)∧(∀ k,U k↔Bl rv (xs 2) (xs 4) D k)∧(xs0 0).length+2*K≤2*N∧seen≤N
section
variable {m:Bool} {κ:Kd} {k0:Array Value} {w0 w w':World} {bb B:Nat} {S:Nat→Prop} {D:Nat→Nat→Prop} {cs cs':Array Value} {rv:Nat→Value} {xs xs0:Nat→List Value} {t d t' d' seen:Int} {N:Nat} {U:Nat→Prop}
theorem Mi.done {xw0 xn0 xo xt xw xn xf:List Value} (h:Mi κ w0 w B bb rv S D xw0 xn0 xw0.length xo xt xw xn xf):Mi κ w0 w B bb rv S D [] [] 0 xo xt xw xn xf :=
 ⟨h.dk,h.pd,by have:=h.ps;rw [List.drop_length] at this;simpa using this,h.wl,h.wt,fun i v vn _ e=>by simp at e,h.fr,h.dS,fun v hv=>h.ins v (hv.imp (fun q=>by cases q) id)⟩
theorem Mi.rebase {xw0 xn0 xo xt xw xn xf:List Value} {T:Nat→Prop} (h:Mi κ w0 w B bb rv S D xw0 xn0 0 xo xt xw xn xf) (h1:∀ g j,D g j→T g) (h2:∀ v,v ∈ xw0∨v ∈ xw∨v ∈ xf→∀ g,v.ownBlock=some g→T g):Mi κ w w B bb rv T D xw0 xn0 0 xo xt xw xn xf :=
 ⟨h.dk,h.pd,h.ps,h.wl,h.wt,h.rt,h.fr,fun g j q=>.inl (h1 g j q),fun v hv g e=>.inl (h2 v hv g e)⟩
theorem Bl.lt {xw0 xn0 xo xt xw xn xf:List Value} (hq:BR κ w bb B cs rv xs) (h:Mi κ w0 w B bb rv S D xw0 xn0 0 xo xt xw xn xf) (hl:xn0.length=xw0.length) {xa:List Value} (ha:∀ v,v ∈ xa→v ∈ xw0∨v ∈ xw) {k:Nat} (hk:Bl rv xa xf D k):k<w.heap.size∧k≠bb:=by
 rcases hk with ⟨i,hi,e⟩|⟨v,hv,e⟩|⟨j,e⟩
 · exact ⟨hq.lt hi e,fun q=>hq.ne i hi (q ▸ e)⟩
 ·
  have key:(v ∈ xw0∨v ∈ xw)∨v ∈ xf:=hv.imp (ha v) id
  rcases key with (q | q) | q
  · obtain ⟨i,hi,rfl⟩:=List.mem_iff_getElem.1 q
    have W:=h.rt i _ (xn0[i]'(by omega)) (Nat.zero_le _) (List.getElem?_eq_getElem hi) (List.getElem?_eq_getElem (by omega))
    exact ⟨W.lt e,(W.off k e).2.1⟩
  ·
   obtain ⟨i,hi,rfl⟩:=List.mem_iff_getElem.1 q
   have hwl:=h.wl
   have W:=h.wt i _ (xn[i]'(by omega)) (List.getElem?_eq_getElem hi) (List.getElem?_eq_getElem (by omega))
   exact ⟨W.lt e,(W.off k e).2.1⟩
  · obtain ⟨i,hi,rfl⟩:=List.mem_iff_getElem.1 q
    obtain ⟨n,L,ho⟩:=h.fr i _ (List.getElem?_eq_getElem hi)
    exact ⟨(ho.own.lt k e).2,(ho.lim k e).2.1⟩
 · exact ⟨(h.dk k j e).1,(h.dk k j e).2.1⟩
theorem Fx.lt (h:Fx m κ w bb cs t d N U) {k:Nat} (hk:U k):k<w.heap.size∧k≠bb:=by
 obtain ⟨D,rv,xs,xs0,K,seen,hq,hm,hn,h4,hU,_⟩:=h.ex
 cases m with
 | true=>exact Bl.lt hq.br hm rfl (xa:=xs 2) (fun v q=>.inr q) ((hU k).1 hk)
 | false=>exact Bl.lt hq.br hm (h4 rfl).2.2.2.2 (xa:=xs 2) (fun v q=>.inl q) ((hU k).1 hk)
theorem Fx.mono (h:Fx m κ w bb cs t d N U) {M:Nat} (hM:N≤M):Fx m κ w bb cs t d M U:=by
 obtain ⟨D,rv,xs,xs0,K,seen,hq,hm,hn,h4,hU,h5,h6⟩:=h.ex
 exact ⟨D,rv,xs,xs0,K,seen,hq,hm,hn,h4,hU,by omega,by omega⟩
theorem Fx.frame (h:Fx m κ w bb cs t d N U) (hk:∀ k,U k→w'.heap[k]?=w.heap[k]?) (hb:BkAt w' bb cs') (hcs:∀ i,i<9→cs'[κ.c0+i]?=cs[κ.c0+i]?) (h0:cs'[0]?=some (.bool false)) (h1:cs'[1]?=some (.bool false)) (h2:cs'[2]?=some (.int .i64 t')) (h3:cs'[3]?=some (.int .i64 d')):Fx m κ w' bb cs' t' d' N U:=by
 have hlt:∀ k,U k→k<w'.heap.size:=fun k q=>by
  have h1:=hk k q
  have h2:=(h.lt q).1
  rw [Array.getElem?_eq_getElem h2] at h1
  exact (Array.getElem?_eq_some_iff.1 h1).1
 obtain ⟨D,rv,xs,xs0,K,seen,hq,hm,hn,h4,hU,h5⟩:=h.ex
 have kD:∀ g j,D g j→w'.heap[g]?=w.heap[g]?:=fun g j q=>hk g ((hU g).2 (.inr (.inr ⟨j,q⟩)))
 have kk:Keeps D w w':=fun g j q=>zap (kD g j q)
 have kl:∀ v,v ∈ xs 2∨v ∈ xs 4→∀ g,v.ownBlock=some g→w'.heap[g]?=w.heap[g]?:=fun v hv g e=>hk g ((hU g).2 (.inr (.inl ⟨v,hv,e⟩)))
 refine ⟨D,rv,xs,xs0,K,seen,⟨⟨hb,fun i hi=>(hcs i (by omega)).trans (hq.br.fld i hi),fun i hi=>za7 (hq.br.own i hi) (fun k e=>hk k ((hU k).2 (.inl ⟨i,hi,e⟩))),hq.br.sep,hq.br.ne⟩,⟨h0,h1,h2,h3,(hcs 8 (by omega)).trans hq.hd.sn,fun _ _ _=>rfl,hq.hd.low⟩,Ch.refl _ _,.inr rfl,fun i hi k e=>.inl (.inl ((hU k).2 (.inl ⟨i,hi,e⟩)))⟩,⟨fun g j q=>⟨hlt g ((hU g).2 (.inr (.inr ⟨j,q⟩))),(hm.dk g j q).2⟩,hm.pd.keep kk (fun _ _ q=>q),hm.ps,hm.wl,fun i v vn e1 e2=>?_,fun i v vn hi e1 e2=>?_,fun i v e=>?_,fun g j q=>.inl (.inl ((hU g).2 (.inr (.inr ⟨j,q⟩)))),fun v hv g e=>?_⟩,hn,h4,hU,h5⟩
 ·
  have W:=hm.wt i v vn e1 e2
  refine W.keep (fun g e=>kl v (.inl ?_) g e) kk (fun _ _ q=>q) (fun g e=>⟨fun _ q=>q,(W.off g e).2⟩)
  have:=List.mem_of_getElem? e1
  cases m with
  | true=>exact this
  | false=>cases this
 ·
  have W:=hm.rt i v vn hi e1 e2
  refine W.keep (fun g e=>kl v (.inl ?_) g e) kk (fun _ _ q=>q) (fun g e=>⟨fun _ q=>q,(W.off g e).2⟩)
  have:=List.mem_of_getElem? e1
  cases m with
  | true=>cases this
  | false=>exact this
 · obtain ⟨n,L,ho⟩:=hm.fr i v e
   exact ⟨n,L,ho.keep (fun g e'=>kl v (.inr (List.mem_of_getElem? e)) g e') (fun g e'=>⟨fun _ q=>q,(ho.lim g e').2⟩)⟩
 ·
  have key:v ∈ xs 2∨v ∈ xs 4:=by
   cases m with
   | true=>rcases hv with q | q | q;(cases q);exact .inl q;exact .inr q
   | false=>rcases hv with q | q | q;exact .inl q;(cases q);exact .inr q
  exact .inl (.inl ((hU g).2 (.inr (.inl ⟨v,key,e⟩))))
def Cs (κ:Kd) (cs cs':Array Value):Prop:=∀ j,4≤j→(j<κ.c0∨κ.c0+9≤j)→cs'[j]?=cs[j]?
structure St (m:Bool) (κ:Kd) (w w':World) (bb:Nat) (cs:Array Value) (t d:Int) (N:Nat) (U T:Nat→Prop):Prop where
 ex:∃ cs' U',Fx m κ w' bb cs' t d N U'∧Ch (fun k=>U k∨T k∨k=bb) w w'∧(∀ k,U' k→U k∨T k∨w.heap.size≤k)∧Cs κ cs cs'
theorem Fx.of_done (h:Mdone κ cs w w' bb 0 (fun k=>U k∨k=bb) D xs t d seen) (hl:(xs 0).length+2*(xs 2).length≤2*N) {sn:Nat} (hs:seen=sn) (hsn:sn≤N):St true κ w w' bb cs t d N U (fun _=>False):=by
 obtain ⟨D',cs',rv',xs',hq,hm,_,mn⟩:=h
 subst hs
 have hm':=hm.done
 have hlt:∀ k,Bl rv' (xs' 2) (xs' 4) D' k→k<w'.heap.size∧k≠bb:=fun k hk=>Bl.lt hq.br hm' rfl (xa:=xs' 2) (fun v q=>.inr q) hk
 refine ⟨cs',Bl rv' (xs' 2) (xs' 4) D',⟨D',rv',xs',xs,(xs 2).length,sn,⟨hq.br,⟨hq.hd.now,hq.hd.bad,hq.hd.turn,hq.hd.dp,hq.hd.sn,fun _ _ _=>rfl,hq.hd.low⟩,Ch.refl _ _,.inr rfl,fun i hi k e=>.inl (.inl (.inl ⟨i,hi,e⟩))⟩,hm'.rebase (fun g j q=>.inl (.inr (.inr ⟨j,q⟩))) (fun v hv g e=>.inl (.inr (.inl ⟨v,?_,e⟩))),mn,(fun q=>by cases q),fun k=>Iff.rfl,hl,hsn⟩,hq.ch.mono (fun j _ q=>q.imp id .inr),fun k hk=>?_,hq.hd.rest⟩
 ·
  rcases hv with q | q
  · cases q
  · exact q
 ·
  have hne:=(hlt k hk).2
  have:(U k∨k=bb)∨w.heap.size≤k:=by
   rcases hk with ⟨i,hi,e⟩|⟨v,hv,e⟩|⟨j,e⟩
   · exact hq.ins i hi k e
   · exact hm'.ins v (.inr hv) k e
   · exact hm'.dS k j e
  rcases this with (q | q) | q
  · exact .inl q
  · exact absurd q hne
  · exact .inr (.inr q)
theorem Fx.of_bo {T:Nat→Prop} {sn:Nat} {d:Int} (h:Bo κ cs w w' bb 0 (fun k=>U k∨T k∨k=bb) D cs' rv xs t d sn) (hl:(xs 0).length+2*(xs 2).length≤2*N) (hsn:sn≤N):St false κ w w' bb cs t d N U T:=by
 have hlt:∀ k,Bl rv (xs 2) (xs 4) D k→k<w'.heap.size∧k≠bb:=fun k hk=>by
  have hm:=h.mi
  rw [show ([]:List Value)=xs 4 from h.n4.2.2.1.symm] at hm
  exact Bl.lt h.bq.br (hm) h.len.1 (xa:=xs 2) (fun v q=>.inl q) hk
 have hm4:=h.mi
 refine ⟨cs',Bl rv (xs 2) (xs 4) D,⟨D,rv,xs,xs,(xs 2).length,sn,⟨h.bq.br,⟨h.bq.hd.now,h.bq.hd.bad,h.bq.hd.turn,h.bq.hd.dp,h.bq.hd.sn,fun _ _ _=>rfl,h.bq.hd.low⟩,Ch.refl _ _,.inr rfl,fun i hi k e=>.inl (.inl (.inl ⟨i,hi,e⟩))⟩,?_,⟨h.len.2.1,h.len.2.2,by rw [h.n4.2.2.1,h.n4.2.2.2],h.i5,h.i6,(by rw [h.n4.2.2.2];intro u hu;cases hu),(by rw [h.n4.2.2.1];exact Nat.le_refl _),Nat.le_add_right _ _⟩,fun _=>⟨h.n4.1,h.n4.2.1,h.n4.2.2.1,h.n4.2.2.2,h.len.1⟩,fun k=>Iff.rfl,hl,hsn⟩,h.bq.ch,fun k hk=>?_,h.bq.hd.rest⟩
 · rw [h.n4.2.2.1]
   exact hm4.rebase (fun g j q=>.inl (.inr (.inr ⟨j,q⟩))) (fun v hv g e=>.inl (.inr (.inl ⟨v,hv.imp id (fun q=>q.elim (fun q=>by cases q) id),e⟩)))
 ·
  have hne:=(hlt k hk).2
  have:(U k∨T k∨k=bb)∨w.heap.size≤k:=by
   rcases hk with ⟨i,hi,e⟩|⟨v,hv,e⟩|⟨j,e⟩
   · exact h.bq.ins i hi k e
   · rw [h.n4.2.2.1] at hv
     exact h.mi.ins v (hv.imp id (fun q=>by cases q)) k e
   · exact h.mi.dS k j e
  rcases this with (q | q | q) | q
  · exact .inl q
  · exact .inr (.inl q)
  · exact absurd q hne
  · exact .inr (.inr q)
theorem Fx.bo (h:Fx false κ w bb cs t d N U):∃ D rv xs sn,Bo κ cs w w bb 0 (fun k=>U k∨k=bb) D cs rv xs t d (sn:Nat)∧(∀ k,U k↔Bl rv (xs 2) (xs 4) D k)∧(xs 0).length+2*(xs 2).length≤2*N∧sn≤N:=by
 obtain ⟨D,rv,xs,xs0,K,sn,hq,hm,hn,h4,hU,h5,h6⟩:=h.ex
 obtain ⟨q1,q2,q3,q4,q5⟩:=h4 rfl
 refine ⟨D,rv,xs,sn,⟨hq,by rw [q3] at hm;exact hm,⟨q1,q2,q3,q4⟩,⟨q5,hn.m5,hn.m6⟩,hn.i5,hn.i6⟩,hU,?_,h6⟩
 have:=hn.l24
 have:=hn.l04
 rw [q3] at *
 simp at *
 omega
end
theorem Bq.pushed {κ:Kd} {k0 cs:Array Value} {w0 wx wb w':World} {bb B:Nat} {S:Nat→Prop} {rv:Nat→Value} {xs:Nat→List Value} {t deep seen:Int} (h:Bq κ k0 w0 wx bb B S cs rv xs t deep seen) (hb:Below wx.heap.size wx wb) {i:Nat} (hi:i<8) {x v':Value} (q:Nat) (hq:κ.c0+i=q) (p:Pu κ wb w' bb B cs rv xs i x v') :
    ∃ a n k,v' = .slice a n k∧w'.cell? ⟨bb,q,none⟩=some (rv i)∧w'.frozen? ⟨bb,q,none⟩=false∧∃ W,W=w'.setCell ⟨bb,q,none⟩ (.slice a n k)∧∃ c:Array Value,Hid (Bq κ k0 w0 W bb B S c (upd rv i (.slice a n k)) (upd xs i (xs i++[x])) t deep seen∧Fv bb wx rv W (upd rv i (.slice a n k))):=by
  subst hq
  have P:=h.push1 hb hi p
  have c:=za0 p.bk (h.br.fld i hi)
  obtain ⟨a,n,k,e⟩:=p.sl
  subst e
  exact ⟨a,n,k,rfl,c.1,c.2,_,rfl,_,P⟩
theorem zb1 (xs:Nat→List Value):upd (upd xs 0 (xs 0)) 1 (xs 1)=xs:=by funext j;by_cases h1:j=1 <;> by_cases h0:j=0 <;> simp [upd,h0,h1] <;> (subst_vars;rfl)
theorem zb3 {xs xs3:Nat→List Value} {xo xt a b:List Value} (hx:xs3 1=xt) (h3:xs3=upd (upd (upd xs 0 xo) 1 xt) 0 a):upd xs3 1 (xs3 1++b)=upd (upd xs 0 a) 1 (xt++b):=by
 rw [hx,h3]
 funext j
 by_cases h1:j=1
 · subst h1;rw [za5,za5]
 ·
  rw [upd_ne _ _ h1,upd_ne _ _ h1]
  by_cases h0:j=0
  · subst h0;rw [za5,za5]
  · rw [upd_ne _ _ h0,upd_ne _ _ h1,upd_ne _ _ h0,upd_ne _ _ h0]
theorem Bq.fresh {κ:Kd} {k0 cs:Array Value} {w0 w:World} {bb B:Nat} {S:Nat→Prop} {rv:Nat→Value} {xs:Nat→List Value} {xo xt:List Value} {t deep seen:Int} (h:Bq κ k0 w0 w bb B S cs rv (upd (upd xs 0 xo) 1 xt) t deep seen) (p q:Nat) (ep:κ.c0+4=p) (eq:κ.c0+7=q):∃ a4 k4 a7 k7,w.cell? ⟨bb,p,none⟩=some (.slice a4 (xs 4).length k4)∧w.cell? ⟨bb,q,none⟩=some (.slice a7 (xs 7).length k7)∧Hid (w.ownsRow B (et κ.tl 4) 1 (.slice a4 (xs 4).length k4) (xs 4).length (xs 4)∧w.ownsRow B 3 1 (.slice a7 (xs 7).length k7) (xs 7).length (xs 7)):=by
 subst ep eq
 obtain ⟨a4,k4,e4⟩:=row_sl (h.br.own 4 (by decide))
 obtain ⟨a7,k7,e7⟩:=row_sl (h.br.own 7 (by decide))
 have x4:upd (upd xs 0 xo) 1 xt 4=xs 4:=by rw [upd_ne _ _ (by decide),upd_ne _ _ (by decide)]
 have x7:upd (upd xs 0 xo) 1 xt 7=xs 7:=by rw [upd_ne _ _ (by decide),upd_ne _ _ (by decide)]
 rw [x4] at e4
 rw [x7] at e7
 refine ⟨a4,k4,a7,k7,?_,?_,?_,?_⟩
 · have:=(h.br.cell 4 (by decide)).1;rw [e4] at this;exact this
 · have:=(h.br.cell 7 (by decide)).1;rw [e7] at this;exact this
 · have:=h.br.own 4 (by decide);rw [x4,e4] at this;exact this
 · have:=h.br.own 7 (by decide);rw [x7,e7] at this;exact this
end Go.Proofs.YtceigllifjgalaaGreatDoor.Bk
