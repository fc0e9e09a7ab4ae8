import Derived.Test.YtceigllifjgalaaGreatDoorKgb
import Derived.Test.YtceigllifjgalaaGreatDoorKha
import Derived.Test.YtceigllifjgalaaGreatDoorKgi
import Derived.Test.YtceigllifjgalaaGreatDoorKgt
import Derived.Test.YtceigllifjgalaaGreatDoorKga
namespace Go.Proofs.YtceigllifjgalaaGreatDoor.Bk
open Go Go.RowKit
set_option linter.unusedSimpArgs false
set_option linter.unusedVariables false
section
variable {w:World} {N bb:Nat} {cs:Array Value} {d t:Int} {U:Nat->Prop}
theorem markF_kB (h:Fx false kB w bb cs t d N U) (hN:N<=90000) :
 Calls Tryz.prog 169 #[.pointer (some ⟨bb,0,none⟩)] w fun e w'=>e = .returned (.tuple #[])/\St true kB w w' bb cs t d N U (fun _=>False):=by
 obtain ⟨D,rv,xs,sn,hb,hU,hl,hs⟩:=h.bo;refine (mark_kB cs bb 0 _ D cs rv xs t d sn w w hb (Nat.zero_le _) (by omega)).mono ?_;rintro e w' ⟨rfl,hm⟩;exact ⟨rfl,Fx.of_done hm hl rfl hs⟩
theorem growF_kB (h:Fx true kB w bb cs t d N U) (hN:N<=90000) :
 Calls Tryz.prog 186 #[.pointer (some ⟨bb,0,none⟩)] w fun e w'=>e = .returned (.tuple #[])/\St false kB w w' bb cs t d N U (fun _=>False):=by
 obtain ⟨D,rv,xs,xs0,K,sn,hq,hm,hn,h4,hU,h5,h6⟩:=h.ex;refine (grow_kB cs bb 0 _ D cs rv xs xs0 [] [] 0 K t d sn w w hq hm hn (Nat.zero_le _) (by omega)).mono ?_;rintro e w' ⟨rfl,D',cs',rv',xs',hb,_,hl⟩;exact ⟨rfl,Fx.of_bo (hb.more (fun k q=>q.imp id .inr)) (by omega) h6⟩
theorem holdF_kB (h:Fx false kB w bb cs t d N U) (hN:N<=90000) :
 Calls Tryz.prog 56 #[.pointer (some ⟨bb,0,none⟩)] w fun e w'=>e = .returned (.bool true)/\Below w.heap.size w w':=by
 obtain ⟨D,rv,xs,sn,hb,hU,hl,hs⟩:=h.bo;exact hold_kB hb (by omega) (by omega)
theorem zdC {t d:Nat} (h:Fx false kB w bb cs t d N U) (hN:N<=90000) (ht:t<=100000) (hd:d<=100000) (va:Option Addr) (n vc:Nat) (L:List Value) (mark:Int) (ho:w.ownsRow 0 5 1 (.slice va n vc) n L) (hok:Kd.ok kB L) (hn:n<=1900000) (hoff:∀ g,(Value.slice va n vc).ownBlock=some g->¬ U g/\g≠bb) (Q:World->Prop)
 (hk:∀ wx,St false kB w wx bb cs t (d+1:Nat) (N+1) U (fun k=>(Value.slice va n vc).ownBlock=some k)->Calls Tryz.prog 55 #[.pointer (some ⟨bb,0,none⟩)] wx fun e w'=>e = .returned (.tuple #[])/\Q w') :
 Calls Tryz.prog 51 #[.pointer (some ⟨bb,0,none⟩),.slice va n vc,.int .i64 mark] w fun e w'=>e = .returned (.tuple #[])/\Q w':=by
 obtain ⟨D,rv,xs,sn,hb,hU,hl,hs⟩:=h.bo;have hb':=hb.more (S':=fun k=>U k\/(Value.slice va n vc).ownBlock=some k\/k=bb) (fun k q=>q.imp id .inr);have voff:∀ g,(Value.slice va n vc).ownBlock=some g->(∀ j,¬ D g j)/\Off bb rv g:=fun g e=>⟨fun j q=>(hoff g e).1 ((hU g).2 (.inr (.inr ⟨j,q⟩))),(hoff g e).2,fun i hi q=>(hoff g e).1 ((hU g).2 (.inl ⟨i,hi,q⟩))⟩;refine note_kB cs bb 0 _ cs rv xs t sn d va n vc L mark w w Q hb'.bq (Nat.zero_le _) (hb.few (by omega)) ht (by omega) hd (zae ho) (fun g off e=>?_) hok (by omega) ?_
 · have e':(Value.slice va n vc).ownBlock=some g:=by rw [e];rfl
   exact ⟨(ho.lt g e').2,(voff g e').2⟩
 · intro wx cs' rv' a4 k4 due hq h47 hnl hf
   exact hk wx (hb'.noted hq h47 hnl hf ho voff (fun u hu k e q=>(hoff k q).1 ((hU k).2 (.inr (.inl ⟨u,.inl hu,e⟩)))) (fun g e=>.inl (.inr (.inl e))) hok hn hl hs)
end
section
variable {w:World} {N bb:Nat} {cs:Array Value} {d t:Int} {U:Nat->Prop}
theorem markF_kI (h:Fx false kI w bb cs t d N U) (hN:N<=90000) :
 Calls Tryz.prog 170 #[.pointer (some ⟨bb,0,none⟩)] w fun e w'=>e = .returned (.tuple #[])/\St true kI w w' bb cs t d N U (fun _=>False):=by
 obtain ⟨D,rv,xs,sn,hb,hU,hl,hs⟩:=h.bo;refine (mark_kI cs bb 0 _ D cs rv xs t d sn w w hb (Nat.zero_le _) (by omega)).mono ?_;rintro e w' ⟨rfl,hm⟩;exact ⟨rfl,Fx.of_done hm hl rfl hs⟩
theorem growF_kI (h:Fx true kI w bb cs t d N U) (hN:N<=90000) :
 Calls Tryz.prog 187 #[.pointer (some ⟨bb,0,none⟩)] w fun e w'=>e = .returned (.tuple #[])/\St false kI w w' bb cs t d N U (fun _=>False):=by
 obtain ⟨D,rv,xs,xs0,K,sn,hq,hm,hn,h4,hU,h5,h6⟩:=h.ex;refine (grow_kI cs bb 0 _ D cs rv xs xs0 [] [] 0 K t d sn w w hq hm hn (Nat.zero_le _) (by omega)).mono ?_;rintro e w' ⟨rfl,D',cs',rv',xs',hb,_,hl⟩;exact ⟨rfl,Fx.of_bo (hb.more (fun k q=>q.imp id .inr)) (by omega) h6⟩
theorem holdF_kI (h:Fx false kI w bb cs t d N U) (hN:N<=90000) :
 Calls Tryz.prog 57 #[.pointer (some ⟨bb,0,none⟩)] w fun e w'=>e = .returned (.bool true)/\Below w.heap.size w w':=by
 obtain ⟨D,rv,xs,sn,hb,hU,hl,hs⟩:=h.bo;exact hold_kI hb (by omega) (by omega)
theorem noteF_kI {t d:Nat} (h:Fx false kI w bb cs t d N U) (hN:N<=90000) (ht:t<=100000) (hd:d<=100000) (va:Option Addr) (n vc:Nat) (L:List Value) (mark:Int) (ho:w.ownsRow 0 3 1 (.slice va n vc) n L) (hok:Kd.ok kI L) (hn:n<=1900000) (hoff:∀ g,(Value.slice va n vc).ownBlock=some g->¬ U g/\g≠bb) (Q:World->Prop)
 (hk:∀ wx,St false kI w wx bb cs t (d+1:Nat) (N+1) U (fun k=>(Value.slice va n vc).ownBlock=some k)->Calls Tryz.prog 55 #[.pointer (some ⟨bb,0,none⟩)] wx fun e w'=>e = .returned (.tuple #[])/\Q w') :
 Calls Tryz.prog 53 #[.pointer (some ⟨bb,0,none⟩),.slice va n vc,.int .i64 mark] w fun e w'=>e = .returned (.tuple #[])/\Q w':=by
 obtain ⟨D,rv,xs,sn,hb,hU,hl,hs⟩:=h.bo;have hb':=hb.more (S':=fun k=>U k\/(Value.slice va n vc).ownBlock=some k\/k=bb) (fun k q=>q.imp id .inr);have voff:∀ g,(Value.slice va n vc).ownBlock=some g->(∀ j,¬ D g j)/\Off bb rv g:=fun g e=>⟨fun j q=>(hoff g e).1 ((hU g).2 (.inr (.inr ⟨j,q⟩))),(hoff g e).2,fun i hi q=>(hoff g e).1 ((hU g).2 (.inl ⟨i,hi,q⟩))⟩;refine note_kI cs bb 0 _ cs rv xs t sn d va n vc L mark w w Q hb'.bq (Nat.zero_le _) (hb.few (by omega)) ht (by omega) hd (zae ho) (fun g off e=>?_) hok (by omega) ?_
 · have e':(Value.slice va n vc).ownBlock=some g:=by rw [e];rfl
   exact ⟨(ho.lt g e').2,(voff g e').2⟩
 · intro wx cs' rv' a4 k4 due hq h47 hnl hf
   exact hk wx (hb'.noted hq h47 hnl hf ho voff (fun u hu k e q=>(hoff k q).1 ((hU k).2 (.inr (.inl ⟨u,.inl hu,e⟩)))) (fun g e=>.inl (.inr (.inl e))) hok hn hl hs)
end
section
variable {w:World} {N bb:Nat} {cs:Array Value} {d t:Int} {U:Nat->Prop}
theorem markF_kT (h:Fx false kT w bb cs t d N U) (hN:N<=90000) (hI:ItS (fun k=>U k\/k=bb) w) :
 Calls Tryz.prog 171 #[.pointer (some ⟨bb,0,none⟩)] w fun e w'=>e = .returned (.tuple #[])/\St true kT w w' bb cs t d N U (fun _=>False):=by
 obtain ⟨D,rv,xs,sn,hb,hU,hl,hs⟩:=h.bo;refine (mark_kT cs bb 0 _ D cs rv xs t d sn w w hb (Nat.zero_le _) (by omega) hI).mono ?_;rintro e w' ⟨rfl,hm⟩;exact ⟨rfl,Fx.of_done hm hl rfl hs⟩
theorem growF_kT (h:Fx true kT w bb cs t d N U) (hN:N<=90000) (hI:ItS (fun k=>U k\/k=bb) w) :
 Calls Tryz.prog 188 #[.pointer (some ⟨bb,0,none⟩)] w fun e w'=>e = .returned (.tuple #[])/\St false kT w w' bb cs t d N U (fun _=>False):=by
 obtain ⟨D,rv,xs,xs0,K,sn,hq,hm,hn,h4,hU,h5,h6⟩:=h.ex;refine (grow_kT cs bb 0 _ D cs rv xs xs0 [] [] 0 K t d sn w w hq hm hn (Nat.zero_le _) (by omega) hI).mono ?_;rintro e w' ⟨rfl,D',cs',rv',xs',hb,_,hl⟩;exact ⟨rfl,Fx.of_bo (hb.more (fun k q=>q.imp id .inr)) (by omega) h6⟩
theorem holdF_kT (h:Fx false kT w bb cs t d N U) (hN:N<=90000) :
 Calls Tryz.prog 58 #[.pointer (some ⟨bb,0,none⟩)] w fun e w'=>e = .returned (.bool true)/\Below w.heap.size w w':=by
 obtain ⟨D,rv,xs,sn,hb,hU,hl,hs⟩:=h.bo;exact hold_kT hb (by omega) (by omega)
theorem noteF_kT {t d:Nat} (h:Fx false kT w bb cs t d N U) (hN:N<=90000) (ht:t<=100000) (hd:d<=100000) (va:Option Addr) (n vc:Nat) (L:List Value) (mark:Int) (ho:w.ownsRow 0 9 1 (.slice va n vc) n L) (hok:Kd.ok kT L) (hn:n<=1900000) (hoff:∀ g,(Value.slice va n vc).ownBlock=some g->¬ U g/\g≠bb) (Q:World->Prop)
 (hk:∀ wx,St false kT w wx bb cs t (d+1:Nat) (N+1) U (fun k=>(Value.slice va n vc).ownBlock=some k)->Calls Tryz.prog 55 #[.pointer (some ⟨bb,0,none⟩)] wx fun e w'=>e = .returned (.tuple #[])/\Q w') :
 Calls Tryz.prog 54 #[.pointer (some ⟨bb,0,none⟩),.slice va n vc,.int .i64 mark] w fun e w'=>e = .returned (.tuple #[])/\Q w':=by
 obtain ⟨D,rv,xs,sn,hb,hU,hl,hs⟩:=h.bo;have hb':=hb.more (S':=fun k=>U k\/(Value.slice va n vc).ownBlock=some k\/k=bb) (fun k q=>q.imp id .inr);have voff:∀ g,(Value.slice va n vc).ownBlock=some g->(∀ j,¬ D g j)/\Off bb rv g:=fun g e=>⟨fun j q=>(hoff g e).1 ((hU g).2 (.inr (.inr ⟨j,q⟩))),(hoff g e).2,fun i hi q=>(hoff g e).1 ((hU g).2 (.inl ⟨i,hi,q⟩))⟩;refine note_kT cs bb 0 _ cs rv xs t sn d va n vc L mark w w Q hb'.bq (Nat.zero_le _) (hb.few (by omega)) ht (by omega) hd (zae ho) (fun g off e=>?_) hok (by omega) ?_
 · have e':(Value.slice va n vc).ownBlock=some g:=by rw [e];rfl
   exact ⟨(ho.lt g e').2,(voff g e').2⟩
 · intro wx cs' rv' a4 k4 due hq h47 hnl hf
   exact hk wx (hb'.noted hq h47 hnl hf ho voff (fun u hu k e q=>(hoff k q).1 ((hU k).2 (.inr (.inl ⟨u,.inl hu,e⟩)))) (fun g e=>.inl (.inr (.inl e))) hok hn hl hs)
end
section
variable {w:World} {N bb:Nat} {cs:Array Value} {d t:Int} {U:Nat->Prop}
theorem markF_kA (h:Fx false kA w bb cs t d N U) (hN:N<=90000) (hI:ItS (fun k=>U k\/k=bb) w) :
 Calls Tryz.prog 173 #[.pointer (some ⟨bb,0,none⟩)] w fun e w'=>e = .returned (.tuple #[])/\St true kA w w' bb cs t d N U (fun _=>False):=by
 obtain ⟨D,rv,xs,sn,hb,hU,hl,hs⟩:=h.bo;refine (mark_kA cs bb 0 _ D cs rv xs t d sn w w hb (Nat.zero_le _) (by omega) hI).mono ?_;rintro e w' ⟨rfl,hm⟩;exact ⟨rfl,Fx.of_done hm hl rfl hs⟩
theorem growF_kA (h:Fx true kA w bb cs t d N U) (hN:N<=90000) (hI:ItS (fun k=>U k\/k=bb) w) :
 Calls Tryz.prog 190 #[.pointer (some ⟨bb,0,none⟩)] w fun e w'=>e = .returned (.tuple #[])/\St false kA w w' bb cs t d N U (fun _=>False):=by
 obtain ⟨D,rv,xs,xs0,K,sn,hq,hm,hn,h4,hU,h5,h6⟩:=h.ex;refine (grow_kA cs bb 0 _ D cs rv xs xs0 [] [] 0 K t d sn w w hq hm hn (Nat.zero_le _) (by omega) hI).mono ?_;rintro e w' ⟨rfl,D',cs',rv',xs',hb,_,hl⟩;exact ⟨rfl,Fx.of_bo (hb.more (fun k q=>q.imp id .inr)) (by omega) h6⟩
theorem holdF_kA (h:Fx false kA w bb cs t d N U) (hN:N<=90000) :
 Calls Tryz.prog 60 #[.pointer (some ⟨bb,0,none⟩)] w fun e w'=>e = .returned (.bool true)/\Below w.heap.size w w':=by
 obtain ⟨D,rv,xs,sn,hb,hU,hl,hs⟩:=h.bo;exact hold_kA hb (by omega) (by omega)
theorem noteF_kA {t d:Nat} (h:Fx false kA w bb cs t d N U) (hN:N<=90000) (ht:t<=100000) (hd:d<=100000) (va:Option Addr) (n vc:Nat) (L:List Value) (mark:Int) (ho:w.ownsRow 0 98 2 (.slice va n vc) n L) (hok:Kd.ok kA L) (hn:n<=1900000) (hoff:∀ g,(Value.slice va n vc).ownBlock=some g->¬ U g/\g≠bb) (Q:World->Prop)
 (hk:∀ wx,St false kA w wx bb cs t (d+1:Nat) (N+1) U (fun k=>(Value.slice va n vc).ownBlock=some k)->Calls Tryz.prog 55 #[.pointer (some ⟨bb,0,none⟩)] wx fun e w'=>e = .returned (.tuple #[])/\Q w') :
 Calls Tryz.prog 52 #[.pointer (some ⟨bb,0,none⟩),.slice va n vc,.int .i64 mark] w fun e w'=>e = .returned (.tuple #[])/\Q w':=by
 obtain ⟨D,rv,xs,sn,hb,hU,hl,hs⟩:=h.bo;have hb':=hb.more (S':=fun k=>U k\/(Value.slice va n vc).ownBlock=some k\/k=bb) (fun k q=>q.imp id .inr);have voff:∀ g,(Value.slice va n vc).ownBlock=some g->(∀ j,¬ D g j)/\Off bb rv g:=fun g e=>⟨fun j q=>(hoff g e).1 ((hU g).2 (.inr (.inr ⟨j,q⟩))),(hoff g e).2,fun i hi q=>(hoff g e).1 ((hU g).2 (.inl ⟨i,hi,q⟩))⟩;refine note_kA cs bb 0 _ cs rv xs t sn d va n vc L mark w w Q hb'.bq (Nat.zero_le _) (hb.few (by omega)) ht (by omega) hd (zae ho) (fun g off e=>?_) hok (by omega) ?_
 · have e':(Value.slice va n vc).ownBlock=some g:=by rw [e];rfl
   exact ⟨(ho.lt g e').2,(voff g e').2⟩
 · intro wx cs' rv' a4 k4 due hq h47 hnl hf
   exact hk wx (hb'.noted hq h47 hnl hf ho voff (fun u hu k e q=>(hoff k q).1 ((hU k).2 (.inr (.inl ⟨u,.inl hu,e⟩)))) (fun g e=>.inl (.inr (.inl e))) hok hn hl hs)
end
def KK (i:Nat):Kd:=match i with | 0=>kB | 1=>kI | 2=>kT | _=>kA
theorem kk_c0 {i:Nat} (hi:i<4):(i=0/\(KK i).c0=4)\/(i=1/\(KK i).c0=13)\/(i=2/\(KK i).c0=22)\/(i=3/\(KK i).c0=40):=by match i,hi with | 0,_=>exact .inl ⟨rfl,rfl⟩ | 1,_=>exact .inr (.inl ⟨rfl,rfl⟩) | 2,_=>exact .inr (.inr (.inl ⟨rfl,rfl⟩)) | 3,_=>exact .inr (.inr (.inr ⟨rfl,rfl⟩))
theorem kk_sep {i j x:Nat} (hi:i<4) (hj:j<4) (hij:i≠j) (hx:x<9):(KK j).c0+x<(KK i).c0\/(KK i).c0+9<=(KK j).c0+x:=by have:=kk_c0 hi;have:=kk_c0 hj;omega
structure B4 (σ:Nat->Bool) (w:World) (bb:Nat) (cs:Array Value) (t d:Int) (N:Nat) (U:Nat->Nat->Prop):Prop where
 at_:BkAt w bb cs
 rest:Rest cs
 now:cs[0]?=some (.bool false)
 bad:cs[1]?=some (.bool false)
 turn:cs[2]?=some (.int .i64 t)
 dp:cs[3]?=some (.int .i64 d)
 f:∀ i,i<4->Fx (σ i) (KK i) w bb cs t d N (U i)
 dis:∀ i j,i<4->j<4->i≠j->∀ k,U i k->¬ U j k
def Us (U:Nat->Nat->Prop) (T:Nat->Prop) (bb:Nat) (k:Nat):Prop:=(∃ j,j<4/\U j k)\/T k\/k=bb
section
variable {σ:Nat->Bool} {w w':World} {bb N M:Nat} {cs cs':Array Value} {t d t' d':Int} {U:Nat->Nat->Prop} {T:Nat->Prop}
theorem B4.lt (h:B4 σ w bb cs t d N U) {i k:Nat} (hi:i<4) (hk:U i k):k<w.heap.size/\k≠bb:=(h.f i hi).lt hk
theorem B4.frame (h:B4 σ w bb cs t d N U) (hk:∀ i,i<4->∀ k,U i k->w'.heap[k]?=w.heap[k]?) (hb:BkAt w' bb cs') (hcs:∀ j,4<=j->cs'[j]?=cs[j]?) (h0:cs'[0]?=some (.bool false)) (h1:cs'[1]?=some (.bool false)) (h2:cs'[2]?=some (.int .i64 t')) (h3:cs'[3]?=some (.int .i64 d')):B4 σ w' bb cs' t' d' N U := ⟨hb,fun k hk i hi=>(hcs _ (by omega)).trans (h.rest k hk i hi),h0,h1,h2,h3,fun i hi=>(h.f i hi).frame (hk i hi) hb (fun x _=>hcs _ (by have:=kk_c0 hi;omega)) h0 h1 h2 h3,h.dis⟩
theorem B4.below (h:B4 σ w bb cs t d N U) (hb:Below w.heap.size w w'):B4 σ w' bb cs t d N U := h.frame (fun i hi k q=>hb.block k (h.lt hi q).1) (h.at_.kept hb) (fun _ _=>rfl) h.now h.bad h.turn h.dp
theorem B4.deep (h:B4 σ w bb cs t d N U) (x:Int):B4 σ (w.setCell ⟨bb,3,none⟩ (.int .i64 x)) bb (cs.setIfInBounds 3 (.int .i64 x)) t x N U:=by
 have h3:3<cs.size:=(Array.getElem?_eq_some_iff.1 h.dp).1;refine h.frame (fun i hi k q=>Below.heap_setCell _ _ _ _ (h.lt hi q).2) (zag (i:=3) h.at_ _) (fun j hj=>Array.getElem?_setIfInBounds_ne (by omega)) ?_ ?_ ?_ (by simp [h3]);· rw [Array.getElem?_setIfInBounds_ne (by omega)];exact h.now
 · rw [Array.getElem?_setIfInBounds_ne (by omega)];exact h.bad
 · rw [Array.getElem?_setIfInBounds_ne (by omega)];exact h.turn
theorem B4.turned (h:B4 σ w bb cs t d N U) (x:Int):B4 σ (w.setCell ⟨bb,2,none⟩ (.int .i64 x)) bb (cs.setIfInBounds 2 (.int .i64 x)) x d N U:=by
 have h3:2<cs.size:=(Array.getElem?_eq_some_iff.1 h.turn).1;refine h.frame (fun i hi k q=>Below.heap_setCell _ _ _ _ (h.lt hi q).2) (zag (i:=2) h.at_ _) (fun j hj=>Array.getElem?_setIfInBounds_ne (by omega)) ?_ ?_ (by simp [h3]) ?_;· rw [Array.getElem?_setIfInBounds_ne (by omega)];exact h.now
 · rw [Array.getElem?_setIfInBounds_ne (by omega)];exact h.bad
 · rw [Array.getElem?_setIfInBounds_ne (by omega)];exact h.dp
theorem B4.step (h:B4 σ w bb cs t d N U) {i:Nat} (hi:i<4) {m:Bool} (hM:N<=M) (s:St m (KK i) w w' bb cs t d' M (U i) T) (hT:∀ k,T k->k<w.heap.size/\∀ j,j<4->¬ U j k) :
 ∃ cs' U',B4 (upd σ i m) w' bb cs' t d' M (upd U i U')/\Ch (fun k=>U i k\/T k\/k=bb) w w'/\(∀ k,U' k->U i k\/T k\/w.heap.size<=k):=by
 obtain ⟨cs',U',hf,hc,hu,hcs⟩:=s.ex;obtain ⟨D,rv,xs,xs0,K,seen,hq,_⟩:=hf.ex;have hd:=hq.hd;refine ⟨cs',U',⟨hq.br.at_,fun k hk x hx=>(hcs _ (by omega) (by have:=kk_c0 hi;omega)).trans (h.rest k hk x hx),hd.now,hd.bad,hd.turn,hd.dp,fun j hj=>?_,fun a b ha hb hab k qa qb=>?_⟩,hc,hu⟩
 · by_cases e:j=i
   · subst e;rw [za8,za8];exact hf
   · rw [upd_ne _ _ e,upd_ne _ _ e]
     refine ((h.f j hj).mono hM).frame (fun k q=>hc.block k (h.lt hj q).1 ?_) hq.br.at_ (fun x hx=>hcs _ (by have:=kk_c0 hj;omega) (kk_sep hi hj (Ne.symm e) hx)) hd.now hd.bad hd.turn hd.dp;rintro (r | r | r);· exact h.dis j i hj hi e k q r
     · exact (hT k r).2 j hj q
     · exact (h.lt hj q).2 r
 · have key:∀ c,c<4->c≠i->∀ k,U c k->¬ U' k:=fun c hc' hci k q r=>by
     rcases hu k r with r | r | r;· exact h.dis c i hc' hi hci k q r
     · exact (hT k r).2 c hc' q
     · have:=(h.lt hc' q).1;omega
   by_cases ea:a=i
   · subst ea
     rw [za8] at qa;rw [upd_ne _ _ (Ne.symm hab)] at qb;exact key b hb (Ne.symm hab) k qb qa
   · rw [upd_ne _ _ ea] at qa
     by_cases eb:b=i;· subst eb;rw [za8] at qb;exact key a ha ea k qa qb
     · rw [upd_ne _ _ eb] at qb;exact h.dis a b ha hb hab k qa qb
end
structure B5 (σ:Nat->Bool) (w0 w:World) (bb:Nat) (t d:Int) (N:Nat) (U0:Nat->Nat->Prop) (T:Nat->Prop):Prop where ex:∃ cs U,B4 σ w bb cs t d N U/\Ch (Us U0 T bb) w0 w/\∀ i,i<4->∀ k,U i k->Us U0 T bb k\/w0.heap.size<=k
section
variable {σ:Nat->Bool} {w0 w w':World} {bb N M:Nat} {cs cs':Array Value} {t d t' d':Int} {U U0:Nat->Nat->Prop} {T:Nat->Prop}
theorem B5.below (h:B5 σ w0 w bb t d N U0 T) (hb:Below w.heap.size w w'):B5 σ w0 w' bb t d N U0 T:=by obtain ⟨cs,U,h1,h2,h3⟩:=h.ex;exact ⟨cs,U,h1.below hb,Ch.trans (S':=fun _=>False) h2 (Below.ch hb) (fun _ _ q=>q.elim),h3⟩
theorem B5.call (h:B5 σ w0 w bb t d N U0 T) {i fn:Nat} (hi:i<4) {m:Bool} (kk:∀ (cs:Array Value) (V:Nat->Prop),Fx (σ i) (KK i) w bb cs t d N V->(∀ j,V j->Us U0 T bb j\/w0.heap.size<=j)->Ch (Us U0 T bb) w0 w->Calls Tryz.prog fn #[.pointer (some ⟨bb,0,none⟩)] w fun e w'=>e = .returned (.tuple #[])/\St m (KK i) w w' bb cs t d N V (fun _=>False)) :
 Calls Tryz.prog fn #[.pointer (some ⟨bb,0,none⟩)] w fun e w'=>e = .returned (.tuple #[])/\B5 (upd σ i m) w0 w' bb t d N U0 T:=by
 obtain ⟨cs,U,h1,h2,h3⟩:=h.ex;refine (kk cs (U i) (h1.f i hi) (h3 i hi) h2).mono ?_;rintro e w' ⟨rfl,s⟩;obtain ⟨cs',U',q1,q2,q3⟩:=h1.step hi (Nat.le_refl _) s (fun k q=>q.elim);have hs:=h2.size;refine ⟨rfl,cs',_,q1,Ch.trans h2 q2 (fun j hj q=>?_),fun c hc k q=>?_⟩
 · rcases q with q | q | q
   · rcases h3 i hi j q with q | q
     · exact q
     · omega
   · exact q.elim
   · exact .inr (.inr q)
 · by_cases e:c=i
   · subst e
     rw [za8] at q;rcases q3 k q with q | q | q;· exact h3 c hc k q
     · exact q.elim
     · exact .inr (by omega)
   · rw [upd_ne _ _ e] at q;exact h3 c hc k q
theorem B5.markN (h:B5 σ w0 w bb t d N U0 T) {fn:Nat} (k:∀ cs,BkAt w bb cs->Rest cs->Calls Tryz.prog fn #[.pointer (some ⟨bb,0,none⟩)] w fun e w'=>e = .returned (.tuple #[])/\w'=w) :
 Calls Tryz.prog fn #[.pointer (some ⟨bb,0,none⟩)] w fun e w'=>e = .returned (.tuple #[])/\B5 σ w0 w' bb t d N U0 T:=by
 obtain ⟨cs,U,h1,h2,h3⟩:=h.ex;refine (k cs h1.at_ h1.rest).mono ?_;rintro e w' ⟨rfl,rfl⟩;exact ⟨rfl,h⟩
theorem B5.growN (h:B5 σ w0 w bb t d N U0 T) {fn:Nat} (k:∀ cs,BkAt w bb cs->Rest cs->Calls Tryz.prog fn #[.pointer (some ⟨bb,0,none⟩)] w fun e w'=>e = .returned (.tuple #[])/\BkAt w' bb cs/\Below w.heap.size w w') :
 Calls Tryz.prog fn #[.pointer (some ⟨bb,0,none⟩)] w fun e w'=>e = .returned (.tuple #[])/\B5 σ w0 w' bb t d N U0 T:=by
 obtain ⟨cs,U,h1,h2,h3⟩:=h.ex;refine (k cs h1.at_ h1.rest).mono ?_;rintro e w' ⟨rfl,_,hb⟩;exact ⟨rfl,h.below hb⟩
theorem ItS.later (hI:ItS (Us U0 T bb) w0) (hc:Ch (Us U0 T bb) w0 w) {V:Nat->Prop} (hV:∀ j,V j->Us U0 T bb j\/w0.heap.size<=j):ItS (fun k=>V k\/k=bb) w:=fun wx c=>hI wx (Ch.trans hc c (fun j hj q=>by
 rcases q with q | q;·
  rcases hV j q with q | q;· exact q
  · omega
 · exact .inr (.inr q)))
end
set_option maxRecDepth 100000
set_option maxHeartbeats 2000000
section
variable {w0 wb:World} {N bb:Nat} {d t:Int} {U0:Nat->Nat->Prop} {T:Nat->Prop}
theorem hidi {p:Prop} (h:p):Hid p:=h
theorem B5.all {σ σ':Nat->Bool} {w:World} (h:B5 σ w0 w bb t d N U0 T) (hs:∀ i,i<4->σ i=σ' i):B5 σ' w0 w bb t d N U0 T:=by obtain ⟨cs,U,h1,h2,h3⟩:=h.ex;exact ⟨cs,U,⟨h1.at_,h1.rest,h1.now,h1.bad,h1.turn,h1.dp,fun i hi=>hs i hi ▸ h1.f i hi,h1.dis⟩,h2,h3⟩
theorem zbT (h:B5 (fun _=>false) wb w0 bb t d N U0 T) (hN:N<=90000) (hI:Hid (ItS (Us U0 T bb) wb)) :
 Calls Tryz.prog 113 #[.pointer (some ⟨bb,0,none⟩)] w0 fun e w'=>e = .returned (.tuple #[])/\B5 (fun _=>true) wb w' bb t d N U0 T:=by
 have H0:=hidi h;clear h;go_enter Tryz.func113,Tryz.ntmps113;go_wp2_with fail;go_must (go_at_call 169);refine (B5.call (i:=0) H0.out (by decide) (fun cs V hf hV hc=>markF_kB hf hN)).mono ?_;rintro e w1 ⟨rfl,h⟩;have H1:=hidi h;clear h;go_wp2_with fail;go_must (go_at_call 170);refine (B5.call (i:=1) H1.out (by decide) (fun cs V hf hV hc=>markF_kI hf hN)).mono ?_;rintro e w2 ⟨rfl,h⟩;have H2:=hidi h;clear h;go_wp2_with fail;go_must (go_at_call 171);refine (B5.call (i:=2) H2.out (by decide) (fun cs V hf hV hc=>markF_kT hf hN (hI.out.later hc hV))).mono ?_;rintro e w3 ⟨rfl,h⟩;have H3:=hidi h;clear h;go_wp2_with fail;go_must (go_at_call 172);refine (H3.out.markN (markN3 bb · w3)).mono ?_;rintro e w4 ⟨rfl,h⟩;have H4:=hidi h;clear h;go_wp2_with fail;go_must (go_at_call 173);refine (B5.call (i:=3) H4.out (by decide) (fun cs V hf hV hc=>markF_kA hf hN (hI.out.later hc hV))).mono ?_;rintro e w5 ⟨rfl,h⟩;have H5:=hidi h;clear h;go_wp2_with fail;go_must (go_at_call 174);refine (H5.out.markN (markN5 bb · w5)).mono ?_;rintro e w6 ⟨rfl,h⟩;have H6:=hidi h;clear h;go_wp2_with fail;go_must (go_at_call 175);refine (H6.out.markN (markN6 bb · w6)).mono ?_;rintro e w7 ⟨rfl,h⟩;have H7:=hidi h;clear h;go_wp2_with fail;go_must (go_at_call 176);refine (H7.out.markN (markN7 bb · w7)).mono ?_;rintro e w8 ⟨rfl,h⟩;have H8:=hidi h;clear h;go_wp2_with fail;go_must (go_at_call 177);refine (H8.out.markN (markN8 bb · w8)).mono ?_;rintro e w9 ⟨rfl,h⟩;have H9:=hidi h;clear h;go_wp2_with fail;go_must (go_at_call 178);refine (H9.out.markN (markN9 bb · w9)).mono ?_;rintro e w10 ⟨rfl,h⟩;have H10:=hidi h;clear h;go_wp2_with fail;go_must (go_at_call 179);refine (H10.out.markN (markN10 bb · w10)).mono ?_;rintro e w11 ⟨rfl,h⟩;have H11:=hidi h;clear h;go_wp2_with fail;go_must (go_at_call 180);refine (H11.out.markN (markN11 bb · w11)).mono ?_;rintro e w12 ⟨rfl,h⟩;have H12:=hidi h;clear h;go_wp2_with fail;go_must (go_at_call 181);refine (H12.out.markN (markN12 bb · w12)).mono ?_;rintro e w13 ⟨rfl,h⟩;have H13:=hidi h;clear h;go_wp2_with fail;go_must (go_at_call 182);refine (H13.out.markN (markN13 bb · w13)).mono ?_;rintro e w14 ⟨rfl,h⟩;have H14:=hidi h;clear h;go_wp2_with fail;go_must (go_at_call 183);refine (H14.out.markN (markN14 bb · w14)).mono ?_;rintro e w15 ⟨rfl,h⟩;have H15:=hidi h;clear h;go_wp2_with fail;go_must (go_at_call 184);refine (H15.out.markN (markN15 bb · w15)).mono ?_;rintro e w16 ⟨rfl,h⟩;have H16:=hidi h;clear h;go_wp2_with fail;go_must (go_at_call 185);refine (H16.out.markN (markN16 bb · w16)).mono ?_;rintro e w17 ⟨rfl,h⟩;have H17:=hidi h;clear h;go_wp2_with fail;go_end0;exact ⟨rfl,H17.out.all (fun i hi=>by match i,hi with | 0,_=>rfl | 1,_=>rfl | 2,_=>rfl | 3,_=>rfl)⟩
theorem grows_any (h:B5 (fun _=>true) wb w0 bb t d N U0 T) (hN:N<=90000) (hI:Hid (ItS (Us U0 T bb) wb)) :
 Calls Tryz.prog 114 #[.pointer (some ⟨bb,0,none⟩)] w0 fun e w'=>e = .returned (.tuple #[])/\B5 (fun _=>false) wb w' bb t d N U0 T:=by
 have H0:=hidi h;clear h;go_enter Tryz.func114,Tryz.ntmps114;go_wp2_with fail;go_must (go_at_call 186);refine (B5.call (i:=0) H0.out (by decide) (fun cs V hf hV hc=>growF_kB hf hN)).mono ?_;rintro e w1 ⟨rfl,h⟩;have H1:=hidi h;clear h;go_wp2_with fail;go_must (go_at_call 187);refine (B5.call (i:=1) H1.out (by decide) (fun cs V hf hV hc=>growF_kI hf hN)).mono ?_;rintro e w2 ⟨rfl,h⟩;have H2:=hidi h;clear h;go_wp2_with fail;go_must (go_at_call 188);refine (B5.call (i:=2) H2.out (by decide) (fun cs V hf hV hc=>growF_kT hf hN (hI.out.later hc hV))).mono ?_;rintro e w3 ⟨rfl,h⟩;have H3:=hidi h;clear h;go_wp2_with fail;go_must (go_at_call 189);refine (H3.out.growN (growN3 bb · w3)).mono ?_;rintro e w4 ⟨rfl,h⟩;have H4:=hidi h;clear h;go_wp2_with fail;go_must (go_at_call 190);refine (B5.call (i:=3) H4.out (by decide) (fun cs V hf hV hc=>growF_kA hf hN (hI.out.later hc hV))).mono ?_;rintro e w5 ⟨rfl,h⟩;have H5:=hidi h;clear h;go_wp2_with fail;go_must (go_at_call 191);refine (H5.out.growN (growN5 bb · w5)).mono ?_;rintro e w6 ⟨rfl,h⟩;have H6:=hidi h;clear h;go_wp2_with fail;go_must (go_at_call 192);refine (H6.out.growN (growN6 bb · w6)).mono ?_;rintro e w7 ⟨rfl,h⟩;have H7:=hidi h;clear h;go_wp2_with fail;go_must (go_at_call 193);refine (H7.out.growN (growN7 bb · w7)).mono ?_;rintro e w8 ⟨rfl,h⟩;have H8:=hidi h;clear h;go_wp2_with fail;go_must (go_at_call 194);refine (H8.out.growN (growN8 bb · w8)).mono ?_;rintro e w9 ⟨rfl,h⟩;have H9:=hidi h;clear h;go_wp2_with fail;go_must (go_at_call 195);refine (H9.out.growN (growN9 bb · w9)).mono ?_;rintro e w10 ⟨rfl,h⟩;have H10:=hidi h;clear h;go_wp2_with fail;go_must (go_at_call 196);refine (H10.out.growN (growN10 bb · w10)).mono ?_;rintro e w11 ⟨rfl,h⟩;have H11:=hidi h;clear h;go_wp2_with fail;go_must (go_at_call 197);refine (H11.out.growN (growN11 bb · w11)).mono ?_;rintro e w12 ⟨rfl,h⟩;have H12:=hidi h;clear h;go_wp2_with fail;go_must (go_at_call 198);refine (H12.out.growN (growN12 bb · w12)).mono ?_;rintro e w13 ⟨rfl,h⟩;have H13:=hidi h;clear h;go_wp2_with fail;go_must (go_at_call 199);refine (H13.out.growN (growN13 bb · w13)).mono ?_;rintro e w14 ⟨rfl,h⟩;have H14:=hidi h;clear h;go_wp2_with fail;go_must (go_at_call 200);refine (H14.out.growN (growN14 bb · w14)).mono ?_;rintro e w15 ⟨rfl,h⟩;have H15:=hidi h;clear h;go_wp2_with fail;go_must (go_at_call 201);refine (H15.out.growN (growN15 bb · w15)).mono ?_;rintro e w16 ⟨rfl,h⟩;have H16:=hidi h;clear h;go_wp2_with fail;go_must (go_at_call 202);refine (H16.out.growN (growN16 bb · w16)).mono ?_;rintro e w17 ⟨rfl,h⟩;have H17:=hidi h;clear h;go_wp2_with fail;go_end0;exact ⟨rfl,H17.out.all (fun i hi=>by match i,hi with | 0,_=>rfl | 1,_=>rfl | 2,_=>rfl | 3,_=>rfl)⟩
end
set_option maxHeartbeats 4000000
section
variable {w:World} {bb:Nat} {cs:Array Value}
theorem done_deep {d:Nat} (hB:BkAt w bb cs) (h3:cs[3]?=some (.int .i64 (d+1:Nat))) (h1:1<=d) (h2:d<=1000) :
 Calls Tryz.prog 55 #[.pointer (some ⟨bb,0,none⟩)] w fun e w'=>e = .returned (.tuple #[])/\w'=w.setCell ⟨bb,3,none⟩ (.int .i64 d):=by
 obtain ⟨x3,z3⟩:=za1 hB h3;clear hB h3;have hw:IntKind.i64.wrap (((d+1:Nat):Int)-1)=(d:Int):=by rw [IntKind.wrap_i64];omega
 have hp:(0:Int)<(d:Int):=by omega
 have y3:(w.setCell ⟨bb,3,none⟩ (.int .i64 d)).cell? ⟨bb,3,none⟩=some (.int .i64 d):=by
  rcases hh:w.heap[bb]? with _ | o;· simp [World.cell?,hh] at x3
  · cases o <;> simp [World.cell?,World.setCell,hh,Array.getElem?_modify] at x3 ⊢ <;> (obtain ⟨q,_⟩:=Array.getElem?_eq_some_iff.1 x3;simp [q])
 go_enter Tryz.func55,Tryz.ntmps55;go_wp2;refine bodyPost_ret (results_none rfl _ _ _) rfl ⟨rfl,?_⟩;first | rfl | (congr 2;omega) | skip
theorem done_out {N t:Nat} {U:Nat->Nat->Prop} {T:Nat->Prop} (h:B4 (fun _=>false) w bb cs t 1 N U) (hN:N<=90000) (ht:t<=1000000) (hI:Hid (ItS (Us U T bb) w)) :
 Calls Tryz.prog 55 #[.pointer (some ⟨bb,0,none⟩)] w fun e w'=>e = .returned (.tuple #[])/\B5 (fun _=>false) w w' bb (t+1:Nat) 0 N U T:=by
 obtain ⟨x3,z3⟩:=za1 h.at_ h.dp;have HN:Hid (N<=90000/\t<=1000000):=⟨hN,ht⟩;obtain ⟨wa,hwa⟩:∃ W,W=w.setCell ⟨bb,3,none⟩ (.int .i64 0):=⟨_,rfl⟩;have HA:=hidi (show B5 (fun _=>false) w wa bb t 0 N U T from ⟨_,U,by rw [hwa];exact h.deep 0,by rw [hwa];exact (ch_set bb _ _).mono (fun j _ q=>.inr (.inr q)),fun i hi k q=>.inl (.inl ⟨i,hi,q⟩)⟩);clear h hN ht;go_enter Tryz.func55,Tryz.ntmps55;go_wp2_with fail;rw [<-hwa];clear hwa x3 z3;go_must (go_at_call 113);refine (zbT HA.out HN.out.1 hI).mono ?_;rintro e w1 ⟨rfl,hm⟩;have H1:=hidi hm;clear hm;go_wp2_with fail;go_must (go_at_call 114);refine (grows_any H1.out HN.out.1 hI).mono ?_;rintro e w2 ⟨rfl,hm⟩;obtain ⟨cs2,U2,hb,hc,hu⟩:=hm.ex;clear hm;obtain ⟨ct,zt⟩:=za1 hb.at_ hb.turn;have H2:=hidi (And.intro hb (And.intro hc hu));clear hb hc hu;have hwt:IntKind.i64.wrap ((t:Int)+1)=((t+1:Nat):Int):=by have:=HN.out.2;rw [IntKind.wrap_i64];omega
 go_wp2_with fail;go_end0;refine ⟨rfl,_,U2,H2.out.1.turned _,Ch.trans (S':=fun k=>k=bb) H2.out.2.1 (ch_set bb _ _) (fun j _ q=>.inr (.inr q)),H2.out.2.2⟩
end
section
variable {w w0:World} {N bb t:Nat} {U U0:Nat->Nat->Prop} {T:Nat->Prop} {σ:Nat->Bool} {d:Int} {cs:Array Value}
def Li (κ:Kd) (w:World) (v:Value):Prop:=∃ a n c L,v = .slice a n c/\w.ownsRow 0 κ.te κ.es (.slice a n c) n L/\κ.ok L/\n<=1900000
theorem B5.note {i FN:Nat} (hi:i<4) (h:B5 (fun _=>false) w0 w bb t (1:Nat) N U0 T) (v:Value) (hv:Li (KK i) w0 v) (hoff:∀ g,v.ownBlock=some g->¬ Us U0 T bb g) (mark:Int)
 (note:∀ (cs:Array Value) (V:Nat->Prop),Fx false (KK i) w bb cs t (1:Nat) N V->∀ (va:Option Addr) (n vc:Nat) (L:List Value),w.ownsRow 0 (KK i).te (KK i).es (.slice va n vc) n L->(KK i).ok L->n<=1900000->(∀ g,(Value.slice va n vc).ownBlock=some g->¬ V g/\g≠bb)->∀ (Q:World->Prop),(∀ wx,St false (KK i) w wx bb cs t (1+1:Nat) (N+1) V (fun k=>(Value.slice va n vc).ownBlock=some k)->Calls Tryz.prog 55 #[.pointer (some ⟨bb,0,none⟩)] wx fun e w'=>e = .returned (.tuple #[])/\Q w')->Calls Tryz.prog FN #[.pointer (some ⟨bb,0,none⟩),.slice va n vc,.int .i64 mark] w fun e w'=>e = .returned (.tuple #[])/\Q w') :
 Calls Tryz.prog FN #[.pointer (some ⟨bb,0,none⟩),v,.int .i64 mark] w fun e w'=>e = .returned (.tuple #[])/\B5 (fun _=>false) w0 w' bb t (1:Nat) (N+1) U0 (fun g=>T g\/v.ownBlock=some g):=by
 obtain ⟨cs,U,h1,h2,h3⟩:=h.ex;obtain ⟨va,n,vc,L,rfl,ho,hok,hn⟩:=hv;have hs:=h2.size;have ho':w.ownsRow 0 (KK i).te (KK i).es (.slice va n vc) n L:=zab ho (fun g e=>h2.block g (ho.lt g e).2 (hoff g e));have voff:∀ g,(Value.slice va n vc).ownBlock=some g->(∀ j,j<4->¬ U j g)/\g≠bb:=fun g e=>⟨fun j hj q=>by
  rcases h3 j hj g q with q | q;· exact hoff g e q
  · have:=(ho.lt g e).2;omega,fun q=>hoff g e (.inr (.inr q))⟩
 refine note cs (U i) (h1.f i hi) va n vc L ho' hok hn (fun g e=>⟨(voff g e).1 i hi,(voff g e).2⟩) _ ?_;intro wx s;obtain ⟨cs',U',q1,q2,q3⟩:=h1.step hi (Nat.le_succ N) s (fun k q=>⟨(ho'.lt k q).2,(voff k q).1⟩);refine (done_deep (d:=1) q1.at_ q1.dp (by decide) (by decide)).mono ?_;rintro e w' ⟨rfl,rfl⟩;have hσ:upd (fun _=>false) i false=fun _=>false:=by funext j;by_cases e:j=i <;> simp [upd,e]
 rw [hσ] at q1;refine ⟨rfl,_,_,q1.deep _,Ch.trans (S':=fun k=>k=bb) (Ch.trans (h2.mono (fun j _ q=>?_)) q2 (fun j hj q=>?_)) (ch_set bb _ _) (fun j _ q=>.inr (.inr q)),fun c hc k q=>?_⟩
 · rcases q with q | q | q
   · exact .inl q
   · exact .inr (.inl (.inl q))
   · exact .inr (.inr q)
 · rcases q with q | q | q
   · rcases h3 i hi j q with (q | q | q) | q
     · exact .inl q
     · exact .inr (.inl (.inl q))
     · exact .inr (.inr q)
     · omega
   · exact .inr (.inl (.inr q))
   · exact .inr (.inr q)
 · have up:∀ c,c<4->U c k->Us U0 (fun g=>T g\/(Value.slice va n vc).ownBlock=some g) bb k\/w0.heap.size<=k:=fun c hc q=>by
     rcases h3 c hc k q with (q | q | q) | q;· exact .inl (.inl q)
     · exact .inl (.inr (.inl (.inl q)))
     · exact .inl (.inr (.inr q))
     · exact .inr q
   by_cases e:c=i
   · subst e
     rw [za8] at q;rcases q3 k q with q | q | q;· exact up c hc q
     · exact .inl (.inr (.inl (.inr q)))
     · exact .inr (by omega)
   · rw [upd_ne _ _ e] at q;exact up c hc q
theorem B5.join {σ':Nat->Bool} {w':World} {N':Nat} {t t' d':Int} (h:B4 σ w bb cs t d N U) (h2:Ch (Us U0 T bb) w0 w) (h3:∀ i,i<4->∀ k,U i k->Us U0 T bb k\/w0.heap.size<=k) {T':Nat->Prop} (hT:∀ k,T' k->Us U0 T bb k\/w0.heap.size<=k) (h':B5 σ' w w' bb t' d' N' U T'):B5 σ' w0 w' bb t' d' N' U0 T:=by
 have hs:=h2.size;have up:∀ k,Us U T' bb k->Us U0 T bb k\/w0.heap.size<=k:=fun k q=>by
  rcases q with ⟨j,hj,q⟩ | q | q;· exact h3 j hj k q
  · exact hT k q
  · exact .inl (.inr (.inr q))
 obtain ⟨cs',U',q1,q2,q3⟩:=h'.ex;refine ⟨cs',U',q1,Ch.trans h2 q2 (fun j hj q=>?_),fun i hi k q=>?_⟩;·
  rcases up j q with q | q;· exact q
  · omega
 ·
  rcases q3 i hi k q with q | q;· exact up k q
  · exact .inr (by omega)
def T6 (v1 v2 v3 v4 v5 v6:Value) (g:Nat):Prop:=v1.ownBlock=some g\/v2.ownBlock=some g\/v3.ownBlock=some g\/v4.ownBlock=some g\/v5.ownBlock=some g\/v6.ownBlock=some g
theorem B5.box {X j ty:Nat} {t:Int} {arr:Array Value} {v:Value} (h:B5 σ w0 w bb t d N U0 T) (hX:w0.heap[X]?=some (.cells arr ty (0,0))) (hn:¬ Us U0 T bb X) (hj:arr[j]?=some v):w.cell? ⟨X,j,none⟩=some v:=by obtain ⟨cs,U,h1,h2,h3⟩:=h.ex;have e:=(h2.block X (lt_of_block hX) hn).trans hX;simp [World.cell?,e,hj]
theorem zcc (h:B4 (fun _=>false) w bb cs t 0 N U) (hN:N+6<=90000) (ht:t<=90000) (x0 x1 x2 x3 x4 x5 x6 v1 x8 x9 x10 x11 x12 v2 x14 x15 x16 x17 v3 x19 x20 x21 v4 v5 v6:Value) (mark:Int)
 (l1:Li kB w v1) (l2:Li kB w v2) (l3:Li kB w v3) (l4:Li kA w v4) (l5:Li kI w v5) (l6:Li kT w v6) (hps:PS [v1,v2,v3,v4,v5,v6]) (hoff:∀ g,T6 v1 v2 v3 v4 v5 v6 g->(∀ j,j<4->¬ U j g)/\g≠bb) (hI:ItS (Us U (T6 v1 v2 v3 v4 v5 v6) bb) w) : Calls Tryz.prog 15 #[.pointer (some ⟨bb,0,none⟩),.agg #[x0,x1,x2,x3,x4,x5,x6,v1,x8,x9,x10,x11,x12,v2,x14,x15,x16,x17,v3,x19,x20,x21,v4,v5,v6],.int .i64 mark] w fun e w'=>e = .returned (.tuple #[])/\B5 (fun _=>false) w w' bb (t+1:Nat) 0 (N+6) U (T6 v1 v2 v3 v4 v5 v6):=by
 obtain ⟨wB,hwB⟩:∃ W,W=w.alloc (.cells #[x0,x1,x2,x3,x4,x5,x6,v1,x8,x9,x10,x11,x12,v2,x14,x15,x16,x17,v3,x19,x20,x21,v4,v5,v6] 29):=⟨_,rfl⟩;have BB:=hidi (show Below w.heap.size w wB by rw [hwB];exact (Below.refl _ _).alloc (Nat.le_refl _) _);have HX:=hidi (show wB.heap[w.heap.size]?=some (.cells #[x0,x1,x2,x3,x4,x5,x6,v1,x8,x9,x10,x11,x12,v2,x14,x15,x16,x17,v3,x19,x20,x21,v4,v5,v6] 29 (0,0)) by rw [hwB];exact heap_alloc_new w _);have lat:∀ {κ:Kd} {v:Value},Li κ w v->Li κ wB v:=fun {κ v} l=>by obtain ⟨a,n,c,L,e,ho,r⟩:=l;exact ⟨a,n,c,L,e,zab ho (fun g e=>BB.out.block g (ho.lt g e).2),r⟩
 have vlt:∀ {κ:Kd} {v:Value},Li κ w v->∀ g,v.ownBlock=some g->g<w.heap.size:=fun {κ v} l g e=>by obtain ⟨a,n,c,L,rfl,ho,r⟩:=l;exact (ho.lt g e).2
 have tlt:∀ g,T6 v1 v2 v3 v4 v5 v6 g->g<w.heap.size:=fun g q=>by
  rcases q with q | q | q | q | q | q;· exact vlt l1 g q
  · exact vlt l2 g q
  · exact vlt l3 g q
  · exact vlt l4 g q
  · exact vlt l5 g q
  · exact vlt l6 g q
 have hnX:∀ T:Nat->Prop,(∀ g,T g->T6 v1 v2 v3 v4 v5 v6 g)->¬ Us U T bb w.heap.size:=fun T hT q=>by
  rcases q with ⟨j,hj,q⟩ | q | q;· have:=(h.lt hj q).1;omega
  · have:=tlt _ (hT _ q);omega
  · have:=lt_of_block h.at_;omega
 have NX:=hidi hnX;have HB:=hidi (h.below BB.out);have HL:=hidi (And.intro (lat l1) (And.intro (lat l2) (And.intro (lat l3) (And.intro (lat l4) (And.intro (lat l5) (lat l6))))));have HO:=hidi hoff;have HP:=hidi hps;have HI:=hidi hI;have HN:=hidi (And.intro hN ht);obtain ⟨y3,z3⟩:=za1 (h.below BB.out).at_ h.dp;have TL:=hidi tlt;clear h hN ht l1 l2 l3 l4 l5 l6 hps hoff hI lat vlt tlt hnX;have nb:Hid (∀ (v:Value) (T:Nat->Prop),(∀ g,v.ownBlock=some g->T6 v1 v2 v3 v4 v5 v6 g)->(∀ g,v.ownBlock=some g->¬ T g)->∀ g,v.ownBlock=some g->¬ Us U T bb g):=fun v T h1 h2 g e q=>by
  rcases q with ⟨j,hj,q⟩ | q | q;· exact (HO.out g (h1 g e)).1 j hj q
  · exact h2 g e q
  · exact (HO.out g (h1 g e)).2 q
 go_enter Tryz.func15,Tryz.ntmps15;go_upto_region 1 with fail;rw [<-hwB];clear hwB;go_upto_region 2 with fail;obtain ⟨w1,hw1⟩:∃ W,W=wB.setCell ⟨bb,3,none⟩ (.int .i64 1):=⟨_,rfl⟩;have H1:=hidi (show B5 (fun _=>false) wB w1 bb t (1:Nat) N U (fun _=>False) from ⟨_,U,by rw [hw1];exact HB.out.deep 1,by rw [hw1];exact (ch_set bb _ _).mono (fun j _ q=>.inr (.inr q)),fun i hi k q=>.inl (.inl ⟨i,hi,q⟩)⟩);rw [<-hw1];clear hw1 y3 z3;have c1:w1.cell? ⟨w.heap.size,7,none⟩=some v1:=H1.out.box HX.out (NX.out _ (fun g q=>False.elim q)) rfl;go_wp2_with fail;go_must (go_at_call 51);refine (B5.note (i:=0) (by decide) H1.out v1 HL.out.1 (nb.out v1 _ (fun g q=>(.inl q)) (fun g e q=>q)) _ (fun cs V hf va n vc L ho hok hn hof Q hk=>zdC hf (by have:=HN.out.1;omega) (by have:=HN.out.2;omega) (by decide) va n vc L _ ho hok hn hof Q hk)).mono ?_;rintro e w2 ⟨rfl,h⟩;have H2:=hidi h;clear h c1;have c2:w2.cell? ⟨w.heap.size,13,none⟩=some v2:=H2.out.box HX.out (NX.out _ (fun g q=>Or.elim q (fun q=>False.elim q) (fun q=>(.inl q)))) rfl;go_wp2_with fail;go_must (go_at_call 51);refine (B5.note (i:=0) (by decide) H2.out v2 HL.out.2.1 (nb.out v2 _ (fun g q=>(.inr (.inl q))) (fun g e q=>Or.elim q (fun q=>q) (fun q=>ps_get HP.out (i:=0) (j:=1) (by decide) rfl rfl g q e))) _ (fun cs V hf va n vc L ho hok hn hof Q hk=>zdC hf (by have:=HN.out.1;omega) (by have:=HN.out.2;omega) (by decide) va n vc L _ ho hok hn hof Q hk)).mono ?_;rintro e w3 ⟨rfl,h⟩;have H3:=hidi h;clear h c2;have c3:w3.cell? ⟨w.heap.size,18,none⟩=some v3:=H3.out.box HX.out (NX.out _ (fun g q=>Or.elim q (fun q=>Or.elim q (fun q=>False.elim q) (fun q=>(.inl q))) (fun q=>(.inr (.inl q))))) rfl;go_wp2_with fail;go_must (go_at_call 51);refine (B5.note (i:=0) (by decide) H3.out v3 HL.out.2.2.1 (nb.out v3 _ (fun g q=>(.inr (.inr (.inl q)))) (fun g e q=>Or.elim q (fun q=>Or.elim q (fun q=>q) (fun q=>ps_get HP.out (i:=0) (j:=2) (by decide) rfl rfl g q e)) (fun q=>ps_get HP.out (i:=1) (j:=2) (by decide) rfl rfl g q e))) _ (fun cs V hf va n vc L ho hok hn hof Q hk=>zdC hf (by have:=HN.out.1;omega) (by have:=HN.out.2;omega) (by decide) va n vc L _ ho hok hn hof Q hk)).mono ?_;rintro e w4 ⟨rfl,h⟩;have H4:=hidi h;clear h c3;have c4:w4.cell? ⟨w.heap.size,22,none⟩=some v4:=H4.out.box HX.out (NX.out _ (fun g q=>Or.elim q (fun q=>Or.elim q (fun q=>Or.elim q (fun q=>False.elim q) (fun q=>(.inl q))) (fun q=>(.inr (.inl q)))) (fun q=>(.inr (.inr (.inl q)))))) rfl;go_wp2_with fail;go_must (go_at_call 52);refine (B5.note (i:=3) (by decide) H4.out v4 HL.out.2.2.2.1 (nb.out v4 _ (fun g q=>(.inr (.inr (.inr (.inl q))))) (fun g e q=>Or.elim q (fun q=>Or.elim q (fun q=>Or.elim q (fun q=>q) (fun q=>ps_get HP.out (i:=0) (j:=3) (by decide) rfl rfl g q e)) (fun q=>ps_get HP.out (i:=1) (j:=3) (by decide) rfl rfl g q e)) (fun q=>ps_get HP.out (i:=2) (j:=3) (by decide) rfl rfl g q e))) _ (fun cs V hf va n vc L ho hok hn hof Q hk=>noteF_kA hf (by have:=HN.out.1;omega) (by have:=HN.out.2;omega) (by decide) va n vc L _ ho hok hn hof Q hk)).mono ?_;rintro e w5 ⟨rfl,h⟩;have H5:=hidi h;clear h c4;have c5:w5.cell? ⟨w.heap.size,23,none⟩=some v5:=H5.out.box HX.out (NX.out _ (fun g q=>Or.elim q (fun q=>Or.elim q (fun q=>Or.elim q (fun q=>Or.elim q (fun q=>False.elim q) (fun q=>(.inl q))) (fun q=>(.inr (.inl q)))) (fun q=>(.inr (.inr (.inl q))))) (fun q=>(.inr (.inr (.inr (.inl q))))))) rfl;go_wp2_with fail;go_must (go_at_call 53);refine (B5.note (i:=1) (by decide) H5.out v5 HL.out.2.2.2.2.1 (nb.out v5 _ (fun g q=>(.inr (.inr (.inr (.inr (.inl q)))))) (fun g e q=>Or.elim q (fun q=>Or.elim q (fun q=>Or.elim q (fun q=>Or.elim q (fun q=>q) (fun q=>ps_get HP.out (i:=0) (j:=4) (by decide) rfl rfl g q e)) (fun q=>ps_get HP.out (i:=1) (j:=4) (by decide) rfl rfl g q e)) (fun q=>ps_get HP.out (i:=2) (j:=4) (by decide) rfl rfl g q e)) (fun q=>ps_get HP.out (i:=3) (j:=4) (by decide) rfl rfl g q e))) _ (fun cs V hf va n vc L ho hok hn hof Q hk=>noteF_kI hf (by have:=HN.out.1;omega) (by have:=HN.out.2;omega) (by decide) va n vc L _ ho hok hn hof Q hk)).mono ?_;rintro e w6 ⟨rfl,h⟩;have H6:=hidi h;clear h c5;have c6:w6.cell? ⟨w.heap.size,24,none⟩=some v6:=H6.out.box HX.out (NX.out _ (fun g q=>Or.elim q (fun q=>Or.elim q (fun q=>Or.elim q (fun q=>Or.elim q (fun q=>Or.elim q (fun q=>False.elim q) (fun q=>(.inl q))) (fun q=>(.inr (.inl q)))) (fun q=>(.inr (.inr (.inl q))))) (fun q=>(.inr (.inr (.inr (.inl q)))))) (fun q=>(.inr (.inr (.inr (.inr (.inl q)))))))) rfl;go_wp2_with fail;go_must (go_at_call 54);refine (B5.note (i:=2) (by decide) H6.out v6 HL.out.2.2.2.2.2 (nb.out v6 _ (fun g q=>(.inr (.inr (.inr (.inr (.inr q)))))) (fun g e q=>Or.elim q (fun q=>Or.elim q (fun q=>Or.elim q (fun q=>Or.elim q (fun q=>Or.elim q (fun q=>q) (fun q=>ps_get HP.out (i:=0) (j:=5) (by decide) rfl rfl g q e)) (fun q=>ps_get HP.out (i:=1) (j:=5) (by decide) rfl rfl g q e)) (fun q=>ps_get HP.out (i:=2) (j:=5) (by decide) rfl rfl g q e)) (fun q=>ps_get HP.out (i:=3) (j:=5) (by decide) rfl rfl g q e)) (fun q=>ps_get HP.out (i:=4) (j:=5) (by decide) rfl rfl g q e))) _ (fun cs V hf va n vc L ho hok hn hof Q hk=>noteF_kT hf (by have:=HN.out.1;omega) (by have:=HN.out.2;omega) (by decide) va n vc L _ ho hok hn hof Q hk)).mono ?_;rintro e w7 ⟨rfl,h⟩;have H7:=hidi h;clear h c6;go_wp2_with fail;go_must (go_at_call 55);obtain ⟨cs7,U7,q1,q2,q3⟩:=H7.out.ex;have s6:∀ g,_->T6 v1 v2 v3 v4 v5 v6 g:=fun g (q:(((((False\/v1.ownBlock=some g)\/v2.ownBlock=some g)\/v3.ownBlock=some g)\/v4.ownBlock=some g)\/v5.ownBlock=some g)\/v6.ownBlock=some g)=>Or.elim q (fun q=>Or.elim q (fun q=>Or.elim q (fun q=>Or.elim q (fun q=>Or.elim q (fun q=>Or.elim q (fun q=>False.elim q) (fun q=>(.inl q))) (fun q=>(.inr (.inl q)))) (fun q=>(.inr (.inr (.inl q))))) (fun q=>(.inr (.inr (.inr (.inl q)))))) (fun q=>(.inr (.inr (.inr (.inr (.inl q))))))) (fun q=>(.inr (.inr (.inr (.inr (.inr q))))));have up:∀ k,Us U7 (fun _=>False) bb k->Us U (T6 v1 v2 v3 v4 v5 v6) bb k\/wB.heap.size<=k:=fun k q=>by
  rcases q with ⟨j,hj,q⟩ | q | q
  · rcases q3 j hj k q with (q | q | q) | q
    · exact .inl (.inl q)
    · exact .inl (.inr (.inl (s6 k q)))
    · exact .inl (.inr (.inr q))
    · exact .inr q
  · exact q.elim
  · exact .inl (.inr (.inr q))
 have q2':Ch (Us U (T6 v1 v2 v3 v4 v5 v6) bb) wB w7:=q2.mono (fun j _ q=>by
  rcases q with q | q | q;· exact .inl q
  · exact .inr (.inl (s6 j q))
  · exact .inr (.inr q))
 have hsB:=BB.out.size;have hI7:ItS (Us U7 (fun _=>False) bb) w7:=fun wx c=>HI.out wx (Ch.trans (Ch.trans (S':=Us U (T6 v1 v2 v3 v4 v5 v6) bb) (Below.ch BB.out) q2' (fun j _ q=>q)) c (fun j hj q=>by
  rcases up j q with q | q;· exact q
  · omega))
 have J:=hidi (show ∀ w',B5 (fun _=>false) w7 w' bb (t+1:Nat) 0 (N+6) U7 (fun _=>False)->B5 (fun _=>false) w w' bb (t+1:Nat) 0 (N+6) U (T6 v1 v2 v3 v4 v5 v6) from fun w' h'=>by
  refine B5.join q1 (Ch.trans (S':=Us U (T6 v1 v2 v3 v4 v5 v6) bb) (Below.ch BB.out) q2' (fun j _ q=>q)) (fun i hi k q=>?_) (fun k q=>q.elim) h';rcases up k (.inl ⟨i,hi,q⟩) with q | q;· exact .inl q
  · exact .inr (by omega))
 refine (done_out q1 (by have:=HN.out.1;omega) (by have:=HN.out.2;omega) hI7).mono ?_;rintro e w8 ⟨rfl,h⟩;have H8:=hidi (J.out w8 h);clear h q1 q2 q3 up q2' hI7 hsB s6;go_wp2_with fail;go_end0;exact ⟨rfl,H8.out⟩
end
section
variable {w w0:World} {bb fn:Nat} {cs:Array Value}
theorem holdR (hb:Below w0.heap.size w0 w) (hB:BkAt w0 bb cs) (hr:Rest cs) (k:∀ (cs:Array Value) (w:World),BkAt w bb cs->Rest cs->Calls Tryz.prog fn #[.pointer (some ⟨bb,0,none⟩)] w fun e w'=>e = .returned (.bool true)/\w'=w):Calls Tryz.prog fn #[.pointer (some ⟨bb,0,none⟩)] w fun e w'=>e = .returned (.bool true)/\Below w0.heap.size w0 w' := (k cs w (hB.kept hb) hr).mono (by rintro e w' ⟨rfl,rfl⟩;exact ⟨rfl,hb⟩)
theorem holdS {p:Value} (hb:Below w0.heap.size w0 w) (k:Calls Tryz.prog fn #[p] w fun e w'=>e = .returned (.bool true)/\Below w.heap.size w w'):Calls Tryz.prog fn #[p] w fun e w'=>e = .returned (.bool true)/\Below w0.heap.size w0 w' := k.mono (by rintro e w' ⟨rfl,h⟩;exact ⟨rfl,hb.trans (h.mono hb.size)⟩)
theorem zcv {N:Nat} {t d:Int} {U:Nat->Nat->Prop} (h:B4 (fun _=>false) w bb cs t d N U) (hN:N<=90000) :
 Calls Tryz.prog 16 #[.pointer (some ⟨bb,0,none⟩)] w fun e w'=>e = .returned (.bool true)/\Below w.heap.size w w':=by
 have x1:=(za1 h.at_ h.bad).1;have H:=hidi h;have B0:=hidi (Below.refl w.heap.size w);have W:Hid (∀ W,Below w.heap.size w W->B4 (fun _=>false) W bb cs t d N U):=fun W hb=>h.below hb;clear h;go_enter Tryz.func16,Tryz.ntmps16;go_wp2_with fail;clear x1;go_must (go_at_call 56);refine (holdS B0.out (holdF_kB ((W.out _ B0.out).f 0 (by decide)) hN)).mono ?_;rintro e w1 ⟨rfl,h⟩;have B1:=hidi h;clear h;go_wp2_with fail;skip;go_must (go_at_call 57);refine (holdS B1.out (holdF_kI ((W.out _ B1.out).f 1 (by decide)) hN)).mono ?_;rintro e w2 ⟨rfl,h⟩;have B2:=hidi h;clear h;go_wp2_with fail;skip;go_must (go_at_call 58);refine (holdS B2.out (holdF_kT ((W.out _ B2.out).f 2 (by decide)) hN)).mono ?_;rintro e w3 ⟨rfl,h⟩;have B3:=hidi h;clear h;go_wp2_with fail;skip;go_must (go_at_call 59);refine (holdR B3.out H.out.at_ H.out.rest (holdN3 bb)).mono ?_;rintro e w4 ⟨rfl,h⟩;have B4:=hidi h;clear h;go_wp2_with fail;skip;go_must (go_at_call 60);refine (holdS B4.out (holdF_kA ((W.out _ B4.out).f 3 (by decide)) hN)).mono ?_;rintro e w5 ⟨rfl,h⟩;have B5:=hidi h;clear h;go_wp2_with fail;skip;go_must (go_at_call 61);refine (holdR B5.out H.out.at_ H.out.rest (holdN5 bb)).mono ?_;rintro e w6 ⟨rfl,h⟩;have B6:=hidi h;clear h;go_wp2_with fail;skip;go_must (go_at_call 62);refine (holdR B6.out H.out.at_ H.out.rest (holdN6 bb)).mono ?_;rintro e w7 ⟨rfl,h⟩;have B7:=hidi h;clear h;go_wp2_with fail;skip;go_must (go_at_call 63);refine (holdR B7.out H.out.at_ H.out.rest (holdN7 bb)).mono ?_;rintro e w8 ⟨rfl,h⟩;have B8:=hidi h;clear h;go_wp2_with fail;skip;go_must (go_at_call 64);refine (holdR B8.out H.out.at_ H.out.rest (holdN8 bb)).mono ?_;rintro e w9 ⟨rfl,h⟩;have B9:=hidi h;clear h;go_wp2_with fail;skip;go_must (go_at_call 65);refine (holdR B9.out H.out.at_ H.out.rest (holdN9 bb)).mono ?_;rintro e w10 ⟨rfl,h⟩;have B10:=hidi h;clear h;go_wp2_with fail;skip;go_must (go_at_call 66);refine (holdR B10.out H.out.at_ H.out.rest (holdN10 bb)).mono ?_;rintro e w11 ⟨rfl,h⟩;have B11:=hidi h;clear h;go_wp2_with fail;skip;go_must (go_at_call 67);refine (holdR B11.out H.out.at_ H.out.rest (holdN11 bb)).mono ?_;rintro e w12 ⟨rfl,h⟩;have B12:=hidi h;clear h;go_wp2_with fail;skip;go_must (go_at_call 68);refine (holdR B12.out H.out.at_ H.out.rest (holdN12 bb)).mono ?_;rintro e w13 ⟨rfl,h⟩;have B13:=hidi h;clear h;go_wp2_with fail;skip;go_must (go_at_call 69);refine (holdR B13.out H.out.at_ H.out.rest (holdN13 bb)).mono ?_;rintro e w14 ⟨rfl,h⟩;have B14:=hidi h;clear h;go_wp2_with fail;skip;go_must (go_at_call 70);refine (holdR B14.out H.out.at_ H.out.rest (holdN14 bb)).mono ?_;rintro e w15 ⟨rfl,h⟩;have B15:=hidi h;clear h;go_wp2_with fail;skip;go_must (go_at_call 71);refine (holdR B15.out H.out.at_ H.out.rest (holdN15 bb)).mono ?_;rintro e w16 ⟨rfl,h⟩;have B16:=hidi h;clear h;go_wp2_with fail;skip;go_must (go_at_call 72);refine (holdR B16.out H.out.at_ H.out.rest (holdN16 bb)).mono ?_;rintro e w17 ⟨rfl,h⟩;have B17:=hidi h;clear h;go_wp2_with fail;go_ret;exact ⟨rfl,B17.out⟩
end
section
variable {w w':World} {N bb:Nat} {V:Nat->Prop} {cs:Array Value}
def Bk (w:World) (bb N:Nat) (V:Nat->Prop):Prop:=∃ (cs:Array Value) (t:Nat) (U:Nat->Nat->Prop),B4 (fun _=>false) w bb cs t 0 N U/\t<=N/\∀ k,V k↔(∃ j,j<4/\U j k)\/k=bb
theorem Bk.lt (h:Bk w bb N V) {k:Nat} (hk:V k):k<w.heap.size:=by
 obtain ⟨cs,t,U,h1,h2,h3⟩:=h;rcases (h3 k).1 hk with ⟨j,hj,q⟩ | q;· exact (h1.lt hj q).1
 · rw [q];exact lt_of_block h1.at_
theorem Bk.keep (h:Bk w bb N V) (hk:∀ k,V k->w'.heap[k]?=w.heap[k]?):Bk w' bb N V:=by obtain ⟨cs,t,U,h1,h2,h3⟩:=h;exact ⟨cs,t,U,h1.frame (fun i hi k q=>hk k ((h3 k).2 (.inl ⟨i,hi,q⟩))) ((hk bb ((h3 bb).2 (.inr rfl))).trans h1.at_) (fun _ _=>rfl) h1.now h1.bad h1.turn h1.dp,h2,h3⟩
theorem Bk.below (h:Bk w bb N V) (hb:Below w.heap.size w w'):Bk w' bb N V:=h.keep (fun k q=>hb.block k (h.lt q))
theorem bk_start (hat:BkAt w bb cs) (h0:cs[0]?=some (.bool false)) (h1:cs[1]?=some (.bool false)) (h2:cs[2]?=some (.int .i64 0)) (h3:cs[3]?=some (.int .i64 0)) (hr:∀ k,k<=16->∀ i,i<=7->cs[4+9*k+i]?=some (.slice none 0 0)) (hs:∀ k,k<=16->cs[4+9*k+8]?=some (.int .i64 0)):Bk w bb 0 (fun k=>k=bb):=by
 refine ⟨cs,0,fun _ _=>False,⟨hat,fun k hk i hi=>hr k (by omega) i hi,h0,h1,h2,h3,fun i hi=>?_,fun i j _ _ _ k q=>q.elim⟩,Nat.le_refl _,fun k=>⟨.inr,fun q=>q.elim (fun ⟨_,_,q⟩=>q.elim) id⟩⟩;obtain ⟨q,hq,e⟩:∃ q,q<=16/\(KK i).c0=4+9*q:=by
  rcases kk_c0 hi with ⟨_,e⟩|⟨_,e⟩|⟨_,e⟩|⟨_,e⟩;· exact ⟨0,by decide,e⟩
  · exact ⟨1,by decide,e⟩
  · exact ⟨2,by decide,e⟩
  · exact ⟨4,by decide,e⟩
 refine ⟨fun _ _=>False,fun _=>.slice none 0 0,fun _=>[],fun _=>[],0,0,⟨⟨hat,fun x hx=>by rw [e];exact hr q hq x (by omega),fun x _=>⟨rfl,.inl ⟨rfl,rfl⟩⟩,fun a b _ _ _ k e=>(by cases e),fun x _ e=>(by cases e)⟩,⟨h0,h1,h2,h3,by rw [e];exact hs q hq,fun _ _ _=>rfl,by omega⟩,Ch.refl _ _,.inr rfl,fun x _ k e=>(by cases e)⟩,⟨fun g j q=>q.elim,PD.nil _ _,List.Pairwise.nil,rfl,fun x v vn e=>by simp at e,fun x v vn _ e=>by simp at e,fun x v e=>by simp at e,fun _ _ q=>q.elim,fun v hv=>?_⟩,⟨rfl,rfl,rfl,fun u hu=>(by cases hu),fun u hu=>(by cases hu),fun u hu=>(by cases hu),Nat.le_refl _,Nat.le_refl _⟩,fun _=>⟨rfl,rfl,rfl,rfl,rfl⟩,fun k=>⟨fun q=>q.elim,fun q=>?_⟩,Nat.le_refl _,Nat.le_refl _⟩;· rcases hv with q | q | q <;> cases q
 ·
  rcases q with ⟨x,_,e⟩|⟨v,hv,_⟩|⟨j,q⟩;· cases e
  · rcases hv with q | q <;> cases q
  · exact q
theorem Bk.of5 {t:Nat} {U:Nat->Nat->Prop} {T:Nat->Prop} (hV:∀ k,V k↔(∃ j,j<4/\U j k)\/k=bb) (h:B5 (fun _=>false) w w' bb t 0 N U T) (ht:t<=N):∃ V',Bk w' bb N V'/\Ch (fun k=>V k\/T k) w w'/\∀ k,V' k->(V k\/T k)\/w.heap.size<=k:=by
 have up:∀ k,Us U T bb k->V k\/T k:=fun k q=>by
  rcases q with q | q | q;· exact .inl ((hV k).2 (.inl q))
  · exact .inr q
  · exact .inl ((hV k).2 (.inr q))
 obtain ⟨cs',U',h1,h2,h3⟩:=h.ex;refine ⟨fun k=>(∃ j,j<4/\U' j k)\/k=bb,⟨cs',t,U',h1,ht,fun k=>Iff.rfl⟩,h2.mono (fun j _ q=>up j q),fun k q=>?_⟩;rcases q with ⟨j,hj,q⟩ | q;· exact (h3 j hj k q).imp (up k) id
 · exact .inl (.inl ((hV k).2 (.inr q)))
theorem bk_packet (h:Bk w bb N V) (hN:N+6<=90000) (x0 x1 x2 x3 x4 x5 x6 v1 x8 x9 x10 x11 x12 v2 x14 x15 x16 x17 v3 x19 x20 x21 v4 v5 v6:Value) (mark:Int)
 (l1:Li kB w v1) (l2:Li kB w v2) (l3:Li kB w v3) (l4:Li kA w v4) (l5:Li kI w v5) (l6:Li kT w v6) (hps:PS [v1,v2,v3,v4,v5,v6]) (hoff:∀ g,T6 v1 v2 v3 v4 v5 v6 g->¬ V g) (hI:ItS (fun k=>V k\/T6 v1 v2 v3 v4 v5 v6 k) w) : Calls Tryz.prog 15 #[.pointer (some ⟨bb,0,none⟩),.agg #[x0,x1,x2,x3,x4,x5,x6,v1,x8,x9,x10,x11,x12,v2,x14,x15,x16,x17,v3,x19,x20,x21,v4,v5,v6],.int .i64 mark] w fun e w'=>e = .returned (.tuple #[])/\∃ V',Bk w' bb (N+6) V'/\Ch (fun k=>V k\/T6 v1 v2 v3 v4 v5 v6 k) w w'/\∀ k,V' k->(V k\/T6 v1 v2 v3 v4 v5 v6 k)\/w.heap.size<=k:=by
 obtain ⟨cs,t,U,h1,h2,h3⟩:=h;refine (zcc h1 hN (by omega) x0 x1 x2 x3 x4 x5 x6 v1 x8 x9 x10 x11 x12 v2 x14 x15 x16 x17 v3 x19 x20 x21 v4 v5 v6 mark l1 l2 l3 l4 l5 l6 hps (fun g q=>⟨fun j hj r=>hoff g q ((h3 g).2 (.inl ⟨j,hj,r⟩)),fun r=>hoff g q ((h3 g).2 (.inr r))⟩) (hI.mono (fun k q=>?_))).mono ?_
 · rcases q with q | q | q
   · exact .inl ((h3 k).2 (.inl q))
   · exact .inr q
   · exact .inl ((h3 k).2 (.inr q))
 · rintro e w' ⟨rfl,h5⟩
   exact ⟨rfl,Bk.of5 h3 h5 (by omega)⟩
theorem zf4 (h:Bk w bb N V) (hN:N<=90000):Calls Tryz.prog 16 #[.pointer (some ⟨bb,0,none⟩)] w fun e w1=>e = .returned (.bool true)/\Below w.heap.size w w1:=by obtain ⟨cs,t,U,h1,h2,h3⟩:=h;exact zcv h1 hN
end
end Go.Proofs.YtceigllifjgalaaGreatDoor.Bk
namespace Go.Proofs.YtceigllifjgalaaGreatDoor.Rm
open Go Go.RowKit
open Bk (Ch)
set_option linter.unusedSimpArgs false
set_option linter.unusedVariables false
set_option maxHeartbeats 400000
section
variable {w:World} {R ca cb cp g ga gb len:Nat}
theorem same_any (ao ao':Option Addr) (len cap len' cap':Nat) (z z':Nat->Int) (w:World) (h:Came w ao len cap z) (h':Came w ao' len' cap' z') :
 Calls Tryz.prog 91 #[.slice ao len cap,.slice ao' len' cap'] w fun e w'=>e = .returned (.bool ((strZ z len).toList==(strZ z' len').toList))/\w'=w:=by
 have c1:=zb3 ao len cap z w h;have c2:=zb3 ao' len' cap' z' w h';clear h h';go_enter Tryz.func91,Tryz.ntmps91;go_wp2;go_ret;exact ⟨rfl,rfl⟩
def Rb (R gb ga g k:Nat):Prop:=k=R\/k=gb\/k=ga\/k=g
theorem RoomOk.keep {w':World} (h:RoomOk w R 1 gb cb ga ca (fun _=>g) (fun _=>len) (fun _=>cp)) (hk:∀ k,Rb R gb ga g k->w'.heap[k]?=w.heap[k]?):RoomOk w' R 1 gb cb ga ca (fun _=>g) (fun _=>len) (fun _=>cp):=by
 obtain ⟨h1,h2,h3,h4,h5,h6,h7,h8⟩:=h;have cc:∀ k i,Rb R gb ga g k->w'.cell? ⟨k,i,none⟩=w.cell? ⟨k,i,none⟩:=fun k i q=>by unfold World.cell?;rw [show (⟨k,i,none⟩:Addr).block=k from rfl,hk k q]
 exact ⟨h1,h2,(cc _ _ (.inl rfl)).trans h3,(cc _ _ (.inl rfl)).trans h4,fun i hi=>(cc _ _ (.inr (.inl rfl))).trans (h5 i hi),fun i hi=>(cc _ _ (.inr (.inr (.inl rfl)))).trans (h6 i hi),fun i hi k q=>(cc _ _ (.inr (.inr (.inr rfl)))).trans (h7 i hi k q),fun i a b=>(cc _ _ (.inl rfl)).trans (h8 i a b)⟩
theorem RoomOk.put (h:RoomOk w R 1 gb cb ga ca (fun _=>g) (fun _=>len) (fun _=>cp)) (n1:g≠R) (n2:g≠gb) (n3:g≠ga) (i:Nat) (hi:i<len) (v:Value):RoomOk (w.setCell ⟨g,i,none⟩ v) R 1 gb cb ga ca (fun _=>g) (fun _=>len) (fun _=>cp):=by
 obtain ⟨h1,h2,h3,h4,h5,h6,h7,h8⟩:=h;have cc:∀ k j,k≠g->(w.setCell ⟨g,i,none⟩ v).cell? ⟨k,j,none⟩=w.cell? ⟨k,j,none⟩:=fun k j q=>by unfold World.cell?;rw [Below.heap_setCell w _ v k q]
 refine ⟨h1,h2,(cc _ _ (Ne.symm n1)).trans h3,(cc _ _ (Ne.symm n1)).trans h4,fun i hi=>(cc _ _ (Ne.symm n2)).trans (h5 i hi),fun i hi=>(cc _ _ (Ne.symm n3)).trans (h6 i hi),fun j hj k hk=>?_,fun i a b=>(cc _ _ (Ne.symm n1)).trans (h8 i a b)⟩;rw [<-h7 j hj k hk];have hne:(⟨g,i,none⟩:Addr)≠⟨g,len+k,none⟩:=by intro e;injection e with _ e2 _;omega
 exact World.cell?_setCell_other _ _ _ _ hne
theorem bytes_at {bb:Nat} {bc:Array Value} (ao:Option Addr) (len cap:Nat) (z:Nat->Int) (hm:len<=150000) (hc:Came w ao len cap z) (hR:w.heap[R]?=some (.cells nil28 48 (0,0))) (hb:w.heap[bb]?=some (.cells bc 55 (0,0))) :
 Calls Tryz.prog 19 #[.pointer (some ⟨R,0,none⟩),.slice ao len cap] w fun e w'=>∃ g cp gb cb ga ca,e = .returned (.slice (some ⟨g,0,none⟩) len (len+600)) /\ RoomOk w' R 1 gb cb ga ca (fun _=>g) (fun _=>len) (fun _=>cp)/\Came w' (some ⟨g,0,none⟩) len (len+600) z/\Below R w w'/\w'.heap[bb]?=some (.cells bc 55 (0,0))/\(∃ cur,w'.heap[g]?=some (.cells cur 5 (0,0))/\len+600<=cur.size)/\(R<=g/\R<=gb/\R<=ga)/\(g≠R/\g≠gb/\g≠ga)/\∀ k,Rb R gb ga g k->k<w'.heap.size/\k≠bb:=by
 refine bytes_wrap _ _ _ _ _ _ ((lay_any R R 0 nil28 (.slice none 0 0) (.slice none 0 0) [] [] ao len cap z _ hm (by decide) hc hR (zdu 0 (by decide)) (zdu 1 (by decide)) (Nat.le_refl _) (World.ownsRow_nil _ _ _ _) (World.ownsRow_nil _ _ _ _)).mono ?_);rintro e w' ⟨g,cp,cur,vb',va',rfl,hg,hh,hs,hl,ht,hR',ob,oa,hbel⟩;refine ⟨g,len,len+600,rfl,g,cp,?_⟩;obtain ⟨_,k | ⟨gb,cb,curb,rfl,lgb,hhb,_,_,hsb,htb⟩⟩:=ob;· exact absurd k.2 (by decide)
 obtain ⟨_,k | ⟨ga,ca,cura,rfl,lga,hha,_,_,hsa,hta⟩⟩:=oa;· exact absurd k.2 (by decide)
 have hb':w'.heap[bb]?=some (.cells bc 55 (0,0)):=(hbel.2 bb bc 55 (.inr rfl) hb).trans hb;have ne:∀ {x y:Nat} {a b:Array Value} {s t:TypeId},w'.heap[x]?=some (.cells a s (0,0))->w'.heap[y]?=some (.cells b t (0,0))->s≠t->x≠y:=fun h1 h2 h3 e=>by subst e;rw [h1] at h2;injection h2 with h2;injection h2 with _ h2 _;exact h3 h2
 have cell:∀ j,j<len+600->w'.cell? ⟨g,j,none⟩=(cellsOf z len++cellsOf mark 600)[j]?:=by
  intro j hj;rw [<-ht,List.getElem?_take_of_lt hj];have hj':j<cur.size:=by omega
  simp [World.cell?,hh]
 have Rlt:=lt_of_block hR;refine ⟨gb,cb,ga,ca,rfl,⟨by decide,fun _=>⟨hm,hl⟩,?_,?_,?_,?_,?_,?_⟩,⟨by omega,hc.2.1,.inr ⟨_,rfl,?_⟩⟩,hbel.1,hb',⟨cur,hh,by omega⟩,⟨by omega,lgb,lga⟩,⟨by omega,ne hh hhb (by decide),ne hh hha (by decide)⟩,fun k q=>?_⟩;· simp [World.cell?,hR',nil28]
 · simp [World.cell?,hR',nil28]
 · intro i hi
   obtain rfl:i=0:=by omega
   have q:curb.toList[0]?=some (.slice (some ⟨g,0,none⟩) (len+600) cp):=by have e:=congrArg (fun l=>l[0]?) htb;simpa [List.getElem?_take_of_lt] using e
   simpa [World.cell?,hhb] using q
 · intro i hi
   obtain rfl:i=0:=by omega
   have q:cura.toList[0]?=some (.int .i64 len):=by have e:=congrArg (fun l=>l[0]?) hta;simpa [List.getElem?_take_of_lt] using e
   simpa [World.cell?,hha] using q
 · intro i _ k hk
   show w'.cell? ⟨g,len+k,none⟩=_;rw [cell (len+k) (by omega),List.getElem?_append_right (by rw [zbk];omega),zbk,Nat.add_sub_cancel_left,zba mark 600 k hk]
 · intro i h2 h28
   have q:=zdu i h28;simp [World.cell?,hR',Array.getElem?_setIfInBounds,show ¬ 1=i by omega,show ¬ 0=i by omega,q]
 · intro i hi
   have e:(⟨g,0,none⟩:Addr).add i=⟨g,i,none⟩:=by rw [za9,Nat.zero_add]
   rw [e,cell i (by omega),List.getElem?_append_left (by rw [zbk];omega),zba z len i hi]
 · rcases q with rfl | rfl | rfl | rfl
   · exact ⟨lt_of_block hR',ne hR' hb' (by decide)⟩
   · exact ⟨lt_of_block hhb,ne hhb hb' (by decide)⟩
   · exact ⟨lt_of_block hha,ne hha hb' (by decide)⟩
   · exact ⟨lt_of_block hh,ne hh hb' (by decide)⟩
end
end Go.Proofs.YtceigllifjgalaaGreatDoor.Rm
