import Derived.Test.YtceigllifjgalaaGreatDoorKef
namespace Go.Proofs.YtceigllifjgalaaGreatDoor.Bk
open Go Go.RowKit
set_option linter.unusedSimpArgs false
set_option linter.unusedVariables false
set_option maxRecDepth 100000
set_option maxHeartbeats 4000000
theorem note_kB (k0:Array Value) (bb B:Nat) (S:Nat→Prop) (cs:Array Value) (rv:Nat→Value) (xs:Nat→List Value) (t seen d:Nat) (va:Option Addr) (vn vc:Nat) (L:List Value) (mark:Int) (w0 w:World) (Q:World→Prop)
    (hq:Bq kB k0 w0 w bb B S cs rv xs t d seen) (hB:B≤w.heap.size) (hl:∀ i,i<8→(xs i).length≤900000) (ht:t≤100000) (hsn:seen≤100000) (hd:d≤100000) (hc:CL kB w va vn vc L) (hv5:∀ g off,va=some ⟨g,off,none⟩→g<w.heap.size∧Off bb rv g) (h1:Kd.ok kB L) (hn:vn≤2000000)
    (hk:∀ wx cs' rv' a4 k4 (due:Nat),Bq kB k0 w0 wx bb B S cs' rv' (upd (upd (upd (upd xs 2 (xs 2++[.slice va vn vc])) 3 (xs 3++[.slice a4 vn k4])) 5 (xs 5++[.int .i64 mark])) 6 (xs 6++[.int .i64 due])) t (d+1:Nat) (seen+1:Nat)→rv' 4=rv 4∧rv' 7=rv 7→Nl kB bb rv' w wx a4 vn k4 L→Fv bb w rv wx rv'→Calls Tryz.prog 55 #[.pointer (some ⟨bb,0,none⟩)] wx fun e w'=>e = .returned (.tuple #[])∧Q w') :
    Calls Tryz.prog 51 #[.pointer (some ⟨bb,0,none⟩),.slice va vn vc,.int .i64 mark] w fun e w'=>e = .returned (.tuple #[])∧Q w':=by
  have H0:Hid (Bq kB k0 w0 w bb B S cs rv xs t d seen):=hq
  have HL:Hid (∀ i,i<8→(xs i).length≤900000):=hl
  have HB:Hid (B≤w.heap.size∧t≤100000∧seen≤100000∧vn≤2000000∧Kd.ok kB L):=⟨hB,ht,hsn,hn,h1⟩
  have HC:Hid (CL kB w va vn vc L∧∀ g off,va=some ⟨g,off,none⟩→g<w.heap.size∧Off bb rv g):=⟨hc,hv5⟩
  have HK:Hid (∀ wx cs' rv' a4 k4 (due:Nat),Bq kB k0 w0 wx bb B S cs' rv' (upd (upd (upd (upd xs 2 (xs 2++[.slice va vn vc])) 3 (xs 3++[.slice a4 vn k4])) 5 (xs 5++[.int .i64 mark])) 6 (xs 6++[.int .i64 due])) t (d+1:Nat) (seen+1:Nat)→rv' 4=rv 4∧rv' 7=rv 7→Nl kB bb rv' w wx a4 vn k4 L→Fv bb w rv wx rv'→Calls Tryz.prog 55 #[.pointer (some ⟨bb,0,none⟩)] wx fun e w'=>e = .returned (.tuple #[])∧Q w'):=hk
  have c3:=(za0 hq.br.at_ hq.hd.dp).1
  have z3:=(za0 hq.br.at_ hq.hd.dp).2
  have hwd:IntKind.i64.wrap ((d:Int)+1)=((d+1:Nat):Int):=by rw [IntKind.wrap_i64];omega
  clear hq hl hB ht hsn hc hv5 h1 hn hk hd
  go_enter Tryz.func51,Tryz.ntmps51
  go_upto_region 1 with fail
  obtain ⟨w1,hw1⟩:∃ W,W=w.setCell ⟨bb,3,none⟩ (.int .i64 ((d+1:Nat):Int)):=⟨_,rfl⟩
  have H1:Hid (Bq kB k0 w0 w1 bb B S (cs.setIfInBounds 3 (.int .i64 ((d+1:Nat):Int))) rv xs t (d+1:Nat) seen∧Fv bb w rv w1 rv):=by
    show _∧_;rw [hw1];exact ⟨H0.out.other 3 (.inl (by decide)) _ (H0.out.hd.deeper _),Fv.set _ _⟩
  try rw [show ((d:Int)+1)=((d+1:Nat):Int) by omega]
  rw [← hw1]
  clear hw1 c3 z3 hwd
  have c6:w1.cell? ⟨bb,6,none⟩=some (rv 2):=(H1.out.1.br.cell 2 (by decide)).1
  have AL1:Hid (Below w1.heap.size w1 (w1.alloc (.cells #[.slice va vn vc] 22))):=(Below.refl _ _).alloc (Nat.le_refl _) _
  have BA:Hid (BR kB (w1.alloc (.cells #[.slice va vn vc] 22)) bb B (cs.setIfInBounds 3 (.int .i64 ((d+1:Nat):Int))) rv xs):=H1.out.1.br.below AL1.out
  go_wp2_with (first | (at_builtin;refine za3 kB_ok rfl (.tmp 17) (.tmp 19) 33 rfl BA.out 2 (by decide) Tryz.underlying33 rfl w1.heap.size (.slice va vn vc) rfl (heap_alloc_new w1 _) rfl (by have:=HL.out 2 (by decide);omega) (by have:=HB.out.1;have:=H1.out.2.sz;simp;omega) ?_) | fail)
  intro v2 w2 pu
  obtain ⟨a2,n2,k2,rfl,cw1,cw2,w3,hw3,cs3,H3x⟩:=H1.out.1.pushed AL1.out (by decide) 6 rfl pu
  clear pu
  have H3:Hid (_∧Fv bb w rv w3 (upd rv 2 (.slice a2 n2 k2))):=⟨H3x.out.1,H1.out.2.trans H3x.out.2⟩
  clear H3x c6
  go_upto_region 2 with fail
  rw [← hw3]
  clear hw3 cw1 cw2
  have CL3:Hid (CL kB w3 va vn vc L):=HC.out.1.block (fun g off e=>H3.out.2.keep g (HC.out.2 g off e).1 (HC.out.2 g off e).2)
  go_cut [] from 6 (fun wx=>∃ (a4:Option Addr) (k4:Nat) (v3:Value) (cs':Array Value),Hid (Bq kB k0 w0 wx bb B S cs' (upd (upd rv 2 (.slice a2 n2 k2)) 3 v3) (upd (upd xs 2 (xs 2++[.slice va vn vc])) 3 (xs 3++[.slice a4 vn k4])) t (d+1:Nat) seen)∧Hid (Nl kB bb (upd (upd rv 2 (.slice a2 n2 k2)) 3 v3) w wx a4 vn k4 L)∧Hid (Fv bb w rv wx (upd (upd rv 2 (.slice a2 n2 k2)) 3 v3)))
  case first =>
    have HR3:Hid (upd rv 2 (.slice a2 n2 k2) 3=rv 3):=upd_ne _ _ (by decide)
    have HX3:Hid (upd xs 2 (xs 2++[.slice va vn vc]) 3=xs 3):=upd_ne _ _ (by decide)
    have c7:w3.cell? ⟨bb,7,none⟩=some (rv 3):=by have:=(H3.out.1.br.cell 3 (by decide)).1;rw [HR3.out] at this;exact this
    have BA3:Hid (Below w3.heap.size w3 (w3.alloc (.cells #[] 5)).drew):=((Below.refl _ _).alloc (Nat.le_refl _) _).drew
    have c7a:(w3.alloc (.cells #[] 5)).drew.cell? ⟨bb,7,none⟩=some (rv 3):=cell_later BA3.out c7
    have HE:Hid ((w3.alloc (.cells #[] 5)).drew.heap[w3.heap.size]?=some (.cells #[] 5 (0,0))):=heap_alloc_new w3 _
    have HC3:Hid (CL kB (w3.alloc (.cells #[] 5)).drew va vn vc L):=CL3.out.below BA3.out
    first | go_region_law (first | (refine zah kB_ok rfl (.tmp 28) (.tmp 29) rfl rfl BA3.out HE.out va vn vc L rfl HC3.out HB.out.2.2.2.2 HB.out.2.2.2.1 ?_;intro v4 w4 cp;have CP4:Hid (Cp kB w3 w4 vn L v4):=cp;obtain ⟨a4,k4,hv4,_⟩:=cp.sl;clear cp;subst hv4;have c7b:w4.cell? ⟨bb,7,none⟩=some (rv 3):=cell_later CP4.out.be c7;have AL4:Hid (Below w3.heap.size w3 (w4.alloc (.cells #[.slice a4 vn k4] 22))):=CP4.out.be.alloc CP4.out.be.size _;have BR4a:Hid (BR kB (w4.alloc (.cells #[.slice a4 vn k4] 22)) bb B cs3 (upd rv 2 (.slice a2 n2 k2)) (upd xs 2 (xs 2++[.slice va vn vc]))):=H3.out.1.br.below AL4.out;have c7c:(w4.alloc (.cells #[.slice a4 vn k4] 22)).cell? ⟨bb,7,none⟩=some (rv 3):=cell_later AL4.out c7)|(refine za6 kB_ok rfl (.tmp 27) (.tmp 31) 33 rfl BR4a.out 3 (by decide) Tryz.underlying33 HR3.out.symm w4.heap.size (.slice a4 vn k4) rfl (heap_alloc_new w4 _) rfl (by rw [HX3.out];have:=HL.out 3 (by decide);omega) (by have h1:=CP4.out.be.size;have:=HB.out.1;have:=H3.out.2.sz;simp;omega) ?_;intro v5 w5 pu5;have PU5:Hid (Pu kB (w4.alloc (.cells #[.slice a4 vn k4] 22)) w5 bb B cs3 (upd rv 2 (.slice a2 n2 k2)) (upd xs 2 (xs 2++[.slice va vn vc])) 3 (.slice a4 vn k4) v5):=pu5;obtain ⟨a5,n5,k5,hv5⟩:=pu5.sl;clear pu5;subst hv5;have c7d:w5.cell? ⟨bb,7,none⟩=some (rv 3):=(by have:=(za0 PU5.out.bk (BR4a.out.fld 3 (by decide))).1;rw [HR3.out] at this;exact this);have z7d:w5.frozen? ⟨bb,7,none⟩=false:=(za0 PU5.out.bk (BR4a.out.fld 3 (by decide))).2) | go_simp) | fail
    all_goals
      go_wp2_with fail
      go_meet
      case rel =>
        have B5:=H3.out.1.push1 AL4.out (by decide) PU5.out
        rw [HX3.out] at B5
        have N4:Nl kB bb (upd rv 2 (.slice a2 n2 k2)) w3 w4 a4 vn k4 L:=CP4.out.nl H3.out.1.br
        have F4:Fv bb w4 (upd rv 2 (.slice a2 n2 k2)) _ _:=(Fv.below ((Below.refl w4.heap.size w4).alloc (Nat.le_refl _) _)).trans (PU5.out.fv (by decide))
        exact ⟨a4,k4,_,_,B5.1,(N4.fv F4).old H3.out.2.sz,H3.out.2.trans B5.2⟩
  case rest =>
    obtain ⟨a4,k4,v3,cs4,H4,N4,V4⟩:=hcut
    obtain ⟨rv4,hrv4⟩:∃ r,r=upd (upd rv 2 (.slice a2 n2 k2)) 3 v3:=⟨_,rfl⟩
    obtain ⟨xs4,hxs4⟩:∃ r,r=upd (upd xs 2 (xs 2++[.slice va vn vc])) 3 (xs 3++[.slice a4 vn k4]):=⟨_,rfl⟩
    rw [← hrv4,← hxs4] at H4
    rw [← hrv4] at N4 V4
    have X5:Hid (xs4 5=xs 5∧xs4 6=xs 6∧rv4 4=rv 4∧rv4 7=rv 7):=by rw [hxs4,hrv4];exact ⟨by rw [upd_ne _ _ (by decide),upd_ne _ _ (by decide)],by rw [upd_ne _ _ (by decide),upd_ne _ _ (by decide)],by rw [upd_ne _ _ (by decide),upd_ne _ _ (by decide)],by rw [upd_ne _ _ (by decide),upd_ne _ _ (by decide)]⟩
    have E4:Hid (xs4=upd (upd xs 2 (xs 2++[.slice va vn vc])) 3 (xs 3++[.slice a4 vn k4])):=hxs4
    clear hrv4 hxs4 H0 H1 BA H3 CL3 AL1
    have c9:wc.cell? ⟨bb,9,none⟩=some (rv4 5):=(H4.out.br.cell 5 (by decide)).1
    have AL4:Hid (Below wc.heap.size wc (wc.alloc (.cells #[.int .i64 mark] 3))):=(Below.refl _ _).alloc (Nat.le_refl _) _
    have BA4:Hid (BR kB (wc.alloc (.cells #[.int .i64 mark] 3)) bb B cs4 rv4 xs4):=H4.out.br.below AL4.out
    go_wp2_with (first | (at_builtin;refine za3 kB_ok rfl (.tmp 39) (.tmp 41) 26 rfl BA4.out 5 (by decide) Tryz.underlying26 rfl wc.heap.size (.int .i64 mark) rfl (heap_alloc_new wc _) rfl (by rw [X5.out.1];have:=HL.out 5 (by decide);omega) (by have:=HB.out.1;have:=V4.out.sz;simp;omega) ?_) | fail)
    intro v5 w5 pu
    obtain ⟨a5,n5,k5,rfl,cw1,cw2,w6,hw6,cs6,H6⟩:=H4.out.pushed AL4.out (by decide) 9 rfl pu
    clear pu
    rw [X5.out.1] at H6
    clear c9
    go_upto_region 4 with fail
    rw [← hw6]
    clear hw6 cw1 cw2
    go_cut [] from 6 (fun wx=>∃ (due:Nat) (v6:Value) (cs':Array Value),Hid (Bq kB k0 w0 wx bb B S cs' (upd (upd rv4 5 (.slice a5 n5 k5)) 6 v6) (upd (upd xs4 5 (xs 5++[.int .i64 mark])) 6 (xs 6++[.int .i64 due])) t (d+1:Nat) seen)∧Hid (Fv bb wc rv4 wx (upd (upd rv4 5 (.slice a5 n5 k5)) 6 v6)))
    case first =>
      have X6:Hid (upd xs4 5 (xs 5++[.int .i64 mark]) 6=xs 6):=by show _=_;rw [upd_ne _ _ (by decide)];exact X5.out.2.1
      have R6:Hid (upd rv4 5 (.slice a5 n5 k5) 6=rv4 6):=upd_ne _ _ (by decide)
      have c10:w6.cell? ⟨bb,10,none⟩=some (rv4 6):=by have:=(H6.out.1.br.cell 6 (by decide)).1;rw [R6.out] at this;exact this
      have c12:w6.cell? ⟨bb,12,none⟩=some (.int .i64 seen):=(za0 H6.out.1.br.at_ H6.out.1.hd.sn).1
      have B6:Hid (Below w6.heap.size w6 w6.drew):=(Below.refl _ _).drew
      have DU:Hid (Calls Tryz.prog 112 #[.pointer (some ⟨bb,0,none⟩),.int .i64 seen] w6.drew fun e w1=>(∃ d:Nat,e = .returned (.int .i64 d)∧t≤d∧d≤t+8)∧w1=w6.drew):=zbq bb cs6 seen t w6.drew (by have:=HB.out;omega) (by have:=HB.out;omega) (H6.out.1.br.at_) H6.out.1.hd.now H6.out.1.hd.turn
      first | go_region_law (first | (refine za6 kB_ok rfl (.tmp 49) (.tmp 56) 26 rfl BR6a.out 6 (by decide) Tryz.underlying26 R6.out.symm w6.heap.size (.int .i64 dd) rfl (heap_alloc_new w6.drew _) rfl (by rw [X6.out];have:=HL.out 6 (by decide);omega) (by have:=HB.out.1;have:=V4.out.sz;have:=H6.out.2.sz;simp [World.drew];omega) ?_;intro v7 w7 pu7;have PU7:Hid (Pu kB (w6.alloc (.cells #[.int .i64 dd] 3)).drew w7 bb B cs6 (upd rv4 5 (.slice a5 n5 k5)) (upd xs4 5 (xs 5++[.int .i64 mark])) 6 (.int .i64 dd) v7):=pu7;obtain ⟨a7,n7,k7,hv7⟩:=pu7.sl;clear pu7;subst hv7;have c7d:w7.cell? ⟨bb,10,none⟩=some (rv4 6):=(by have:=(za0 PU7.out.bk (BR6a.out.fld 6 (by decide))).1;rw [R6.out] at this;exact this);have z7d:w7.frozen? ⟨bb,10,none⟩=false:=(za0 PU7.out.bk (BR6a.out.fld 6 (by decide))).2)|(go_simp;go_wp2_with (go_at_call 112;refine DU.out.mono ?_;rintro e wd ⟨⟨dd,rfl,hd1,hd2⟩,hwd⟩;obtain rfl:=hwd.symm;clear hwd hd1 hd2;have AL6:Hid (Below w6.heap.size w6 (w6.alloc (.cells #[.int .i64 dd] 3)).drew):=((Below.refl _ _).alloc (Nat.le_refl _) _).drew;have BR6a:Hid (BR kB (w6.alloc (.cells #[.int .i64 dd] 3)).drew bb B cs6 (upd rv4 5 (.slice a5 n5 k5)) (upd xs4 5 (xs 5++[.int .i64 mark]))):=H6.out.1.br.below AL6.out;have c10a:(w6.alloc (.cells #[.int .i64 dd] 3)).drew.cell? ⟨bb,10,none⟩=some (rv4 6):=cell_later AL6.out c10))) | fail
      all_goals
        go_wp2_with fail
        go_meet
        case rel =>
          have B7:=H6.out.1.push1 AL6.out (by decide) PU7.out
          rw [X6.out] at B7
          exact ⟨dd,_,_,B7.1,H6.out.2.trans B7.2⟩
    case rest =>
      obtain ⟨due,v6,cs7,H7,F7⟩:=hcut
      have cs12:wc.cell? ⟨bb,12,none⟩=some (.int .i64 seen):=(za0 H7.out.br.at_ H7.out.hd.sn).1
      have zs12:wc.frozen? ⟨bb,12,none⟩=false:=(za0 H7.out.br.at_ H7.out.hd.sn).2
      have hws:IntKind.i64.wrap ((seen:Int)+1)=((seen+1:Nat):Int):=by rw [IntKind.wrap_i64];have:=HB.out;omega
      obtain ⟨w8,hw8⟩:∃ W,W=wc.setCell ⟨bb,12,none⟩ (.int .i64 ((seen+1:Nat):Int)):=⟨_,rfl⟩
      obtain ⟨rv8,hrv8⟩:∃ r,r=upd (upd rv4 5 (.slice a5 n5 k5)) 6 v6:=⟨_,rfl⟩
      have H8:Hid (Bq kB k0 w0 w8 bb B S (cs7.setIfInBounds 12 (.int .i64 ((seen+1:Nat):Int))) rv8 (upd (upd xs4 5 (xs 5++[.int .i64 mark])) 6 (xs 6++[.int .i64 due])) t (d+1:Nat) (seen+1:Nat)):=by
        show Bq _ _ _ _ _ _ _ _ _ _ _ _ _;rw [hw8,hrv8];exact H7.out.other 12 (.inr (by decide)) _ (H7.out.hd.sees _)
      have F8:Hid (Fv bb wc (upd (upd rv4 5 (.slice a5 n5 k5)) 6 v6) w8 rv8∧rv8 4=rv 4∧rv8 7=rv 7):=by
        show _∧_;rw [hw8,hrv8];exact ⟨Fv.set _ _,by rw [upd_ne _ _ (by decide),upd_ne _ _ (by decide)];exact X5.out.2.2.1,by rw [upd_ne _ _ (by decide),upd_ne _ _ (by decide)];exact X5.out.2.2.2⟩
      go_upto_region 6 with fail
      rw [show ((seen:Int)+1)=((seen+1:Nat):Int) by omega,← hw8]
      clear hw8 hrv8 cs12 zs12
      go_wp2_with fail
      go_must (go_at_call 55)
      have hb8:=H8.out
      rw [E4.out] at hb8
      refine (HK.out w8 _ rv8 a4 k4 due hb8 F8.out.2 ((N4.out.fv F7.out).fv F8.out.1) ((V4.out.trans F7.out).trans F8.out.1)).mono ?_
      rintro e w9 ⟨rfl,hq9⟩
      have HQ:Hid (Q w9):=hq9
      clear hq9
      go_wp2_with fail
      go_end0
      exact ⟨rfl,HQ.out⟩
set_option maxHeartbeats 1000000
theorem same_kB0 (a b:Option Addr) (l c c':Nat) (L:List Value) (w:World) (h:CL kB w a l c L) (h':CL kB w b l c' L) (hb:Kd.ok kB L) (hl:l≤2000000) :
    Calls Tryz.prog 115 #[.slice a l c,.slice b l c'] w fun e w'=>e = .returned (.bool true)∧w'=w:=by
  have hcap:=h.1
  have hcap':=h'.1
  have CA:Hid (∀ i,i<l→∃ p off p' off' x,a=some ⟨p,off,none⟩∧b=some ⟨p',off',none⟩∧w.cell? ⟨p,off+i,none⟩=some (.int .u8 x)∧w.cell? ⟨p',off'+i,none⟩=some (.int .u8 x)):=fun i hi=>by
    rcases h.2.2 with q | ⟨p,off,e,hc⟩
    · omega
    · rcases h'.2.2 with q | ⟨p',off',e',hc'⟩
      · omega
      · have hi':i<l*1:=by omega
        have hL:L[i]?=some (L[i]'(by rw [h.2.1];exact hi')):=List.getElem?_eq_getElem _
        obtain ⟨x,hx⟩:=hb _ (List.mem_of_getElem? hL)
        rw [hx] at hL
        exact ⟨p,off,p',off',x,e,e',(hc i hi').trans hL,(hc' i hi').trans hL⟩
  clear h h' hb
  go_enter Tryz.func115,Tryz.ntmps115
  go_wp2
  go_loop [5] (fun i=>∃ k:Nat,i = .int .i64 k∧k≤l) (fun i=>l-(intOf i).toNat)
  case atStart=>exact ⟨0,rfl,by omega⟩
  case round =>
    obtain ⟨k,rfl,hk⟩:=hrel
    by_cases hlt:k<l
    · obtain ⟨p,off,p',off',x,rfl,rfl,ca,cb⟩:=CA.out k hlt
      have hk':(k:Int)<l:=by omega
      go_wp2
      go_round
      case rel=>exact ⟨k+1,by simp,by omega⟩
      case measure=>simp [intOf];omega
    · have hk':¬ (k:Int)<l:=by omega
      go_wp2
      go_ret
      exact ⟨rfl,rfl⟩
theorem zbK (a b:Option Addr) (l c c':Nat) (L:List Value) (w:World) (h:CL kB w a l c L) (h':CL kB w b l c' L) (hb:Kd.ok kB L) (hl:l≤2000000) :
    Calls Tryz.prog 115 #[.slice a l c,.slice b l c'] w fun e w'=>e = .returned (.bool true)∧Below w.heap.size w w' :=
  (same_kB0 a b l c c' L w h h' hb hl).mono (by rintro e w' ⟨rfl,rfl⟩;exact ⟨rfl,Below.refl _ _⟩)
theorem Ms.pushed {κ:Kd} {k0 cs:Array Value} {w0 w wx wb w':World} {bb B:Nat} {S:Nat→Prop} {rv0 rv:Nat→Value} {xs0 xs:Nat→List Value} {t deep seen:Int} (h:Ms κ k0 w0 w wx bb B S rv0 xs0 cs rv xs t deep seen) (hb:Below wx.heap.size wx wb) {i:Nat} (hi:i<8) {x v':Value} (q:Nat) (hq:κ.c0+i=q) (p:Pu κ wb w' bb B cs rv xs i x v') :
    ∃ a n k,v' = .slice a n k∧w'.cell? ⟨bb,q,none⟩=some (rv i)∧w'.frozen? ⟨bb,q,none⟩=false∧∃ W,W=w'.setCell ⟨bb,q,none⟩ (.slice a n k)∧∃ (c:Array Value) (r:Nat→Value) (y:Nat→List Value),Hid (Ms κ k0 w0 w W bb B S rv0 xs0 c r y t deep seen∧Fv bb wx rv W r)∧Hid (y=upd xs i (xs i++[x])):=by
  subst hq
  have P:=h.push1 hb hi p
  have c:=za0 p.bk (h.bq.br.fld i hi)
  obtain ⟨a,n,k,e⟩:=p.sl
  subst e
  exact ⟨a,n,k,rfl,c.1,c.2,_,rfl,_,_,_,P,(show _=_ from rfl)⟩
theorem Mn.wait {xs xs' y:Nat→List Value} {k:Nat} {a b:Value} {c d:Int} (m:Mn xs xs' k) (e:y=upd (upd (upd (upd xs' 2 (xs' 2++[a])) 3 (xs' 3++[b])) 5 (xs' 5++[.int .i64 c])) 6 (xs' 6++[.int .i64 d])):Mn xs y (k+1):=by
 rw [e]
 refine ⟨?_,?_,?_,?_,?_,?_,?_,?_⟩
 · have:=m.m5;simp [upd];omega
 · have:=m.m6;simp [upd];omega
 · have:=m.m7;simp [upd];omega
 ·
  intro u hu
  rcases List.mem_append.1 (by simpa [upd] using hu:u ∈ xs' 5++[.int .i64 c]) with q | q
  · exact m.i5 u q
  · simp at q;exact ⟨_,q⟩
 ·
  intro u hu
  rcases List.mem_append.1 (by simpa [upd] using hu:u ∈ xs' 6++[.int .i64 d]) with q | q
  · exact m.i6 u q
  · simp at q;exact ⟨_,q⟩
 · intro u hu;exact m.i7 u (by simpa [upd] using hu)
 · have:=m.l24;simp [upd];omega
 · have:=m.l04;simp [upd];omega
theorem Mn.seen {xs xs' y:Nat→List Value} {k:Nat} {a b:Value} {c:Int} (m:Mn xs xs' k) (e:y=upd (upd (upd (upd xs' 0 (xs' 0++[a])) 1 (xs' 1++[b])) 4 (xs' 4++[a])) 7 (xs' 7++[.int .i64 c])):Mn xs y (k+1):=by
 rw [e]
 refine ⟨?_,?_,?_,?_,?_,?_,?_,?_⟩
 · have:=m.m5;simp [upd];omega
 · have:=m.m6;simp [upd];omega
 · have:=m.m7;simp [upd];omega
 · intro u hu;exact m.i5 u (by simpa [upd] using hu)
 · intro u hu;exact m.i6 u (by simpa [upd] using hu)
 ·
  intro u hu
  rcases List.mem_append.1 (by simpa [upd] using hu:u ∈ xs' 7++[.int .i64 c]) with q | q
  · exact m.i7 u q
  · simp at q;exact ⟨_,q⟩
 · have:=m.l24;simp [upd];omega
 · have:=m.l04;simp [upd];omega
theorem Bo.opened {κ:Kd} {k0 cs:Array Value} {w0 w:World} {bb B:Nat} {S:Nat→Prop} {D:Nat→Nat→Prop} {rv:Nat→Value} {xs:Nat→List Value} {t deep seen:Int} (h:Bo κ k0 w0 w bb B S D cs rv xs t deep seen) (hl:(xs 0).length+(xs 2).length≤800000) (p q r s:Nat) (ep:κ.c0+2=p) (eq:κ.c0+3=q) (er:κ.c0+5=r) (es:κ.c0+6=s) :
    ∃ N a2 k2 a3 k3 a5 k5 a6 k6,(w.cell? ⟨bb,p,none⟩=some (.slice a2 N k2)∧w.cell? ⟨bb,q,none⟩=some (.slice a3 N k3)∧w.cell? ⟨bb,r,none⟩=some (.slice a5 N k5)∧w.cell? ⟨bb,s,none⟩=some (.slice a6 N k6)∧w.frozen? ⟨bb,p,none⟩=false∧w.frozen? ⟨bb,q,none⟩=false∧w.frozen? ⟨bb,r,none⟩=false∧w.frozen? ⟨bb,s,none⟩=false) ∧
      Hid (rv 2 = .slice a2 N k2∧rv 3 = .slice a3 N k3∧rv 5 = .slice a5 N k5∧rv 6 = .slice a6 N k6)∧Hid (N=(xs 2).length∧N≤800000):=by
  obtain ⟨hq,hm,⟨h4,h7,x4,x7⟩,hn,h5,h6⟩:=h
  subst ep eq er es
  obtain ⟨a2,k2,e2⟩:=row_sl (hq.br.own 2 (by decide))
  obtain ⟨a3,k3,e3⟩:=row_sl (hq.br.own 3 (by decide))
  obtain ⟨a5,k5,e5⟩:=row_sl (hq.br.own 5 (by decide))
  obtain ⟨a6,k6,e6⟩:=row_sl (hq.br.own 6 (by decide))
  rw [hn.1] at e3
  rw [hn.2.1] at e5
  rw [hn.2.2] at e6
  have c2:=hq.br.cell 2 (by decide)
  have c3:=hq.br.cell 3 (by decide)
  have c5:=hq.br.cell 5 (by decide)
  have c6:=hq.br.cell 6 (by decide)
  rw [e2] at c2
  rw [e3] at c3
  rw [e5] at c5
  rw [e6] at c6
  exact ⟨_,a2,k2,a3,k3,a5,k5,a6,k6,⟨c2.1,c3.1,c5.1,c6.1,c2.2,c3.2,c5.2,c6.2⟩,⟨e2,e3,e5,e6⟩,⟨rfl,by omega⟩⟩
theorem Bo.none_ {κ:Kd} {k0 cs:Array Value} {w0 w:World} {bb B:Nat} {S:Nat→Prop} {D:Nat→Nat→Prop} {rv:Nat→Value} {xs:Nat→List Value} {t deep seen:Int} (h:Bo κ k0 w0 w bb B S D cs rv xs t deep seen) (h0:0=(xs 2).length):Mdone κ k0 w0 w bb B S D xs t deep seen:=by
 obtain ⟨hq,hm,⟨h4,h7,x4,x7⟩,hn,h5,h6⟩:=h
 have n2:xs 2=[]:=List.eq_nil_of_length_eq_zero h0.symm
 have n3:xs 3=[]:=List.eq_nil_of_length_eq_zero (by rw [hn.1,n2];rfl)
 rw [n2] at hn
 refine ⟨D,cs,rv,xs,hq,?_,fun _ _ q=>q,?_⟩
 ·
  rw [x4]
  rw [n2,n3] at hm ⊢
  exact hm
 · exact ⟨by rw [n2];exact hn.2.1,by rw [n2];exact hn.2.2,by rw [x4,x7],h5,h6,(by rw [x7];intro u hu;cases hu),(by rw [n2,x4];exact Nat.zero_le _),(by rw [x4];exact Nat.le_refl _)⟩
section
variable {κ:Kd} {k0:Array Value} {w0 w wx:World} {bb B:Nat} {S S':Nat→Prop} {D:Nat→Nat→Prop} {cs cs':Array Value} {rv rv':Nat→Value} {xs:Nat→List Value} {t deep seen:Int}
theorem Bo.more (h:Bo κ k0 w0 w bb B S D cs rv xs t deep seen) (hs:∀ k,S k→S' k):Bo κ k0 w0 w bb B S' D cs rv xs t deep seen :=
 ⟨⟨h.bq.br,h.bq.hd,h.bq.ch.mono (fun j _ q=>hs j q),hs _ h.bq.sb,fun i hi k e=>(h.bq.ins i hi k e).imp (hs k) id⟩,⟨h.mi.dk,h.mi.pd,h.mi.ps,h.mi.wl,h.mi.wt,h.mi.rt,h.mi.fr,fun g j q=>(h.mi.dS g j q).imp (hs g) id,fun v hv g e=>(h.mi.ins v hv g e).imp (hs g) id⟩,h.n4,h.len,h.i5,h.i6⟩
theorem Bo.few (h:Bo κ k0 w0 w bb B S D cs rv xs t deep seen) (hl:(xs 0).length+2*(xs 2).length≤800000):∀ i,i<8→(xs i).length≤900000:=fun i hi=>by
 have hlen:=h.len
 have hpd:=h.mi.pd.1
 match i,hi with
 | 0,_=>omega
 | 1,_=>omega
 | 2,_=>omega
 | 3,_=>omega
 | 4,_=>rw [h.n4.2.2.1];exact Nat.zero_le _
 | 5,_=>omega
 | 6,_=>omega
 | 7,_=>rw [h.n4.2.2.2];exact Nat.zero_le _
theorem Bo.noted {U:Nat→Prop} {T:Nat→Prop} {N n vc k4 sn:Nat} {va a4:Option Addr} {L:List Value} {mark due:Int} {d':Int} (h:Bo κ cs w w bb 0 (fun k=>U k∨T k∨k=bb) D cs rv xs t deep seen)
    (hq:Bq κ cs w wx bb 0 (fun k=>U k∨T k∨k=bb) cs' rv' (upd (upd (upd (upd xs 2 (xs 2++[.slice va n vc])) 3 (xs 3++[.slice a4 n k4])) 5 (xs 5++[.int .i64 mark])) 6 (xs 6++[.int .i64 due])) t d' (sn+1:Nat)) (h47:rv' 4=rv 4∧rv' 7=rv 7) (hnl:Nl κ bb rv' w wx a4 n k4 L) (hf:Fv bb w rv wx rv') (ho:w.ownsRow 0 κ.te κ.es (.slice va n vc) n L) (voff:∀ g,(Value.slice va n vc).ownBlock=some g→(∀ j,¬ D g j)∧Off bb rv g) (hnb:∀ u ∈ xs 2,NB u (.slice va n vc)) (hS:∀ g,(Value.slice va n vc).ownBlock=some g→(U g∨T g∨g=bb)∨w.heap.size≤g) (hok:κ.ok L) (hn:n≤1900000) (hl:(xs 0).length+2*(xs 2).length≤2*N) (hs:sn≤N):St false κ w wx bb cs t d' (N+1) U T:=by
  obtain ⟨D1,hm,_⟩:=h.mi.add h.len.1 (Nat.le_refl _) hf ho hnl voff hnb hS hok hn
  have hbo:Bo κ cs w wx bb 0 (fun k=>U k∨T k∨k=bb) D1 cs' rv' (upd (upd (upd (upd xs 2 (xs 2++[.slice va n vc])) 3 (xs 3++[.slice a4 n k4])) 5 (xs 5++[.int .i64 mark])) 6 (xs 6++[.int .i64 due])) t d' (sn+1:Nat):=by
    have hlen:=h.len
    refine ⟨hq,by simpa [upd] using hm,⟨h47.1.trans h.n4.1,h47.2.trans h.n4.2.1,by simpa [upd] using h.n4.2.2.1,by simpa [upd] using h.n4.2.2.2⟩,?_,?_,?_⟩
    · simp [upd];omega
    · intro u hu
      rcases List.mem_append.1 (by simpa [upd] using hu:u ∈ xs 5++[.int .i64 mark]) with q | q
      · exact h.i5 u q
      · simp at q;exact ⟨_,q⟩
    · intro u hu
      rcases List.mem_append.1 (by simpa [upd] using hu:u ∈ xs 6++[.int .i64 due]) with q | q
      · exact h.i6 u q
      · simp at q;exact ⟨_,q⟩
  exact Fx.of_bo hbo (by simp [upd];omega) (by omega)
end
set_option maxHeartbeats 4000000
theorem note_kI (k0:Array Value) (bb B:Nat) (S:Nat→Prop) (cs:Array Value) (rv:Nat→Value) (xs:Nat→List Value) (t seen d:Nat) (va:Option Addr) (vn vc:Nat) (L:List Value) (mark:Int) (w0 w:World) (Q:World→Prop)
    (hq:Bq kI k0 w0 w bb B S cs rv xs t d seen) (hB:B≤w.heap.size) (hl:∀ i,i<8→(xs i).length≤900000) (ht:t≤100000) (hsn:seen≤100000) (hd:d≤100000) (hc:CL kI w va vn vc L) (hv5:∀ g off,va=some ⟨g,off,none⟩→g<w.heap.size∧Off bb rv g) (h1:Kd.ok kI L) (hn:vn≤2000000)
    (hk:∀ wx cs' rv' a4 k4 (due:Nat),Bq kI k0 w0 wx bb B S cs' rv' (upd (upd (upd (upd xs 2 (xs 2++[.slice va vn vc])) 3 (xs 3++[.slice a4 vn k4])) 5 (xs 5++[.int .i64 mark])) 6 (xs 6++[.int .i64 due])) t (d+1:Nat) (seen+1:Nat)→rv' 4=rv 4∧rv' 7=rv 7→Nl kI bb rv' w wx a4 vn k4 L→Fv bb w rv wx rv'→Calls Tryz.prog 55 #[.pointer (some ⟨bb,0,none⟩)] wx fun e w'=>e = .returned (.tuple #[])∧Q w') :
    Calls Tryz.prog 53 #[.pointer (some ⟨bb,0,none⟩),.slice va vn vc,.int .i64 mark] w fun e w'=>e = .returned (.tuple #[])∧Q w':=by
  have H0:Hid (Bq kI k0 w0 w bb B S cs rv xs t d seen):=hq
  have HL:Hid (∀ i,i<8→(xs i).length≤900000):=hl
  have HB:Hid (B≤w.heap.size∧t≤100000∧seen≤100000∧vn≤2000000∧Kd.ok kI L):=⟨hB,ht,hsn,hn,h1⟩
  have HC:Hid (CL kI w va vn vc L∧∀ g off,va=some ⟨g,off,none⟩→g<w.heap.size∧Off bb rv g):=⟨hc,hv5⟩
  have HK:Hid (∀ wx cs' rv' a4 k4 (due:Nat),Bq kI k0 w0 wx bb B S cs' rv' (upd (upd (upd (upd xs 2 (xs 2++[.slice va vn vc])) 3 (xs 3++[.slice a4 vn k4])) 5 (xs 5++[.int .i64 mark])) 6 (xs 6++[.int .i64 due])) t (d+1:Nat) (seen+1:Nat)→rv' 4=rv 4∧rv' 7=rv 7→Nl kI bb rv' w wx a4 vn k4 L→Fv bb w rv wx rv'→Calls Tryz.prog 55 #[.pointer (some ⟨bb,0,none⟩)] wx fun e w'=>e = .returned (.tuple #[])∧Q w'):=hk
  have c3:=(za0 hq.br.at_ hq.hd.dp).1
  have z3:=(za0 hq.br.at_ hq.hd.dp).2
  have hwd:IntKind.i64.wrap ((d:Int)+1)=((d+1:Nat):Int):=by rw [IntKind.wrap_i64];omega
  clear hq hl hB ht hsn hc hv5 h1 hn hk hd
  go_enter Tryz.func53,Tryz.ntmps53
  go_upto_region 1 with fail
  obtain ⟨w1,hw1⟩:∃ W,W=w.setCell ⟨bb,3,none⟩ (.int .i64 ((d+1:Nat):Int)):=⟨_,rfl⟩
  have H1:Hid (Bq kI k0 w0 w1 bb B S (cs.setIfInBounds 3 (.int .i64 ((d+1:Nat):Int))) rv xs t (d+1:Nat) seen∧Fv bb w rv w1 rv):=by
    show _∧_;rw [hw1];exact ⟨H0.out.other 3 (.inl (by decide)) _ (H0.out.hd.deeper _),Fv.set _ _⟩
  try rw [show ((d:Int)+1)=((d+1:Nat):Int) by omega]
  rw [← hw1]
  clear hw1 c3 z3 hwd
  have c6:w1.cell? ⟨bb,15,none⟩=some (rv 2):=(H1.out.1.br.cell 2 (by decide)).1
  have AL1:Hid (Below w1.heap.size w1 (w1.alloc (.cells #[.slice va vn vc] 26))):=(Below.refl _ _).alloc (Nat.le_refl _) _
  have BA:Hid (BR kI (w1.alloc (.cells #[.slice va vn vc] 26)) bb B (cs.setIfInBounds 3 (.int .i64 ((d+1:Nat):Int))) rv xs):=H1.out.1.br.below AL1.out
  go_wp2_with (first | (at_builtin;refine za3 kI_ok rfl (.tmp 17) (.tmp 19) 34 rfl BA.out 2 (by decide) Tryz.underlying34 rfl w1.heap.size (.slice va vn vc) rfl (heap_alloc_new w1 _) rfl (by have:=HL.out 2 (by decide);omega) (by have:=HB.out.1;have:=H1.out.2.sz;simp;omega) ?_) | fail)
  intro v2 w2 pu
  obtain ⟨a2,n2,k2,rfl,cw1,cw2,w3,hw3,cs3,H3x⟩:=H1.out.1.pushed AL1.out (by decide) 15 rfl pu
  clear pu
  have H3:Hid (_∧Fv bb w rv w3 (upd rv 2 (.slice a2 n2 k2))):=⟨H3x.out.1,H1.out.2.trans H3x.out.2⟩
  clear H3x c6
  go_upto_region 2 with fail
  rw [← hw3]
  clear hw3 cw1 cw2
  have CL3:Hid (CL kI w3 va vn vc L):=HC.out.1.block (fun g off e=>H3.out.2.keep g (HC.out.2 g off e).1 (HC.out.2 g off e).2)
  go_cut [] from 6 (fun wx=>∃ (a4:Option Addr) (k4:Nat) (v3:Value) (cs':Array Value),Hid (Bq kI k0 w0 wx bb B S cs' (upd (upd rv 2 (.slice a2 n2 k2)) 3 v3) (upd (upd xs 2 (xs 2++[.slice va vn vc])) 3 (xs 3++[.slice a4 vn k4])) t (d+1:Nat) seen)∧Hid (Nl kI bb (upd (upd rv 2 (.slice a2 n2 k2)) 3 v3) w wx a4 vn k4 L)∧Hid (Fv bb w rv wx (upd (upd rv 2 (.slice a2 n2 k2)) 3 v3)))
  case first =>
    have HR3:Hid (upd rv 2 (.slice a2 n2 k2) 3=rv 3):=upd_ne _ _ (by decide)
    have HX3:Hid (upd xs 2 (xs 2++[.slice va vn vc]) 3=xs 3):=upd_ne _ _ (by decide)
    have c7:w3.cell? ⟨bb,16,none⟩=some (rv 3):=by have:=(H3.out.1.br.cell 3 (by decide)).1;rw [HR3.out] at this;exact this
    have BA3:Hid (Below w3.heap.size w3 (w3.alloc (.cells #[] 3)).drew):=((Below.refl _ _).alloc (Nat.le_refl _) _).drew
    have c7a:(w3.alloc (.cells #[] 3)).drew.cell? ⟨bb,16,none⟩=some (rv 3):=cell_later BA3.out c7
    have HE:Hid ((w3.alloc (.cells #[] 3)).drew.heap[w3.heap.size]?=some (.cells #[] 3 (0,0))):=heap_alloc_new w3 _
    have HC3:Hid (CL kI (w3.alloc (.cells #[] 3)).drew va vn vc L):=CL3.out.below BA3.out
    first | go_region_law (first | (refine zah kI_ok rfl (.tmp 28) (.tmp 29) rfl rfl BA3.out HE.out va vn vc L rfl HC3.out HB.out.2.2.2.2 HB.out.2.2.2.1 ?_;intro v4 w4 cp;have CP4:Hid (Cp kI w3 w4 vn L v4):=cp;obtain ⟨a4,k4,hv4,_⟩:=cp.sl;clear cp;subst hv4;have c7b:w4.cell? ⟨bb,16,none⟩=some (rv 3):=cell_later CP4.out.be c7;have AL4:Hid (Below w3.heap.size w3 (w4.alloc (.cells #[.slice a4 vn k4] 26))):=CP4.out.be.alloc CP4.out.be.size _;have BR4a:Hid (BR kI (w4.alloc (.cells #[.slice a4 vn k4] 26)) bb B cs3 (upd rv 2 (.slice a2 n2 k2)) (upd xs 2 (xs 2++[.slice va vn vc]))):=H3.out.1.br.below AL4.out;have c7c:(w4.alloc (.cells #[.slice a4 vn k4] 26)).cell? ⟨bb,16,none⟩=some (rv 3):=cell_later AL4.out c7)|(refine za6 kI_ok rfl (.tmp 27) (.tmp 31) 34 rfl BR4a.out 3 (by decide) Tryz.underlying34 HR3.out.symm w4.heap.size (.slice a4 vn k4) rfl (heap_alloc_new w4 _) rfl (by rw [HX3.out];have:=HL.out 3 (by decide);omega) (by have h1:=CP4.out.be.size;have:=HB.out.1;have:=H3.out.2.sz;simp;omega) ?_;intro v5 w5 pu5;have PU5:Hid (Pu kI (w4.alloc (.cells #[.slice a4 vn k4] 26)) w5 bb B cs3 (upd rv 2 (.slice a2 n2 k2)) (upd xs 2 (xs 2++[.slice va vn vc])) 3 (.slice a4 vn k4) v5):=pu5;obtain ⟨a5,n5,k5,hv5⟩:=pu5.sl;clear pu5;subst hv5;have c7d:w5.cell? ⟨bb,16,none⟩=some (rv 3):=(by have:=(za0 PU5.out.bk (BR4a.out.fld 3 (by decide))).1;rw [HR3.out] at this;exact this);have z7d:w5.frozen? ⟨bb,16,none⟩=false:=(za0 PU5.out.bk (BR4a.out.fld 3 (by decide))).2) | go_simp) | fail
    all_goals
      go_wp2_with fail
      go_meet
      case rel =>
        have B5:=H3.out.1.push1 AL4.out (by decide) PU5.out
        rw [HX3.out] at B5
        have N4:Nl kI bb (upd rv 2 (.slice a2 n2 k2)) w3 w4 a4 vn k4 L:=CP4.out.nl H3.out.1.br
        have F4:Fv bb w4 (upd rv 2 (.slice a2 n2 k2)) _ _:=(Fv.below ((Below.refl w4.heap.size w4).alloc (Nat.le_refl _) _)).trans (PU5.out.fv (by decide))
        exact ⟨a4,k4,_,_,B5.1,(N4.fv F4).old H3.out.2.sz,H3.out.2.trans B5.2⟩
  case rest =>
    obtain ⟨a4,k4,v3,cs4,H4,N4,V4⟩:=hcut
    obtain ⟨rv4,hrv4⟩:∃ r,r=upd (upd rv 2 (.slice a2 n2 k2)) 3 v3:=⟨_,rfl⟩
    obtain ⟨xs4,hxs4⟩:∃ r,r=upd (upd xs 2 (xs 2++[.slice va vn vc])) 3 (xs 3++[.slice a4 vn k4]):=⟨_,rfl⟩
    rw [← hrv4,← hxs4] at H4
    rw [← hrv4] at N4 V4
    have X5:Hid (xs4 5=xs 5∧xs4 6=xs 6∧rv4 4=rv 4∧rv4 7=rv 7):=by rw [hxs4,hrv4];exact ⟨by rw [upd_ne _ _ (by decide),upd_ne _ _ (by decide)],by rw [upd_ne _ _ (by decide),upd_ne _ _ (by decide)],by rw [upd_ne _ _ (by decide),upd_ne _ _ (by decide)],by rw [upd_ne _ _ (by decide),upd_ne _ _ (by decide)]⟩
    have E4:Hid (xs4=upd (upd xs 2 (xs 2++[.slice va vn vc])) 3 (xs 3++[.slice a4 vn k4])):=hxs4
    clear hrv4 hxs4 H0 H1 BA H3 CL3 AL1
    have c9:wc.cell? ⟨bb,18,none⟩=some (rv4 5):=(H4.out.br.cell 5 (by decide)).1
    have AL4:Hid (Below wc.heap.size wc (wc.alloc (.cells #[.int .i64 mark] 3))):=(Below.refl _ _).alloc (Nat.le_refl _) _
    have BA4:Hid (BR kI (wc.alloc (.cells #[.int .i64 mark] 3)) bb B cs4 rv4 xs4):=H4.out.br.below AL4.out
    go_wp2_with (first | (at_builtin;refine za3 kI_ok rfl (.tmp 39) (.tmp 41) 26 rfl BA4.out 5 (by decide) Tryz.underlying26 rfl wc.heap.size (.int .i64 mark) rfl (heap_alloc_new wc _) rfl (by rw [X5.out.1];have:=HL.out 5 (by decide);omega) (by have:=HB.out.1;have:=V4.out.sz;simp;omega) ?_) | fail)
    intro v5 w5 pu
    obtain ⟨a5,n5,k5,rfl,cw1,cw2,w6,hw6,cs6,H6⟩:=H4.out.pushed AL4.out (by decide) 18 rfl pu
    clear pu
    rw [X5.out.1] at H6
    clear c9
    go_upto_region 4 with fail
    rw [← hw6]
    clear hw6 cw1 cw2
    go_cut [] from 6 (fun wx=>∃ (due:Nat) (v6:Value) (cs':Array Value),Hid (Bq kI k0 w0 wx bb B S cs' (upd (upd rv4 5 (.slice a5 n5 k5)) 6 v6) (upd (upd xs4 5 (xs 5++[.int .i64 mark])) 6 (xs 6++[.int .i64 due])) t (d+1:Nat) seen)∧Hid (Fv bb wc rv4 wx (upd (upd rv4 5 (.slice a5 n5 k5)) 6 v6)))
    case first =>
      have X6:Hid (upd xs4 5 (xs 5++[.int .i64 mark]) 6=xs 6):=by show _=_;rw [upd_ne _ _ (by decide)];exact X5.out.2.1
      have R6:Hid (upd rv4 5 (.slice a5 n5 k5) 6=rv4 6):=upd_ne _ _ (by decide)
      have c10:w6.cell? ⟨bb,19,none⟩=some (rv4 6):=by have:=(H6.out.1.br.cell 6 (by decide)).1;rw [R6.out] at this;exact this
      have c12:w6.cell? ⟨bb,21,none⟩=some (.int .i64 seen):=(za0 H6.out.1.br.at_ H6.out.1.hd.sn).1
      have B6:Hid (Below w6.heap.size w6 w6.drew):=(Below.refl _ _).drew
      have DU:Hid (Calls Tryz.prog 112 #[.pointer (some ⟨bb,0,none⟩),.int .i64 seen] w6.drew fun e w1=>(∃ d:Nat,e = .returned (.int .i64 d)∧t≤d∧d≤t+8)∧w1=w6.drew):=zbq bb cs6 seen t w6.drew (by have:=HB.out;omega) (by have:=HB.out;omega) (H6.out.1.br.at_) H6.out.1.hd.now H6.out.1.hd.turn
      first | go_region_law (first | (refine za6 kI_ok rfl (.tmp 49) (.tmp 56) 26 rfl BR6a.out 6 (by decide) Tryz.underlying26 R6.out.symm w6.heap.size (.int .i64 dd) rfl (heap_alloc_new w6.drew _) rfl (by rw [X6.out];have:=HL.out 6 (by decide);omega) (by have:=HB.out.1;have:=V4.out.sz;have:=H6.out.2.sz;simp [World.drew];omega) ?_;intro v7 w7 pu7;have PU7:Hid (Pu kI (w6.alloc (.cells #[.int .i64 dd] 3)).drew w7 bb B cs6 (upd rv4 5 (.slice a5 n5 k5)) (upd xs4 5 (xs 5++[.int .i64 mark])) 6 (.int .i64 dd) v7):=pu7;obtain ⟨a7,n7,k7,hv7⟩:=pu7.sl;clear pu7;subst hv7;have c7d:w7.cell? ⟨bb,19,none⟩=some (rv4 6):=(by have:=(za0 PU7.out.bk (BR6a.out.fld 6 (by decide))).1;rw [R6.out] at this;exact this);have z7d:w7.frozen? ⟨bb,19,none⟩=false:=(za0 PU7.out.bk (BR6a.out.fld 6 (by decide))).2)|(go_simp;go_wp2_with (go_at_call 112;refine DU.out.mono ?_;rintro e wd ⟨⟨dd,rfl,hd1,hd2⟩,hwd⟩;obtain rfl:=hwd.symm;clear hwd hd1 hd2;have AL6:Hid (Below w6.heap.size w6 (w6.alloc (.cells #[.int .i64 dd] 3)).drew):=((Below.refl _ _).alloc (Nat.le_refl _) _).drew;have BR6a:Hid (BR kI (w6.alloc (.cells #[.int .i64 dd] 3)).drew bb B cs6 (upd rv4 5 (.slice a5 n5 k5)) (upd xs4 5 (xs 5++[.int .i64 mark]))):=H6.out.1.br.below AL6.out;have c10a:(w6.alloc (.cells #[.int .i64 dd] 3)).drew.cell? ⟨bb,19,none⟩=some (rv4 6):=cell_later AL6.out c10))) | fail
      all_goals
        go_wp2_with fail
        go_meet
        case rel =>
          have B7:=H6.out.1.push1 AL6.out (by decide) PU7.out
          rw [X6.out] at B7
          exact ⟨dd,_,_,B7.1,H6.out.2.trans B7.2⟩
    case rest =>
      obtain ⟨due,v6,cs7,H7,F7⟩:=hcut
      have cs12:wc.cell? ⟨bb,21,none⟩=some (.int .i64 seen):=(za0 H7.out.br.at_ H7.out.hd.sn).1
      have zs12:wc.frozen? ⟨bb,21,none⟩=false:=(za0 H7.out.br.at_ H7.out.hd.sn).2
      have hws:IntKind.i64.wrap ((seen:Int)+1)=((seen+1:Nat):Int):=by rw [IntKind.wrap_i64];have:=HB.out;omega
      obtain ⟨w8,hw8⟩:∃ W,W=wc.setCell ⟨bb,21,none⟩ (.int .i64 ((seen+1:Nat):Int)):=⟨_,rfl⟩
      obtain ⟨rv8,hrv8⟩:∃ r,r=upd (upd rv4 5 (.slice a5 n5 k5)) 6 v6:=⟨_,rfl⟩
      have H8:Hid (Bq kI k0 w0 w8 bb B S (cs7.setIfInBounds 21 (.int .i64 ((seen+1:Nat):Int))) rv8 (upd (upd xs4 5 (xs 5++[.int .i64 mark])) 6 (xs 6++[.int .i64 due])) t (d+1:Nat) (seen+1:Nat)):=by
        show Bq _ _ _ _ _ _ _ _ _ _ _ _ _;rw [hw8,hrv8];exact H7.out.other 21 (.inr (by decide)) _ (H7.out.hd.sees _)
      have F8:Hid (Fv bb wc (upd (upd rv4 5 (.slice a5 n5 k5)) 6 v6) w8 rv8∧rv8 4=rv 4∧rv8 7=rv 7):=by
        show _∧_;rw [hw8,hrv8];exact ⟨Fv.set _ _,by rw [upd_ne _ _ (by decide),upd_ne _ _ (by decide)];exact X5.out.2.2.1,by rw [upd_ne _ _ (by decide),upd_ne _ _ (by decide)];exact X5.out.2.2.2⟩
      go_upto_region 6 with fail
      rw [show ((seen:Int)+1)=((seen+1:Nat):Int) by omega,← hw8]
      clear hw8 hrv8 cs12 zs12
      go_wp2_with fail
      go_must (go_at_call 55)
      have hb8:=H8.out
      rw [E4.out] at hb8
      refine (HK.out w8 _ rv8 a4 k4 due hb8 F8.out.2 ((N4.out.fv F7.out).fv F8.out.1) ((V4.out.trans F7.out).trans F8.out.1)).mono ?_
      rintro e w9 ⟨rfl,hq9⟩
      have HQ:Hid (Q w9):=hq9
      clear hq9
      go_wp2_with fail
      go_end0
      exact ⟨rfl,HQ.out⟩
set_option maxHeartbeats 1000000
theorem same_kI0 (a b:Option Addr) (l c c':Nat) (L:List Value) (w:World) (h:CL kI w a l c L) (h':CL kI w b l c' L) (hb:Kd.ok kI L) (hl:l≤2000000) :
    Calls Tryz.prog 116 #[.slice a l c,.slice b l c'] w fun e w'=>e = .returned (.bool true)∧w'=w:=by
  have hcap:=h.1
  have hcap':=h'.1
  have CA:Hid (∀ i,i<l→∃ p off p' off' x,a=some ⟨p,off,none⟩∧b=some ⟨p',off',none⟩∧w.cell? ⟨p,off+i,none⟩=some (.int .i64 x)∧w.cell? ⟨p',off'+i,none⟩=some (.int .i64 x)):=fun i hi=>by
    rcases h.2.2 with q | ⟨p,off,e,hc⟩
    · omega
    · rcases h'.2.2 with q | ⟨p',off',e',hc'⟩
      · omega
      · have hi':i<l*1:=by omega
        have hL:L[i]?=some (L[i]'(by rw [h.2.1];exact hi')):=List.getElem?_eq_getElem _
        obtain ⟨x,hx⟩:=hb _ (List.mem_of_getElem? hL)
        rw [hx] at hL
        exact ⟨p,off,p',off',x,e,e',(hc i hi').trans hL,(hc' i hi').trans hL⟩
  clear h h' hb
  go_enter Tryz.func116,Tryz.ntmps116
  go_wp2
  go_loop [5] (fun i=>∃ k:Nat,i = .int .i64 k∧k≤l) (fun i=>l-(intOf i).toNat)
  case atStart=>exact ⟨0,rfl,by omega⟩
  case round =>
    obtain ⟨k,rfl,hk⟩:=hrel
    by_cases hlt:k<l
    · obtain ⟨p,off,p',off',x,rfl,rfl,ca,cb⟩:=CA.out k hlt
      have hk':(k:Int)<l:=by omega
      go_wp2
      go_round
      case rel=>exact ⟨k+1,by simp,by omega⟩
      case measure=>simp [intOf];omega
    · have hk':¬ (k:Int)<l:=by omega
      go_wp2
      go_ret
      exact ⟨rfl,rfl⟩
theorem zbC (a b:Option Addr) (l c c':Nat) (L:List Value) (w:World) (h:CL kI w a l c L) (h':CL kI w b l c' L) (hb:Kd.ok kI L) (hl:l≤2000000) :
    Calls Tryz.prog 116 #[.slice a l c,.slice b l c'] w fun e w'=>e = .returned (.bool true)∧Below w.heap.size w w' :=
  (same_kI0 a b l c c' L w h h' hb hl).mono (by rintro e w' ⟨rfl,rfl⟩;exact ⟨rfl,Below.refl _ _⟩)
end Go.Proofs.YtceigllifjgalaaGreatDoor.Bk
