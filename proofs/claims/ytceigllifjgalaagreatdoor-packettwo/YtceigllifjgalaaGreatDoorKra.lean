import Derived.Test.YtceigllifjgalaaGreatDoorKef
namespace Go.Proofs.YtceigllifjgalaaGreatDoor.Bk
open Go Go.RowKit
set_option linter.unusedSimpArgs false
set_option linter.unusedVariables false
set_option maxRecDepth 100000
set_option maxHeartbeats 4000000
theorem note_kT (k0:Array Value) (bb B:Nat) (S:Nat→Prop) (cs:Array Value) (rv:Nat→Value) (xs:Nat→List Value) (t seen d:Nat) (va:Option Addr) (vn vc:Nat) (L:List Value) (mark:Int) (w0 w:World) (Q:World→Prop)
    (hq:Bq kT k0 w0 w bb B S cs rv xs t d seen) (hB:B≤w.heap.size) (hl:∀ i,i<8→(xs i).length≤900000) (ht:t≤100000) (hsn:seen≤100000) (hd:d≤100000) (hc:CL kT w va vn vc L) (hv5:∀ g off,va=some ⟨g,off,none⟩→g<w.heap.size∧Off bb rv g) (h1:Kd.ok kT L) (hn:vn≤2000000)
    (hk:∀ wx cs' rv' a4 k4 (due:Nat),Bq kT k0 w0 wx bb B S cs' rv' (upd (upd (upd (upd xs 2 (xs 2++[.slice va vn vc])) 3 (xs 3++[.slice a4 vn k4])) 5 (xs 5++[.int .i64 mark])) 6 (xs 6++[.int .i64 due])) t (d+1:Nat) (seen+1:Nat)→rv' 4=rv 4∧rv' 7=rv 7→Nl kT bb rv' w wx a4 vn k4 L→Fv bb w rv wx rv'→Calls Tryz.prog 55 #[.pointer (some ⟨bb,0,none⟩)] wx fun e w'=>e = .returned (.tuple #[])∧Q w') :
    Calls Tryz.prog 54 #[.pointer (some ⟨bb,0,none⟩),.slice va vn vc,.int .i64 mark] w fun e w'=>e = .returned (.tuple #[])∧Q w':=by
  have H0:Hid (Bq kT k0 w0 w bb B S cs rv xs t d seen):=hq
  have HL:Hid (∀ i,i<8→(xs i).length≤900000):=hl
  have HB:Hid (B≤w.heap.size∧t≤100000∧seen≤100000∧vn≤2000000∧Kd.ok kT L):=⟨hB,ht,hsn,hn,h1⟩
  have HC:Hid (CL kT w va vn vc L∧∀ g off,va=some ⟨g,off,none⟩→g<w.heap.size∧Off bb rv g):=⟨hc,hv5⟩
  have HK:Hid (∀ wx cs' rv' a4 k4 (due:Nat),Bq kT k0 w0 wx bb B S cs' rv' (upd (upd (upd (upd xs 2 (xs 2++[.slice va vn vc])) 3 (xs 3++[.slice a4 vn k4])) 5 (xs 5++[.int .i64 mark])) 6 (xs 6++[.int .i64 due])) t (d+1:Nat) (seen+1:Nat)→rv' 4=rv 4∧rv' 7=rv 7→Nl kT bb rv' w wx a4 vn k4 L→Fv bb w rv wx rv'→Calls Tryz.prog 55 #[.pointer (some ⟨bb,0,none⟩)] wx fun e w'=>e = .returned (.tuple #[])∧Q w'):=hk
  have c3:=(za0 hq.br.at_ hq.hd.dp).1
  have z3:=(za0 hq.br.at_ hq.hd.dp).2
  have hwd:IntKind.i64.wrap ((d:Int)+1)=((d+1:Nat):Int):=by rw [IntKind.wrap_i64];omega
  clear hq hl hB ht hsn hc hv5 h1 hn hk hd
  go_enter Tryz.func54,Tryz.ntmps54
  go_upto_region 1 with fail
  obtain ⟨w1,hw1⟩:∃ W,W=w.setCell ⟨bb,3,none⟩ (.int .i64 ((d+1:Nat):Int)):=⟨_,rfl⟩
  have H1:Hid (Bq kT k0 w0 w1 bb B S (cs.setIfInBounds 3 (.int .i64 ((d+1:Nat):Int))) rv xs t (d+1:Nat) seen∧Fv bb w rv w1 rv):=by
    show _∧_;rw [hw1];exact ⟨H0.out.other 3 (.inl (by decide)) _ (H0.out.hd.deeper _),Fv.set _ _⟩
  try rw [show ((d:Int)+1)=((d+1:Nat):Int) by omega]
  rw [← hw1]
  clear hw1 c3 z3 hwd
  have c6:w1.cell? ⟨bb,24,none⟩=some (rv 2):=(H1.out.1.br.cell 2 (by decide)).1
  have AL1:Hid (Below w1.heap.size w1 (w1.alloc (.cells #[.slice va vn vc] 27))):=(Below.refl _ _).alloc (Nat.le_refl _) _
  have BA:Hid (BR kT (w1.alloc (.cells #[.slice va vn vc] 27)) bb B (cs.setIfInBounds 3 (.int .i64 ((d+1:Nat):Int))) rv xs):=H1.out.1.br.below AL1.out
  go_wp2_with (first | (at_builtin;refine za3 kT_ok rfl (.tmp 17) (.tmp 19) 35 rfl BA.out 2 (by decide) Tryz.underlying35 rfl w1.heap.size (.slice va vn vc) rfl (heap_alloc_new w1 _) rfl (by have:=HL.out 2 (by decide);omega) (by have:=HB.out.1;have:=H1.out.2.sz;simp;omega) ?_) | fail)
  intro v2 w2 pu
  obtain ⟨a2,n2,k2,rfl,cw1,cw2,w3,hw3,cs3,H3x⟩:=H1.out.1.pushed AL1.out (by decide) 24 rfl pu
  clear pu
  have H3:Hid (_∧Fv bb w rv w3 (upd rv 2 (.slice a2 n2 k2))):=⟨H3x.out.1,H1.out.2.trans H3x.out.2⟩
  clear H3x c6
  go_upto_region 2 with fail
  rw [← hw3]
  clear hw3 cw1 cw2
  have CL3:Hid (CL kT w3 va vn vc L):=HC.out.1.block (fun g off e=>H3.out.2.keep g (HC.out.2 g off e).1 (HC.out.2 g off e).2)
  go_cut [] from 6 (fun wx=>∃ (a4:Option Addr) (k4:Nat) (v3:Value) (cs':Array Value),Hid (Bq kT k0 w0 wx bb B S cs' (upd (upd rv 2 (.slice a2 n2 k2)) 3 v3) (upd (upd xs 2 (xs 2++[.slice va vn vc])) 3 (xs 3++[.slice a4 vn k4])) t (d+1:Nat) seen)∧Hid (Nl kT bb (upd (upd rv 2 (.slice a2 n2 k2)) 3 v3) w wx a4 vn k4 L)∧Hid (Fv bb w rv wx (upd (upd rv 2 (.slice a2 n2 k2)) 3 v3)))
  case first =>
    have HR3:Hid (upd rv 2 (.slice a2 n2 k2) 3=rv 3):=upd_ne _ _ (by decide)
    have HX3:Hid (upd xs 2 (xs 2++[.slice va vn vc]) 3=xs 3):=upd_ne _ _ (by decide)
    have c7:w3.cell? ⟨bb,25,none⟩=some (rv 3):=by have:=(H3.out.1.br.cell 3 (by decide)).1;rw [HR3.out] at this;exact this
    have BA3:Hid (Below w3.heap.size w3 (w3.alloc (.cells #[] 9)).drew):=((Below.refl _ _).alloc (Nat.le_refl _) _).drew
    have c7a:(w3.alloc (.cells #[] 9)).drew.cell? ⟨bb,25,none⟩=some (rv 3):=cell_later BA3.out c7
    have HE:Hid ((w3.alloc (.cells #[] 9)).drew.heap[w3.heap.size]?=some (.cells #[] 9 (0,0))):=heap_alloc_new w3 _
    have HC3:Hid (CL kT (w3.alloc (.cells #[] 9)).drew va vn vc L):=CL3.out.below BA3.out
    first | go_region_law (first | (refine zah kT_ok rfl (.tmp 28) (.tmp 29) rfl rfl BA3.out HE.out va vn vc L rfl HC3.out HB.out.2.2.2.2 HB.out.2.2.2.1 ?_;intro v4 w4 cp;have CP4:Hid (Cp kT w3 w4 vn L v4):=cp;obtain ⟨a4,k4,hv4,_⟩:=cp.sl;clear cp;subst hv4;have c7b:w4.cell? ⟨bb,25,none⟩=some (rv 3):=cell_later CP4.out.be c7;have AL4:Hid (Below w3.heap.size w3 (w4.alloc (.cells #[.slice a4 vn k4] 27))):=CP4.out.be.alloc CP4.out.be.size _;have BR4a:Hid (BR kT (w4.alloc (.cells #[.slice a4 vn k4] 27)) bb B cs3 (upd rv 2 (.slice a2 n2 k2)) (upd xs 2 (xs 2++[.slice va vn vc]))):=H3.out.1.br.below AL4.out;have c7c:(w4.alloc (.cells #[.slice a4 vn k4] 27)).cell? ⟨bb,25,none⟩=some (rv 3):=cell_later AL4.out c7)|(refine za6 kT_ok rfl (.tmp 27) (.tmp 31) 35 rfl BR4a.out 3 (by decide) Tryz.underlying35 HR3.out.symm w4.heap.size (.slice a4 vn k4) rfl (heap_alloc_new w4 _) rfl (by rw [HX3.out];have:=HL.out 3 (by decide);omega) (by have h1:=CP4.out.be.size;have:=HB.out.1;have:=H3.out.2.sz;simp;omega) ?_;intro v5 w5 pu5;have PU5:Hid (Pu kT (w4.alloc (.cells #[.slice a4 vn k4] 27)) w5 bb B cs3 (upd rv 2 (.slice a2 n2 k2)) (upd xs 2 (xs 2++[.slice va vn vc])) 3 (.slice a4 vn k4) v5):=pu5;obtain ⟨a5,n5,k5,hv5⟩:=pu5.sl;clear pu5;subst hv5;have c7d:w5.cell? ⟨bb,25,none⟩=some (rv 3):=(by have:=(za0 PU5.out.bk (BR4a.out.fld 3 (by decide))).1;rw [HR3.out] at this;exact this);have z7d:w5.frozen? ⟨bb,25,none⟩=false:=(za0 PU5.out.bk (BR4a.out.fld 3 (by decide))).2) | go_simp) | fail
    all_goals
      go_wp2_with fail
      go_meet
      case rel =>
        have B5:=H3.out.1.push1 AL4.out (by decide) PU5.out
        rw [HX3.out] at B5
        have N4:Nl kT bb (upd rv 2 (.slice a2 n2 k2)) w3 w4 a4 vn k4 L:=CP4.out.nl H3.out.1.br
        have F4:Fv bb w4 (upd rv 2 (.slice a2 n2 k2)) _ _:=(Fv.below ((Below.refl w4.heap.size w4).alloc (Nat.le_refl _) _)).trans (PU5.out.fv (by decide))
        exact ⟨a4,k4,_,_,B5.1,(N4.fv F4).old H3.out.2.sz,H3.out.2.trans B5.2⟩
  case rest =>
    obtain ⟨a4,k4,v3,cs4,H4,N4,V4⟩:=hcut
    obtain ⟨rv4,hrv4⟩:∃ r,r=upd (upd rv 2 (.slice a2 n2 k2)) 3 v3:=⟨_,rfl⟩
    obtain ⟨xs4,hxs4⟩:∃ r,r=upd (upd xs 2 (xs 2++[.slice va vn vc])) 3 (xs 3++[.slice a4 vn k4]):=⟨_,rfl⟩
    rw [← hrv4,← hxs4] at H4
    rw [← hrv4] at N4 V4
    have X5:Hid (xs4 5=xs 5∧xs4 6=xs 6∧rv4 4=rv 4∧rv4 7=rv 7):=by rw [hxs4,hrv4];exact ⟨by rw [upd_ne _ _ (by decide),upd_ne _ _ (by decide)],by rw [upd_ne _ _ (by decide),upd_ne _ _ (by decide)],by rw [upd_ne _ _ (by decide),upd_ne _ _ (by decide)],by rw [upd_ne _ _ (by decide),upd_ne _ _ (by decide)]⟩
    have E4:Hid (xs4=upd (upd xs 2 (xs 2++[.slice va vn vc])) 3 (xs 3++[.slice a4 vn k4])):=hxs4
    clear hrv4 hxs4 H0 H1 BA H3 CL3 AL1
    have c9:wc.cell? ⟨bb,27,none⟩=some (rv4 5):=(H4.out.br.cell 5 (by decide)).1
    have AL4:Hid (Below wc.heap.size wc (wc.alloc (.cells #[.int .i64 mark] 3))):=(Below.refl _ _).alloc (Nat.le_refl _) _
    have BA4:Hid (BR kT (wc.alloc (.cells #[.int .i64 mark] 3)) bb B cs4 rv4 xs4):=H4.out.br.below AL4.out
    go_wp2_with (first | (at_builtin;refine za3 kT_ok rfl (.tmp 39) (.tmp 41) 26 rfl BA4.out 5 (by decide) Tryz.underlying26 rfl wc.heap.size (.int .i64 mark) rfl (heap_alloc_new wc _) rfl (by rw [X5.out.1];have:=HL.out 5 (by decide);omega) (by have:=HB.out.1;have:=V4.out.sz;simp;omega) ?_) | fail)
    intro v5 w5 pu
    obtain ⟨a5,n5,k5,rfl,cw1,cw2,w6,hw6,cs6,H6⟩:=H4.out.pushed AL4.out (by decide) 27 rfl pu
    clear pu
    rw [X5.out.1] at H6
    clear c9
    go_upto_region 4 with fail
    rw [← hw6]
    clear hw6 cw1 cw2
    go_cut [] from 6 (fun wx=>∃ (due:Nat) (v6:Value) (cs':Array Value),Hid (Bq kT k0 w0 wx bb B S cs' (upd (upd rv4 5 (.slice a5 n5 k5)) 6 v6) (upd (upd xs4 5 (xs 5++[.int .i64 mark])) 6 (xs 6++[.int .i64 due])) t (d+1:Nat) seen)∧Hid (Fv bb wc rv4 wx (upd (upd rv4 5 (.slice a5 n5 k5)) 6 v6)))
    case first =>
      have X6:Hid (upd xs4 5 (xs 5++[.int .i64 mark]) 6=xs 6):=by show _=_;rw [upd_ne _ _ (by decide)];exact X5.out.2.1
      have R6:Hid (upd rv4 5 (.slice a5 n5 k5) 6=rv4 6):=upd_ne _ _ (by decide)
      have c10:w6.cell? ⟨bb,28,none⟩=some (rv4 6):=by have:=(H6.out.1.br.cell 6 (by decide)).1;rw [R6.out] at this;exact this
      have c12:w6.cell? ⟨bb,30,none⟩=some (.int .i64 seen):=(za0 H6.out.1.br.at_ H6.out.1.hd.sn).1
      have B6:Hid (Below w6.heap.size w6 w6.drew):=(Below.refl _ _).drew
      have DU:Hid (Calls Tryz.prog 112 #[.pointer (some ⟨bb,0,none⟩),.int .i64 seen] w6.drew fun e w1=>(∃ d:Nat,e = .returned (.int .i64 d)∧t≤d∧d≤t+8)∧w1=w6.drew):=zbq bb cs6 seen t w6.drew (by have:=HB.out;omega) (by have:=HB.out;omega) (H6.out.1.br.at_) H6.out.1.hd.now H6.out.1.hd.turn
      first | go_region_law (first | (refine za6 kT_ok rfl (.tmp 49) (.tmp 56) 26 rfl BR6a.out 6 (by decide) Tryz.underlying26 R6.out.symm w6.heap.size (.int .i64 dd) rfl (heap_alloc_new w6.drew _) rfl (by rw [X6.out];have:=HL.out 6 (by decide);omega) (by have:=HB.out.1;have:=V4.out.sz;have:=H6.out.2.sz;simp [World.drew];omega) ?_;intro v7 w7 pu7;have PU7:Hid (Pu kT (w6.alloc (.cells #[.int .i64 dd] 3)).drew w7 bb B cs6 (upd rv4 5 (.slice a5 n5 k5)) (upd xs4 5 (xs 5++[.int .i64 mark])) 6 (.int .i64 dd) v7):=pu7;obtain ⟨a7,n7,k7,hv7⟩:=pu7.sl;clear pu7;subst hv7;have c7d:w7.cell? ⟨bb,28,none⟩=some (rv4 6):=(by have:=(za0 PU7.out.bk (BR6a.out.fld 6 (by decide))).1;rw [R6.out] at this;exact this);have z7d:w7.frozen? ⟨bb,28,none⟩=false:=(za0 PU7.out.bk (BR6a.out.fld 6 (by decide))).2)|(go_simp;go_wp2_with (go_at_call 112;refine DU.out.mono ?_;rintro e wd ⟨⟨dd,rfl,hd1,hd2⟩,hwd⟩;obtain rfl:=hwd.symm;clear hwd hd1 hd2;have AL6:Hid (Below w6.heap.size w6 (w6.alloc (.cells #[.int .i64 dd] 3)).drew):=((Below.refl _ _).alloc (Nat.le_refl _) _).drew;have BR6a:Hid (BR kT (w6.alloc (.cells #[.int .i64 dd] 3)).drew bb B cs6 (upd rv4 5 (.slice a5 n5 k5)) (upd xs4 5 (xs 5++[.int .i64 mark]))):=H6.out.1.br.below AL6.out;have c10a:(w6.alloc (.cells #[.int .i64 dd] 3)).drew.cell? ⟨bb,28,none⟩=some (rv4 6):=cell_later AL6.out c10))) | fail
      all_goals
        go_wp2_with fail
        go_meet
        case rel =>
          have B7:=H6.out.1.push1 AL6.out (by decide) PU7.out
          rw [X6.out] at B7
          exact ⟨dd,_,_,B7.1,H6.out.2.trans B7.2⟩
    case rest =>
      obtain ⟨due,v6,cs7,H7,F7⟩:=hcut
      have cs12:wc.cell? ⟨bb,30,none⟩=some (.int .i64 seen):=(za0 H7.out.br.at_ H7.out.hd.sn).1
      have zs12:wc.frozen? ⟨bb,30,none⟩=false:=(za0 H7.out.br.at_ H7.out.hd.sn).2
      have hws:IntKind.i64.wrap ((seen:Int)+1)=((seen+1:Nat):Int):=by rw [IntKind.wrap_i64];have:=HB.out;omega
      obtain ⟨w8,hw8⟩:∃ W,W=wc.setCell ⟨bb,30,none⟩ (.int .i64 ((seen+1:Nat):Int)):=⟨_,rfl⟩
      obtain ⟨rv8,hrv8⟩:∃ r,r=upd (upd rv4 5 (.slice a5 n5 k5)) 6 v6:=⟨_,rfl⟩
      have H8:Hid (Bq kT k0 w0 w8 bb B S (cs7.setIfInBounds 30 (.int .i64 ((seen+1:Nat):Int))) rv8 (upd (upd xs4 5 (xs 5++[.int .i64 mark])) 6 (xs 6++[.int .i64 due])) t (d+1:Nat) (seen+1:Nat)):=by
        show Bq _ _ _ _ _ _ _ _ _ _ _ _ _;rw [hw8,hrv8];exact H7.out.other 30 (.inr (by decide)) _ (H7.out.hd.sees _)
      have F8:Hid (Fv bb wc (upd (upd rv4 5 (.slice a5 n5 k5)) 6 v6) w8 rv8∧rv8 4=rv 4∧rv8 7=rv 7):=by
        show _∧_;rw [hw8,hrv8];exact ⟨Fv.set _ _,by rw [upd_ne _ _ (by decide),upd_ne _ _ (by decide)];exact X5.out.2.2.1,by rw [upd_ne _ _ (by decide),upd_ne _ _ (by decide)];exact X5.out.2.2.2⟩
      go_upto_region 6 with fail
      rw [show ((seen:Int)+1)=((seen+1:Nat):Int) by omega,← hw8]
      clear hw8 hrv8 cs12 zs12
      go_wp2_with fail
      go_must (go_at_call 55)
      have hb8:=H8.out
      rw [E4.out] at hb8
      refine (HK.out w8 _ rv8 a4 k4 due hb8 F8.out.2 ((N4.out.fv F7.out).fv F8.out.1) ((V4.out.trans F7.out).trans F8.out.1)).mono ?_
      rintro e w9 ⟨rfl,hq9⟩
      have HQ:Hid (Q w9):=hq9
      clear hq9
      go_wp2_with fail
      go_end0
      exact ⟨rfl,HQ.out⟩
set_option maxHeartbeats 1000000
theorem same_kT0 (a b:Option Addr) (l c c':Nat) (L:List Value) (w:World) (h:CL kT w a l c L) (h':CL kT w b l c' L) (hb:Kd.ok kT L) (hl:l≤2000000) :
    Calls Tryz.prog 117 #[.slice a l c,.slice b l c'] w fun e w'=>e = .returned (.bool true)∧w'=w:=by
  have hcap:=h.1
  have hcap':=h'.1
  have CA:Hid (∀ i,i<l→∃ p off p' off' x,a=some ⟨p,off,none⟩∧b=some ⟨p',off',none⟩∧w.cell? ⟨p,off+i,none⟩=some (.string x)∧w.cell? ⟨p',off'+i,none⟩=some (.string x)):=fun i hi=>by
    rcases h.2.2 with q | ⟨p,off,e,hc⟩
    · omega
    · rcases h'.2.2 with q | ⟨p',off',e',hc'⟩
      · omega
      · have hi':i<l*1:=by omega
        have hL:L[i]?=some (L[i]'(by rw [h.2.1];exact hi')):=List.getElem?_eq_getElem _
        obtain ⟨x,hx⟩:=hb _ (List.mem_of_getElem? hL)
        rw [hx] at hL
        exact ⟨p,off,p',off',x,e,e',(hc i hi').trans hL,(hc' i hi').trans hL⟩
  clear h h' hb
  go_enter Tryz.func117,Tryz.ntmps117
  go_wp2
  go_loop [5] (fun i=>∃ k:Nat,i = .int .i64 k∧k≤l) (fun i=>l-(intOf i).toNat)
  case atStart=>exact ⟨0,rfl,by omega⟩
  case round =>
    obtain ⟨k,rfl,hk⟩:=hrel
    by_cases hlt:k<l
    · obtain ⟨p,off,p',off',x,rfl,rfl,ca,cb⟩:=CA.out k hlt
      have hk':(k:Int)<l:=by omega
      go_wp2
      go_round
      case rel=>exact ⟨k+1,by simp,by omega⟩
      case measure=>simp [intOf];omega
    · have hk':¬ (k:Int)<l:=by omega
      go_wp2
      go_ret
      exact ⟨rfl,rfl⟩
theorem zbE (a b:Option Addr) (l c c':Nat) (L:List Value) (w:World) (h:CL kT w a l c L) (h':CL kT w b l c' L) (hb:Kd.ok kT L) (hl:l≤2000000) :
    Calls Tryz.prog 117 #[.slice a l c,.slice b l c'] w fun e w'=>e = .returned (.bool true)∧Below w.heap.size w w' :=
  (same_kT0 a b l c c' L w h h' hb hl).mono (by rintro e w' ⟨rfl,rfl⟩;exact ⟨rfl,Below.refl _ _⟩)
set_option maxHeartbeats 4000000
theorem note_kA (k0:Array Value) (bb B:Nat) (S:Nat→Prop) (cs:Array Value) (rv:Nat→Value) (xs:Nat→List Value) (t seen d:Nat) (va:Option Addr) (vn vc:Nat) (L:List Value) (mark:Int) (w0 w:World) (Q:World→Prop)
    (hq:Bq kA k0 w0 w bb B S cs rv xs t d seen) (hB:B≤w.heap.size) (hl:∀ i,i<8→(xs i).length≤900000) (ht:t≤100000) (hsn:seen≤100000) (hd:d≤100000) (hc:CL kA w va vn vc L) (hv5:∀ g off,va=some ⟨g,off,none⟩→g<w.heap.size∧Off bb rv g) (h1:Kd.ok kA L) (hn:vn≤2000000)
    (hk:∀ wx cs' rv' a4 k4 (due:Nat),Bq kA k0 w0 wx bb B S cs' rv' (upd (upd (upd (upd xs 2 (xs 2++[.slice va vn vc])) 3 (xs 3++[.slice a4 vn k4])) 5 (xs 5++[.int .i64 mark])) 6 (xs 6++[.int .i64 due])) t (d+1:Nat) (seen+1:Nat)→rv' 4=rv 4∧rv' 7=rv 7→Nl kA bb rv' w wx a4 vn k4 L→Fv bb w rv wx rv'→Calls Tryz.prog 55 #[.pointer (some ⟨bb,0,none⟩)] wx fun e w'=>e = .returned (.tuple #[])∧Q w') :
    Calls Tryz.prog 52 #[.pointer (some ⟨bb,0,none⟩),.slice va vn vc,.int .i64 mark] w fun e w'=>e = .returned (.tuple #[])∧Q w':=by
  have H0:Hid (Bq kA k0 w0 w bb B S cs rv xs t d seen):=hq
  have HL:Hid (∀ i,i<8→(xs i).length≤900000):=hl
  have HB:Hid (B≤w.heap.size∧t≤100000∧seen≤100000∧vn≤2000000∧Kd.ok kA L):=⟨hB,ht,hsn,hn,h1⟩
  have HC:Hid (CL kA w va vn vc L∧∀ g off,va=some ⟨g,off,none⟩→g<w.heap.size∧Off bb rv g):=⟨hc,hv5⟩
  have HK:Hid (∀ wx cs' rv' a4 k4 (due:Nat),Bq kA k0 w0 wx bb B S cs' rv' (upd (upd (upd (upd xs 2 (xs 2++[.slice va vn vc])) 3 (xs 3++[.slice a4 vn k4])) 5 (xs 5++[.int .i64 mark])) 6 (xs 6++[.int .i64 due])) t (d+1:Nat) (seen+1:Nat)→rv' 4=rv 4∧rv' 7=rv 7→Nl kA bb rv' w wx a4 vn k4 L→Fv bb w rv wx rv'→Calls Tryz.prog 55 #[.pointer (some ⟨bb,0,none⟩)] wx fun e w'=>e = .returned (.tuple #[])∧Q w'):=hk
  have c3:=(za0 hq.br.at_ hq.hd.dp).1
  have z3:=(za0 hq.br.at_ hq.hd.dp).2
  have hwd:IntKind.i64.wrap ((d:Int)+1)=((d+1:Nat):Int):=by rw [IntKind.wrap_i64];omega
  clear hq hl hB ht hsn hc hv5 h1 hn hk hd
  go_enter Tryz.func52,Tryz.ntmps52
  go_upto_region 1 with fail
  obtain ⟨w1,hw1⟩:∃ W,W=w.setCell ⟨bb,3,none⟩ (.int .i64 ((d+1:Nat):Int)):=⟨_,rfl⟩
  have H1:Hid (Bq kA k0 w0 w1 bb B S (cs.setIfInBounds 3 (.int .i64 ((d+1:Nat):Int))) rv xs t (d+1:Nat) seen∧Fv bb w rv w1 rv):=by
    show _∧_;rw [hw1];exact ⟨H0.out.other 3 (.inl (by decide)) _ (H0.out.hd.deeper _),Fv.set _ _⟩
  try rw [show ((d:Int)+1)=((d+1:Nat):Int) by omega]
  rw [← hw1]
  clear hw1 c3 z3 hwd
  have c6:w1.cell? ⟨bb,42,none⟩=some (rv 2):=(H1.out.1.br.cell 2 (by decide)).1
  have AL1:Hid (Below w1.heap.size w1 (w1.alloc (.cells #[.slice va vn vc] 25))):=(Below.refl _ _).alloc (Nat.le_refl _) _
  have BA:Hid (BR kA (w1.alloc (.cells #[.slice va vn vc] 25)) bb B (cs.setIfInBounds 3 (.int .i64 ((d+1:Nat):Int))) rv xs):=H1.out.1.br.below AL1.out
  go_wp2_with (first | (at_builtin;refine za3 kA_ok rfl (.tmp 17) (.tmp 19) 36 rfl BA.out 2 (by decide) Tryz.underlying36 rfl w1.heap.size (.slice va vn vc) rfl (heap_alloc_new w1 _) rfl (by have:=HL.out 2 (by decide);omega) (by have:=HB.out.1;have:=H1.out.2.sz;simp;omega) ?_) | fail)
  intro v2 w2 pu
  obtain ⟨a2,n2,k2,rfl,cw1,cw2,w3,hw3,cs3,H3x⟩:=H1.out.1.pushed AL1.out (by decide) 42 rfl pu
  clear pu
  have H3:Hid (_∧Fv bb w rv w3 (upd rv 2 (.slice a2 n2 k2))):=⟨H3x.out.1,H1.out.2.trans H3x.out.2⟩
  clear H3x c6
  go_upto_region 2 with fail
  rw [← hw3]
  clear hw3 cw1 cw2
  have CL3:Hid (CL kA w3 va vn vc L):=HC.out.1.block (fun g off e=>H3.out.2.keep g (HC.out.2 g off e).1 (HC.out.2 g off e).2)
  go_cut [] from 6 (fun wx=>∃ (a4:Option Addr) (k4:Nat) (v3:Value) (cs':Array Value),Hid (Bq kA k0 w0 wx bb B S cs' (upd (upd rv 2 (.slice a2 n2 k2)) 3 v3) (upd (upd xs 2 (xs 2++[.slice va vn vc])) 3 (xs 3++[.slice a4 vn k4])) t (d+1:Nat) seen)∧Hid (Nl kA bb (upd (upd rv 2 (.slice a2 n2 k2)) 3 v3) w wx a4 vn k4 L)∧Hid (Fv bb w rv wx (upd (upd rv 2 (.slice a2 n2 k2)) 3 v3)))
  case first =>
    have HR3:Hid (upd rv 2 (.slice a2 n2 k2) 3=rv 3):=upd_ne _ _ (by decide)
    have HX3:Hid (upd xs 2 (xs 2++[.slice va vn vc]) 3=xs 3):=upd_ne _ _ (by decide)
    have c7:w3.cell? ⟨bb,43,none⟩=some (rv 3):=by have:=(H3.out.1.br.cell 3 (by decide)).1;rw [HR3.out] at this;exact this
    have BA3:Hid (Below w3.heap.size w3 (w3.alloc (.cells #[] 98)).drew):=((Below.refl _ _).alloc (Nat.le_refl _) _).drew
    have c7a:(w3.alloc (.cells #[] 98)).drew.cell? ⟨bb,43,none⟩=some (rv 3):=cell_later BA3.out c7
    have HE:Hid ((w3.alloc (.cells #[] 98)).drew.heap[w3.heap.size]?=some (.cells #[] 98 (0,0))):=heap_alloc_new w3 _
    have HC3:Hid (CL kA (w3.alloc (.cells #[] 98)).drew va vn vc L):=CL3.out.below BA3.out
    first | go_region_law (first | (refine zah kA_ok rfl (.tmp 28) (.tmp 29) rfl rfl BA3.out HE.out va vn vc L rfl HC3.out HB.out.2.2.2.2 HB.out.2.2.2.1 ?_;intro v4 w4 cp;have CP4:Hid (Cp kA w3 w4 vn L v4):=cp;obtain ⟨a4,k4,hv4,_⟩:=cp.sl;clear cp;subst hv4;have c7b:w4.cell? ⟨bb,43,none⟩=some (rv 3):=cell_later CP4.out.be c7;have AL4:Hid (Below w3.heap.size w3 (w4.alloc (.cells #[.slice a4 vn k4] 25))):=CP4.out.be.alloc CP4.out.be.size _;have BR4a:Hid (BR kA (w4.alloc (.cells #[.slice a4 vn k4] 25)) bb B cs3 (upd rv 2 (.slice a2 n2 k2)) (upd xs 2 (xs 2++[.slice va vn vc]))):=H3.out.1.br.below AL4.out;have c7c:(w4.alloc (.cells #[.slice a4 vn k4] 25)).cell? ⟨bb,43,none⟩=some (rv 3):=cell_later AL4.out c7)|(refine za6 kA_ok rfl (.tmp 27) (.tmp 31) 36 rfl BR4a.out 3 (by decide) Tryz.underlying36 HR3.out.symm w4.heap.size (.slice a4 vn k4) rfl (heap_alloc_new w4 _) rfl (by rw [HX3.out];have:=HL.out 3 (by decide);omega) (by have h1:=CP4.out.be.size;have:=HB.out.1;have:=H3.out.2.sz;simp;omega) ?_;intro v5 w5 pu5;have PU5:Hid (Pu kA (w4.alloc (.cells #[.slice a4 vn k4] 25)) w5 bb B cs3 (upd rv 2 (.slice a2 n2 k2)) (upd xs 2 (xs 2++[.slice va vn vc])) 3 (.slice a4 vn k4) v5):=pu5;obtain ⟨a5,n5,k5,hv5⟩:=pu5.sl;clear pu5;subst hv5;have c7d:w5.cell? ⟨bb,43,none⟩=some (rv 3):=(by have:=(za0 PU5.out.bk (BR4a.out.fld 3 (by decide))).1;rw [HR3.out] at this;exact this);have z7d:w5.frozen? ⟨bb,43,none⟩=false:=(za0 PU5.out.bk (BR4a.out.fld 3 (by decide))).2) | go_simp) | fail
    all_goals
      go_wp2_with fail
      go_meet
      case rel =>
        have B5:=H3.out.1.push1 AL4.out (by decide) PU5.out
        rw [HX3.out] at B5
        have N4:Nl kA bb (upd rv 2 (.slice a2 n2 k2)) w3 w4 a4 vn k4 L:=CP4.out.nl H3.out.1.br
        have F4:Fv bb w4 (upd rv 2 (.slice a2 n2 k2)) _ _:=(Fv.below ((Below.refl w4.heap.size w4).alloc (Nat.le_refl _) _)).trans (PU5.out.fv (by decide))
        exact ⟨a4,k4,_,_,B5.1,(N4.fv F4).old H3.out.2.sz,H3.out.2.trans B5.2⟩
  case rest =>
    obtain ⟨a4,k4,v3,cs4,H4,N4,V4⟩:=hcut
    obtain ⟨rv4,hrv4⟩:∃ r,r=upd (upd rv 2 (.slice a2 n2 k2)) 3 v3:=⟨_,rfl⟩
    obtain ⟨xs4,hxs4⟩:∃ r,r=upd (upd xs 2 (xs 2++[.slice va vn vc])) 3 (xs 3++[.slice a4 vn k4]):=⟨_,rfl⟩
    rw [← hrv4,← hxs4] at H4
    rw [← hrv4] at N4 V4
    have X5:Hid (xs4 5=xs 5∧xs4 6=xs 6∧rv4 4=rv 4∧rv4 7=rv 7):=by rw [hxs4,hrv4];exact ⟨by rw [upd_ne _ _ (by decide),upd_ne _ _ (by decide)],by rw [upd_ne _ _ (by decide),upd_ne _ _ (by decide)],by rw [upd_ne _ _ (by decide),upd_ne _ _ (by decide)],by rw [upd_ne _ _ (by decide),upd_ne _ _ (by decide)]⟩
    have E4:Hid (xs4=upd (upd xs 2 (xs 2++[.slice va vn vc])) 3 (xs 3++[.slice a4 vn k4])):=hxs4
    clear hrv4 hxs4 H0 H1 BA H3 CL3 AL1
    have c9:wc.cell? ⟨bb,45,none⟩=some (rv4 5):=(H4.out.br.cell 5 (by decide)).1
    have AL4:Hid (Below wc.heap.size wc (wc.alloc (.cells #[.int .i64 mark] 3))):=(Below.refl _ _).alloc (Nat.le_refl _) _
    have BA4:Hid (BR kA (wc.alloc (.cells #[.int .i64 mark] 3)) bb B cs4 rv4 xs4):=H4.out.br.below AL4.out
    go_wp2_with (first | (at_builtin;refine za3 kA_ok rfl (.tmp 39) (.tmp 41) 26 rfl BA4.out 5 (by decide) Tryz.underlying26 rfl wc.heap.size (.int .i64 mark) rfl (heap_alloc_new wc _) rfl (by rw [X5.out.1];have:=HL.out 5 (by decide);omega) (by have:=HB.out.1;have:=V4.out.sz;simp;omega) ?_) | fail)
    intro v5 w5 pu
    obtain ⟨a5,n5,k5,rfl,cw1,cw2,w6,hw6,cs6,H6⟩:=H4.out.pushed AL4.out (by decide) 45 rfl pu
    clear pu
    rw [X5.out.1] at H6
    clear c9
    go_upto_region 4 with fail
    rw [← hw6]
    clear hw6 cw1 cw2
    go_cut [] from 6 (fun wx=>∃ (due:Nat) (v6:Value) (cs':Array Value),Hid (Bq kA k0 w0 wx bb B S cs' (upd (upd rv4 5 (.slice a5 n5 k5)) 6 v6) (upd (upd xs4 5 (xs 5++[.int .i64 mark])) 6 (xs 6++[.int .i64 due])) t (d+1:Nat) seen)∧Hid (Fv bb wc rv4 wx (upd (upd rv4 5 (.slice a5 n5 k5)) 6 v6)))
    case first =>
      have X6:Hid (upd xs4 5 (xs 5++[.int .i64 mark]) 6=xs 6):=by show _=_;rw [upd_ne _ _ (by decide)];exact X5.out.2.1
      have R6:Hid (upd rv4 5 (.slice a5 n5 k5) 6=rv4 6):=upd_ne _ _ (by decide)
      have c10:w6.cell? ⟨bb,46,none⟩=some (rv4 6):=by have:=(H6.out.1.br.cell 6 (by decide)).1;rw [R6.out] at this;exact this
      have c12:w6.cell? ⟨bb,48,none⟩=some (.int .i64 seen):=(za0 H6.out.1.br.at_ H6.out.1.hd.sn).1
      have B6:Hid (Below w6.heap.size w6 w6.drew):=(Below.refl _ _).drew
      have DU:Hid (Calls Tryz.prog 112 #[.pointer (some ⟨bb,0,none⟩),.int .i64 seen] w6.drew fun e w1=>(∃ d:Nat,e = .returned (.int .i64 d)∧t≤d∧d≤t+8)∧w1=w6.drew):=zbq bb cs6 seen t w6.drew (by have:=HB.out;omega) (by have:=HB.out;omega) (H6.out.1.br.at_) H6.out.1.hd.now H6.out.1.hd.turn
      first | go_region_law (first | (refine za6 kA_ok rfl (.tmp 49) (.tmp 56) 26 rfl BR6a.out 6 (by decide) Tryz.underlying26 R6.out.symm w6.heap.size (.int .i64 dd) rfl (heap_alloc_new w6.drew _) rfl (by rw [X6.out];have:=HL.out 6 (by decide);omega) (by have:=HB.out.1;have:=V4.out.sz;have:=H6.out.2.sz;simp [World.drew];omega) ?_;intro v7 w7 pu7;have PU7:Hid (Pu kA (w6.alloc (.cells #[.int .i64 dd] 3)).drew w7 bb B cs6 (upd rv4 5 (.slice a5 n5 k5)) (upd xs4 5 (xs 5++[.int .i64 mark])) 6 (.int .i64 dd) v7):=pu7;obtain ⟨a7,n7,k7,hv7⟩:=pu7.sl;clear pu7;subst hv7;have c7d:w7.cell? ⟨bb,46,none⟩=some (rv4 6):=(by have:=(za0 PU7.out.bk (BR6a.out.fld 6 (by decide))).1;rw [R6.out] at this;exact this);have z7d:w7.frozen? ⟨bb,46,none⟩=false:=(za0 PU7.out.bk (BR6a.out.fld 6 (by decide))).2)|(go_simp;go_wp2_with (go_at_call 112;refine DU.out.mono ?_;rintro e wd ⟨⟨dd,rfl,hd1,hd2⟩,hwd⟩;obtain rfl:=hwd.symm;clear hwd hd1 hd2;have AL6:Hid (Below w6.heap.size w6 (w6.alloc (.cells #[.int .i64 dd] 3)).drew):=((Below.refl _ _).alloc (Nat.le_refl _) _).drew;have BR6a:Hid (BR kA (w6.alloc (.cells #[.int .i64 dd] 3)).drew bb B cs6 (upd rv4 5 (.slice a5 n5 k5)) (upd xs4 5 (xs 5++[.int .i64 mark]))):=H6.out.1.br.below AL6.out;have c10a:(w6.alloc (.cells #[.int .i64 dd] 3)).drew.cell? ⟨bb,46,none⟩=some (rv4 6):=cell_later AL6.out c10))) | fail
      all_goals
        go_wp2_with fail
        go_meet
        case rel =>
          have B7:=H6.out.1.push1 AL6.out (by decide) PU7.out
          rw [X6.out] at B7
          exact ⟨dd,_,_,B7.1,H6.out.2.trans B7.2⟩
    case rest =>
      obtain ⟨due,v6,cs7,H7,F7⟩:=hcut
      have cs12:wc.cell? ⟨bb,48,none⟩=some (.int .i64 seen):=(za0 H7.out.br.at_ H7.out.hd.sn).1
      have zs12:wc.frozen? ⟨bb,48,none⟩=false:=(za0 H7.out.br.at_ H7.out.hd.sn).2
      have hws:IntKind.i64.wrap ((seen:Int)+1)=((seen+1:Nat):Int):=by rw [IntKind.wrap_i64];have:=HB.out;omega
      obtain ⟨w8,hw8⟩:∃ W,W=wc.setCell ⟨bb,48,none⟩ (.int .i64 ((seen+1:Nat):Int)):=⟨_,rfl⟩
      obtain ⟨rv8,hrv8⟩:∃ r,r=upd (upd rv4 5 (.slice a5 n5 k5)) 6 v6:=⟨_,rfl⟩
      have H8:Hid (Bq kA k0 w0 w8 bb B S (cs7.setIfInBounds 48 (.int .i64 ((seen+1:Nat):Int))) rv8 (upd (upd xs4 5 (xs 5++[.int .i64 mark])) 6 (xs 6++[.int .i64 due])) t (d+1:Nat) (seen+1:Nat)):=by
        show Bq _ _ _ _ _ _ _ _ _ _ _ _ _;rw [hw8,hrv8];exact H7.out.other 48 (.inr (by decide)) _ (H7.out.hd.sees _)
      have F8:Hid (Fv bb wc (upd (upd rv4 5 (.slice a5 n5 k5)) 6 v6) w8 rv8∧rv8 4=rv 4∧rv8 7=rv 7):=by
        show _∧_;rw [hw8,hrv8];exact ⟨Fv.set _ _,by rw [upd_ne _ _ (by decide),upd_ne _ _ (by decide)];exact X5.out.2.2.1,by rw [upd_ne _ _ (by decide),upd_ne _ _ (by decide)];exact X5.out.2.2.2⟩
      go_upto_region 6 with fail
      rw [show ((seen:Int)+1)=((seen+1:Nat):Int) by omega,← hw8]
      clear hw8 hrv8 cs12 zs12
      go_wp2_with fail
      go_must (go_at_call 55)
      have hb8:=H8.out
      rw [E4.out] at hb8
      refine (HK.out w8 _ rv8 a4 k4 due hb8 F8.out.2 ((N4.out.fv F7.out).fv F8.out.1) ((V4.out.trans F7.out).trans F8.out.1)).mono ?_
      rintro e w9 ⟨rfl,hq9⟩
      have HQ:Hid (Q w9):=hq9
      clear hq9
      go_wp2_with fail
      go_end0
      exact ⟨rfl,HQ.out⟩
set_option maxHeartbeats 1000000
theorem okA_at {L:List Value} (h:okA L) {i:Nat} (hi:i*2<L.length):∃ s x,L[i*2]?=some (.string s)∧L[i*2+1]?=some (.int .i64 x):=by
 obtain ⟨l,rfl⟩:=h
 induction l generalizing i with
 | nil=>simp at hi
 | cons p l ih =>
  cases i with
  | zero=>exact ⟨p.1,p.2,by simp,by simp⟩
  | succ i =>
   obtain ⟨s,x,h1,h2⟩:=ih (i:=i) (by simp only [List.flatMap_cons,List.length_append,List.length_cons,List.length_nil] at hi;omega)
   refine ⟨s,x,?_,?_⟩
   · rw [← h1,List.flatMap_cons,List.getElem?_append_right (by simp only [List.length_cons,List.length_nil];omega)]
     congr 1
     simp only [List.length_cons,List.length_nil];omega
   · rw [← h2,List.flatMap_cons,List.getElem?_append_right (by simp only [List.length_cons,List.length_nil];omega)]
     congr 1
     simp only [List.length_cons,List.length_nil];omega
theorem zb8 (t t':ByteArray) (q q':Int) (w:World):(binOp .neq 98 (.agg #[.string t,.int .i64 q]) (.agg #[.string t',.int .i64 q'])).run Tryz.prog w = .ok (.bool (!((t.toList==t'.toList) && (q==q')))) w:=by
 have hu:Tryz.prog.underlying 98=some (.struct (Tryz.prog.fieldsOf 98)):=by kernel_rfl
 have hp:Tryz.prog.stoodInHeld 98=false:=by kernel_rfl
 rw [run_neq_struct,run_equalIn_agg w 9999 98 _ _ hu hp]
 clear hu hp
 simp only [Program.fieldsOf,Tryz.underlying98]
 cases h1:(t.toList==t'.toList)
 · go_simp
 ·
  cases h2:(q==q')
  · go_simp
  · go_simp
theorem zaY (t:ByteArray) (q:Int) (w:World):(binOp .neq 98 (.agg #[.string t,.int .i64 q]) (.agg #[.string t,.int .i64 q])).run Tryz.prog w = .ok (.bool false) w:=by
 rw [zb8];simp
theorem zbG (a b:Option Addr) (l c c':Nat) (L:List Value) (w:World) (h:CL kA w a l c L) (h':CL kA w b l c' L) (hb:Kd.ok kA L) (hl:l≤2000000) :
    Calls Tryz.prog 119 #[.slice a l c,.slice b l c'] w fun e w'=>e = .returned (.bool true)∧Below w.heap.size w w':=by
  have hcap:=h.1
  have hcap':=h'.1
  have CA:Hid (∀ i,i<l→∃ p off p' off' s x,a=some ⟨p,off,none⟩∧b=some ⟨p',off',none⟩∧w.cell? ⟨p,off+i*2,none⟩=some (.string s)∧w.cell? ⟨p,off+i*2+1,none⟩=some (.int .i64 x)∧w.cell? ⟨p',off'+i*2,none⟩=some (.string s)∧w.cell? ⟨p',off'+i*2+1,none⟩=some (.int .i64 x)):=fun i hi=>by
    rcases h.2.2 with q | ⟨p,off,e,hc⟩
    · omega
    · rcases h'.2.2 with q | ⟨p',off',e',hc'⟩
      · omega
      · have hL:L.length=l*2:=h.2.1
        obtain ⟨s,x,h1,h2⟩:=okA_at hb (i:=i) (by omega)
        exact ⟨p,off,p',off',s,x,e,e',(hc (i*2) (show _<l*2 by omega)).trans h1,(hc (i*2+1) (show _<l*2 by omega)).trans h2,(hc' (i*2) (show _<l*2 by omega)).trans h1,(hc' (i*2+1) (show _<l*2 by omega)).trans h2⟩
  have B0:Hid (Below w.heap.size w w):=Below.refl _ _
  have EG:Tryz.prog.eqGuardType Tryz.prog.depth 98=false:=by kernel_rfl
  clear h h' hb
  go_enter Tryz.func119,Tryz.ntmps119
  go_wp2
  go_loopg [5,6,7] l (fun gg s5 s6 s7 wx=>∃ j:Nat,s5 = .int .i64 j∧j+gg=l∧Hid (Below w.heap.size w wx))
  case atStart=>exact ⟨0,rfl,by omega,B0⟩
  case round =>
    obtain ⟨k,rfl,hk,B1⟩:=hrel
    by_cases hlt:k<l
    · obtain ⟨p,off,p',off',s,x,rfl,rfl,q1,q2,q3,q4⟩:=CA.out k hlt
      have hk':(k:Int)<l:=by omega
      have c1:=cell_later B1.out q1
      have c2:=cell_later B1.out q2
      have c3:=cell_later B1.out q3
      have c4:=cell_later B1.out q4
      clear q1 q2 q3 q4
      have EQ:=zaY s x
      have BX:Below wr.heap.size wr (wr.alloc (.cells #[.string s,.int .i64 x] 98)):=(Below.refl _ _).alloc (Nat.le_refl _) _
      have c5:=cell_later BX c3
      have c6:=cell_later BX c4
      clear BX
      go_upto_region 8 with fail
      clear c1 c2 c3 c4 c5 c6
      obtain ⟨Y,hY⟩:∃ Y,Y=(wr.alloc (.cells #[.string s,.int .i64 x] 98)).alloc (.cells #[.string s,.int .i64 x] 98):=⟨_,rfl⟩
      have BY:Hid (Below w.heap.size w Y):=by show Below _ _ _;rw [hY];exact (B1.out.alloc B1.out.size _).alloc (by have:=B1.out.size;rw [World.size_alloc];omega) _
      have g0:Y.heap[wr.heap.size]?=some (.cells #[.string s,.int .i64 x] 98):=by rw [hY];exact (Below.heap_alloc _ _ _ (by rw [World.size_alloc];omega)).trans (heap_alloc_new wr _)
      have g1:Y.heap[wr.heap.size+1]?=some (.cells #[.string s,.int .i64 x] 98):=by rw [hY];have:=heap_alloc_new (wr.alloc (.cells #[.string s,.int .i64 x] 98)) (.cells #[.string s,.int .i64 x] 98);rw [World.size_alloc] at this;exact this
      have d1:Y.cell? ⟨wr.heap.size,0,none⟩=some (.string s):=by simp [World.cell?,g0]
      have d2:Y.cell? ⟨wr.heap.size,1,none⟩=some (.int .i64 x):=by simp [World.cell?,g0]
      have d3:Y.cell? ⟨wr.heap.size+1,0,none⟩=some (.string s):=by simp [World.cell?,g1]
      have d4:Y.cell? ⟨wr.heap.size+1,1,none⟩=some (.int .i64 x):=by simp [World.cell?,g1]
      clear g0 g1
      rw [← hY]
      clear hY
      have hwk:IntKind.i64.wrap ((k:Int)+1)=((k+1:Nat):Int):=by rw [IntKind.wrap_i64];omega
      obtain ⟨gg,hgg⟩:∃ gg,gk=gg+1:=⟨gk-1,by omega⟩
      go_wp2
      go_roundg gg
      case measure=>omega
      case rel=>exact ⟨k+1,by simp,by omega,BY⟩
    · have hk':¬ (k:Int)<l:=by omega
      go_wp2
      go_ret
      exact ⟨rfl,B1.out⟩
theorem set2 {M L:List Value} {i:Nat} (hm:M.length=i*2) (hl:(i+1)*2≤L.length) (u v:Value):((M++L.drop (i*2)).set (i*2) u).set (i*2+1) v=(M++[u,v])++L.drop ((i+1)*2):=by
 have e:L.drop (i*2)=L[i*2]'(by omega)::L[i*2+1]'(by omega)::L.drop ((i+1)*2):=by
  rw [List.drop_eq_getElem_cons (by omega:i*2<L.length),List.drop_eq_getElem_cons (by omega:i*2+1<L.length),show (i+1)*2=i*2+1+1 by omega]
 rw [e,List.set_append_right _ _ (by omega),hm,Nat.sub_self,List.set_cons_zero,List.set_append_right _ _ (by omega),hm,Nat.add_sub_cancel_left,List.set_cons_succ,List.set_cons_zero,List.append_assoc]
 rfl
theorem okA_snoc {M:List Value} (h:okA M) (x:ByteArray) (y:Int):okA (M++[.string x,.int .i64 y]):=zbF h ⟨[(x,y)],rfl⟩
set_option maxHeartbeats 400000
def Rest (cs:Array Value):Prop:=∀ k,(k=3∨5≤k∧k≤16)→∀ i,i≤7→cs[4+9*k+i]?=some (.slice none 0 0)
theorem zai {w:World} {bb i j:Nat} {cs:Array Value} {v u:Value} (h:BkAt w bb cs) (hi:cs[i]?=some v) (hj:cs[j]?=some u):BkAt ((w.setCell ⟨bb,i,none⟩ v).setCell ⟨bb,j,none⟩ u) bb cs∧Below w.heap.size w ((w.setCell ⟨bb,i,none⟩ v).setCell ⟨bb,j,none⟩ u):=by
 have h2:=(h.same hi).same hj
 refine ⟨h2,rfl,rfl,rfl,by simp [World.setCell],fun k hk=>?_⟩
 by_cases e:k=bb
 · subst e;exact h2.trans h.symm
 · rw [Below.heap_setCell _ _ _ _ e,Below.heap_setCell _ _ _ _ e]
theorem markN3 (bb:Nat) (cs:Array Value) (w:World) (hB:BkAt w bb cs) (hr:Rest cs):Calls Tryz.prog 172 #[.pointer (some ⟨bb,0,none⟩)] w fun e w'=>e = .returned (.tuple #[])∧w'=w:=by
 have x2:w.cell? ⟨bb,33,none⟩=some (.slice none 0 0):=(za0 hB (hr 3 (by decide) 2 (by decide))).1
 have x3:w.cell? ⟨bb,34,none⟩=some (.slice none 0 0):=(za0 hB (hr 3 (by decide) 3 (by decide))).1
 have x5:w.cell? ⟨bb,36,none⟩=some (.slice none 0 0):=(za0 hB (hr 3 (by decide) 5 (by decide))).1
 have x6:w.cell? ⟨bb,37,none⟩=some (.slice none 0 0):=(za0 hB (hr 3 (by decide) 6 (by decide))).1
 clear hB hr
 go_enter Tryz.func172,Tryz.ntmps172
 go_wp2
 exact bodyPost_ret (results_none rfl _ _ _) rfl ⟨rfl,rfl⟩
theorem growN3 (bb:Nat) (cs:Array Value) (w:World) (hB:BkAt w bb cs) (hr:Rest cs):Calls Tryz.prog 189 #[.pointer (some ⟨bb,0,none⟩)] w fun e w'=>e = .returned (.tuple #[])∧BkAt w' bb cs∧Below w.heap.size w w':=by
 have r4:cs[35]?=some (.slice none 0 0):=hr 3 (by decide) 4 (by decide)
 have r7:cs[38]?=some (.slice none 0 0):=hr 3 (by decide) 7 (by decide)
 obtain ⟨x4,y4⟩:=za0 hB r4
 obtain ⟨x7,y7⟩:=za0 hB r7
 have HB:Hid (BkAt w bb cs∧cs[35]?=some (.slice none 0 0)∧cs[38]?=some (.slice none 0 0)):=⟨hB,r4,r7⟩
 clear hB hr r4 r7
 go_enter Tryz.func189,Tryz.ntmps189
 go_wp2
 go_loop [2] (fun i=>i = .int .i64 0) (fun _=>0)
 case atStart=>rfl
 case round =>
  subst hrel
  go_wp2
  go_end0
  exact ⟨rfl,zai HB.out.1 HB.out.2.1 HB.out.2.2⟩
theorem holdN3 (bb:Nat) (cs:Array Value) (w:World) (hB:BkAt w bb cs) (hr:Rest cs):Calls Tryz.prog 59 #[.pointer (some ⟨bb,0,none⟩)] w fun e w'=>e = .returned (.bool true)∧w'=w:=by
 have x0:w.cell? ⟨bb,31,none⟩=some (.slice none 0 0):=(za0 hB (hr 3 (by decide) 0 (by decide))).1
 have x2:w.cell? ⟨bb,33,none⟩=some (.slice none 0 0):=(za0 hB (hr 3 (by decide) 2 (by decide))).1
 clear hB hr
 go_enter Tryz.func59,Tryz.ntmps59
 go_wp2
 go_loop [3] (fun i=>i = .int .i64 0) (fun _=>0)
 case atStart=>rfl
 case round =>
  subst hrel
  go_wp2
  go_loop [4] (fun i=>i = .int .i64 0) (fun _=>0)
  case atStart=>rfl
  case round =>
   subst hrel
   go_wp2
   go_ret
   exact ⟨rfl,rfl⟩
theorem markN5 (bb:Nat) (cs:Array Value) (w:World) (hB:BkAt w bb cs) (hr:Rest cs):Calls Tryz.prog 174 #[.pointer (some ⟨bb,0,none⟩)] w fun e w'=>e = .returned (.tuple #[])∧w'=w:=by
 have x2:w.cell? ⟨bb,51,none⟩=some (.slice none 0 0):=(za0 hB (hr 5 (by decide) 2 (by decide))).1
 have x3:w.cell? ⟨bb,52,none⟩=some (.slice none 0 0):=(za0 hB (hr 5 (by decide) 3 (by decide))).1
 have x5:w.cell? ⟨bb,54,none⟩=some (.slice none 0 0):=(za0 hB (hr 5 (by decide) 5 (by decide))).1
 have x6:w.cell? ⟨bb,55,none⟩=some (.slice none 0 0):=(za0 hB (hr 5 (by decide) 6 (by decide))).1
 clear hB hr
 go_enter Tryz.func174,Tryz.ntmps174
 go_wp2
 exact bodyPost_ret (results_none rfl _ _ _) rfl ⟨rfl,rfl⟩
theorem growN5 (bb:Nat) (cs:Array Value) (w:World) (hB:BkAt w bb cs) (hr:Rest cs):Calls Tryz.prog 191 #[.pointer (some ⟨bb,0,none⟩)] w fun e w'=>e = .returned (.tuple #[])∧BkAt w' bb cs∧Below w.heap.size w w':=by
 have r4:cs[53]?=some (.slice none 0 0):=hr 5 (by decide) 4 (by decide)
 have r7:cs[56]?=some (.slice none 0 0):=hr 5 (by decide) 7 (by decide)
 obtain ⟨x4,y4⟩:=za0 hB r4
 obtain ⟨x7,y7⟩:=za0 hB r7
 have HB:Hid (BkAt w bb cs∧cs[53]?=some (.slice none 0 0)∧cs[56]?=some (.slice none 0 0)):=⟨hB,r4,r7⟩
 clear hB hr r4 r7
 go_enter Tryz.func191,Tryz.ntmps191
 go_wp2
 go_loop [2] (fun i=>i = .int .i64 0) (fun _=>0)
 case atStart=>rfl
 case round =>
  subst hrel
  go_wp2
  go_end0
  exact ⟨rfl,zai HB.out.1 HB.out.2.1 HB.out.2.2⟩
theorem holdN5 (bb:Nat) (cs:Array Value) (w:World) (hB:BkAt w bb cs) (hr:Rest cs):Calls Tryz.prog 61 #[.pointer (some ⟨bb,0,none⟩)] w fun e w'=>e = .returned (.bool true)∧w'=w:=by
 have x0:w.cell? ⟨bb,49,none⟩=some (.slice none 0 0):=(za0 hB (hr 5 (by decide) 0 (by decide))).1
 have x2:w.cell? ⟨bb,51,none⟩=some (.slice none 0 0):=(za0 hB (hr 5 (by decide) 2 (by decide))).1
 clear hB hr
 go_enter Tryz.func61,Tryz.ntmps61
 go_wp2
 go_loop [3] (fun i=>i = .int .i64 0) (fun _=>0)
 case atStart=>rfl
 case round =>
  subst hrel
  go_wp2
  go_loop [4] (fun i=>i = .int .i64 0) (fun _=>0)
  case atStart=>rfl
  case round =>
   subst hrel
   go_wp2
   go_ret
   exact ⟨rfl,rfl⟩
theorem markN6 (bb:Nat) (cs:Array Value) (w:World) (hB:BkAt w bb cs) (hr:Rest cs):Calls Tryz.prog 175 #[.pointer (some ⟨bb,0,none⟩)] w fun e w'=>e = .returned (.tuple #[])∧w'=w:=by
 have x2:w.cell? ⟨bb,60,none⟩=some (.slice none 0 0):=(za0 hB (hr 6 (by decide) 2 (by decide))).1
 have x3:w.cell? ⟨bb,61,none⟩=some (.slice none 0 0):=(za0 hB (hr 6 (by decide) 3 (by decide))).1
 have x5:w.cell? ⟨bb,63,none⟩=some (.slice none 0 0):=(za0 hB (hr 6 (by decide) 5 (by decide))).1
 have x6:w.cell? ⟨bb,64,none⟩=some (.slice none 0 0):=(za0 hB (hr 6 (by decide) 6 (by decide))).1
 clear hB hr
 go_enter Tryz.func175,Tryz.ntmps175
 go_wp2
 exact bodyPost_ret (results_none rfl _ _ _) rfl ⟨rfl,rfl⟩
theorem growN6 (bb:Nat) (cs:Array Value) (w:World) (hB:BkAt w bb cs) (hr:Rest cs):Calls Tryz.prog 192 #[.pointer (some ⟨bb,0,none⟩)] w fun e w'=>e = .returned (.tuple #[])∧BkAt w' bb cs∧Below w.heap.size w w':=by
 have r4:cs[62]?=some (.slice none 0 0):=hr 6 (by decide) 4 (by decide)
 have r7:cs[65]?=some (.slice none 0 0):=hr 6 (by decide) 7 (by decide)
 obtain ⟨x4,y4⟩:=za0 hB r4
 obtain ⟨x7,y7⟩:=za0 hB r7
 have HB:Hid (BkAt w bb cs∧cs[62]?=some (.slice none 0 0)∧cs[65]?=some (.slice none 0 0)):=⟨hB,r4,r7⟩
 clear hB hr r4 r7
 go_enter Tryz.func192,Tryz.ntmps192
 go_wp2
 go_loop [2] (fun i=>i = .int .i64 0) (fun _=>0)
 case atStart=>rfl
 case round =>
  subst hrel
  go_wp2
  go_end0
  exact ⟨rfl,zai HB.out.1 HB.out.2.1 HB.out.2.2⟩
theorem holdN6 (bb:Nat) (cs:Array Value) (w:World) (hB:BkAt w bb cs) (hr:Rest cs):Calls Tryz.prog 62 #[.pointer (some ⟨bb,0,none⟩)] w fun e w'=>e = .returned (.bool true)∧w'=w:=by
 have x0:w.cell? ⟨bb,58,none⟩=some (.slice none 0 0):=(za0 hB (hr 6 (by decide) 0 (by decide))).1
 have x2:w.cell? ⟨bb,60,none⟩=some (.slice none 0 0):=(za0 hB (hr 6 (by decide) 2 (by decide))).1
 clear hB hr
 go_enter Tryz.func62,Tryz.ntmps62
 go_wp2
 go_loop [3] (fun i=>i = .int .i64 0) (fun _=>0)
 case atStart=>rfl
 case round =>
  subst hrel
  go_wp2
  go_loop [4] (fun i=>i = .int .i64 0) (fun _=>0)
  case atStart=>rfl
  case round =>
   subst hrel
   go_wp2
   go_ret
   exact ⟨rfl,rfl⟩
theorem markN7 (bb:Nat) (cs:Array Value) (w:World) (hB:BkAt w bb cs) (hr:Rest cs):Calls Tryz.prog 176 #[.pointer (some ⟨bb,0,none⟩)] w fun e w'=>e = .returned (.tuple #[])∧w'=w:=by
 have x2:w.cell? ⟨bb,69,none⟩=some (.slice none 0 0):=(za0 hB (hr 7 (by decide) 2 (by decide))).1
 have x3:w.cell? ⟨bb,70,none⟩=some (.slice none 0 0):=(za0 hB (hr 7 (by decide) 3 (by decide))).1
 have x5:w.cell? ⟨bb,72,none⟩=some (.slice none 0 0):=(za0 hB (hr 7 (by decide) 5 (by decide))).1
 have x6:w.cell? ⟨bb,73,none⟩=some (.slice none 0 0):=(za0 hB (hr 7 (by decide) 6 (by decide))).1
 clear hB hr
 go_enter Tryz.func176,Tryz.ntmps176
 go_wp2
 exact bodyPost_ret (results_none rfl _ _ _) rfl ⟨rfl,rfl⟩
theorem growN7 (bb:Nat) (cs:Array Value) (w:World) (hB:BkAt w bb cs) (hr:Rest cs):Calls Tryz.prog 193 #[.pointer (some ⟨bb,0,none⟩)] w fun e w'=>e = .returned (.tuple #[])∧BkAt w' bb cs∧Below w.heap.size w w':=by
 have r4:cs[71]?=some (.slice none 0 0):=hr 7 (by decide) 4 (by decide)
 have r7:cs[74]?=some (.slice none 0 0):=hr 7 (by decide) 7 (by decide)
 obtain ⟨x4,y4⟩:=za0 hB r4
 obtain ⟨x7,y7⟩:=za0 hB r7
 have HB:Hid (BkAt w bb cs∧cs[71]?=some (.slice none 0 0)∧cs[74]?=some (.slice none 0 0)):=⟨hB,r4,r7⟩
 clear hB hr r4 r7
 go_enter Tryz.func193,Tryz.ntmps193
 go_wp2
 go_loop [2] (fun i=>i = .int .i64 0) (fun _=>0)
 case atStart=>rfl
 case round =>
  subst hrel
  go_wp2
  go_end0
  exact ⟨rfl,zai HB.out.1 HB.out.2.1 HB.out.2.2⟩
theorem holdN7 (bb:Nat) (cs:Array Value) (w:World) (hB:BkAt w bb cs) (hr:Rest cs):Calls Tryz.prog 63 #[.pointer (some ⟨bb,0,none⟩)] w fun e w'=>e = .returned (.bool true)∧w'=w:=by
 have x0:w.cell? ⟨bb,67,none⟩=some (.slice none 0 0):=(za0 hB (hr 7 (by decide) 0 (by decide))).1
 have x2:w.cell? ⟨bb,69,none⟩=some (.slice none 0 0):=(za0 hB (hr 7 (by decide) 2 (by decide))).1
 clear hB hr
 go_enter Tryz.func63,Tryz.ntmps63
 go_wp2
 go_loop [3] (fun i=>i = .int .i64 0) (fun _=>0)
 case atStart=>rfl
 case round =>
  subst hrel
  go_wp2
  go_loop [4] (fun i=>i = .int .i64 0) (fun _=>0)
  case atStart=>rfl
  case round =>
   subst hrel
   go_wp2
   go_ret
   exact ⟨rfl,rfl⟩
theorem markN8 (bb:Nat) (cs:Array Value) (w:World) (hB:BkAt w bb cs) (hr:Rest cs):Calls Tryz.prog 177 #[.pointer (some ⟨bb,0,none⟩)] w fun e w'=>e = .returned (.tuple #[])∧w'=w:=by
 have x2:w.cell? ⟨bb,78,none⟩=some (.slice none 0 0):=(za0 hB (hr 8 (by decide) 2 (by decide))).1
 have x3:w.cell? ⟨bb,79,none⟩=some (.slice none 0 0):=(za0 hB (hr 8 (by decide) 3 (by decide))).1
 have x5:w.cell? ⟨bb,81,none⟩=some (.slice none 0 0):=(za0 hB (hr 8 (by decide) 5 (by decide))).1
 have x6:w.cell? ⟨bb,82,none⟩=some (.slice none 0 0):=(za0 hB (hr 8 (by decide) 6 (by decide))).1
 clear hB hr
 go_enter Tryz.func177,Tryz.ntmps177
 go_wp2
 exact bodyPost_ret (results_none rfl _ _ _) rfl ⟨rfl,rfl⟩
theorem growN8 (bb:Nat) (cs:Array Value) (w:World) (hB:BkAt w bb cs) (hr:Rest cs):Calls Tryz.prog 194 #[.pointer (some ⟨bb,0,none⟩)] w fun e w'=>e = .returned (.tuple #[])∧BkAt w' bb cs∧Below w.heap.size w w':=by
 have r4:cs[80]?=some (.slice none 0 0):=hr 8 (by decide) 4 (by decide)
 have r7:cs[83]?=some (.slice none 0 0):=hr 8 (by decide) 7 (by decide)
 obtain ⟨x4,y4⟩:=za0 hB r4
 obtain ⟨x7,y7⟩:=za0 hB r7
 have HB:Hid (BkAt w bb cs∧cs[80]?=some (.slice none 0 0)∧cs[83]?=some (.slice none 0 0)):=⟨hB,r4,r7⟩
 clear hB hr r4 r7
 go_enter Tryz.func194,Tryz.ntmps194
 go_wp2
 go_loop [2] (fun i=>i = .int .i64 0) (fun _=>0)
 case atStart=>rfl
 case round =>
  subst hrel
  go_wp2
  go_end0
  exact ⟨rfl,zai HB.out.1 HB.out.2.1 HB.out.2.2⟩
theorem holdN8 (bb:Nat) (cs:Array Value) (w:World) (hB:BkAt w bb cs) (hr:Rest cs):Calls Tryz.prog 64 #[.pointer (some ⟨bb,0,none⟩)] w fun e w'=>e = .returned (.bool true)∧w'=w:=by
 have x0:w.cell? ⟨bb,76,none⟩=some (.slice none 0 0):=(za0 hB (hr 8 (by decide) 0 (by decide))).1
 have x2:w.cell? ⟨bb,78,none⟩=some (.slice none 0 0):=(za0 hB (hr 8 (by decide) 2 (by decide))).1
 clear hB hr
 go_enter Tryz.func64,Tryz.ntmps64
 go_wp2
 go_loop [3] (fun i=>i = .int .i64 0) (fun _=>0)
 case atStart=>rfl
 case round =>
  subst hrel
  go_wp2
  go_loop [4] (fun i=>i = .int .i64 0) (fun _=>0)
  case atStart=>rfl
  case round =>
   subst hrel
   go_wp2
   go_ret
   exact ⟨rfl,rfl⟩
end Go.Proofs.YtceigllifjgalaaGreatDoor.Bk
