import Derived.Test.YtceigllifjgalaaGreatDoorKra
import Derived.Test.YtceigllifjgalaaGreatDoorKsi
import Derived.Deep.CutRange
namespace Go.Proofs.YtceigllifjgalaaGreatDoor.Bk
open Go Go.RowKit
set_option linter.unusedSimpArgs false
set_option linter.unusedVariables false
set_option maxRecDepth 100000
set_option maxHeartbeats 4000000
theorem mark_kT (k0:Array Value) (bb B:Nat) (S:Nat→Prop) (D:Nat→Nat→Prop) (cs:Array Value) (rv:Nat→Value) (xs:Nat→List Value) (t deep seen:Int) (w0 w:World)
    (h:Bo kT k0 w0 w bb B S D cs rv xs t deep seen) (hB:B≤w.heap.size) (hl:(xs 0).length+(xs 2).length≤800000) (hI:ItS S w0) :
    Calls Tryz.prog 171 #[.pointer (some ⟨bb,0,none⟩)] w fun e w'=>e = .returned (.tuple #[])∧Mdone kT k0 w0 w' bb B S D xs t deep seen:=by
  have H0:=(show Hid (Bo kT k0 w0 w bb B S D cs rv xs t deep seen) from h)
  obtain ⟨hq,hm,⟨h4,h7,x4,x7⟩,hn,h5,h6⟩:=h
  have HQ:Hid (Bq kT k0 w0 w bb B S cs rv xs t deep seen):=hq
  have HM:Hid (Mi kT w0 w B bb rv S D (xs 2) (xs 3) 0 (xs 0) (xs 1) [] [] []):=hm
  have HX:Hid (rv 4 = .slice none 0 0∧rv 7 = .slice none 0 0∧xs 4=[]∧xs 7=[]):=⟨h4,h7,x4,x7⟩
  have HN:Hid (((xs 3).length=(xs 2).length∧(xs 5).length=(xs 2).length∧(xs 6).length=(xs 2).length)∧(∀ u ∈ xs 5,∃ m,u = .int .i64 m)∧(∀ u ∈ xs 6,∃ m,u = .int .i64 m)∧B≤w.heap.size∧(xs 0).length+(xs 2).length≤800000):=⟨hn,h5,h6,hB,hl⟩
  have HI0:Hid (ItS S w0):=hI
  clear hI
  obtain ⟨N,a2,k2,a3,k3,a5,k5,a6,k6,⟨c6,c7,c9,c10,z6,z7,z9,z10⟩,HE,HNN⟩:=H0.out.opened hl 24 25 27 28 rfl rfl rfl rfl
  clear hq hm h4 h7 x4 x7 hn h5 h6 hB hl
  go_enter Tryz.func171,Tryz.ntmps171
  by_cases h0:N=0
  · subst h0
    go_wp2_with fail
    exact bodyPost_ret (results_none rfl _ _ _) rfl ⟨rfl,H0.out.none_ HNN.out.1⟩
  · have h0':¬ ((N:Nat):Int)=0:=by omega
    have h0b:(((N:Nat):Int)==0)=false:=by simpa using h0
    go_wp2_with fail
    go_loopg [6] N (fun gg s6 wx=>∃ (k:Nat) (D':Nat→Nat→Prop) (cs':Array Value) (rv':Nat→Value) (xs':Nat→List Value),s6 = .int .i64 k∧k+gg=N∧Hid (Ms kT k0 w0 w wx bb B S rv xs cs' rv' xs' t deep seen)∧Hid (Mi kT w0 wx B bb rv' S D' (xs 2) (xs 3) k (xs' 0) (xs' 1) (xs' 2) (xs' 3) (xs' 4))∧Hid (∀ g j,D g j→D' g j)∧Hid (Mn xs xs' k))
    case atStart =>
      obtain ⟨cs',hs,hf⟩:=Ms.start HQ.out
      refine ⟨0,D,cs',_,_,rfl,by omega,hs,?_,fun _ _ q=>q,?_⟩
      · have:=HM.out.fv hf
        simpa [upd,HX.out.2.2.1,Hid] using this
      · exact ⟨by simp [upd],by simp [upd],by simp [upd,HX.out.2.2.1,HX.out.2.2.2],by simp [upd],by simp [upd],by simp [upd,HX.out.2.2.2],by simp [upd,HX.out.2.2.1],by simp [upd]⟩
    case round =>
      obtain ⟨k,D',cs',rv',xs',hs6,hk,MS,MI,DD,MN⟩:=hrel
      subst hs6
      clear c6 c7 c9 c10 z6 z7 z9 z10
      by_cases hlt:k<N
      · have p0:((k:Nat):Int)<(N:Int):=by omega
        have HK:Hid (k<N∧k+gk=N):=⟨hlt,hk⟩
        have h2:k<(xs 2).length:=by have:=HNN.out.1;omega
        obtain ⟨v,hv⟩:∃ v,(xs 2)[k]?=some v:=⟨_,List.getElem?_eq_getElem h2⟩
        obtain ⟨vn,hvn⟩:∃ v,(xs 3)[k]?=some v:=⟨_,List.getElem?_eq_getElem (by have:=HN.out.1.1;omega)⟩
        obtain ⟨vm,hvm⟩:∃ v,(xs 5)[k]?=some v:=⟨_,List.getElem?_eq_getElem (by have:=HN.out.1.2.1;omega)⟩
        obtain ⟨vd,hvd⟩:∃ v,(xs 6)[k]?=some v:=⟨_,List.getElem?_eq_getElem (by have:=HN.out.1.2.2;omega)⟩
        obtain ⟨mark,rfl⟩:=HN.out.2.1 vm (List.mem_of_getElem? hvm)
        obtain ⟨due,rfl⟩:=HN.out.2.2.1 vd (List.mem_of_getElem? hvd)
        have WT:=MI.out.rt k v vn (Nat.le_refl _) hv hvn
        obtain ⟨n,L,nb,nc,hn9,hvo,rfl,hnc,hnd,hLb⟩:=WT.ex
        obtain ⟨va,vc,rfl⟩:=own_sl hvo
        have o2:wr.ownsRow B 27 1 (.slice a2 (xs 2).length k2) (xs 2).length (xs 2):=by have:=MS.out.old 2 (.inl rfl);rw [HE.out.1,HNN.out.1] at this;exact this
        have o3:wr.ownsRow B 27 1 (.slice a3 (xs 3).length k3) (xs 3).length (xs 3):=by have:=MS.out.old 3 (.inr (.inl rfl));rw [HE.out.2.1,HNN.out.1,← HN.out.1.1] at this;exact this
        have o5:wr.ownsRow B 3 1 (.slice a5 (xs 5).length k5) (xs 5).length (xs 5):=by have:=MS.out.old 5 (.inr (.inr (.inl rfl)));rw [HE.out.2.2.1,HNN.out.1,← HN.out.1.2.1] at this;exact this
        have o6:wr.ownsRow B 3 1 (.slice a6 (xs 6).length k6) (xs 6).length (xs 6):=by have:=MS.out.old 6 (.inr (.inr (.inr rfl)));rw [HE.out.2.2.2,HNN.out.1,← HN.out.1.2.2] at this;exact this
        obtain ⟨g2,ea2,d2⟩:=zac o2 hv
        obtain ⟨g3,ea3,d3⟩:=zac o3 hvn
        obtain ⟨g5,ea5,d5⟩:=zac o5 hvm
        obtain ⟨g6,ea6,d6⟩:=zac o6 hvd
        subst ea2 ea3 ea5 ea6
        have ct:=(za0 MS.out.bq.br.at_ MS.out.bq.hd.turn).1
        have HV:Hid ((xs 2)[k]?=some (.slice va n vc)∧(xs 3)[k]?=some (.slice nb n nc)∧n≤1900000∧wr.ownsRow B 9 1 (.slice va n vc) n L∧CL kT wr nb n nc L∧Kd.ok kT L∧Wt kT wr B bb rv' D' (.slice va n vc) (.slice nb n nc)):=⟨hv,hvn,hn9,hvo,hnc,hLb,WT⟩
        have HV6:Hid ((xs 6)[k]?=some (.int .i64 due)):=hvd
        clear hv hvn hvm hvd WT hn9 hvo hnc hnd hLb o2 o3 o5 o6 h2 hlt hk
        go_upto_region 11 with fail
        go_cut [63] from 41 to 188 (fun s63 wx=>s63 = .bool (decide (t<due))∧Hid (Below wr.heap.size wr wx))
        case first =>
          go_quiet (fail)
          go_wp2_with fail
          go_meet
          exact ⟨rfl,below_drewN (Below.refl _ _) _⟩
        case rest =>
          obtain ⟨Wc,rfl⟩:∃ W,W=wc:=⟨_,rfl⟩
          obtain ⟨hs63,BC⟩:=hcut
          subst hs63
          have MC:=(show Hid (Ms kT k0 w0 w Wc bb B S rv xs cs' rv' xs' t deep seen) from MS.out.below BC.out)
          have MIC:=(show Hid (Mi kT w0 Wc B bb rv' S D' (xs 2) (xs 3) k (xs' 0) (xs' 1) (xs' 2) (xs' 3) (xs' 4)) from MI.out.fv (Fv.below BC.out))
          skip
          clear d2 d3 d5 d6 ct
          have ct:=(za0 MC.out.bq.br.at_ MC.out.bq.hd.turn).1
          by_cases hd:t<due
          · have hdd:decide (t<due)=true:=by simp [hd]
            have ccp:Wc.cell? ⟨bb,24,none⟩=some (rv' 2):=(MC.out.bq.br.cell 2 (by decide)).1
            have ALp:Hid (Below Wc.heap.size Wc (Wc.alloc (.cells #[.slice va n vc] 27))):=(Below.refl _ _).alloc (Nat.le_refl _) _
            have BAp:Hid (BR kT (Wc.alloc (.cells #[.slice va n vc] 27)) bb B cs' rv' xs'):=MC.out.bq.br.below ALp.out
            go_wp2_with (first | (at_builtin;refine za3 kT_ok rfl (.tmp 68) (.tmp 70) 35 rfl BAp.out 2 (by decide) Tryz.underlying35 rfl Wc.heap.size (.slice va n vc) rfl (heap_alloc_new Wc _) rfl (by have:=MN.out.l24;have:=HK.out.1;have:=HNN.out.2;omega) (by have:=MC.out.sz;have:=HN.out.2.2.2.1;simp;omega) ?_) | fail)
            intro vp wp pu
            obtain ⟨ap,np,kp,rfl,cwp,zwp,Wp,hWp,csp,rvp,xsp,Mp,Xp⟩:=MC.out.pushed ALp.out (by decide) 24 rfl pu
            clear pu
            clear ccp
            go_upto_region 13 with fail
            rw [← hWp]
            clear hWp cwp zwp
            have d3:=(show Wp.cell? ⟨g3,k,none⟩=some (.slice nb n nc) from zan Mp.out.1 (.inr (.inl rfl)) HE.out.2.1 (HNN.out.1.trans HN.out.1.1.symm) HV.out.2.1)
            have ccq:Wp.cell? ⟨bb,25,none⟩=some (rvp 3):=(Mp.out.1.bq.br.cell 3 (by decide)).1
            have ALq:Hid (Below Wp.heap.size Wp (Wp.alloc (.cells #[.slice nb n nc] 27)).drew):=((Below.refl _ _).alloc (Nat.le_refl _) _).drew
            have BAq:Hid (BR kT (Wp.alloc (.cells #[.slice nb n nc] 27)).drew bb B csp rvp xsp):=Mp.out.1.bq.br.below ALq.out
            have caq:(Wp.alloc (.cells #[.slice nb n nc] 27)).drew.cell? ⟨bb,25,none⟩=some (rvp 3):=cell_later ALq.out ccq
            have HEq:=(show Hid ((Wp.alloc (.cells #[.slice nb n nc] 27)).drew.heap[Wp.heap.size]?=some (.cells #[.slice nb n nc] 27 (0,0))) from heap_alloc_new Wp _)
            go_cut [] from 41 to 188 (fun wx=>∃ (c:Array Value) (r:Nat→Value) (y:Nat→List Value),Hid (Ms kT k0 w0 w wx bb B S rv xs c r y t deep seen∧Fv bb Wp rvp wx r)∧Hid (y=upd xsp 3 (xsp 3++[.slice nb n nc])))
            case first =>
              first | go_region_law (first | (refine za6 kT_ok rfl (.tmp 78) (.tmp 83) 35 rfl BAq.out 3 (by decide) Tryz.underlying35 rfl Wp.heap.size (.slice nb n nc) rfl HEq.out rfl (by rw [Xp.out,upd_ne _ _ (by decide)];have:=MN.out.l24;have:=MIC.out.wl;have:=HK.out.1;have:=HNN.out.2;omega) (by have:=Mp.out.1.sz;have:=HN.out.2.2.2.1;simp [World.drew];omega) ?_;intro vq wq pu;have PUq:=(show Hid (Pu kT _ wq bb B csp rvp xsp 3 (.slice nb n nc) vq) from pu);obtain ⟨aq,nq,kq,hvq⟩:=pu.sl;clear pu;subst hvq;have cwq:wq.cell? ⟨bb,25,none⟩=some (rvp 3):=(za0 PUq.out.bk (Mp.out.1.bq.br.fld 3 (by decide))).1;have zwq:wq.frozen? ⟨bb,25,none⟩=false:=(za0 PUq.out.bk (Mp.out.1.bq.br.fld 3 (by decide))).2) | go_simp) | fail
              all_goals
                go_wp2_with fail
                go_meet
                case rel=>exact ⟨_,_,_,Mp.out.1.push1 ALq.out (by decide) PUq.out,(show _=_ from rfl)⟩
            case rest =>
              clear ccq BAq caq HEq ALq
              obtain ⟨Wq,rfl⟩:∃ W,W=wc:=⟨_,rfl⟩
              obtain ⟨csq,rvq,xsq,Mq,Xq⟩:=hcut
              clear d3
              have ccr:Wq.cell? ⟨bb,27,none⟩=some (rvq 5):=(Mq.out.1.bq.br.cell 5 (by decide)).1
              have ALr:Hid (Below Wq.heap.size Wq (Wq.alloc (.cells #[.int .i64 mark] 3))):=(Below.refl _ _).alloc (Nat.le_refl _) _
              have BAr:Hid (BR kT (Wq.alloc (.cells #[.int .i64 mark] 3)) bb B csq rvq xsq):=Mq.out.1.bq.br.below ALr.out
              go_wp2_with (first | (at_builtin;refine za3 kT_ok rfl (.tmp 91) (.tmp 93) 26 rfl BAr.out 5 (by decide) Tryz.underlying26 rfl Wq.heap.size (.int .i64 mark) rfl (heap_alloc_new Wq _) rfl (by rw [Xq.out,upd_ne _ _ (by decide),Xp.out,upd_ne _ _ (by decide)];have:=MN.out.l24;have:=MN.out.m5;have:=HK.out.1;have:=HNN.out.2;omega) (by have:=Mq.out.1.sz;have:=HN.out.2.2.2.1;simp;omega) ?_) | fail)
              intro vr wr pu
              obtain ⟨ar,nr,kr,rfl,cwr,zwr,Wr,hWr,csr,rvr,xsr,Mr,Xr⟩:=Mq.out.1.pushed ALr.out (by decide) 27 rfl pu
              clear pu
              clear ccr
              go_upto_region 15 with fail
              rw [← hWr]
              clear hWr cwr zwr
              have d6:=(show Wr.cell? ⟨g6,k,none⟩=some (.int .i64 due) from zan Mr.out.1 (.inr (.inr (.inr rfl))) HE.out.2.2.2 (HNN.out.1.trans HN.out.1.2.2.symm) HV6.out)
              have ccy:Wr.cell? ⟨bb,28,none⟩=some (rvr 6):=(Mr.out.1.bq.br.cell 6 (by decide)).1
              have ALy:Hid (Below Wr.heap.size Wr (Wr.alloc (.cells #[.int .i64 due] 3)).drew):=((Below.refl _ _).alloc (Nat.le_refl _) _).drew
              have BAy:Hid (BR kT (Wr.alloc (.cells #[.int .i64 due] 3)).drew bb B csr rvr xsr):=Mr.out.1.bq.br.below ALy.out
              have cay:(Wr.alloc (.cells #[.int .i64 due] 3)).drew.cell? ⟨bb,28,none⟩=some (rvr 6):=cell_later ALy.out ccy
              have HEy:=(show Hid ((Wr.alloc (.cells #[.int .i64 due] 3)).drew.heap[Wr.heap.size]?=some (.cells #[.int .i64 due] 3 (0,0))) from heap_alloc_new Wr _)
              go_cut [] from 41 to 188 (fun wx=>∃ (c:Array Value) (r:Nat→Value) (y:Nat→List Value),Hid (Ms kT k0 w0 w wx bb B S rv xs c r y t deep seen∧Fv bb Wr rvr wx r)∧Hid (y=upd xsr 6 (xsr 6++[.int .i64 due])))
              case first =>
                first | go_region_law (first | (refine za6 kT_ok rfl (.tmp 101) (.tmp 106) 26 rfl BAy.out 6 (by decide) Tryz.underlying26 rfl Wr.heap.size (.int .i64 due) rfl HEy.out rfl (by rw [Xr.out,upd_ne _ _ (by decide),Xq.out,upd_ne _ _ (by decide),Xp.out,upd_ne _ _ (by decide)];have:=MN.out.l24;have:=MN.out.m6;have:=HK.out.1;have:=HNN.out.2;omega) (by have:=Mr.out.1.sz;have:=HN.out.2.2.2.1;simp [World.drew];omega) ?_;intro vy wy pu;have PUy:=(show Hid (Pu kT _ wy bb B csr rvr xsr 6 (.int .i64 due) vy) from pu);obtain ⟨ay,ny,ky,hvy⟩:=pu.sl;clear pu;subst hvy;have cwy:wy.cell? ⟨bb,28,none⟩=some (rvr 6):=(za0 PUy.out.bk (Mr.out.1.bq.br.fld 6 (by decide))).1;have zwy:wy.frozen? ⟨bb,28,none⟩=false:=(za0 PUy.out.bk (Mr.out.1.bq.br.fld 6 (by decide))).2) | go_simp) | fail
                all_goals
                  go_wp2_with fail
                  go_meet
                  case rel=>exact ⟨_,_,_,Mr.out.1.push1 ALy.out (by decide) PUy.out,(show _=_ from rfl)⟩
              case rest =>
                clear ccy BAy cay HEy ALy
                obtain ⟨Wy,rfl⟩:∃ W,W=wc:=⟨_,rfl⟩
                obtain ⟨csy,rvy,xsy,My,Xy⟩:=hcut
                clear d6
                have hwk:IntKind.i64.wrap ((k:Int)+1)=((k+1:Nat):Int):=by have:=HNN.out.2;have:=HK.out.1;rw [IntKind.wrap_i64];omega
                have FV:=(show Hid (Fv bb Wc rv' Wy rvy) from ((Mp.out.2.trans Mq.out.2).trans Mr.out.2).trans My.out.2)
                have MY:=(show Hid (Ms kT k0 w0 w Wy bb B S rv xs csy rvy xsy t deep seen) from My.out.1)
                skip
                have FIN:Hid (Mi kT w0 Wy B bb rvy S D' (xs 2) (xs 3) (k+1) (xsy 0) (xsy 1) (xsy 2) (xsy 3) (xsy 4))∧Hid (Mn xs xsy (k+1)):=by
                  have EX:xsy=upd (upd (upd (upd xs' 2 (xs' 2++[.slice va n vc])) 3 (xs' 3++[.slice nb n nc])) 5 (xs' 5++[.int .i64 mark])) 6 (xs' 6++[.int .i64 due]):=by
                    rw [Xy.out,Xr.out,Xq.out,Xp.out]
                    simp [upd]
                  have h1:=(MIC.out.fv FV.out).wait HV.out.1 HV.out.2.1
                  exact ⟨by rw [EX];simpa [upd,Hid] using h1,MN.out.wait EX⟩
                obtain ⟨FI1,FI2⟩:=FIN
                go_wp2_with fail
                go_roundg (N-(k+1))
                all_goals first | (have:=HK.out;omega) | exact ⟨k+1,D',_,_,_,rfl,by have:=HK.out.1;omega,MY,FI1,DD,FI2⟩ | exact ⟨k+1,D',_,_,_,by simp,by have:=HK.out.1;omega,MY,FI1,DD,FI2⟩
          · have hdd:decide (t<due)=false:=by simp [hd]
            have c0:=(za0 MC.out.bq.br.at_ MC.out.bq.hd.now).1
            have c1:=(za0 MC.out.bq.br.at_ MC.out.bq.hd.bad).1
            have z1:=(za0 MC.out.bq.br.at_ MC.out.bq.hd.bad).2
            have d3:=(show Wc.cell? ⟨g3,k,none⟩=some (.slice nb n nc) from zan MC.out (.inr (.inl rfl)) HE.out.2.1 (HNN.out.1.trans HN.out.1.1.symm) HV.out.2.1)
            have OV:=(show Hid (Wc.ownsRow B 9 1 (.slice va n vc) n L) from za7 HV.out.2.2.2.1 (fun q e=>BC.out.block q (HV.out.2.2.2.1.lt q e).2))
            have SB:=(show Hid (Calls Tryz.prog 117 #[.slice va n vc,.slice nb n nc] Wc fun e w'=>e = .returned (.bool true)∧Below Wc.heap.size Wc w') from zbE va nb n vc nc L Wc (zaa OV.out) (HV.out.2.2.2.2.1.below BC.out) HV.out.2.2.2.2.2.1 (by have:=HV.out.2.2.1;omega))
            go_wp2_with fail
            go_must (go_at_call 117)
            refine SB.out.mono ?_
            rintro e We ⟨rfl,he⟩
            have BE:=(show Hid (Below Wc.heap.size Wc We) from he)
            have c1e:=(show We.cell? ⟨bb,1,none⟩=some (.bool false) from cell_later he c1)
            have z1e:=(show We.frozen? ⟨bb,1,none⟩=false from (za0 (MC.out.bq.br.at_.kept he) MC.out.bq.hd.bad).2)
            clear he c1 z1
            obtain ⟨Wd,hWd⟩:∃ W,W=We.setCell ⟨bb,1,none⟩ (.bool false):=⟨_,rfl⟩
            obtain ⟨csd,MD⟩:∃ c,Hid (Ms kT k0 w0 w Wd bb B S rv xs c rv' xs' t deep seen∧Fv bb Wc rv' Wd rv'):=⟨_,(by show _∧_;rw [hWd];exact ⟨((MC.out.below BE.out).step ((MC.out.below BE.out).bq.other 1 (.inl (by decide)) (.bool false) (MC.out.bq.hd.badly)) (Fv.set _ _)),(Fv.below BE.out).trans (Fv.set _ _)⟩)⟩
            have MID:=(show Hid (Mi kT w0 Wd B bb rv' S D' (xs 2) (xs 3) k (xs' 0) (xs' 1) (xs' 2) (xs' 3) (xs' 4)) from MIC.out.fv MD.out.2)
            have VO:=(show Hid (∀ g,(Value.slice va n vc).ownBlock=some g→Off bb rv' g∧(S g∨w0.heap.size≤g)∧Off bb rv g) from fun g e=>⟨(HV.out.2.2.2.2.2.2.off g e).2,MI.out.ins _ (.inl (List.mem_of_getElem? HV.out.1)) g e,((HM.out.rt k _ _ (Nat.zero_le _) HV.out.1 HV.out.2.1).off g e).2⟩)
            have OD:=(show Hid (Wd.ownsRow B 9 1 (.slice va n vc) n L) from za7 OV.out (fun q e=>MD.out.2.keep q (OV.out.lt q e).2 (VO.out q e).1))
            have NN:=(show Hid (n≤1900000∧L.length=n*1) from ⟨HV.out.2.2.1,OV.out.1⟩)
            skip
            go_wp2_with fail
            rw [← hWd]
            clear hWd c0 c1e z1e d3 ct
            go_loopg [9] n (fun gg s9 wy=>∃ (i:Nat) (M:List Value),s9 = .int .i64 i∧i+gg=n∧Hid (wy.ownsRow B 9 1 (.slice va n vc) n (M++L.drop (i*1)))∧Hid (M.length=i*1∧Kd.ok kT M)∧Hid (Ch (fun q=>(Value.slice va n vc).ownBlock=some q) Wd wy)∧Hid (Ms kT k0 w0 w wy bb B S rv xs csd rv' xs' t deep seen))
            case atStart=>exact ⟨0,[],rfl,by omega,by simpa [Hid] using OD.out,⟨rfl,(fun u hu=>by cases hu)⟩,Ch.refl _ _,MD.out.1⟩
            case round =>
              obtain ⟨i,M,hs9,hi,OI,HMI,CI,MSI⟩:=hrel
              subst hs9
              by_cases hin:i<n
              · have q0:(i:Int)<(n:Int):=by omega
                have HI:Hid (i<n∧i+gk=n):=⟨hin,hi⟩
                obtain ⟨gv,hva⟩:∃ gv,va=some ⟨gv,0,none⟩:=by
                  rcases OI.out.2 with ⟨q,h0⟩|⟨g,cap,cur,q,_⟩
                  · omega
                  · injection q with q1;exact ⟨g,q1⟩
                subst hva
                have hwi:IntKind.i64.wrap ((i:Int)+1)=((i+1:Nat):Int):=by have:=HI.out.1;have:=NN.out.1;rw [IntKind.wrap_i64];omega
                have IT:Hid (Ito wr):=HI0.out _ MSI.out.bq.ch
                clear hin hi
                go_wp2_with fail
                go_must (go_at_call 249)
                refine (IT.out _ ?b0 ?b1).mono ?_
                case b0=>first | (unfold wrap64;omega)|(rw [IntKind.wrap_i64];omega)
                case b1=>first | (unfold wrap64;omega)|(rw [IntKind.wrap_i64];omega)
                rintro e wi ⟨⟨x,rfl⟩,hbi⟩
                have OJ:=(show Hid (wi.ownsRow B 9 1 (.slice (some ⟨gv,0,none⟩) n vc) n (M++L.drop (i*1))) from za7 OI.out (fun q e=>hbi.block q (OI.out.lt q e).2))
                have MSJ:=(show Hid (Ms kT k0 w0 w wi bb B S rv xs csd rv' xs' t deep seen) from MSI.out.below hbi)
                have CJ:=(show Hid (Ch (fun q=>(Value.slice (some ⟨gv,0,none⟩) n vc).ownBlock=some q) Wd wi) from Ch.trans (S':=fun _=>False) CI.out (Below.ch hbi) (fun _ _ q=>q.elim))
                clear hbi
                have y1:=OJ.out.cellAt i (by have:=HI.out.1;omega)
                have y2:=OJ.out.frozenAt i
                have yl:(M++L.drop (i*1))[i]?=some ((M++L.drop (i*1))[i]'(by have:=HMI.out.1;have:=NN.out.2;have:=HI.out.1;simp;omega)):=List.getElem?_eq_getElem _
                rw [yl] at y1
                generalize (M++L.drop (i*1))[i]'(by have:=HMI.out.1;have:=NN.out.2;have:=HI.out.1;simp;omega)=y0 at y1
                clear yl
                have OI2:=(show Hid ((wi.setCell ⟨gv,i,none⟩ (.string x)).ownsRow B 9 1 (.slice (some ⟨gv,0,none⟩) n vc) n ((M++[.string x])++L.drop ((i+1)*1))) from (by
                  have h:=(OJ.out.stored i (.string x)).1
                  have hm:=HMI.out.1
                  have hl:=NN.out.2
                  have hi:=HI.out.1
                  have e:(M++L.drop (i*1)).set i (.string x)=(M++[.string x])++L.drop ((i+1)*1):=by
                    rw [Nat.mul_one,Nat.mul_one] at *
                    rw [List.set_append_right _ _ (by omega),hm,Nat.sub_self,List.drop_eq_getElem_cons (by omega:i<L.length),List.set_cons_zero,List.append_assoc]
                    rfl
                  rw [e] at h
                  exact h))
                have MS2:=(show Hid (Ms kT k0 w0 w (wi.setCell ⟨gv,i,none⟩ (.string x)) bb B S rv xs csd rv' xs' t deep seen) from MSJ.out.aside (ch_set gv _ _) (fun g q=>by subst q;exact VO.out g rfl))
                have CI2:=(show Hid (Ch (fun q=>(Value.slice (some ⟨gv,0,none⟩) n vc).ownBlock=some q) Wd (wi.setCell ⟨gv,i,none⟩ (.string x))) from Ch.trans (S':=fun q=>q=gv) CJ.out (ch_set gv _ _) (fun j _ q=>by subst q;rfl))
                have HM3:=(show Hid ((M++[(.string x:Value)]).length=(i+1)*1∧Kd.ok kT (M++[(.string x:Value)])) from ⟨by have:=HMI.out.1;simp;omega,fun u hu=>by rcases List.mem_append.1 hu with hu | hu;exact HMI.out.2 u hu;simp at hu;exact ⟨_,hu⟩⟩)
                go_wp2_with fail
                go_roundg (n-(i+1))
                all_goals first | (have:=HI.out;omega) | exact ⟨i+1,M++[.string x],rfl,by have:=HI.out.1;omega,OI2,HM3,CI2,MS2⟩ | exact ⟨i+1,M++[.string x],by simp,by have:=HI.out.1;omega,OI2,HM3,CI2,MS2⟩
              · have hin':i=n:=by omega
                subst hin'
                have q0:¬ (i:Int)<(i:Int):=by omega
                obtain ⟨Wl,hWl⟩:∃ W,W=wr:=⟨_,rfl⟩
                subst hWl
                have OL:=(show Hid (Wl.ownsRow B 9 1 (.slice va i vc) i M) from (by have h:=OI.out;rw [List.drop_eq_nil_of_le (by rw [NN.out.2];exact Nat.le_refl _),List.append_nil] at h;exact h))
                have HM2:=(show Hid (Kd.ok kT M) from HMI.out.2)
                clear hin hi
                have cco:Wl.cell? ⟨bb,22,none⟩=some (rv' 0):=(MSI.out.bq.br.cell 0 (by decide)).1
                have ALo:Hid (Below Wl.heap.size Wl (Wl.alloc (.cells #[.slice va i vc] 27))):=(Below.refl _ _).alloc (Nat.le_refl _) _
                have BAo:Hid (BR kT (Wl.alloc (.cells #[.slice va i vc] 27)) bb B csd rv' xs'):=MSI.out.bq.br.below ALo.out
                go_wp2_with (first | (at_builtin;refine za3 kT_ok rfl (.tmp 151) (.tmp 153) 35 rfl BAo.out 0 (by decide) Tryz.underlying35 rfl Wl.heap.size (.slice va i vc) rfl (heap_alloc_new Wl _) rfl (by have:=MN.out.l04;have:=MN.out.l24;have:=HK.out.1;have:=HNN.out;have:=HN.out.2.2.2.2;omega) (by have:=MSI.out.sz;have:=HN.out.2.2.2.1;simp;omega) ?_) | fail)
                intro vo wo pu
                obtain ⟨ao,no,ko,rfl,cwo,zwo,Wo,hWo,cso,rvo,xso,Mo,Xo⟩:=MSI.out.pushed ALo.out (by decide) 22 rfl pu
                clear pu
                clear cco
                go_upto_region 22 with fail
                rw [← hWo]
                clear hWo cwo zwo
                have CLo:=(show Hid (CL kT Wo va i vc M) from zaa (za7 OL.out (fun q e=>Mo.out.2.keep q (OL.out.lt q e).2 (VO.out q e).1)))
                have HX3:=(show Hid (xso 1=xs' 1) from (by show _=_;rw [Xo.out,upd_ne _ _ (by decide)]))
                have c7o:Wo.cell? ⟨bb,23,none⟩=some (rvo 1):=(Mo.out.1.bq.br.cell 1 (by decide)).1
                have BA3:Hid (Below Wo.heap.size Wo (Wo.alloc (.cells #[] 9)).drew):=((Below.refl _ _).alloc (Nat.le_refl _) _).drew
                have c7a:(Wo.alloc (.cells #[] 9)).drew.cell? ⟨bb,23,none⟩=some (rvo 1):=cell_later BA3.out c7o
                have HEo:Hid ((Wo.alloc (.cells #[] 9)).drew.heap[Wo.heap.size]?=some (.cells #[] 9 (0,0))):=heap_alloc_new Wo _
                have HC3:Hid (CL kT (Wo.alloc (.cells #[] 9)).drew va i vc M):=CLo.out.below BA3.out
                have N15:Hid (i≤2000000):=by have:=NN.out.1;show _≤_;omega
                have LT:Hid ((xso 1).length≤1000000):=by show _≤_;rw [HX3.out];have:=MIC.out.pd.1;have:=MN.out.l04;have:=MN.out.l24;have:=HK.out.1;have:=HNN.out;have:=HN.out.2.2.2.2;omega
                have BW:Hid (B≤Wo.heap.size):=by have:=Mo.out.1.sz;have:=HN.out.2.2.2.1;show _≤_;omega
                go_cut [] from 41 to 188 (fun wx=>∃ (a4:Option Addr) (k4:Nat) (c:Array Value) (r:Nat→Value) (y:Nat→List Value),Hid (Ms kT k0 w0 w wx bb B S rv xs c r y t deep seen∧Fv bb Wo rvo wx r)∧Hid (y=upd xso 1 (xso 1++[.slice a4 i k4]))∧Hid (Nl kT bb r Wl wx a4 i k4 M))
                case first =>
                  first | go_region_law (first | (refine zah kT_ok rfl (.tmp 162) (.tmp 163) rfl rfl BA3.out HEo.out va i vc M rfl HC3.out HM2.out N15.out ?_;intro v4 w4 cp;have CP4:Hid (Cp kT Wo w4 i M v4):=cp;obtain ⟨a4,k4,hv4,_⟩:=cp.sl;clear cp;subst hv4;have c7b:w4.cell? ⟨bb,23,none⟩=some (rvo 1):=cell_later CP4.out.be c7o;have AL4:Hid (Below Wo.heap.size Wo (w4.alloc (.cells #[.slice a4 i k4] 27))):=CP4.out.be.alloc CP4.out.be.size _;have BR4a:Hid (BR kT (w4.alloc (.cells #[.slice a4 i k4] 27)) bb B cso rvo xso):=Mo.out.1.bq.br.below AL4.out;have c7c:(w4.alloc (.cells #[.slice a4 i k4] 27)).cell? ⟨bb,23,none⟩=some (rvo 1):=cell_later AL4.out c7o)|(refine za6 kT_ok rfl (.tmp 161) (.tmp 165) 35 rfl BR4a.out 1 (by decide) Tryz.underlying35 rfl w4.heap.size (.slice a4 i k4) rfl (heap_alloc_new w4 _) rfl LT.out (by have h1:=CP4.out.be.size;have:=BW.out;simp;omega) ?_;intro v5 w5 pu5;have PU5:Hid (Pu kT (w4.alloc (.cells #[.slice a4 i k4] 27)) w5 bb B cso rvo xso 1 (.slice a4 i k4) v5):=pu5;obtain ⟨a5,n5,k5,hv5⟩:=pu5.sl;clear pu5;subst hv5;have c7d:w5.cell? ⟨bb,23,none⟩=some (rvo 1):=(za0 PU5.out.bk (BR4a.out.fld 1 (by decide))).1;have z7d:w5.frozen? ⟨bb,23,none⟩=false:=(za0 PU5.out.bk (BR4a.out.fld 1 (by decide))).2) | go_simp) | fail
                  all_goals
                    go_wp2_with fail
                    go_meet
                    case rel =>
                      have N4:Nl kT bb rvo Wo w4 a4 i k4 M:=CP4.out.nl Mo.out.1.bq.br
                      have F4:Fv bb w4 rvo _ _:=(Fv.below ((Below.refl w4.heap.size w4).alloc (Nat.le_refl _) _)).trans (PU5.out.fv (by decide))
                      exact ⟨a4,k4,_,_,_,Mo.out.1.push1 AL4.out (by decide) PU5.out,(show _=_ from rfl),(N4.fv F4).old Mo.out.2.sz⟩
                case rest =>
                  clear c7o BA3 c7a HEo HC3
                  obtain ⟨Wt,rfl⟩:∃ W,W=wc:=⟨_,rfl⟩
                  obtain ⟨a4,k4,cst,rvt,xst,Mt,Xt,Nt⟩:=hcut
                  obtain ⟨DD2,MI2,DD3⟩:∃ D2,Hid (Mi kT w0 Wt B bb rvt S D2 (xs 2) (xs 3) (k+1) (xs' 0++[.slice va i vc]) (xs' 1++[.slice a4 i k4]) (xs' 2) (xs' 3) (xs' 4++[.slice va i vc]))∧Hid (∀ g j,D g j→D2 g j):=by
                    obtain ⟨D2,h1,h2⟩:=MID.out.fresh HV.out.1 HV.out.2.1 HN.out.1.1.symm OL.out HM2.out NN.out.1 CI.out Nt.out (Mo.out.2.trans Mt.out.2) MSI.out.bq.ch.size
                    exact ⟨D2,h1,fun g j q=>h2 g j (DD.out g j q)⟩
                  have EX4:=(show Hid (xst=upd (upd xs' 0 (xs' 0++[.slice va i vc])) 1 (xs' 1++[.slice a4 i k4])) from (by show _=_;rw [Xt.out,HX3.out,Xo.out]))
                  have ccf:Wt.cell? ⟨bb,26,none⟩=some (rvt 4):=(Mt.out.1.bq.br.cell 4 (by decide)).1
                  have ALf:Hid (Below Wt.heap.size Wt (Wt.alloc (.cells #[.slice va i vc] 27))):=(Below.refl _ _).alloc (Nat.le_refl _) _
                  have BAf:Hid (BR kT (Wt.alloc (.cells #[.slice va i vc] 27)) bb B cst rvt xst):=Mt.out.1.bq.br.below ALf.out
                  go_wp2_with (first | (at_builtin;refine za3 kT_ok rfl (.tmp 173) (.tmp 175) 35 rfl BAf.out 4 (by decide) Tryz.underlying35 rfl Wt.heap.size (.slice va i vc) rfl (heap_alloc_new Wt _) rfl (by rw [EX4.out,upd_ne _ _ (by decide),upd_ne _ _ (by decide)];have:=MN.out.l24;have:=HK.out.1;have:=HNN.out.2;omega) (by have:=Mt.out.1.sz;have:=HN.out.2.2.2.1;simp;omega) ?_) | fail)
                  intro vf wf pu
                  obtain ⟨af,nf,kf,rfl,cwf,zwf,Wf,hWf,csf,rvf,xsf,Mf,Xf⟩:=Mt.out.1.pushed ALf.out (by decide) 26 rfl pu
                  clear pu
                  clear ccf
                  go_upto_region 24 with fail
                  rw [← hWf]
                  clear hWf cwf zwf
                  have cch:Wf.cell? ⟨bb,29,none⟩=some (rvf 7):=(Mf.out.1.bq.br.cell 7 (by decide)).1
                  have ALh:Hid (Below Wf.heap.size Wf (Wf.alloc (.cells #[.int .i64 mark] 3))):=(Below.refl _ _).alloc (Nat.le_refl _) _
                  have BAh:Hid (BR kT (Wf.alloc (.cells #[.int .i64 mark] 3)) bb B csf rvf xsf):=Mf.out.1.bq.br.below ALh.out
                  go_wp2_with (first | (at_builtin;refine za3 kT_ok rfl (.tmp 183) (.tmp 185) 26 rfl BAh.out 7 (by decide) Tryz.underlying26 rfl Wf.heap.size (.int .i64 mark) rfl (heap_alloc_new Wf _) rfl (by rw [Xf.out,upd_ne _ _ (by decide)];rw [EX4.out,upd_ne _ _ (by decide),upd_ne _ _ (by decide)];have:=MN.out.l24;have:=MN.out.m7;have:=HK.out.1;have:=HNN.out.2;omega) (by have:=Mf.out.1.sz;have:=HN.out.2.2.2.1;simp;omega) ?_) | fail)
                  intro vh wh pu
                  obtain ⟨ah,nh,kh,rfl,cwh,zwh,Wh,hWh,csh,rvh,xsh,Mh,Xh⟩:=Mf.out.1.pushed ALh.out (by decide) 29 rfl pu
                  clear pu
                  clear cch
                  have hwk:IntKind.i64.wrap ((k:Int)+1)=((k+1:Nat):Int):=by have:=HNN.out.2;have:=HK.out.1;rw [IntKind.wrap_i64];omega
                  skip
                  have FIN:Hid (Mi kT w0 Wh B bb rvh S DD2 (xs 2) (xs 3) (k+1) (xsh 0) (xsh 1) (xsh 2) (xsh 3) (xsh 4))∧Hid (Mn xs xsh (k+1))∧Hid (Ms kT k0 w0 w Wh bb B S rv xs csh rvh xsh t deep seen):=by
                    have EX:xsh=upd (upd (upd (upd xs' 0 (xs' 0++[.slice va i vc])) 1 (xs' 1++[.slice a4 i k4])) 4 (xs' 4++[.slice va i vc])) 7 (xs' 7++[.int .i64 mark]):=by
                      rw [Xh.out,Xf.out,EX4.out]
                      simp [upd]
                    have h1:=(MI2.out.fv Mf.out.2).fv Mh.out.2
                    exact ⟨by rw [EX];simpa [upd,Hid] using h1,MN.out.seen EX,Mh.out.1⟩
                  obtain ⟨FI1,FI2,FI3⟩:=FIN
                  subst hWh
                  go_wp2_with fail
                  go_roundg (N-(k+1))
                  all_goals first | (have:=HK.out;omega) | exact ⟨k+1,DD2,_,_,_,rfl,by have:=HK.out.1;omega,FI3,FI1,DD3,FI2⟩ | exact ⟨k+1,DD2,_,_,_,by simp,by have:=HK.out.1;omega,FI3,FI1,DD3,FI2⟩
      · have hk0:k=N:=by omega
        subst hk0
        have p0:¬ ((k:Nat):Int)<(k:Int):=by omega
        go_wp2_with fail
        go_end0
        refine ⟨rfl,D',cs',rv',xs',MS.out.bq,?_,DD.out,?_⟩
        · have:=MI.out;rw [HNN.out.1] at this;exact this
        · have:=MN.out;rw [HNN.out.1] at this;exact this
end Go.Proofs.YtceigllifjgalaaGreatDoor.Bk
