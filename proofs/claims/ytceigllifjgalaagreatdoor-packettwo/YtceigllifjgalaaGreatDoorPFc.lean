import Derived.Test.YtceigllifjgalaaGreatDoorPRi
namespace Go.Proofs.YtceigllifjgalaaGreatDoor.Pkt
open Go Go.RowKit Go.Sort
set_option linter.unusedSimpArgs false
set_option linter.unusedVariables false
set_option maxRecDepth 100000
set_option maxHeartbeats 8000000
theorem zb0 (t t':ByteArray) (q q':Int) (r r':Bool) (s s':Sl) (z z':Nat→Int) (w:World) (h:By w s z) (h':By w s' z') (hm:s.n≤1000000) :
    Calls Tryz.prog 40 #[.agg #[.string t,.slice s.a s.n s.c,.int .i64 q,.bool r],.agg #[.string t',.slice s'.a s'.n s'.c,.int .i64 q',.bool r']] w fun e w'=>e = .returned (.bool (hdEq t t' q q' r r' && bEq z s.n z' s'.n))∧Below w.heap.size w w':=by
  have HC:Hid (∀ w',Below w.heap.size w w'→Calls Tryz.prog 41 #[.slice s.a s.n s.c,.slice s'.a s'.n s'.c] w' fun e w''=>e = .returned (.bool (bEq z s.n z' s'.n))∧Below w'.heap.size w' w''):=fun w' hb=>zaQ s s' z z' w' (h.below hb) (h'.below hb) hm
  generalize bEq z s.n z' s'.n=m at HC
  clear h h' hm
  cases h1:(t.toList==t'.toList)
  · have HN:Hid ((hdEq t t' q q' r r' && m)=false):=by show _=_;simp [hdEq,h1]
    go_enter Tryz.func40,Tryz.ntmps40
    go_wp2
    go_ret
    exact ⟨by rw [HN.out];rfl,below2 _ _ _⟩
  cases h2:(q==q')
  · have HN:Hid ((hdEq t t' q q' r r' && m)=false):=by show _=_;simp [hdEq,h2]
    go_enter Tryz.func40,Tryz.ntmps40
    go_wp2
    go_ret
    exact ⟨by rw [HN.out];rfl,below2 _ _ _⟩
  by_cases h3:r=r'
  rotate_left
  · have HN:Hid ((hdEq t t' q q' r r' && m)=false):=by show _=_;have e:(r==r')=false:=(by simpa using h3);simp [hdEq,e]
    go_enter Tryz.func40,Tryz.ntmps40
    cases r <;> cases r' <;> first | exact absurd rfl h3 | (clear h3;go_wp2;go_ret;exact ⟨by rw [HN.out];rfl,below2 _ _ _⟩)
  subst h3
  have HN:Hid ((hdEq t t' q q' r r && m)=m):=by show _=_;simp [hdEq,h1,h2]
  go_enter Tryz.func40,Tryz.ntmps40
  go_wp2_with fail
  go_must (go_at_call 41)
  refine (HC.out _ (below2 _ _ _)).mono ?_
  rintro e w1 ⟨rfl,hb⟩
  have B1:Hid (Below w.heap.size w w1):=(below2 w _ _).trans (hb.mono (below2 w _ _).size)
  clear hb
  go_wp2
  go_ret
  exact ⟨by rw [HN.out];rfl,B1.out⟩
theorem zaM (p q:Pk) (c d:Cn) (w:World) (ha:In w p c) (hb:In w q d) (hs:Small p c) :
    Calls Tryz.prog 11 #[.agg (pkCells p),.agg (pkCells q)] w fun e w'=>e = .returned (.bool (sm p c q d))∧Below w.heap.size w w':=by
  have HA:Hid (In w p c):=ha
  have HB:Hid (In w q d):=hb
  have HS:Hid (Small p c):=hs
  have LA:Hid (p.asks.n≤1000000∧p.codes.n≤1000000∧p.filters.n≤1000000):=⟨hs.an,hs.cn,hs.fn⟩
  clear ha hb hs
  obtain ⟨P,hP⟩:∃ P,P=pkCells p:=⟨_,rfl⟩
  obtain ⟨Q,hQ⟩:∃ Q,Q=pkCells q:=⟨_,rfl⟩
  rw [← hP,← hQ]
  have HP:Hid (P=pkCells p):=hP
  have HQ:Hid (Q=pkCells q):=hQ
  clear hP hQ
  obtain ⟨V,hV⟩:∃ V,V=w.alloc (.cells P 29):=⟨_,rfl⟩
  obtain ⟨W,hW⟩:∃ W,W=V.alloc (.cells Q 29):=⟨_,rfl⟩
  obtain ⟨g,hg⟩:∃ g,g=w.heap.size+1:=⟨_,rfl⟩
  have hgV:g=V.heap.size:=by rw [hg,hV];simp
  have bV:Hid (Below w.heap.size w V):=zag hV
  have bW:Hid (Below V.heap.size V W):=zag hW
  have b0:Hid (Below w.heap.size w W):=bV.out.trans (bW.out.mono bV.out.size)
  have FA:Hid (∀ k v,(pkCells p)[k]?=some v→∀ w',Below W.heap.size W w'→w'.cell? ⟨w.heap.size,k,none⟩=some v):=fun k v h w' hb=>cell_later hb (cell_later bW.out (by rw [hV];exact zb2 w P 29 k v (by rw [HP.out];exact h)))
  have FB:Hid (∀ k v,(pkCells q)[k]?=some v→∀ w',Below W.heap.size W w'→w'.cell? ⟨g,k,none⟩=some v):=fun k v h w' hb=>cell_later hb (by rw [hgV,hW];exact zb2 V Q 29 k v (by rw [HQ.out];exact h))
  have BW:Hid (∀ w',Below W.heap.size W w'→Below w.heap.size w w'):=fun w' hb=>b0.out.trans (hb.mono b0.out.size)
  have R0:Hid (Below W.heap.size W W):=Below.refl _ _
  obtain ⟨res,hres⟩:∃ r,r=sm p c q d:=⟨_,rfl⟩
  have HR:Hid (res=sm p c q d):=hres
  rw [← hres]
  clear hres
  go_enter Tryz.func11,Tryz.ntmps11
  go_upto_region 1 with fail
  rw [← hV,← hg,← hW]
  clear hV hW hg hgV
  have c0:=FA.out 0 (.int .i64 p.kind) rfl W R0.out
  have d0:=FB.out 0 (.int .i64 q.kind) rfl W R0.out
  have c1:=FA.out 1 (.int .i64 p.level) rfl W R0.out
  have d1:=FB.out 1 (.int .i64 q.level) rfl W R0.out
  have c2:=FA.out 2 (.bool p.clean) rfl W R0.out
  have d2:=FB.out 2 (.bool q.clean) rfl W R0.out
  have c3:=FA.out 3 (.int .i64 p.keep) rfl W R0.out
  have d3:=FB.out 3 (.int .i64 q.keep) rfl W R0.out
  have c4:=FA.out 4 (.string p.client) rfl W R0.out
  have d4:=FB.out 4 (.string q.client) rfl W R0.out
  have c5:=FA.out 5 (.bool p.hasWill) rfl W R0.out
  have d5:=FB.out 5 (.bool q.hasWill) rfl W R0.out
  have c10:=FA.out 10 (.bool p.hasUser) rfl W R0.out
  have d10:=FB.out 10 (.bool q.hasUser) rfl W R0.out
  have c11:=FA.out 11 (.string p.user) rfl W R0.out
  have d11:=FB.out 11 (.string q.user) rfl W R0.out
  have c12:=FA.out 12 (.bool p.hasPass) rfl W R0.out
  have d12:=FB.out 12 (.bool q.hasPass) rfl W R0.out
  cases h0:(p.kind==q.kind)
  · have HN:Hid (res=false):=by show _=_;rw [HR.out];simp [sm,plEq,h0]
    have k0:(p.kind != q.kind)=true:=by simp [bne,h0]
    clear h0
    go_wp2
    go_ret
    exact ⟨by rw [HN.out];rfl,BW.out _ R0.out⟩
  have k0:(p.kind != q.kind)=false:=by simp [bne,h0]
  have H0:Hid ((p.kind==q.kind)=true):=h0
  clear h0
  cases h1:(p.level==q.level)
  · have HN:Hid (res=false):=by show _=_;rw [HR.out];simp [sm,plEq,h1]
    have k1:(p.level != q.level)=true:=by simp [bne,h1]
    clear h1
    go_wp2
    go_ret
    exact ⟨by rw [HN.out];rfl,BW.out _ R0.out⟩
  have k1:(p.level != q.level)=false:=by simp [bne,h1]
  have H1:Hid ((p.level==q.level)=true):=h1
  clear h1
  obtain ⟨x2,hx⟩:∃ b,p.clean=b:=⟨_,rfl⟩
  obtain ⟨y2,hy⟩:∃ b,q.clean=b:=⟨_,rfl⟩
  rw [hx] at c2
  rw [hy] at d2
  by_cases h2:x2=y2
  rotate_left
  · have HN:Hid (res=false):=by show _=_;rw [HR.out];have e:(p.clean==q.clean)=false:=(by rw [hx,hy];simpa using h2);simp [sm,plEq,e]
    clear hx hy
    cases x2 <;> cases y2 <;> first | exact absurd rfl h2 | (clear h2;go_wp2;go_ret;exact ⟨by rw [HN.out];rfl,BW.out _ R0.out⟩)
  have H2:Hid ((p.clean==q.clean)=true):=by show _=_;rw [hx,hy,h2];simp
  clear hx hy
  subst h2
  cases h3:(p.keep==q.keep)
  · have HN:Hid (res=false):=by show _=_;rw [HR.out];simp [sm,plEq,h3]
    have k3:(p.keep != q.keep)=true:=by simp [bne,h3]
    clear h3
    go_wp2
    go_ret
    exact ⟨by rw [HN.out];rfl,BW.out _ R0.out⟩
  have k3:(p.keep != q.keep)=false:=by simp [bne,h3]
  have H3:Hid ((p.keep==q.keep)=true):=h3
  clear h3
  cases h4:(p.client.toList==q.client.toList)
  · have HN:Hid (res=false):=by show _=_;rw [HR.out];simp [sm,plEq,h4]
    go_wp2
    go_ret
    exact ⟨by rw [HN.out];rfl,BW.out _ R0.out⟩
  have H4:Hid ((p.client.toList==q.client.toList)=true):=h4
  obtain ⟨x5,hx⟩:∃ b,p.hasWill=b:=⟨_,rfl⟩
  obtain ⟨y5,hy⟩:∃ b,q.hasWill=b:=⟨_,rfl⟩
  rw [hx] at c5
  rw [hy] at d5
  by_cases h5:x5=y5
  rotate_left
  · have HN:Hid (res=false):=by show _=_;rw [HR.out];have e:(p.hasWill==q.hasWill)=false:=(by rw [hx,hy];simpa using h5);simp [sm,plEq,e]
    clear hx hy
    cases x5 <;> cases y5 <;> first | exact absurd rfl h5 | (clear h5;go_wp2;go_ret;exact ⟨by rw [HN.out];rfl,BW.out _ R0.out⟩)
  have H5:Hid ((p.hasWill==q.hasWill)=true):=by show _=_;rw [hx,hy,h5];simp
  clear hx hy
  subst h5
  obtain ⟨x10,hx⟩:∃ b,p.hasUser=b:=⟨_,rfl⟩
  obtain ⟨y10,hy⟩:∃ b,q.hasUser=b:=⟨_,rfl⟩
  rw [hx] at c10
  rw [hy] at d10
  by_cases h10:x10=y10
  rotate_left
  · have HN:Hid (res=false):=by show _=_;rw [HR.out];have e:(p.hasUser==q.hasUser)=false:=(by rw [hx,hy];simpa using h10);simp [sm,plEq,e]
    clear hx hy
    cases x10 <;> cases y10 <;> first | exact absurd rfl h10 | (clear h10;go_wp2;go_ret;exact ⟨by rw [HN.out];rfl,BW.out _ R0.out⟩)
  have H10:Hid ((p.hasUser==q.hasUser)=true):=by show _=_;rw [hx,hy,h10];simp
  clear hx hy
  subst h10
  cases h11:(p.user.toList==q.user.toList)
  · have HN:Hid (res=false):=by show _=_;rw [HR.out];simp [sm,plEq,h11]
    go_wp2
    go_ret
    exact ⟨by rw [HN.out];rfl,BW.out _ R0.out⟩
  have H11:Hid ((p.user.toList==q.user.toList)=true):=h11
  obtain ⟨x12,hx⟩:∃ b,p.hasPass=b:=⟨_,rfl⟩
  obtain ⟨y12,hy⟩:∃ b,q.hasPass=b:=⟨_,rfl⟩
  rw [hx] at c12
  rw [hy] at d12
  by_cases h12:x12=y12
  rotate_left
  · have HN:Hid (res=false):=by show _=_;rw [HR.out];have e:(p.hasPass==q.hasPass)=false:=(by rw [hx,hy];simpa using h12);simp [sm,plEq,e]
    clear hx hy
    cases x12 <;> cases y12 <;> first | exact absurd rfl h12 | (clear h12;go_wp2;go_ret;exact ⟨by rw [HN.out];rfl,BW.out _ R0.out⟩)
  have H12:Hid ((p.hasPass==q.hasPass)=true):=by show _=_;rw [hx,hy,h12];simp
  clear hx hy
  subst h12
  go_upto_region 3 with fail
  clear c0 d0 k0 c1 d1 k1 c2 d2  c3 d3 k3 c4 d4 h4 c5 d5  c10 d10  c11 d11 h11 c12 d12
  have c14:=FA.out 14 (.bool p.present) rfl W R0.out
  have d14:=FB.out 14 (.bool q.present) rfl W R0.out
  have c15:=FA.out 15 (.int .i64 p.code) rfl W R0.out
  have d15:=FB.out 15 (.int .i64 q.code) rfl W R0.out
  have c16:=FA.out 16 (.bool p.dup) rfl W R0.out
  have d16:=FB.out 16 (.bool q.dup) rfl W R0.out
  have c21:=FA.out 21 (.int .i64 p.id) rfl W R0.out
  have d21:=FB.out 21 (.int .i64 q.id) rfl W R0.out
  obtain ⟨x14,hx⟩:∃ b,p.present=b:=⟨_,rfl⟩
  obtain ⟨y14,hy⟩:∃ b,q.present=b:=⟨_,rfl⟩
  rw [hx] at c14
  rw [hy] at d14
  by_cases h14:x14=y14
  rotate_left
  · have HN:Hid (res=false):=by show _=_;rw [HR.out];have e:(p.present==q.present)=false:=(by rw [hx,hy];simpa using h14);simp [sm,plEq,e]
    clear hx hy
    cases x14 <;> cases y14 <;> first | exact absurd rfl h14 | (clear h14;go_wp2;go_ret;exact ⟨by rw [HN.out];rfl,BW.out _ R0.out⟩)
  have H14:Hid ((p.present==q.present)=true):=by show _=_;rw [hx,hy,h14];simp
  clear hx hy
  subst h14
  cases h15:(p.code==q.code)
  · have HN:Hid (res=false):=by show _=_;rw [HR.out];simp [sm,plEq,h15]
    have k15:(p.code != q.code)=true:=by simp [bne,h15]
    clear h15
    go_wp2
    go_ret
    exact ⟨by rw [HN.out];rfl,BW.out _ R0.out⟩
  have k15:(p.code != q.code)=false:=by simp [bne,h15]
  have H15:Hid ((p.code==q.code)=true):=h15
  clear h15
  obtain ⟨x16,hx⟩:∃ b,p.dup=b:=⟨_,rfl⟩
  obtain ⟨y16,hy⟩:∃ b,q.dup=b:=⟨_,rfl⟩
  rw [hx] at c16
  rw [hy] at d16
  by_cases h16:x16=y16
  rotate_left
  · have HN:Hid (res=false):=by show _=_;rw [HR.out];have e:(p.dup==q.dup)=false:=(by rw [hx,hy];simpa using h16);simp [sm,plEq,e]
    clear hx hy
    cases x16 <;> cases y16 <;> first | exact absurd rfl h16 | (clear h16;go_wp2;go_ret;exact ⟨by rw [HN.out];rfl,BW.out _ R0.out⟩)
  have H16:Hid ((p.dup==q.dup)=true):=by show _=_;rw [hx,hy,h16];simp
  clear hx hy
  subst h16
  cases h21:(p.id==q.id)
  · have HN:Hid (res=false):=by show _=_;rw [HR.out];simp [sm,plEq,h21]
    have k21:(p.id != q.id)=true:=by simp [bne,h21]
    clear h21
    go_wp2
    go_ret
    exact ⟨by rw [HN.out];rfl,BW.out _ R0.out⟩
  have k21:(p.id != q.id)=false:=by simp [bne,h21]
  have H21:Hid ((p.id==q.id)=true):=h21
  clear h21
  have c6:=FA.out 6 (.string p.wT) rfl W R0.out
  have d6:=FB.out 6 (.string q.wT) rfl W R0.out
  have c7:=FA.out 7 (.slice p.wP.a p.wP.n p.wP.c) rfl W R0.out
  have d7:=FB.out 7 (.slice q.wP.a q.wP.n q.wP.c) rfl W R0.out
  have c8:=FA.out 8 (.int .i64 p.wQ) rfl W R0.out
  have d8:=FB.out 8 (.int .i64 q.wQ) rfl W R0.out
  have c9:=FA.out 9 (.bool p.wR) rfl W R0.out
  have d9:=FB.out 9 (.bool q.wR) rfl W R0.out
  have M1:=hidp (zb0 p.wT q.wT p.wQ q.wQ p.wR q.wR p.wP q.wP c.wz d.wz W (HA.out.wP.below b0.out) (HB.out.wP.below b0.out) HS.out.wp)
  obtain ⟨m1,hm1⟩:∃ m,m=(hdEq p.wT q.wT p.wQ q.wQ p.wR q.wR && bEq c.wz p.wP.n d.wz q.wP.n):=⟨_,rfl⟩
  rw [← hm1] at M1
  have E1:Hid (m1=(hdEq p.wT q.wT p.wQ q.wQ p.wR q.wR && bEq c.wz p.wP.n d.wz q.wP.n)):=hm1
  clear hm1
  go_wp2_with fail
  go_must (go_at_call 40)
  refine M1.out.mono ?_
  rintro e w1 ⟨rfl,hb⟩
  have B1:Hid (Below W.heap.size W w1):=hb
  clear hb M1 c14 d14 c15 d15 k15 c16 d16 c21 d21 k21 c6 d6 c7 d7 c8 d8 c9 d9
  cases m1
  · have HN:Hid (res=false):=by
      show _=_
      rw [HR.out]
      have e:=E1.out.symm
      rw [Bool.and_eq_false_iff] at e
      rcases e with e | e <;> simp [sm,plEq,e]
    go_wp2
    go_ret
    exact ⟨by rw [HN.out];rfl,BW.out _ B1.out⟩
  have c17:=FA.out 17 (.string p.mT) rfl w1 B1.out
  have d17:=FB.out 17 (.string q.mT) rfl w1 B1.out
  have c18:=FA.out 18 (.slice p.mP.a p.mP.n p.mP.c) rfl w1 B1.out
  have d18:=FB.out 18 (.slice q.mP.a q.mP.n q.mP.c) rfl w1 B1.out
  have c19:=FA.out 19 (.int .i64 p.mQ) rfl w1 B1.out
  have d19:=FB.out 19 (.int .i64 q.mQ) rfl w1 B1.out
  have c20:=FA.out 20 (.bool p.mR) rfl w1 B1.out
  have d20:=FB.out 20 (.bool q.mR) rfl w1 B1.out
  have M2:=hidp (zb0 p.mT q.mT p.mQ q.mQ p.mR q.mR p.mP q.mP c.mz d.mz w1 (HA.out.mP.below (BW.out _ B1.out)) (HB.out.mP.below (BW.out _ B1.out)) HS.out.mp)
  obtain ⟨m2,hm2⟩:∃ m,m=(hdEq p.mT q.mT p.mQ q.mQ p.mR q.mR && bEq c.mz p.mP.n d.mz q.mP.n):=⟨_,rfl⟩
  rw [← hm2] at M2
  have E2:Hid (m2=(hdEq p.mT q.mT p.mQ q.mQ p.mR q.mR && bEq c.mz p.mP.n d.mz q.mP.n)):=hm2
  clear hm2
  go_wp2_with fail
  go_must (go_at_call 40)
  refine M2.out.mono ?_
  rintro e w2 ⟨rfl,hb⟩
  have B2:Hid (Below W.heap.size W w2):=B1.out.trans (hb.mono B1.out.size)
  clear hb M2 c17 d17 c18 d18 c19 d19 c20 d20
  cases m2
  · have HN:Hid (res=false):=by
      show _=_
      rw [HR.out]
      have e:=E2.out.symm
      rw [Bool.and_eq_false_iff] at e
      rcases e with e | e <;> simp [sm,plEq,e]
    go_wp2
    go_ret
    exact ⟨by rw [HN.out];rfl,BW.out _ B2.out⟩
  have c13:=FA.out 13 (.slice p.pass.a p.pass.n p.pass.c) rfl w2 B2.out
  have d13:=FB.out 13 (.slice q.pass.a q.pass.n q.pass.c) rfl w2 B2.out
  have M3:=hidp (zaQ p.pass q.pass c.pz d.pz w2 (HA.out.pass.below (BW.out _ B2.out)) (HB.out.pass.below (BW.out _ B2.out)) HS.out.ps)
  obtain ⟨m3,hm3⟩:∃ m,m=bEq c.pz p.pass.n d.pz q.pass.n:=⟨_,rfl⟩
  rw [← hm3] at M3
  have E3:Hid (m3=bEq c.pz p.pass.n d.pz q.pass.n):=hm3
  clear hm3
  go_wp2_with fail
  go_must (go_at_call 41)
  refine M3.out.mono ?_
  rintro e w3 ⟨rfl,hb⟩
  have B3:Hid (Below W.heap.size W w3):=B2.out.trans (hb.mono B2.out.size)
  clear hb M3 c13 d13
  cases m3
  · have HN:Hid (res=false):=by
      show _=_
      rw [HR.out]
      simp [sm,← E3.out]
    go_wp2
    go_ret
    exact ⟨by rw [HN.out];rfl,BW.out _ B3.out⟩
  have HPL:Hid (plEq p q=true∧bEq c.wz p.wP.n d.wz q.wP.n=true∧bEq c.pz p.pass.n d.pz q.pass.n=true∧bEq c.mz p.mP.n d.mz q.mP.n=true):=by
    have e1:=E1.out.symm
    have e2:=E2.out.symm
    rw [Bool.and_eq_true] at e1 e2
    exact ⟨by simp [plEq,H0.out,H1.out,H2.out,H3.out,H4.out,H5.out,H10.out,H11.out,H12.out,H14.out,H15.out,H16.out,H21.out,e1.1,e2.1],e1.2,E3.out.symm,e2.2⟩
  clear H0 H1 H2 H3 H4 H5 H10 H11 H12 H14 H15 H16 H21 E1 E2 E3
  have c22:=FA.out 22 (.slice p.asks.a p.asks.n p.asks.c) rfl w3 B3.out
  have d22:=FB.out 22 (.slice q.asks.a q.asks.n q.asks.c) rfl w3 B3.out
  have c23:=FA.out 23 (.slice p.codes.a p.codes.n p.codes.c) rfl w3 B3.out
  have d23:=FB.out 23 (.slice q.codes.a q.codes.n q.codes.c) rfl w3 B3.out
  have c24:=FA.out 24 (.slice p.filters.a p.filters.n p.filters.c) rfl w3 B3.out
  have d24:=FB.out 24 (.slice q.filters.a q.filters.n q.filters.c) rfl w3 B3.out
  by_cases n22:p.asks.n=q.asks.n
  rotate_left
  · have HN:Hid (res=false):=by
      show _=_
      rw [HR.out]
      simp [sm,aEq,n22]
    have k22:((p.asks.n:Int) != q.asks.n)=true:=by simp;omega
    go_wp2
    go_ret
    exact ⟨by rw [HN.out];rfl,BW.out _ B3.out⟩
  have N22:Hid (p.asks.n=q.asks.n):=n22
  have k22:((p.asks.n:Int) != q.asks.n)=false:=by simp;omega
  clear n22
  by_cases n23:p.codes.n=q.codes.n
  rotate_left
  · have HN:Hid (res=false):=by
      show _=_
      rw [HR.out]
      simp [sm,iEq,n23]
    have k23:((p.codes.n:Int) != q.codes.n)=true:=by simp;omega
    go_wp2
    go_ret
    exact ⟨by rw [HN.out];rfl,BW.out _ B3.out⟩
  have N23:Hid (p.codes.n=q.codes.n):=n23
  have k23:((p.codes.n:Int) != q.codes.n)=false:=by simp;omega
  clear n23
  by_cases n24:p.filters.n=q.filters.n
  rotate_left
  · have HN:Hid (res=false):=by
      show _=_
      rw [HR.out]
      simp [sm,tEq,n24]
    have k24:((p.filters.n:Int) != q.filters.n)=true:=by simp;omega
    go_wp2
    go_ret
    exact ⟨by rw [HN.out];rfl,BW.out _ B3.out⟩
  have N24:Hid (p.filters.n=q.filters.n):=n24
  have k24:((p.filters.n:Int) != q.filters.n)=false:=by simp;omega
  clear n24
  go_wp2_with fail
  clear c22 d22 k22 c23 d23 k23 c24 d24 k24
  go_loopg [5] p.asks.n (fun gg sx wx=>∃ (k:Nat),sx = .int .i64 k∧k+gg=p.asks.n∧Hid (Below W.heap.size W wx)∧Hid (∀ i,i<k→c.af i=d.af i∧c.aq i=d.aq i))
  case atStart=>exact ⟨0,rfl,by omega,B3,fun i hi=>absurd hi (Nat.not_lt_zero _)⟩
  case round =>
    obtain ⟨k,rfl,hkg,B5,S22⟩:=hrel
    have c22:=FA.out 22 (.slice p.asks.a p.asks.n p.asks.c) rfl _ B5.out
    have d22:=FB.out 22 (.slice q.asks.a q.asks.n q.asks.c) rfl _ B5.out
    rw [← N22.out] at d22
    by_cases hk:k<p.asks.n
    · have hk':(k:Int)<p.asks.n:=by omega
      obtain ⟨b,off,he,hc⟩:∃ b off,p.asks.a=some ⟨b,off,none⟩∧∀ i,i<p.asks.n→(w.cell? ⟨b,off+i*2,none⟩=some (.string (c.af i))∧w.cell? ⟨b,off+i*2+1,none⟩=some (.int .i64 (c.aq i))):=by
        rcases (HA.out.asks).2 with h | h
        · omega
        · exact h
      obtain ⟨b',off',he',hc'⟩:∃ b off,q.asks.a=some ⟨b,off,none⟩∧∀ i,i<q.asks.n→(w.cell? ⟨b,off+i*2,none⟩=some (.string (d.af i))∧w.cell? ⟨b,off+i*2+1,none⟩=some (.int .i64 (d.aq i))):=by
        rcases (HB.out.asks).2 with h | h
        · have h':=N22.out
          omega
        · exact h
      have hac:p.asks.n≤p.asks.c:=HA.out.asks.1
      have hac':p.asks.n≤q.asks.c:=by rw [N22.out];exact HB.out.asks.1
      rw [he] at c22
      rw [he'] at d22
      have hk2:k<q.asks.n:=by rw [← N22.out];exact hk
      have e0:=cell_later (BW.out _ B5.out) (hc k hk).1
      have e1:=cell_later (BW.out _ B5.out) (hc k hk).2
      have f0:=cell_later (BW.out _ B5.out) (hc' k hk2).1
      have f1:=cell_later (BW.out _ B5.out) (hc' k hk2).2
      have EQ:=zb8 (c.af k) (d.af k) (c.aq k) (d.aq k)
      have EG:Tryz.prog.eqGuardType Tryz.prog.depth 98=false:=by kernel_rfl
      clear he he' hc hc' hk2
      have hlim:=LA.out
      obtain ⟨gg,hgg⟩:∃ gg,gk=gg+1:=⟨gk-1,by omega⟩
      by_cases hB:c.af k=d.af k∧c.aq k=d.aq k
      · have t0:((c.af k).toList==(d.af k).toList && c.aq k==d.aq k)=true:=by rw [hB.1,hB.2];simp
        rw [t0] at EQ
        have HN:Hid (∀ i,i<k+1→c.af i=d.af i∧c.aq i=d.aq i):=fun i hi=>by
          by_cases hik:i<k
          · exact S22.out i hik
          · obtain rfl:i=k:=by omega
            exact hB
        clear hB
        clear t0
        go_wp2_with fail
        go_region
        all_goals
          go_wp2
          go_roundg gg
          case measure=>omega
          case rel=>exact ⟨k+1,by first | rfl | simp,by omega,by first | exact B5 | exact B5.out.drew,HN⟩
      · have t0:((c.af k).toList==(d.af k).toList && c.aq k==d.aq k)=false:=Bool.eq_false_iff.2 fun h=>by rw [Bool.and_eq_true] at h;exact hB ⟨str_eq h.1,by simpa using h.2⟩
        rw [t0] at EQ
        have HN:Hid (res=false):=by
          show _=_
          rw [HR.out]
          have:aEq c.af c.aq p.asks.n d.af d.aq q.asks.n=false:=decide_eq_false fun hh=>hB (hh.2 k hk)
          simp [sm,this]
        clear hB
        clear t0
        go_wp2_with fail
        go_region
        all_goals
          go_wp2
          go_ret
          first | exact ⟨by rw [HN.out];rfl,BW.out _ B5.out⟩ | exact ⟨by rw [HN.out];rfl,BW.out _ B5.out.drew⟩
    · obtain rfl:k=p.asks.n:=by omega
      have hk':¬ (p.asks.n:Int)<p.asks.n:=by omega
      go_wp2_with fail
      clear c22 d22 hk hk'
      go_loopg [6] p.codes.n (fun gg sx wx=>∃ (k:Nat),sx = .int .i64 k∧k+gg=p.codes.n∧Hid (Below W.heap.size W wx)∧Hid (∀ i,i<k→c.cs i=d.cs i))
      case atStart=>exact ⟨0,rfl,by omega,B5,fun i hi=>absurd hi (Nat.not_lt_zero _)⟩
      case round =>
        obtain ⟨k,rfl,hkg,B6,S23⟩:=hrel
        have c23:=FA.out 23 (.slice p.codes.a p.codes.n p.codes.c) rfl _ B6.out
        have d23:=FB.out 23 (.slice q.codes.a q.codes.n q.codes.c) rfl _ B6.out
        rw [← N23.out] at d23
        by_cases hk:k<p.codes.n
        · have hk':(k:Int)<p.codes.n:=by omega
          obtain ⟨b,off,he,hc⟩:∃ b off,p.codes.a=some ⟨b,off,none⟩∧∀ i,i<p.codes.n→w.cell? ⟨b,off+i,none⟩=some (.int .i64 (c.cs i)):=by
            rcases (HA.out.codes).2 with h | h
            · omega
            · exact h
          obtain ⟨b',off',he',hc'⟩:∃ b off,q.codes.a=some ⟨b,off,none⟩∧∀ i,i<q.codes.n→w.cell? ⟨b,off+i,none⟩=some (.int .i64 (d.cs i)):=by
            rcases (HB.out.codes).2 with h | h
            · have h':=N23.out
              omega
            · exact h
          have hac:p.codes.n≤p.codes.c:=HA.out.codes.1
          have hac':p.codes.n≤q.codes.c:=by rw [N23.out];exact HB.out.codes.1
          rw [he] at c23
          rw [he'] at d23
          have hk2:k<q.codes.n:=by rw [← N23.out];exact hk
          have e0:=cell_later (BW.out _ B6.out) (hc k hk)
          have f0:=cell_later (BW.out _ B6.out) (hc' k hk2)
          obtain ⟨x,hx⟩:∃ x,c.cs k=x:=⟨_,rfl⟩
          obtain ⟨y,hy⟩:∃ x,d.cs k=x:=⟨_,rfl⟩
          rw [hx] at e0
          rw [hy] at f0
          clear he he' hc hc' hk2
          have hlim:=LA.out
          obtain ⟨gg,hgg⟩:∃ gg,gk=gg+1:=⟨gk-1,by omega⟩
          by_cases hB:c.cs k=d.cs k
          · have t0:(x != y)=false:=by rw [hx,hy] at hB;simpa using hB
            have HN:Hid (∀ i,i<k+1→c.cs i=d.cs i):=fun i hi=>by
              by_cases hik:i<k
              · exact S23.out i hik
              · obtain rfl:i=k:=by omega
                exact hB
            clear hB
            clear hx hy
            go_wp2_with fail
            go_region
            all_goals
              go_wp2
              go_roundg gg
              case measure=>omega
              case rel=>exact ⟨k+1,by first | rfl | simp,by omega,by first | exact B6 | exact B6.out.drew,HN⟩
          · have t0:(x != y)=true:=by rw [hx,hy] at hB;simpa using hB
            have HN:Hid (res=false):=by
              show _=_
              rw [HR.out]
              have:iEq c.cs p.codes.n d.cs q.codes.n=false:=decide_eq_false fun hh=>hB (hh.2 k hk)
              simp [sm,this]
            clear hB
            clear hx hy
            go_wp2_with fail
            go_region
            all_goals
              go_wp2
              go_ret
              first | exact ⟨by rw [HN.out];rfl,BW.out _ B6.out⟩ | exact ⟨by rw [HN.out];rfl,BW.out _ B6.out.drew⟩
        · obtain rfl:k=p.codes.n:=by omega
          have hk':¬ (p.codes.n:Int)<p.codes.n:=by omega
          go_wp2_with fail
          clear c23 d23 hk hk'
          go_loopg [7] p.filters.n (fun gg sx wx=>∃ (k:Nat),sx = .int .i64 k∧k+gg=p.filters.n∧Hid (Below W.heap.size W wx)∧Hid (∀ i,i<k→c.fs i=d.fs i))
          case atStart=>exact ⟨0,rfl,by omega,B6,fun i hi=>absurd hi (Nat.not_lt_zero _)⟩
          case round =>
            obtain ⟨k,rfl,hkg,B7,S24⟩:=hrel
            have c24:=FA.out 24 (.slice p.filters.a p.filters.n p.filters.c) rfl _ B7.out
            have d24:=FB.out 24 (.slice q.filters.a q.filters.n q.filters.c) rfl _ B7.out
            rw [← N24.out] at d24
            by_cases hk:k<p.filters.n
            · have hk':(k:Int)<p.filters.n:=by omega
              obtain ⟨b,off,he,hc⟩:∃ b off,p.filters.a=some ⟨b,off,none⟩∧∀ i,i<p.filters.n→w.cell? ⟨b,off+i,none⟩=some (.string (c.fs i)):=by
                rcases (HA.out.filters).2 with h | h
                · omega
                · exact h
              obtain ⟨b',off',he',hc'⟩:∃ b off,q.filters.a=some ⟨b,off,none⟩∧∀ i,i<q.filters.n→w.cell? ⟨b,off+i,none⟩=some (.string (d.fs i)):=by
                rcases (HB.out.filters).2 with h | h
                · have h':=N24.out
                  omega
                · exact h
              have hac:p.filters.n≤p.filters.c:=HA.out.filters.1
              have hac':p.filters.n≤q.filters.c:=by rw [N24.out];exact HB.out.filters.1
              rw [he] at c24
              rw [he'] at d24
              have hk2:k<q.filters.n:=by rw [← N24.out];exact hk
              have e0:=cell_later (BW.out _ B7.out) (hc k hk)
              have f0:=cell_later (BW.out _ B7.out) (hc' k hk2)
              obtain ⟨x,hx⟩:∃ x,c.fs k=x:=⟨_,rfl⟩
              obtain ⟨y,hy⟩:∃ x,d.fs k=x:=⟨_,rfl⟩
              rw [hx] at e0
              rw [hy] at f0
              clear he he' hc hc' hk2
              have hlim:=LA.out
              obtain ⟨gg,hgg⟩:∃ gg,gk=gg+1:=⟨gk-1,by omega⟩
              by_cases hB:c.fs k=d.fs k
              · have t0:(x.toList==y.toList)=true:=by rw [hx,hy] at hB;rw [hB];exact zbn _
                have HN:Hid (∀ i,i<k+1→c.fs i=d.fs i):=fun i hi=>by
                  by_cases hik:i<k
                  · exact S24.out i hik
                  · obtain rfl:i=k:=by omega
                    exact hB
                clear hB
                clear hx hy
                go_wp2_with fail
                go_region
                all_goals
                  go_wp2
                  go_roundg gg
                  case measure=>omega
                  case rel=>exact ⟨k+1,by first | rfl | simp,by omega,by first | exact B7 | exact B7.out.drew,HN⟩
              · have t0:(x.toList==y.toList)=false:=by rw [hx,hy] at hB;exact Bool.eq_false_iff.2 fun h=>hB (str_eq h)
                have HN:Hid (res=false):=by
                  show _=_
                  rw [HR.out]
                  have:tEq c.fs p.filters.n d.fs q.filters.n=false:=decide_eq_false fun hh=>hB (hh.2 k hk)
                  simp [sm,this]
                clear hB
                clear hx hy
                go_wp2_with fail
                go_region
                all_goals
                  go_wp2
                  go_ret
                  first | exact ⟨by rw [HN.out];rfl,BW.out _ B7.out⟩ | exact ⟨by rw [HN.out];rfl,BW.out _ B7.out.drew⟩
            · obtain rfl:k=p.filters.n:=by omega
              have hk':¬ (p.filters.n:Int)<p.filters.n:=by omega
              have HN:Hid (res=true):=by
                show _=_
                rw [HR.out]
                have e1:aEq c.af c.aq p.asks.n d.af d.aq q.asks.n=true:=decide_eq_true ⟨N22.out,S22.out⟩
                have e2:iEq c.cs p.codes.n d.cs q.codes.n=true:=decide_eq_true ⟨N23.out,S23.out⟩
                have e3:tEq c.fs p.filters.n d.fs q.filters.n=true:=decide_eq_true ⟨N24.out,S24.out⟩
                simp [sm,HPL.out.1,HPL.out.2.1,HPL.out.2.2.1,HPL.out.2.2.2,e1,e2,e3]
              go_wp2
              go_ret
              exact ⟨by rw [HN.out];rfl,BW.out _ B7.out⟩
theorem many_any (n:Int) (w:World):Calls Tryz.prog 24 #[.int .i64 n] w fun e w'=>e = .returned (.pointer (some ⟨w.heap.size,0,none⟩))∧w'=w.alloc (.cells #[.int .i64 n] 125):=by
 go_enter Tryz.func24,Tryz.ntmps24
 go_wp2
 go_ret
 exact ⟨rfl,rfl⟩
end Go.Proofs.YtceigllifjgalaaGreatDoor.Pkt
