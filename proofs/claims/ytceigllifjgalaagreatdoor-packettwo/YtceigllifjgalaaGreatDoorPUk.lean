import Derived.Test.YtceigllifjgalaaGreatDoorPUe
namespace Go.Proofs.YtceigllifjgalaaGreatDoor.Pkt
open Go Go.RowKit Go.Sort
set_option linter.unusedSimpArgs false
set_option linter.unusedVariables false
set_option maxHeartbeats 1000000
structure Laid (e t size f room:Nat) (M:List Value) (w w':World) (R base m:Nat) (cs:Array Value) (vb va:Value) (xsb xsa:List Value) (n:Nat) (xs:List Value) (g cp:Nat) (cur:Array Value) (vb' va':Value):Prop where
 new:w.heap.size≤g
 list:w'.heap[g]?=some (.cells cur e (0,0))
 sz:cur.size=cp*size
 cap:n+room≤cp
 cells:cur.toList.take ((n+room)*size)=xs++M
 room':w'.heap[R]?=some (.cells ((cs.setIfInBounds f vb').setIfInBounds (f+1) va') 48 (0,0))
 ob:w'.ownsRow base t 1 vb' (m+1) (xsb++[.slice (some ⟨g,0,none⟩) (n+room) cp])
 oa:w'.ownsRow base 3 1 va' (m+1) (xsa++[.int .i64 n])
 below:Below base w w'
 frm:Frm w w' R vb va
 grow:w.heap.size≤w'.heap.size
 fr:∀ k,va'.ownBlock=some k→va.ownBlock=some k∨(w.heap.size≤k∧k≠g)
theorem Laid.earlier {e t size f room:Nat} {M:List Value} {w0 w w':World} {R base m:Nat} {cs:Array Value} {vb va:Value} {xsb xsa:List Value} {n:Nat} {xs:List Value} {g cp:Nat} {cur:Array Value} {vb' va':Value}
    (h:Laid e t size f room M w w' R base m cs vb va xsb xsa n xs g cp cur vb' va') (hb:Below w0.heap.size w0 w) (hbase:base≤w0.heap.size):Laid e t size f room M w0 w' R base m cs vb va xsb xsa n xs g cp cur vb' va' where
  new:=Nat.le_trans hb.size h.new
  list:=h.list
  sz:=h.sz
  cap:=h.cap
  cells:=h.cells
  room':=h.room'
  ob:=h.ob
  oa:=h.oa
  below:=(hb.mono hbase).trans h.below
  frm:=fun k hk h1 h2 h3=>(h.frm k (Nat.lt_of_lt_of_le hk hb.size) h1 h2 h3).trans (hb.block k hk)
  grow:=Nat.le_trans hb.size h.grow
  fr:=fun k e=>(h.fr k e).imp id (fun q=>⟨Nat.le_trans hb.size q.1,q.2⟩)
theorem Laid.set {e t size f room:Nat} {M:List Value} {w w':World} {R base m:Nat} {cs:Array Value} {vb va:Value} {xsb xsa:List Value} {n:Nat} {xs:List Value} {g cp:Nat} {cur:Array Value} {vb' va':Value}
    (h:Laid e t size f room M w w' R base m cs vb va xsb xsa n xs g cp cur vb' va') (b i ty:Nat) (v:Value) (c0:Array Value) (hb:w'.heap[b]?=some (.cells c0 ty (0,0))) (h1:ty≠e) (h2:ty≠t) (h3:ty≠3) (h4:ty≠48) (hnew:w.heap.size≤b) (hbase:base≤w.heap.size) :
    Laid e t size f room M w (w'.setCell ⟨b,i,none⟩ v) R base m cs vb va xsb xsa n xs g cp cur vb' va':=by
  have hbg:g≠b:=by rintro rfl;rw [h.list] at hb;simp at hb;exact h1 hb.2.symm
  have hbR:R≠b:=by rintro rfl;rw [h.room'] at hb;simp at hb;exact h4 hb.2.symm
  refine ⟨h.new,(Below.heap_setCell w' _ v g (by simpa using hbg)).trans h.list,h.sz,h.cap,h.cells,(Below.heap_setCell w' _ v R (by simpa using hbR)).trans h.room',ownsRow_setCell_other h.ob (own_ne h.ob hb (Ne.symm h2)) _,ownsRow_setCell_other h.oa (own_ne h.oa hb (Ne.symm h3)) _,h.below.setCell (by simp;omega) _,?_,?_,h.fr⟩
  · intro k hk q1 q2 q3
    rw [Below.heap_setCell w' _ v k (by simp;omega)]
    exact h.frm k hk q1 q2 q3
  · have:(w'.setCell ⟨b,i,none⟩ v).heap.size=w'.heap.size:=by simp [World.setCell]
    rw [this];exact h.grow
theorem layB' (R base m:Nat) (cs:Array Value) (vb va:Value) (xsb xsa:List Value) (s:Sl) (xs:List Value) (w:World) (hm:s.n≤1000000) (hm1:m≤1000) (hl:xs.length=s.n*1) (h1:∀ u ∈ xs,u.oneCell'=true) (hc:Src w s xs)
    (hR:w.heap[R]?=some (.cells cs 48 (0,0))) (hb:cs[0]?=some vb) (ha:cs[1]?=some va) (hbase:base≤R) (hob:w.ownsRow base 22 1 vb m xsb) (hoa:w.ownsRow base 3 1 va m xsa) :
    Calls Tryz.prog 87 #[.pointer (some ⟨R,0,none⟩),.slice s.a s.n s.c,.int .i64 600] w fun e w'=>∃ g cp cur vb' va',e = .returned (.slice (some ⟨g,0,none⟩) s.n (s.n+600))∧Laid 5 22 1 0 600 (mB 600) w w' R base m cs vb va xsb xsa s.n xs g cp cur vb' va' :=
  (layB R base m cs vb va xsb xsa s xs w hm hm1 hl h1 hc hR hb ha hbase hob hoa).mono fun e w' ⟨g,cp,cur,vb',va',he,fr,a1,a2,a3,a4,a5,a6,a7,a8,a9,a10,a11⟩=>⟨g,cp,cur,vb',va',he,a1,a2,a3,a4,a5,a6,a7,a8,a9,a10,a11,fr⟩
theorem layA' (R base m:Nat) (cs:Array Value) (vb va:Value) (xsb xsa:List Value) (s:Sl) (xs:List Value) (w:World) (hm:s.n≤1000000) (hm1:m≤1000) (hl:xs.length=s.n*2) (h1:∀ u ∈ xs,u.oneCell'=true) (hc:Src w s xs)
    (hR:w.heap[R]?=some (.cells cs 48 (0,0))) (hb:cs[6]?=some vb) (ha:cs[7]?=some va) (hbase:base≤R) (hob:w.ownsRow base 25 1 vb m xsb) (hoa:w.ownsRow base 3 1 va m xsa) :
    Calls Tryz.prog 109 #[.pointer (some ⟨R,0,none⟩),.slice s.a s.n s.c,.int .i64 40] w fun e w'=>∃ g cp cur vb' va',e = .returned (.slice (some ⟨g,0,none⟩) s.n (s.n+40))∧Laid 98 25 2 6 40 (mA 40) w w' R base m cs vb va xsb xsa s.n xs g cp cur vb' va' :=
  (layA R base m cs vb va xsb xsa s xs w hm hm1 hl h1 hc hR hb ha hbase hob hoa).mono fun e w' ⟨g,cp,cur,vb',va',he,fr,a1,a2,a3,a4,a5,a6,a7,a8,a9,a10,a11⟩=>⟨g,cp,cur,vb',va',he,a1,a2,a3,a4,a5,a6,a7,a8,a9,a10,a11,fr⟩
theorem layI' (R base m:Nat) (cs:Array Value) (vb va:Value) (xsb xsa:List Value) (s:Sl) (xs:List Value) (w:World) (hm:s.n≤1000000) (hm1:m≤1000) (hl:xs.length=s.n*1) (h1:∀ u ∈ xs,u.oneCell'=true) (hc:Src w s xs)
    (hR:w.heap[R]?=some (.cells cs 48 (0,0))) (hb:cs[2]?=some vb) (ha:cs[3]?=some va) (hbase:base≤R) (hob:w.ownsRow base 26 1 vb m xsb) (hoa:w.ownsRow base 3 1 va m xsa) :
    Calls Tryz.prog 110 #[.pointer (some ⟨R,0,none⟩),.slice s.a s.n s.c,.int .i64 40] w fun e w'=>∃ g cp cur vb' va',e = .returned (.slice (some ⟨g,0,none⟩) s.n (s.n+40))∧Laid 3 26 1 2 40 (mI 40) w w' R base m cs vb va xsb xsa s.n xs g cp cur vb' va' :=
  (layI R base m cs vb va xsb xsa s xs w hm hm1 hl h1 hc hR hb ha hbase hob hoa).mono fun e w' ⟨g,cp,cur,vb',va',he,fr,a1,a2,a3,a4,a5,a6,a7,a8,a9,a10,a11⟩=>⟨g,cp,cur,vb',va',he,a1,a2,a3,a4,a5,a6,a7,a8,a9,a10,a11,fr⟩
theorem layS' (R base m:Nat) (cs:Array Value) (vb va:Value) (xsb xsa:List Value) (s:Sl) (xs:List Value) (w:World) (hm:s.n≤1000000) (hm1:m≤1000) (hl:xs.length=s.n*1) (h1:∀ u ∈ xs,u.oneCell'=true) (hc:Src w s xs)
    (hR:w.heap[R]?=some (.cells cs 48 (0,0))) (hb:cs[4]?=some vb) (ha:cs[5]?=some va) (hbase:base≤R) (hob:w.ownsRow base 27 1 vb m xsb) (hoa:w.ownsRow base 3 1 va m xsa) :
    Calls Tryz.prog 111 #[.pointer (some ⟨R,0,none⟩),.slice s.a s.n s.c,.int .i64 40] w fun e w'=>∃ g cp cur vb' va',e = .returned (.slice (some ⟨g,0,none⟩) s.n (s.n+40))∧Laid 9 27 1 4 40 (mS 40) w w' R base m cs vb va xsb xsa s.n xs g cp cur vb' va' :=
  (layS R base m cs vb va xsb xsa s xs w hm hm1 hl h1 hc hR hb ha hbase hob hoa).mono fun e w' ⟨g,cp,cur,vb',va',he,fr,a1,a2,a3,a4,a5,a6,a7,a8,a9,a10,a11⟩=>⟨g,cp,cur,vb',va',he,a1,a2,a3,a4,a5,a6,a7,a8,a9,a10,a11,fr⟩
theorem wrapB (R:Nat) (ao:Option Addr) (len cap:Nat) (w:World) (Q:Ending→World→Prop)
    (h:Calls Tryz.prog 87 #[.pointer (some ⟨R,0,none⟩),.slice ao len cap,.int .i64 600] w fun e w'=>∃ g n c,e = .returned (.slice (some ⟨g,0,none⟩) n c)∧Q e w') :
    Calls Tryz.prog 19 #[.pointer (some ⟨R,0,none⟩),.slice ao len cap] w Q:=by
  have H:Hid (Calls Tryz.prog 87 #[.pointer (some ⟨R,0,none⟩),.slice ao len cap,.int .i64 600] w fun e w'=>∃ g n c,e = .returned (.slice (some ⟨g,0,none⟩) n c)∧Q e w'):=h
  clear h
  go_enter Tryz.func19,Tryz.ntmps19
  go_wp2_with (go_at_call 87;refine H.out.mono ?_;rintro e w' ⟨g,n,c,rfl,hq⟩)
  assumption
theorem wrapA (R:Nat) (ao:Option Addr) (len cap:Nat) (w:World) (Q:Ending→World→Prop)
    (h:Calls Tryz.prog 109 #[.pointer (some ⟨R,0,none⟩),.slice ao len cap,.int .i64 40] w fun e w'=>∃ g n c,e = .returned (.slice (some ⟨g,0,none⟩) n c)∧Q e w') :
    Calls Tryz.prog 43 #[.pointer (some ⟨R,0,none⟩),.slice ao len cap] w Q:=by
  have H:Hid (Calls Tryz.prog 109 #[.pointer (some ⟨R,0,none⟩),.slice ao len cap,.int .i64 40] w fun e w'=>∃ g n c,e = .returned (.slice (some ⟨g,0,none⟩) n c)∧Q e w'):=h
  clear h
  go_enter Tryz.func43,Tryz.ntmps43
  go_wp2_with (go_at_call 109;refine H.out.mono ?_;rintro e w' ⟨g,n,c,rfl,hq⟩)
  assumption
theorem wrapI (R:Nat) (ao:Option Addr) (len cap:Nat) (w:World) (Q:Ending→World→Prop)
    (h:Calls Tryz.prog 110 #[.pointer (some ⟨R,0,none⟩),.slice ao len cap,.int .i64 40] w fun e w'=>∃ g n c,e = .returned (.slice (some ⟨g,0,none⟩) n c)∧Q e w') :
    Calls Tryz.prog 44 #[.pointer (some ⟨R,0,none⟩),.slice ao len cap] w Q:=by
  have H:Hid (Calls Tryz.prog 110 #[.pointer (some ⟨R,0,none⟩),.slice ao len cap,.int .i64 40] w fun e w'=>∃ g n c,e = .returned (.slice (some ⟨g,0,none⟩) n c)∧Q e w'):=h
  clear h
  go_enter Tryz.func44,Tryz.ntmps44
  go_wp2_with (go_at_call 110;refine H.out.mono ?_;rintro e w' ⟨g,n,c,rfl,hq⟩)
  assumption
theorem wrapS (R:Nat) (ao:Option Addr) (len cap:Nat) (w:World) (Q:Ending→World→Prop)
    (h:Calls Tryz.prog 111 #[.pointer (some ⟨R,0,none⟩),.slice ao len cap,.int .i64 40] w fun e w'=>∃ g n c,e = .returned (.slice (some ⟨g,0,none⟩) n c)∧Q e w') :
    Calls Tryz.prog 45 #[.pointer (some ⟨R,0,none⟩),.slice ao len cap] w Q:=by
  have H:Hid (Calls Tryz.prog 111 #[.pointer (some ⟨R,0,none⟩),.slice ao len cap,.int .i64 40] w fun e w'=>∃ g n c,e = .returned (.slice (some ⟨g,0,none⟩) n c)∧Q e w'):=h
  clear h
  go_enter Tryz.func45,Tryz.ntmps45
  go_wp2_with (go_at_call 111;refine H.out.mono ?_;rintro e w' ⟨g,n,c,rfl,hq⟩)
  assumption
theorem zb9 (R base m:Nat) (cs:Array Value) (vb va:Value) (xsb xsa:List Value) (t:ByteArray) (s:Sl) (q:Int) (r:Bool) (xs:List Value) (w:World) (hm:s.n≤1000000) (hm1:m≤1000) (hl:xs.length=s.n*1) (h1:∀ u ∈ xs,u.oneCell'=true) (hc:Src w s xs)
    (hR:w.heap[R]?=some (.cells cs 48 (0,0))) (hb:cs[0]?=some vb) (ha:cs[1]?=some va) (hbase:base≤R) (hob:w.ownsRow base 22 1 vb m xsb) (hoa:w.ownsRow base 3 1 va m xsa) :
    Calls Tryz.prog 42 #[.pointer (some ⟨R,0,none⟩),.agg #[.string t,.slice s.a s.n s.c,.int .i64 q,.bool r]] w fun e w'=>∃ g cp cur vb' va',e = .returned (.agg #[.string t,.slice (some ⟨g,0,none⟩) s.n (s.n+600),.int .i64 q,.bool r])∧Laid 5 22 1 0 600 (mB 600) w w' R base m cs vb va xsb xsa s.n xs g cp cur vb' va':=by
  have HC:Hid (∀ w',Below w.heap.size w w'→Calls Tryz.prog 19 #[.pointer (some ⟨R,0,none⟩),.slice s.a s.n s.c] w' fun e w''=>∃ g cp cur vb' va',e = .returned (.slice (some ⟨g,0,none⟩) s.n (s.n+600))∧Laid 5 22 1 0 600 (mB 600) w' w'' R base m cs vb va xsb xsa s.n xs g cp cur vb' va'):=fun w' hb' =>
    wrapB R _ _ _ w' _ ((layB' R base m cs vb va xsb xsa s xs w' hm hm1 hl h1 (hc.below hb') ((hb'.block R (za4 hR)).trans hR) hb ha hbase (zal hob hb') (zal hoa hb')).mono fun e w'' ⟨g,cp,cur,vb',va',he,hL⟩=>⟨g,_,_,he,g,cp,cur,vb',va',he,hL⟩)
  have HBS:Hid (base≤w.heap.size∧R<w.heap.size):=⟨by have:=za4 hR;omega,za4 hR⟩
  have KB:Hid (∀ k,vb.ownBlock=some k→k<w.heap.size):=fun k hk=>(hob.lt k hk).2
  have KA:Hid (∀ k,va.ownBlock=some k→k<w.heap.size):=fun k hk=>(hoa.lt k hk).2
  clear hm hm1 hl h1 hc hR hb ha hbase hob hoa
  obtain ⟨W,hW⟩:∃ W,W=(w.alloc (.cells #[.string t,.slice s.a s.n s.c,.int .i64 q,.bool r] 24)).alloc (.cells #[.string ⟨#[]⟩,.slice none 0 0,.int .i64 0,.bool false] 24):=⟨_,rfl⟩
  have b0:Hid (Below w.heap.size w W):=by rw [hW];exact below2 _ _ _
  have x0:Hid (W.heap[w.heap.size]?=some (.cells #[.string t,.slice s.a s.n s.c,.int .i64 q,.bool r] 24)):=by show _=_;rw [hW];exact heap_alloc2_old w _ _
  have x1:Hid (W.heap[w.heap.size+1]?=some (.cells #[.string ⟨#[]⟩,.slice none 0 0,.int .i64 0,.bool false] 24)):=by show _=_;rw [hW];exact heap_alloc2_new w _ _
  have c1:W.cell? ⟨w.heap.size,1,none⟩=some (.slice s.a s.n s.c):=by simp [World.cell?,x0.out]
  rw [hW] at c1
  go_enter Tryz.func42,Tryz.ntmps42
  go_wp2_with fail
  go_must (go_at_call 19)
  rw [← hW] at c1 ⊢
  refine (HC.out W b0.out).mono ?_
  rintro e V ⟨g,cp,cur,vb',va',rfl,hL⟩
  clear c1 hW
  have hws:Hid (W.heap.size=w.heap.size+2∨w.heap.size+2≤W.heap.size):=.inr (za4 x1.out)
  have y0:V.heap[w.heap.size]?=some (.cells #[.string t,.slice s.a s.n s.c,.int .i64 q,.bool r] 24):=(hL.frm _ (za4 x0.out) (by have:=HBS.out.2;omega) (fun h=>by have:=KB.out _ h;omega) (fun h=>by have:=KA.out _ h;omega)).trans x0.out
  have y1:V.heap[w.heap.size+1]?=some (.cells #[.string ⟨#[]⟩,.slice none 0 0,.int .i64 0,.bool false] 24):=(hL.frm _ (za4 x1.out) (by have:=HBS.out.2;omega) (fun h=>by have:=KB.out _ h;omega) (fun h=>by have:=KA.out _ h;omega)).trans x1.out
  have HL:Hid (Laid 5 22 1 0 600 (mB 600) w V R base m cs vb va xsb xsa s.n xs g cp cur vb' va'):=hL.earlier b0.out HBS.out.1
  have Y0:Hid (V.heap[w.heap.size]?=some (.cells #[.string t,.slice s.a s.n s.c,.int .i64 q,.bool r] 24)):=y0
  have Y1:Hid (V.heap[w.heap.size+1]?=some (.cells #[.string ⟨#[]⟩,.slice none 0 0,.int .i64 0,.bool false] 24)):=y1
  have e0:V.cell? ⟨w.heap.size,0,none⟩=some (.string t):=by simp [World.cell?,y0]
  have e1:V.cell? ⟨w.heap.size,1,none⟩=some (.slice s.a s.n s.c):=by simp [World.cell?,y0]
  have e2:V.cell? ⟨w.heap.size,2,none⟩=some (.int .i64 q):=by simp [World.cell?,y0]
  have e3:V.cell? ⟨w.heap.size,3,none⟩=some (.bool r):=by simp [World.cell?,y0]
  have f1:V.frozen? ⟨w.heap.size,1,none⟩=false:=by simp [World.frozen?,y0]
  have d0:V.cell? ⟨w.heap.size+1,0,none⟩=some (.string ⟨#[]⟩):=by simp [World.cell?,y1]
  have d1:V.cell? ⟨w.heap.size+1,1,none⟩=some (.slice none 0 0):=by simp [World.cell?,y1]
  have d2:V.cell? ⟨w.heap.size+1,2,none⟩=some (.int .i64 0):=by simp [World.cell?,y1]
  have d3:V.cell? ⟨w.heap.size+1,3,none⟩=some (.bool false):=by simp [World.cell?,y1]
  have z0:V.frozen? ⟨w.heap.size+1,0,none⟩=false:=by simp [World.frozen?,y1]
  have z1:V.frozen? ⟨w.heap.size+1,1,none⟩=false:=by simp [World.frozen?,y1]
  have z2:V.frozen? ⟨w.heap.size+1,2,none⟩=false:=by simp [World.frozen?,y1]
  have z3:V.frozen? ⟨w.heap.size+1,3,none⟩=false:=by simp [World.frozen?,y1]
  clear y0 y1 hL
  have k1:=HL.out.set w.heap.size 1 24 (.slice (some ⟨g,0,none⟩) s.n (s.n+600)) _ Y0.out (by decide) (by decide) (by decide) (by decide) (Nat.le_refl _) HBS.out.1
  have r1:(V.setCell ⟨w.heap.size,1,none⟩ (.slice (some ⟨g,0,none⟩) s.n (s.n+600))).heap[w.heap.size+1]?=some (.cells #[.string ⟨#[]⟩,.slice none 0 0,.int .i64 0,.bool false] 24):=(Below.heap_setCell V _ _ _ (by simp)).trans Y1.out
  have k2:=k1.set (w.heap.size+1) 0 24 (.string t) _ r1 (by decide) (by decide) (by decide) (by decide) (by omega) HBS.out.1
  have r2:=zab (i:=0) r1 (.string t)
  have k3:=k2.set (w.heap.size+1) 1 24 (.slice (some ⟨g,0,none⟩) s.n (s.n+600)) _ r2 (by decide) (by decide) (by decide) (by decide) (by omega) HBS.out.1
  have r3:=zab (i:=1) r2 (.slice (some ⟨g,0,none⟩) s.n (s.n+600))
  have k4:=k3.set (w.heap.size+1) 2 24 (.int .i64 q) _ r3 (by decide) (by decide) (by decide) (by decide) (by omega) HBS.out.1
  have r4:=zab (i:=2) r3 (.int .i64 q)
  have k5:=k4.set (w.heap.size+1) 3 24 (.bool r) _ r4 (by decide) (by decide) (by decide) (by decide) (by omega) HBS.out.1
  have r5:=zab (i:=3) r4 (.bool r)
  have HK:=(show Hid _ from k5)
  have HR5:=(show Hid _ from r5)
  clear k1 k2 k3 k4 k5 r1 r2 r3 r4 r5
  go_wp2
  exact bodyPost_ret (results_cell_row rfl _ _ _ _ _ _ _ rfl HR5.out Tryz.underlying24 rfl (by kernel_rfl)) rfl ⟨g,cp,cur,vb',va',rfl,HK.out⟩
def cB (z:Nat→Int) (n:Nat):List Value:=(List.range n).map fun i=>.int .u8 (z i)
def cI (z:Nat→Int) (n:Nat):List Value:=(List.range n).map fun i=>.int .i64 (z i)
def cS (z:Nat→ByteArray) (n:Nat):List Value:=(List.range n).map fun i=>.string (z i)
def cA (f:Nat→ByteArray) (q:Nat→Int) (n:Nat):List Value:=(List.range n).flatMap fun i=>[.string (f i),.int .i64 (q i)]
theorem map_at (h:Nat→Value) (n j:Nat) (hj:j<n):((List.range n).map h)[j]?=some (h j):=by rw [List.getElem?_map,List.getElem?_range hj];rfl
theorem zaW (h:Nat→Value) (n j:Nat) (u:Value) (hu:((List.range n).map h)[j]?=some u):j<n∧u=h j:=by
 rw [List.getElem?_map] at hu
 by_cases hj:j<n
 · rw [List.getElem?_range hj] at hu
   exact ⟨hj,(Option.some.inj hu).symm⟩
 · rw [List.getElem?_eq_none (by simpa using hj)] at hu
   cases hu
theorem zbi (a b:Nat→Value) (n:Nat):((List.range n).flatMap fun i=>[a i,b i]).length=n*2:=by
 induction n with
 | zero=>rfl
 | succ n ih=>rw [List.range_succ,List.flatMap_append,List.length_append,ih];simp;omega
theorem zbm (a b:Nat→Value) (n i:Nat) (hi:i<n):((List.range n).flatMap fun i=>[a i,b i])[i*2]?=some (a i)∧((List.range n).flatMap fun i=>[a i,b i])[i*2+1]?=some (b i):=by
 induction n with
 | zero=>omega
 | succ n ih =>
  rw [List.range_succ,List.flatMap_append]
  have hl:=zbi a b n
  by_cases h:i<n
  · rw [List.getElem?_append_left (by omega),List.getElem?_append_left (by omega)];exact ih h
  · obtain rfl:i=n:=by omega
    rw [List.getElem?_append_right (by omega),List.getElem?_append_right (by omega),hl]
    simp
theorem zbQ (a b:Nat→Value) (n j:Nat) (u:Value) (hu:((List.range n).flatMap fun i=>[a i,b i])[j]?=some u):∃ i,i<n∧((j=i*2∧u=a i)∨(j=i*2+1∧u=b i)):=by
 have hj:j<n*2:=by
  have:=(List.getElem?_eq_some_iff.1 hu).1
  rw [zbi] at this;exact this
 refine ⟨j / 2,by omega,?_⟩
 have h:=zbm a b n (j / 2) (by omega)
 rcases Nat.mod_two_eq_zero_or_one j with h0 | h0
 ·
  left
  have e:j=j / 2*2:=by omega
  refine ⟨e,?_⟩
  rw [← e,hu] at h
  exact Option.some.inj h.1
 ·
  right
  have e:j=j / 2*2+1:=by omega
  refine ⟨e,?_⟩
  rw [← e,hu] at h
  exact Option.some.inj h.2
def Nil (s:Sl):Prop:=s.a=none→s.n=0∧s.c=0
theorem zaV {w:World} {s:Sl} {xs:List Value} (hn:Nil s) (h0:xs=[]):Src w s xs:=by
 subst h0
 cases ha:s.a with
 | none=>exact .inl ⟨ha,(hn ha).1,(hn ha).2⟩
 | some ad=>exact .inr ⟨ad,ha,fun j u hj=>by simp at hj⟩
theorem By.src {w:World} {s:Sl} {z:Nat→Int} (h:By w s z) (hn:Nil s):Src w s (cB z s.n):=by
 obtain ⟨_,_,h0 | ⟨b,off,e,hc⟩⟩:=h
 · exact zaV hn (by rw [h0];rfl)
 · exact .inr ⟨_,e,fun j u hj=>by obtain ⟨h1,rfl⟩:=zaW _ _ _ _ hj;rw [zae];exact hc j h1⟩
theorem Is.src {w:World} {s:Sl} {z:Nat→Int} (h:Is w s z) (hn:Nil s):Src w s (cI z s.n):=by
 obtain ⟨_,h0 | ⟨b,off,e,hc⟩⟩:=h
 · exact zaV hn (by rw [h0];rfl)
 · exact .inr ⟨_,e,fun j u hj=>by obtain ⟨h1,rfl⟩:=zaW _ _ _ _ hj;rw [zae];exact hc j h1⟩
theorem Ss.src {w:World} {s:Sl} {z:Nat→ByteArray} (h:Ss w s z) (hn:Nil s):Src w s (cS z s.n):=by
 obtain ⟨_,h0 | ⟨b,off,e,hc⟩⟩:=h
 · exact zaV hn (by rw [h0];rfl)
 · exact .inr ⟨_,e,fun j u hj=>by obtain ⟨h1,rfl⟩:=zaW _ _ _ _ hj;rw [zae];exact hc j h1⟩
theorem As.src {w:World} {s:Sl} {f:Nat→ByteArray} {q:Nat→Int} (h:As w s f q) (hn:Nil s):Src w s (cA f q s.n):=by
 obtain ⟨_,h0 | ⟨b,off,e,hc⟩⟩:=h
 · exact zaV hn (by rw [h0];rfl)
 ·
  refine .inr ⟨_,e,fun j u hj=>?_⟩
  obtain ⟨i,hi,⟨rfl,rfl⟩|⟨rfl,rfl⟩⟩:=zbQ _ _ _ _ _ hj
  · rw [zae];exact (hc i hi).1
  · rw [zae,show off+(i*2+1)=off+i*2+1 by omega];exact (hc i hi).2
theorem cB_len (z:Nat→Int) (n:Nat):(cB z n).length=n*1:=by simp [cB]
theorem cI_len (z:Nat→Int) (n:Nat):(cI z n).length=n*1:=by simp [cI]
theorem cS_len (z:Nat→ByteArray) (n:Nat):(cS z n).length=n*1:=by simp [cS]
theorem cA_len (f:Nat→ByteArray) (q:Nat→Int) (n:Nat):(cA f q n).length=n*2:=zbi _ _ n
theorem cB_one (z:Nat→Int) (n:Nat):∀ u ∈ cB z n,u.oneCell'=true:=by intro u hu;obtain ⟨i,_,rfl⟩:=List.mem_map.1 hu;rfl
theorem cI_one (z:Nat→Int) (n:Nat):∀ u ∈ cI z n,u.oneCell'=true:=by intro u hu;obtain ⟨i,_,rfl⟩:=List.mem_map.1 hu;rfl
theorem cS_one (z:Nat→ByteArray) (n:Nat):∀ u ∈ cS z n,u.oneCell'=true:=by intro u hu;obtain ⟨i,_,rfl⟩:=List.mem_map.1 hu;rfl
theorem cA_one (f:Nat→ByteArray) (q:Nat→Int) (n:Nat):∀ u ∈ cA f q n,u.oneCell'=true:=by
 intro u hu
 obtain ⟨i,_,h⟩:=List.mem_flatMap.1 hu
 simp at h
 rcases h with rfl | rfl <;> rfl
theorem zak {w:World} {g e cp size n room:Nat} {cur:Array Value} {xs M:List Value} (hg:w.heap[g]?=some (.cells cur e (0,0))) (hs:cur.size=cp*size) (hc:n+room≤cp) (ht:cur.toList.take ((n+room)*size)=xs++M) (j:Nat) (hj:j<(n+room)*size) (v:Value) (hv:(xs++M)[j]?=some v):w.cell? ⟨g,j,none⟩=some v:=by
 have hle:(n+room)*size≤cp*size:=Nat.mul_le_mul_right _ hc
 rw [← ht,List.getElem?_take_of_lt hj] at hv
 simpa [World.cell?,hg] using hv
theorem zbH {w:World} {g cp n:Nat} {cur:Array Value} {z:Nat→Int} (hz:∀ i,0≤z i∧z i≤255) (hg:w.heap[g]?=some (.cells cur 5 (0,0))) (hs:cur.size=cp*1) (hc:n+600≤cp) (ht:cur.toList.take ((n+600)*1)=cB z n++mB 600):By w ⟨some ⟨g,0,none⟩,n,n+600⟩ z∧∀ k,k<600→markB w g (n+k) k:=by
 have hl:=cB_len z n
 refine ⟨⟨by simp,hz,.inr ⟨g,0,rfl,fun i hi=>?_⟩⟩,fun k hk=>?_⟩
 ·
  have hi':i<n:=hi
  rw [Nat.zero_add]
  exact zak hg hs hc ht i (by omega) _ (by rw [List.getElem?_append_left (by omega)];exact map_at _ n i hi')
 · exact zak hg hs hc ht (n+k) (by omega) _ (by rw [List.getElem?_append_right (by omega),hl,show n+k-n*1=k by omega];exact map_at _ 600 k hk)
theorem laid_is {w:World} {g cp n:Nat} {cur:Array Value} {z:Nat→Int} (hg:w.heap[g]?=some (.cells cur 3 (0,0))) (hs:cur.size=cp*1) (hc:n+40≤cp) (ht:cur.toList.take ((n+40)*1)=cI z n++mI 40):Is w ⟨some ⟨g,0,none⟩,n,n+40⟩ z∧∀ k,k<40→markI w g (n+k) k:=by
 have hl:=cI_len z n
 refine ⟨⟨by simp,.inr ⟨g,0,rfl,fun i hi=>?_⟩⟩,fun k hk=>?_⟩
 ·
  have hi':i<n:=hi
  rw [Nat.zero_add]
  exact zak hg hs hc ht i (by omega) _ (by rw [List.getElem?_append_left (by omega)];exact map_at _ n i hi')
 · exact zak hg hs hc ht (n+k) (by omega) _ (by rw [List.getElem?_append_right (by omega),hl,show n+k-n*1=k by omega];exact map_at _ 40 k hk)
theorem laid_ss {w:World} {g cp n:Nat} {cur:Array Value} {z:Nat→ByteArray} (hg:w.heap[g]?=some (.cells cur 9 (0,0))) (hs:cur.size=cp*1) (hc:n+40≤cp) (ht:cur.toList.take ((n+40)*1)=cS z n++mS 40):Ss w ⟨some ⟨g,0,none⟩,n,n+40⟩ z∧∀ k,k<40→markS w g (n+k) k:=by
 have hl:=cS_len z n
 refine ⟨⟨by simp,.inr ⟨g,0,rfl,fun i hi=>?_⟩⟩,fun k hk=>?_⟩
 ·
  have hi':i<n:=hi
  rw [Nat.zero_add]
  exact zak hg hs hc ht i (by omega) _ (by rw [List.getElem?_append_left (by omega)];exact map_at _ n i hi')
 · exact zak hg hs hc ht (n+k) (by omega) _ (by rw [List.getElem?_append_right (by omega),hl,show n+k-n*1=k by omega];exact map_at _ 40 k hk)
theorem laid_as {w:World} {g cp n:Nat} {cur:Array Value} {f:Nat→ByteArray} {q:Nat→Int} (hg:w.heap[g]?=some (.cells cur 98 (0,0))) (hs:cur.size=cp*2) (hc:n+40≤cp) (ht:cur.toList.take ((n+40)*2)=cA f q n++mA 40):As w ⟨some ⟨g,0,none⟩,n,n+40⟩ f q∧∀ k,k<40→markA w g (n+k) k:=by
 have hl:=cA_len f q n
 refine ⟨⟨by simp,.inr ⟨g,0,rfl,fun i hi=>?_⟩⟩,fun k hk=>?_⟩
 ·
  have hi':i<n:=hi
  rw [Nat.zero_add]
  have h2:=zbm (fun i=>.string (f i)) (fun i=>.int .i64 (q i)) n i hi'
  exact ⟨zak hg hs hc ht (i*2) (by omega) _ (by rw [List.getElem?_append_left (by omega)];exact h2.1),zak hg hs hc ht (i*2+1) (by omega) _ (by rw [List.getElem?_append_left (by omega)];exact h2.2)⟩
 · have h2:=zbm (fun i=>.string (wordB i)) (fun _=>.int .i64 0) 40 k hk
   exact ⟨zak hg hs hc ht ((n+k)*2) (by omega) _ (by rw [List.getElem?_append_right (by omega),hl,show (n+k)*2-n*2=k*2 by omega];exact h2.1),zak hg hs hc ht ((n+k)*2+1) (by omega) _ (by rw [List.getElem?_append_right (by omega),hl,show (n+k)*2+1-n*2=k*2+1 by omega];exact h2.2)⟩
theorem zaT {w:World} {base t m:Nat} {v:Value} {xs:List Value} (h:w.ownsRow base t 1 v (m+1) xs):∃ g cp cur,v = .slice (some ⟨g,0,none⟩) (m+1) cp∧m+1≤cp∧w.heap[g]?=some (.cells cur t (0,0))∧∀ (j:Nat) (u:Value),xs[j]?=some u→cur[j]?=some u:=by
 obtain ⟨hl,k | ⟨g,cp,cur,rfl,_,hh,h1,_,hs,ht⟩⟩:=h
 · exact absurd k.2 (by simp)
 ·
  refine ⟨g,cp,cur,rfl,h1,hh,fun j u hj=>?_⟩
  rw [← ht] at hj
  have hlt:j<(m+1)*1:=by
   have:=(List.getElem?_eq_some_iff.1 hj).1
   simp at this;omega
  rw [List.getElem?_take_of_lt hlt] at hj
  simpa using hj
def zeroPk:Array Value:=#[.int .i64 0,.int .i64 0,.bool false,.int .i64 0,.string ⟨#[]⟩,.bool false,.string ⟨#[]⟩,.slice none 0 0,.int .i64 0,.bool false,.bool false,.string ⟨#[]⟩,.bool false,.slice none 0 0,.bool false,.int .i64 0,.bool false,.string ⟨#[]⟩,.slice none 0 0,.int .i64 0,.bool false,.int .i64 0,.slice none 0 0,.slice none 0 0,.slice none 0 0]
def nil28:Array Value:=#[.slice none 0 0,.slice none 0 0,.slice none 0 0,.slice none 0 0,.slice none 0 0,.slice none 0 0,.slice none 0 0,.slice none 0 0,.slice none 0 0,.slice none 0 0,.slice none 0 0,.slice none 0 0,.slice none 0 0,.slice none 0 0,.slice none 0 0,.slice none 0 0,.slice none 0 0,.slice none 0 0,.slice none 0 0,.slice none 0 0,.slice none 0 0,.slice none 0 0,.slice none 0 0,.slice none 0 0,.slice none 0 0,.slice none 0 0,.slice none 0 0,.slice none 0 0]
structure Pst (w0:World) (R X:Nat) (rm bx:Array Value) (vb va:Value) (m:Nat) (xsb xsa:List Value) (Ls:List (Nat×Array Value×Nat)) (w:World):Prop where
 lX:w0.heap.size≤X
 below:Below w0.heap.size w0 w
 rm:w.heap[R]?=some (.cells rm 48 (0,0))
 bx:w.heap[X]?=some (.cells bx 29 (0,0))
 zx:w.heap[X+1]?=some (.cells zeroPk 29 (0,0))
 ob:w.ownsRow w0.heap.size 22 1 vb m xsb
 oa:w.ownsRow w0.heap.size 3 1 va m xsa
 ls:∀ x ∈ Ls,w.heap[x.1]?=some (.cells x.2.1 x.2.2 (0,0))
theorem Pst.set {w0 w:World} {R X:Nat} {rm bx:Array Value} {vb va:Value} {m:Nat} {xsb xsa:List Value} {Ls:List (Nat×Array Value×Nat)} (h:Pst w0 R X rm bx vb va m xsb xsa Ls w) (i:Nat) (v:Value) (hT:∀ x ∈ Ls,x.2.2≠29) :
    Pst w0 R X rm (bx.setIfInBounds i v) vb va m xsb xsa Ls (w.setCell ⟨X,i,none⟩ v) where
  lX:=h.lX
  below:=h.below.setCell h.lX _
  rm:=(Below.heap_setCell w _ v _ (fun e=>by have e':R=X:=e;have h1:=h.rm;rw [e',h.bx] at h1;simp at h1)).trans h.rm
  bx:=zab h.bx v
  zx:=(Below.heap_setCell w _ v _ (by simp)).trans h.zx
  ob:=ownsRow_setCell_other h.ob (own_ne h.ob h.bx (by decide)) _
  oa:=ownsRow_setCell_other h.oa (own_ne h.oa h.bx (by decide)) _
  ls x hx:=by
    refine (Below.heap_setCell w _ v _ ?_).trans (h.ls x hx)
    intro e
    have h1:=h.ls x hx
    have e':x.1=X:=e
    rw [e',h.bx] at h1
    simp at h1
    exact hT x hx h1.2.symm
theorem Pst.layB {w0 w w':World} {R X:Nat} {rm bx:Array Value} {vb va:Value} {m:Nat} {xsb xsa:List Value} {Ls:List (Nat×Array Value×Nat)} {n g cp:Nat} {xs M:List Value} {cur:Array Value} {vb' va':Value} (h:Pst w0 R X rm bx vb va m xsb xsa Ls w)
    (hL:Laid 5 22 1 0 600 M w w' R w0.heap.size m rm vb va xsb xsa n xs g cp cur vb' va') (hT:∀ x ∈ Ls,x.2.2≠22∧x.2.2≠3∧x.2.2≠48) :
    Pst w0 R X ((rm.setIfInBounds 0 vb').setIfInBounds 1 va') bx vb' va' (m+1) (xsb++[.slice (some ⟨g,0,none⟩) (n+600) cp]) (xsa++[.int .i64 n]) (Ls++[(g,cur,5)]) w':=by
  have keep:∀ (k:Nat) (cs:Array Value) (t:Nat),w.heap[k]?=some (.cells cs t (0,0))→t≠22→t≠3→t≠48→w'.heap[k]?=some (.cells cs t (0,0)):=by
    intro k cs t hk h1 h2 h3
    refine (hL.frm k (za4 hk) ?_ (own_ne h.ob hk (Ne.symm h1)) (own_ne h.oa hk (Ne.symm h2))).trans hk
    rintro rfl
    rw [h.rm] at hk
    simp at hk
    exact h3 hk.2.symm
  refine ⟨h.lX,h.below.trans hL.below,hL.room',keep _ _ _ h.bx (by decide) (by decide) (by decide),keep _ _ _ h.zx (by decide) (by decide) (by decide),hL.ob,hL.oa,?_⟩
  intro x hx
  rcases List.mem_append.1 hx with hx | hx
  · exact keep _ _ _ (h.ls x hx) (hT x hx).1 (hT x hx).2.1 (hT x hx).2.2
  · obtain rfl:=List.mem_singleton.1 hx
    exact hL.list
theorem Pst.layN {w0 w w':World} {R X:Nat} {rm bx:Array Value} {vb va:Value} {m:Nat} {xsb xsa:List Value} {Ls:List (Nat×Array Value×Nat)} {e t size f room n g cp:Nat} {xs M:List Value} {cur:Array Value} {vb' va':Value} (h:Pst w0 R X rm bx vb va m xsb xsa Ls w)
    (hL:Laid e t size f room M w w' R w0.heap.size 0 rm (.slice none 0 0) (.slice none 0 0) [] [] n xs g cp cur vb' va') (hT:∀ x ∈ Ls,x.2.2≠48) :
    ∃ gb cb curb ga ca cura,vb' = .slice (some ⟨gb,0,none⟩) 1 cb∧va' = .slice (some ⟨ga,0,none⟩) 1 ca∧1≤cb∧1≤ca∧curb[0]?=some (.slice (some ⟨g,0,none⟩) (n+room) cp)∧cura[0]?=some (.int .i64 n) ∧
      Pst w0 R X ((rm.setIfInBounds f vb').setIfInBounds (f+1) va') bx vb va m xsb xsa (Ls++[(g,cur,e),(gb,curb,t),(ga,cura,3)]) w':=by
  have same:∀ k,k<w.heap.size→k≠R→w'.heap[k]?=w.heap[k]?:=fun k hk hne=>hL.frm k hk hne (by simp [Value.ownBlock]) (by simp [Value.ownBlock])
  have keep:∀ (k:Nat) (cs:Array Value) (t:Nat),w.heap[k]?=some (.cells cs t (0,0))→t≠48→w'.heap[k]?=some (.cells cs t (0,0)):=by
    intro k cs t hk h3
    refine (same k (za4 hk) ?_).trans hk
    rintro rfl
    rw [h.rm] at hk
    simp at hk
    exact h3 hk.2.symm
  have gr:w.grownBy w' (some R):=⟨hL.below.os,hL.below.tape,hL.below.output,hL.grow,fun k hk hne=>same k hk (fun q=>hne (by rw [q]))⟩
  obtain ⟨gb,cb,curb,rfl,h1,hb,cb0⟩:=zaT hL.ob
  obtain ⟨ga,ca,cura,rfl,h2,ha,ca0⟩:=zaT hL.oa
  refine ⟨gb,cb,curb,ga,ca,cura,rfl,rfl,h1,h2,cb0 0 _ rfl,ca0 0 _ rfl,⟨h.lX,h.below.trans hL.below,hL.room',keep _ _ _ h.bx (by decide),keep _ _ _ h.zx (by decide),h.ob.kept gr (.inr (own_ne h.ob h.rm (by decide))),h.oa.kept gr (.inr (own_ne h.oa h.rm (by decide))),?_⟩⟩
  intro x hx
  rcases List.mem_append.1 hx with hx | hx
  · exact keep _ _ _ (h.ls x hx) (hT x hx)
  · simp only [List.mem_cons,List.not_mem_nil,or_false] at hx
    rcases hx with rfl | rfl | rfl
    · exact hL.list
    · exact hb
    · exact ha
theorem Pst.src {w0 w:World} {R X:Nat} {rm bx:Array Value} {vb va:Value} {m:Nat} {xsb xsa:List Value} {Ls:List (Nat×Array Value×Nat)} (h:Pst w0 R X rm bx vb va m xsb xsa Ls w) {s:Sl} {xs:List Value} (hs:Src w0 s xs):Src w s xs:=hs.below h.below
theorem Pst.cell {w0 w:World} {R X:Nat} {rm bx:Array Value} {vb va:Value} {m:Nat} {xsb xsa:List Value} {Ls:List (Nat×Array Value×Nat)} (h:Pst w0 R X rm bx vb va m xsb xsa Ls w) (k:Nat) (v:Value) (hk:bx[k]?=some v):w.cell? ⟨X,k,none⟩=some v:=by simp [World.cell?,h.bx,hk]
theorem Pst.frozen {w0 w:World} {R X:Nat} {rm bx:Array Value} {vb va:Value} {m:Nat} {xsb xsa:List Value} {Ls:List (Nat×Array Value×Nat)} (h:Pst w0 R X rm bx vb va m xsb xsa Ls w) (k:Nat):w.frozen? ⟨X,k,none⟩=false:=by simp [World.frozen?,h.bx]
end Go.Proofs.YtceigllifjgalaaGreatDoor.Pkt
