import Derived.Test.YtceigllifjgalaaGreatDoorNra
import Derived.Test.YtceigllifjgalaaGreatDoorPSc
namespace Go.Proofs.YtceigllifjgalaaGreatDoor.Pkt
open Go Go.RowKit Go.Sort
set_option linter.unusedSimpArgs false
set_option linter.unusedVariables false
set_option maxRecDepth 100000
set_option maxHeartbeats 4000000
structure Rw (cs zs:Array Value) (w w':World):Prop where
 box:w'.heap[w.heap.size]?=some (.cells cs 29)
 row:w'.heap[w.heap.size+1]?=some (.cells zs 93)
 bel:Below w.heap.size w w'
def plZ:Array Value:=#[.int .i64 0,.int .i64 0,.int .i64 0,.int .i64 0,.int .i64 0,.bool false,.bool false,.bool false,.bool false,.bool false,.bool false,.string ⟨#[]⟩,.string ⟨#[]⟩,.string ⟨#[]⟩,.int .i64 0,.bool false,.string ⟨#[]⟩,.int .i64 0,.bool false]
theorem Rw.below {cs zs:Array Value} {w w1 w2:World} (h:Hid (Rw cs zs w w1)) (hb:Below w1.heap.size w1 w2):Hid (Rw cs zs w w2) :=
 ⟨(hb.block _ (za4 h.out.box)).trans h.out.box,(hb.block _ (za4 h.out.row)).trans h.out.row,h.out.bel.trans (hb.mono h.out.bel.size)⟩
theorem Rw.bc {cs zs:Array Value} {w w1:World} (h:Rw cs zs w w1) (k:Nat) (v:Value) (hk:cs[k]?=some v):w1.cell? ⟨w.heap.size,k,none⟩=some v:=by
 simp [World.cell?,h.box,hk]
theorem Rw.row_set {cs zs:Array Value} {w w1:World} (h:Rw cs zs w w1) (xs:Array Value):Rw cs xs w (w1.setRow (w.heap.size+1) xs) :=
 ⟨by rw [setRow_other _ _ _ _ (by omega)];exact h.box,setRow_heap _ _ _ xs 93 (0,0) h.row,zaF h.bel _ _ (by omega)⟩
theorem yields_build {o:Oper} {a:Act} (t:TypeId) (parts:Array (Nat×Operand)) (ho:o.op = .build t parts) (cells:Array Value) (hc:Tryz.prog.built t (parts.map fun (i,x)=>(i,a.eval x)).toList=some cells) (w:World):(execOp a.eval o).run Tryz.prog w = .ok (.value (.agg cells)) w:=by
 unfold execOp
 simp only [ho,Sem.run_bind,run_build w t _ cells hc,Result.andThen_ok]
 rfl
theorem zby (p:Pk) (w:World):Calls Tryz.prog 35 #[p.v] w fun e w'=>e = .returned (.agg (plCells p))∧Below w.heap.size w w':=by
 obtain ⟨cs,hcs⟩:∃ cs,cs=pkCells p:=⟨_,rfl⟩
 rw [show p.v = .agg cs by rw [hcs];rfl]
 have HCS:Hid (cs=pkCells p):=hcs
 clear hcs
 obtain ⟨W,hW⟩:∃ W,W=(w.alloc (.cells cs 29)).alloc (.cells plZ 93):=⟨_,rfl⟩
 have HR:Hid (Rw cs plZ w W):=by
  subst hW
  exact ⟨(Below.heap_alloc (w.alloc (.cells cs 29)) _ _ (by show w.heap.size<(w.heap.push _).size;simp)).trans (heap_alloc_new w _),heap_alloc2_new w _ _,below2 _ _ _⟩
 have HR1:Hid (Rw cs plZ w W.drew):=⟨HR.out.box,HR.out.row,HR.out.bel.drew⟩
 have KS:Hid (∀ w',Hid (∃ zs,Rw cs zs w w')→(fun w'=>w'.cell? ⟨w.heap.size,0,none⟩=some (.int .i64 p.kind)∧w'.cell? ⟨w.heap.size,1,none⟩=some (.int .i64 p.level)∧w'.cell? ⟨w.heap.size,3,none⟩=some (.int .i64 p.keep)∧w'.cell? ⟨w.heap.size,15,none⟩=some (.int .i64 p.code)∧w'.cell? ⟨w.heap.size,21,none⟩=some (.int .i64 p.id)∧w'.cell? ⟨w.heap.size,2,none⟩=some (.bool p.clean)∧w'.cell? ⟨w.heap.size,14,none⟩=some (.bool p.present)∧w'.cell? ⟨w.heap.size,16,none⟩=some (.bool p.dup)∧w'.cell? ⟨w.heap.size,5,none⟩=some (.bool p.hasWill)∧w'.cell? ⟨w.heap.size,10,none⟩=some (.bool p.hasUser)∧w'.cell? ⟨w.heap.size,12,none⟩=some (.bool p.hasPass)∧w'.cell? ⟨w.heap.size,4,none⟩=some (.string p.client)∧w'.cell? ⟨w.heap.size,11,none⟩=some (.string p.user)∧w'.cell? ⟨w.heap.size,6,none⟩=some (.string p.wT)∧w'.cell? ⟨w.heap.size,7,none⟩=some (.slice p.wP.a p.wP.n p.wP.c)∧w'.cell? ⟨w.heap.size,8,none⟩=some (.int .i64 p.wQ)∧w'.cell? ⟨w.heap.size,9,none⟩=some (.bool p.wR)∧w'.cell? ⟨w.heap.size,17,none⟩=some (.string p.mT)∧w'.cell? ⟨w.heap.size,18,none⟩=some (.slice p.mP.a p.mP.n p.mP.c)∧w'.cell? ⟨w.heap.size,19,none⟩=some (.int .i64 p.mQ)∧w'.cell? ⟨w.heap.size,20,none⟩=some (.bool p.mR)) w'∧Hid (∃ zs,Rw cs zs w w')):=by
  intro w' ⟨zs,h⟩
  refine ⟨⟨?_,?_,?_,?_,?_,?_,?_,?_,?_,?_,?_,?_,?_,?_,?_,?_,?_,?_,?_,?_,?_⟩,⟨zs,h⟩⟩ <;> exact h.bc _ _ (by rw [HCS.out];rfl)
 go_enter Tryz.func35,Tryz.ntmps35
 go_wp2_with fail
 have hW':W=(w.alloc (.cells cs 29)).alloc (.cells #[.int .i64 0,.int .i64 0,.int .i64 0,.int .i64 0,.int .i64 0,.bool false,.bool false,.bool false,.bool false,.bool false,.bool false,.string ⟨#[]⟩,.string ⟨#[]⟩,.string ⟨#[]⟩,.int .i64 0,.bool false,.string ⟨#[]⟩,.int .i64 0,.bool false] 93):=hW
 rw [← hW']
 clear hW' hW HR
 refine wp_region_held_drew (S:=fun w'=>(w'.cell? ⟨w.heap.size,0,none⟩=some (.int .i64 p.kind)∧w'.cell? ⟨w.heap.size,1,none⟩=some (.int .i64 p.level)∧w'.cell? ⟨w.heap.size,3,none⟩=some (.int .i64 p.keep)∧w'.cell? ⟨w.heap.size,15,none⟩=some (.int .i64 p.code)∧w'.cell? ⟨w.heap.size,21,none⟩=some (.int .i64 p.id)∧w'.cell? ⟨w.heap.size,2,none⟩=some (.bool p.clean)∧w'.cell? ⟨w.heap.size,14,none⟩=some (.bool p.present)∧w'.cell? ⟨w.heap.size,16,none⟩=some (.bool p.dup)∧w'.cell? ⟨w.heap.size,5,none⟩=some (.bool p.hasWill)∧w'.cell? ⟨w.heap.size,10,none⟩=some (.bool p.hasUser)∧w'.cell? ⟨w.heap.size,12,none⟩=some (.bool p.hasPass)∧w'.cell? ⟨w.heap.size,4,none⟩=some (.string p.client)∧w'.cell? ⟨w.heap.size,11,none⟩=some (.string p.user)∧w'.cell? ⟨w.heap.size,6,none⟩=some (.string p.wT)∧w'.cell? ⟨w.heap.size,7,none⟩=some (.slice p.wP.a p.wP.n p.wP.c)∧w'.cell? ⟨w.heap.size,8,none⟩=some (.int .i64 p.wQ)∧w'.cell? ⟨w.heap.size,9,none⟩=some (.bool p.wR)∧w'.cell? ⟨w.heap.size,17,none⟩=some (.string p.mT)∧w'.cell? ⟨w.heap.size,18,none⟩=some (.slice p.mP.a p.mP.n p.mP.c)∧w'.cell? ⟨w.heap.size,19,none⟩=some (.int .i64 p.mQ)∧w'.cell? ⟨w.heap.size,20,none⟩=some (.bool p.mR))∧Hid (∃ zs,Rw cs zs w w')) (by kernel_rfl) (KS.out _ ⟨_,HR1.out⟩) (fun hHeld=>?_)
 refine wpAnyH_take (i:=0) (oi:=⟨some 3,.fieldAddr 29 (.tmp 1) 0,0,"two.go:60",#[],none⟩) (v:=.pointer (some ⟨w.heap.size,0,none⟩)) rfl (by kernel_rfl) (by kernel_rfl) (by kernel_rfl) (fun _ _ _ h=>h) (Or.inl ⟨by rfl,by (intro wq hSw;(try dsimp only at hSw);go_simp)⟩) hHeld ?_
 simp only [Act.put,zz1,zz2,zz3]
 refine wpAnyH_take (i:=1) (oi:=⟨some 4,.load 3 (.tmp 3),3,"two.go:60",#[⟨0,.data⟩],none⟩) (v:=.int .i64 p.kind) rfl (by kernel_rfl) (by kernel_rfl) (by kernel_rfl) (fun _ _ _ h=>h) (Or.inl ⟨by rfl,by (intro wq hSw;(try dsimp only at hSw);go_simp)⟩) hHeld ?_
 simp only [Act.put,zz1,zz2,zz3]
 refine wpAnyH_take (i:=2) (oi:=⟨some 5,.fieldAddr 29 (.tmp 1) 1,0,"two.go:60",#[],none⟩) (v:=.pointer (some ⟨w.heap.size,1,none⟩)) rfl (by kernel_rfl) (by kernel_rfl) (by kernel_rfl) (fun _ _ _ h=>h) (Or.inl ⟨by rfl,by (intro wq hSw;(try dsimp only at hSw);go_simp)⟩) hHeld ?_
 simp only [Act.put,zz1,zz2,zz3]
 refine wpAnyH_take (i:=3) (oi:=⟨some 6,.load 3 (.tmp 5),3,"two.go:60",#[⟨2,.data⟩],none⟩) (v:=.int .i64 p.level) rfl (by kernel_rfl) (by kernel_rfl) (by kernel_rfl) (fun _ _ _ h=>h) (Or.inl ⟨by rfl,by (intro wq hSw;(try dsimp only at hSw);go_simp)⟩) hHeld ?_
 simp only [Act.put,zz1,zz2,zz3]
 refine wpAnyH_take (i:=4) (oi:=⟨some 7,.fieldAddr 29 (.tmp 1) 3,0,"two.go:60",#[],none⟩) (v:=.pointer (some ⟨w.heap.size,3,none⟩)) rfl (by kernel_rfl) (by kernel_rfl) (by kernel_rfl) (fun _ _ _ h=>h) (Or.inl ⟨by rfl,by (intro wq hSw;(try dsimp only at hSw);go_simp)⟩) hHeld ?_
 simp only [Act.put,zz1,zz2,zz3]
 refine wpAnyH_take (i:=5) (oi:=⟨some 8,.load 3 (.tmp 7),3,"two.go:60",#[⟨4,.data⟩],none⟩) (v:=.int .i64 p.keep) rfl (by kernel_rfl) (by kernel_rfl) (by kernel_rfl) (fun _ _ _ h=>h) (Or.inl ⟨by rfl,by (intro wq hSw;(try dsimp only at hSw);go_simp)⟩) hHeld ?_
 simp only [Act.put,zz1,zz2,zz3]
 refine wpAnyH_take (i:=6) (oi:=⟨some 9,.fieldAddr 29 (.tmp 1) 12,0,"two.go:60",#[],none⟩) (v:=.pointer (some ⟨w.heap.size,15,none⟩)) rfl (by kernel_rfl) (by kernel_rfl) (by kernel_rfl) (fun _ _ _ h=>h) (Or.inl ⟨by rfl,by (intro wq hSw;(try dsimp only at hSw);go_simp)⟩) hHeld ?_
 simp only [Act.put,zz1,zz2,zz3]
 refine wpAnyH_take (i:=7) (oi:=⟨some 10,.load 3 (.tmp 9),3,"two.go:60",#[⟨6,.data⟩],none⟩) (v:=.int .i64 p.code) rfl (by kernel_rfl) (by kernel_rfl) (by kernel_rfl) (fun _ _ _ h=>h) (Or.inl ⟨by rfl,by (intro wq hSw;(try dsimp only at hSw);go_simp)⟩) hHeld ?_
 simp only [Act.put,zz1,zz2,zz3]
 refine wpAnyH_take (i:=8) (oi:=⟨some 11,.fieldAddr 29 (.tmp 1) 15,0,"two.go:60",#[],none⟩) (v:=.pointer (some ⟨w.heap.size,21,none⟩)) rfl (by kernel_rfl) (by kernel_rfl) (by kernel_rfl) (fun _ _ _ h=>h) (Or.inl ⟨by rfl,by (intro wq hSw;(try dsimp only at hSw);go_simp)⟩) hHeld ?_
 simp only [Act.put,zz1,zz2,zz3]
 refine wpAnyH_take (i:=9) (oi:=⟨some 12,.load 3 (.tmp 11),3,"two.go:60",#[⟨8,.data⟩],none⟩) (v:=.int .i64 p.id) rfl (by kernel_rfl) (by kernel_rfl) (by kernel_rfl) (fun _ _ _ h=>h) (Or.inl ⟨by rfl,by (intro wq hSw;(try dsimp only at hSw);go_simp)⟩) hHeld ?_
 simp only [Act.put,zz1,zz2,zz3]
 refine wpAnyH_take (i:=10) (oi:=⟨some 13,.fieldAddr 29 (.tmp 1) 2,0,"two.go:60",#[],none⟩) (v:=.pointer (some ⟨w.heap.size,2,none⟩)) rfl (by kernel_rfl) (by kernel_rfl) (by kernel_rfl) (fun _ _ _ h=>h) (Or.inl ⟨by rfl,by (intro wq hSw;(try dsimp only at hSw);go_simp)⟩) hHeld ?_
 simp only [Act.put,zz1,zz2,zz3]
 refine wpAnyH_take (i:=11) (oi:=⟨some 14,.load 4 (.tmp 13),4,"two.go:60",#[⟨10,.data⟩],none⟩) (v:=.bool p.clean) rfl (by kernel_rfl) (by kernel_rfl) (by kernel_rfl) (fun _ _ _ h=>h) (Or.inl ⟨by rfl,by (intro wq hSw;(try dsimp only at hSw);go_simp)⟩) hHeld ?_
 simp only [Act.put,zz1,zz2,zz3]
 refine wpAnyH_take (i:=12) (oi:=⟨some 15,.fieldAddr 29 (.tmp 1) 11,0,"two.go:60",#[],none⟩) (v:=.pointer (some ⟨w.heap.size,14,none⟩)) rfl (by kernel_rfl) (by kernel_rfl) (by kernel_rfl) (fun _ _ _ h=>h) (Or.inl ⟨by rfl,by (intro wq hSw;(try dsimp only at hSw);go_simp)⟩) hHeld ?_
 simp only [Act.put,zz1,zz2,zz3]
 refine wpAnyH_take (i:=13) (oi:=⟨some 16,.load 4 (.tmp 15),4,"two.go:60",#[⟨12,.data⟩],none⟩) (v:=.bool p.present) rfl (by kernel_rfl) (by kernel_rfl) (by kernel_rfl) (fun _ _ _ h=>h) (Or.inl ⟨by rfl,by (intro wq hSw;(try dsimp only at hSw);go_simp)⟩) hHeld ?_
 simp only [Act.put,zz1,zz2,zz3]
 refine wpAnyH_take (i:=14) (oi:=⟨some 17,.fieldAddr 29 (.tmp 1) 13,0,"two.go:60",#[],none⟩) (v:=.pointer (some ⟨w.heap.size,16,none⟩)) rfl (by kernel_rfl) (by kernel_rfl) (by kernel_rfl) (fun _ _ _ h=>h) (Or.inl ⟨by rfl,by (intro wq hSw;(try dsimp only at hSw);go_simp)⟩) hHeld ?_
 simp only [Act.put,zz1,zz2,zz3]
 refine wpAnyH_take (i:=15) (oi:=⟨some 18,.load 4 (.tmp 17),4,"two.go:60",#[⟨14,.data⟩],none⟩) (v:=.bool p.dup) rfl (by kernel_rfl) (by kernel_rfl) (by kernel_rfl) (fun _ _ _ h=>h) (Or.inl ⟨by rfl,by (intro wq hSw;(try dsimp only at hSw);go_simp)⟩) hHeld ?_
 simp only [Act.put,zz1,zz2,zz3]
 refine wpAnyH_take (i:=16) (oi:=⟨some 19,.fieldAddr 29 (.tmp 1) 5,0,"two.go:60",#[],none⟩) (v:=.pointer (some ⟨w.heap.size,5,none⟩)) rfl (by kernel_rfl) (by kernel_rfl) (by kernel_rfl) (fun _ _ _ h=>h) (Or.inl ⟨by rfl,by (intro wq hSw;(try dsimp only at hSw);go_simp)⟩) hHeld ?_
 simp only [Act.put,zz1,zz2,zz3]
 refine wpAnyH_take (i:=17) (oi:=⟨some 20,.load 4 (.tmp 19),4,"two.go:60",#[⟨16,.data⟩],none⟩) (v:=.bool p.hasWill) rfl (by kernel_rfl) (by kernel_rfl) (by kernel_rfl) (fun _ _ _ h=>h) (Or.inl ⟨by rfl,by (intro wq hSw;(try dsimp only at hSw);go_simp)⟩) hHeld ?_
 simp only [Act.put,zz1,zz2,zz3]
 refine wpAnyH_take (i:=18) (oi:=⟨some 21,.fieldAddr 29 (.tmp 1) 7,0,"two.go:60",#[],none⟩) (v:=.pointer (some ⟨w.heap.size,10,none⟩)) rfl (by kernel_rfl) (by kernel_rfl) (by kernel_rfl) (fun _ _ _ h=>h) (Or.inl ⟨by rfl,by (intro wq hSw;(try dsimp only at hSw);go_simp)⟩) hHeld ?_
 simp only [Act.put,zz1,zz2,zz3]
 refine wpAnyH_take (i:=19) (oi:=⟨some 22,.load 4 (.tmp 21),4,"two.go:60",#[⟨18,.data⟩],none⟩) (v:=.bool p.hasUser) rfl (by kernel_rfl) (by kernel_rfl) (by kernel_rfl) (fun _ _ _ h=>h) (Or.inl ⟨by rfl,by (intro wq hSw;(try dsimp only at hSw);go_simp)⟩) hHeld ?_
 simp only [Act.put,zz1,zz2,zz3]
 refine wpAnyH_take (i:=20) (oi:=⟨some 23,.fieldAddr 29 (.tmp 1) 9,0,"two.go:60",#[],none⟩) (v:=.pointer (some ⟨w.heap.size,12,none⟩)) rfl (by kernel_rfl) (by kernel_rfl) (by kernel_rfl) (fun _ _ _ h=>h) (Or.inl ⟨by rfl,by (intro wq hSw;(try dsimp only at hSw);go_simp)⟩) hHeld ?_
 simp only [Act.put,zz1,zz2,zz3]
 refine wpAnyH_take (i:=21) (oi:=⟨some 24,.load 4 (.tmp 23),4,"two.go:60",#[⟨20,.data⟩],none⟩) (v:=.bool p.hasPass) rfl (by kernel_rfl) (by kernel_rfl) (by kernel_rfl) (fun _ _ _ h=>h) (Or.inl ⟨by rfl,by (intro wq hSw;(try dsimp only at hSw);go_simp)⟩) hHeld ?_
 simp only [Act.put,zz1,zz2,zz3]
 refine wpAnyH_take (i:=22) (oi:=⟨some 25,.fieldAddr 29 (.tmp 1) 4,0,"two.go:60",#[],none⟩) (v:=.pointer (some ⟨w.heap.size,4,none⟩)) rfl (by kernel_rfl) (by kernel_rfl) (by kernel_rfl) (fun _ _ _ h=>h) (Or.inl ⟨by rfl,by (intro wq hSw;(try dsimp only at hSw);go_simp)⟩) hHeld ?_
 simp only [Act.put,zz1,zz2,zz3]
 refine wpAnyH_take (i:=23) (oi:=⟨some 26,.load 9 (.tmp 25),9,"two.go:60",#[⟨22,.data⟩],none⟩) (v:=.string p.client) rfl (by kernel_rfl) (by kernel_rfl) (by kernel_rfl) (fun _ _ _ h=>h) (Or.inl ⟨by rfl,by (intro wq hSw;(try dsimp only at hSw);go_simp)⟩) hHeld ?_
 simp only [Act.put,zz1,zz2,zz3]
 refine wpAnyH_take (i:=24) (oi:=⟨some 27,.fieldAddr 29 (.tmp 1) 8,0,"two.go:60",#[],none⟩) (v:=.pointer (some ⟨w.heap.size,11,none⟩)) rfl (by kernel_rfl) (by kernel_rfl) (by kernel_rfl) (fun _ _ _ h=>h) (Or.inl ⟨by rfl,by (intro wq hSw;(try dsimp only at hSw);go_simp)⟩) hHeld ?_
 simp only [Act.put,zz1,zz2,zz3]
 refine wpAnyH_take (i:=25) (oi:=⟨some 28,.load 9 (.tmp 27),9,"two.go:60",#[⟨24,.data⟩],none⟩) (v:=.string p.user) rfl (by kernel_rfl) (by kernel_rfl) (by kernel_rfl) (fun _ _ _ h=>h) (Or.inl ⟨by rfl,by (intro wq hSw;(try dsimp only at hSw);go_simp)⟩) hHeld ?_
 simp only [Act.put,zz1,zz2,zz3]
 refine wpAnyH_take (i:=26) (oi:=⟨some 29,.fieldAddr 29 (.tmp 1) 6,0,"two.go:60",#[],none⟩) (v:=.pointer (some ⟨w.heap.size,6,none⟩)) rfl (by kernel_rfl) (by kernel_rfl) (by kernel_rfl) (fun _ _ _ h=>h) (Or.inl ⟨by rfl,by (intro wq hSw;(try dsimp only at hSw);go_simp)⟩) hHeld ?_
 simp only [Act.put,zz1,zz2,zz3]
 refine wpAnyH_take (i:=27) (oi:=⟨some 30,.load 24 (.tmp 29),24,"two.go:60",#[⟨26,.data⟩],none⟩) (v:=.agg #[.string p.wT,.slice p.wP.a p.wP.n p.wP.c,.int .i64 p.wQ,.bool p.wR]) rfl (by kernel_rfl) (by kernel_rfl) (by kernel_rfl) (fun _ _ _ h=>h) (Or.inl ⟨by rfl,by (intro wq hSw;(try dsimp only at hSw);go_simp)⟩) hHeld ?_
 simp only [Act.put,zz1,zz2,zz3]
 refine wpAnyH_take (i:=29) (oi:=⟨some 32,.fieldAddr 29 (.tmp 1) 14,0,"two.go:60",#[],none⟩) (v:=.pointer (some ⟨w.heap.size,17,none⟩)) rfl (by kernel_rfl) (by kernel_rfl) (by kernel_rfl) (fun _ _ _ h=>h) (Or.inl ⟨by rfl,by (intro wq hSw;(try dsimp only at hSw);go_simp)⟩) hHeld ?_
 simp only [Act.put,zz1,zz2,zz3]
 refine wpAnyH_take (i:=30) (oi:=⟨some 33,.load 24 (.tmp 32),24,"two.go:60",#[⟨29,.data⟩],none⟩) (v:=.agg #[.string p.mT,.slice p.mP.a p.mP.n p.mP.c,.int .i64 p.mQ,.bool p.mR]) rfl (by kernel_rfl) (by kernel_rfl) (by kernel_rfl) (fun _ _ _ h=>h) (Or.inl ⟨by rfl,by (intro wq hSw;(try dsimp only at hSw);go_simp)⟩) hHeld ?_
 simp only [Act.put,zz1,zz2,zz3]
 refine wpAnyH_ready (rs:=[28]) (by kernel_rfl) (by simp) ?_
 refine AllReadyH.cons rfl (fun K hK=>?_) AllReadyH.nil
 go_simp
 go_wp2_with (go_at_call 108;refine (zbd _ _ _ _ _ _ _).mono ?_;rintro e wn ⟨rfl,hb⟩)
 have HR2:=Rw.below HR1 hb
 clear hb HR1 hHeld
 refine hK.out _ _ (KS.out _ ⟨_,HR2.out⟩) (fun hHeld=>?_)
 clear hK K
 refine wpAnyH_ready (rs:=[31]) (by kernel_rfl) (by simp) ?_
 refine AllReadyH.cons rfl (fun K hK=>?_) AllReadyH.nil
 go_simp
 go_wp2_with (go_at_call 108;refine (zbd _ _ _ _ _ _ _).mono ?_;rintro e wn ⟨rfl,hb⟩)
 have HR3:=Rw.below HR2 hb
 clear hb HR2 hHeld
 refine hK.out _ _ (KS.out _ ⟨_,HR3.out⟩) (fun hHeld=>?_)
 clear hK K
 refine wpAnyH_take (i:=32) (oi:=⟨some 35,.build 93 #[(0,.tmp 4),(1,.tmp 6),(2,.tmp 8),(3,.tmp 10),(4,.tmp 12),(5,.tmp 14),(6,.tmp 16),(7,.tmp 18),(8,.tmp 20),(9,.tmp 22),(10,.tmp 24),(11,.tmp 26),(12,.tmp 28),(13,.tmp 31),(14,.tmp 34)],93,"two.go:60",#[⟨1,.data⟩,⟨3,.data⟩,⟨5,.data⟩,⟨7,.data⟩,⟨9,.data⟩,⟨11,.data⟩,⟨13,.data⟩,⟨15,.data⟩,⟨17,.data⟩,⟨19,.data⟩,⟨21,.data⟩,⟨23,.data⟩,⟨25,.data⟩,⟨28,.data⟩,⟨31,.data⟩],none⟩) (v:=.agg (plCells p)) rfl (by kernel_rfl) (by kernel_rfl) (by kernel_rfl) (fun _ _ _ h=>h) (Or.inl ⟨by rfl,by (intro wq hSw;exact yields_build 93 _ rfl (plCells p) (by kernel_rfl) wq)⟩) hHeld ?_
 simp only [Act.put,zz1,zz2,zz3]
 refine wpAnyH_ready (rs:=[33]) (by kernel_rfl) (by simp) ?_
 refine AllReadyH.cons rfl (fun K hK=>?_) AllReadyH.nil
 rw [if_pos (by rfl)]
 refine wp_store_row 93 _ _ rfl (w.heap.size+1) (plCells p) rfl rfl 93 plZ HR3.out.row (by kernel_rfl) rfl (by simp [plCells,Value.oneCell']) ?_
 have HR4:=Rw.row_set HR3.out (plCells p)
 clear hHeld HR3
 refine hK.out _ _ (KS.out _ ⟨_,HR4⟩) (fun hHeld=>?_)
 clear hK K hHeld
 refine wpAnyH_done (by kernel_rfl) ?_ _
 go_wp2
 exact bodyPost_ret (results_cell_row rfl _ _ _ _ _ _ _ rfl HR4.row Tryz.underlying93 rfl (by kernel_rfl)) rfl ⟨rfl,HR4.bel⟩
end Go.Proofs.YtceigllifjgalaaGreatDoor.Pkt
