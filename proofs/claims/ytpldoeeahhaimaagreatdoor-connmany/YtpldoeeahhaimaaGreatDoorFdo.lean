import Derived.Test.YtpldoeeahhaimaaGreatDoorFdk
import Derived.Test.YtpldoeeahhaimaaGreatDoorPRe
namespace Go.Proofs.YtpldoeeahhaimaaGreatDoor
open Go Go.RowKit
open Pkt (Pk Cn Sl In By Is Ss As pkCells)
set_option linter.all false
set_option maxRecDepth 100000
set_option maxHeartbeats 2000000
section
variable {w0 v w':World} {rb g n cp pb:Nat} {z:Nat->Int} {r r':Rs} {p p':Pk} {c c':Cn}
theorem Cs.self (h:Cs w0 v rb g n cp pb z r p c) (hn:∀ B,NxAll B p):Cs v v rb g n cp pb z r p c := ⟨h.rd,h.pk,lt_of_block h.rd.rd,lt_of_block h.pk,h.n1,h.n2,h.inn,hn _,rfl,rfl,rfl,Nat.le_refl _,fun _ _ _ _=>rfl⟩
theorem Nx.lower {B D:Nat} {s:Sl} (h:Nx D s) (hB:B<=D):Nx B s:=fun b off e=>Nat.le_trans hB (h b off e)
theorem Fr2.trans (h1:Fr2 w0 v rb pb) (h2:Fr2 v w' rb pb):Fr2 w0 w' rb pb := ⟨h2.os.trans h1.os,h2.tape.trans h1.tape,h2.output.trans h1.output,Nat.le_trans h1.size h2.size,fun k hk a b=>(h2.block k (Nat.lt_of_lt_of_le hk h1.size) a b).trans (h1.block k hk a b)⟩
theorem Cs.trans (h1:Cs w0 v rb g n cp pb z r p c) (h2:Cs v w' rb g n cp pb z r' p' c'):Cs w0 w' rb g n cp pb z r' p' c' := ⟨h2.rd,h2.pk,h1.lr,h1.lp,h1.n1,h1.n2,h2.inn,⟨h2.nx.wP.lower h1.size,h2.nx.pass.lower h1.size,h2.nx.mP.lower h1.size,h2.nx.asks.lower h1.size,h2.nx.codes.lower h1.size,h2.nx.filters.lower h1.size⟩, h2.os.trans h1.os,h2.tape.trans h1.tape,h2.output.trans h1.output,Nat.le_trans h1.size h2.size,fun k hk a b=>(h2.block k (Nat.lt_of_lt_of_le hk h1.size) a b).trans (h1.block k hk a b)⟩
theorem OutIs.lower {e:Ending} {R:Except (Int×Int) (Rs×Pk×Cn)} (h1:Cs w0 v rb g n cp pb z r p c) (h2:OutIs v w' e rb g n cp pb z R):OutIs w0 w' e rb g n cp pb z R:=by cases R with | error x=>exact ⟨h2.1,h1.fr.trans h2.2⟩ | ok y=>obtain ⟨e,q,hq,ha⟩:=h2;exact ⟨e,q,h1.trans hq,ha⟩
end
def errOut (y:Rs×Pk×Cn):Except (Int×Int) (Rs×Pk×Cn):=if y.1.q≠0 then .error (y.1.p,y.1.q) else .ok y
def blank (k:Int):Pk:=⟨k,0,false,0,⟨#[]⟩,false,⟨#[]⟩,⟨none,0,0⟩,0,false,false,⟨#[]⟩,false,⟨none,0,0⟩,false,0,false,⟨#[]⟩,⟨none,0,0⟩,0,false,0,⟨none,0,0⟩,⟨none,0,0⟩,⟨none,0,0⟩⟩
theorem nx_nil (B:Nat):Nx B ⟨none,0,0⟩:=fun b off e=>by cases e
theorem nx_blank (k:Int) (B:Nat):NxAll B (blank k):=⟨nx_nil B,nx_nil B,nx_nil B,nx_nil B,nx_nil B,nx_nil B⟩
def idP (z:Nat->Int) (n:Nat) (r:Rs) (p:Pk) (c:Cn):Rs×Pk×Cn:=(rEnd n (rNum z n r).2,{ p with id:=(rNum z n r).1 },c)
theorem into_connect {w0 w:World} {rb g n cp pb:Nat} {z:Nat->Int} {r:Rs} {c:Cn} (fl:Int) (h:Cs w0 w rb g n cp pb z r (blank 1) c) :
 Calls Tryz.prog 67 #[.agg #[.pointer (some ⟨rb,0,none⟩),.int .i64 n],.pointer (some ⟨pb,0,none⟩),.int .i64 fl] w fun e w'=>OutIs w0 w' e rb g n cp pb z (connectP z n r (blank 1) c):=by
 have XW:Hid (Cs w0 (w.alloc (.cells #[.pointer (some ⟨rb,0,none⟩),.int .i64 n] 129)) rb g n cp pb z r (blank 1) c):=h.below ((Below.refl _ _).alloc (Nat.le_refl _) _);have XV:Hid (Cs (w.alloc (.cells #[.pointer (some ⟨rb,0,none⟩),.int .i64 n] 129)) (w.alloc (.cells #[.pointer (some ⟨rb,0,none⟩),.int .i64 n] 129)) rb g n cp pb z r (blank 1) c):=XW.out.self (nx_blank 1);have LL:Hid (rb<w.heap.size/\pb<w.heap.size):=⟨lt_of_block h.rd.rd,lt_of_block h.pk⟩;have BX0:Hid ((w.alloc (.cells #[.pointer (some ⟨rb,0,none⟩),.int .i64 n] 129)).cell? ⟨w.heap.size,0,none⟩=some (.pointer (some ⟨rb,0,none⟩))):=by show _=_;simp [go_sem]
 have c0:(w.alloc (.cells #[.pointer (some ⟨rb,0,none⟩),.int .i64 n] 129)).cell? ⟨pb,0,none⟩=some (.int .i64 1):=XW.out.cell 0 _ rfl;obtain ⟨R,hR⟩:∃ R,R=connectP z n r (blank 1) c:=⟨_,rfl⟩;rw [<-hR];have HR:Hid (R=connectP z n r (blank 1) c):=hR;clear h hR;go_enter Tryz.func67,Tryz.ntmps67;go_wp2_with fail;go_must (go_at_call 93);have T:=connect_any XV.out;rw [<-HR.out] at T;refine T.mono ?_;rintro e w1 hO;obtain ⟨v,rfl⟩:=hO.ret;have HO:Hid (OutIs (w.alloc (.cells #[.pointer (some ⟨rb,0,none⟩),.int .i64 n] 129)) w1 (.returned v) rb g n cp pb z R):=hO;clear hO T;go_wp2;go_ret;exact OutIs.lower XW.out HO.out
theorem into_connack {w0 w:World} {rb g n cp pb:Nat} {z:Nat->Int} {r:Rs} {c:Cn} (fl:Int) (h:Cs w0 w rb g n cp pb z r (blank 2) c) :
 Calls Tryz.prog 67 #[.agg #[.pointer (some ⟨rb,0,none⟩),.int .i64 n],.pointer (some ⟨pb,0,none⟩),.int .i64 fl] w fun e w'=>OutIs w0 w' e rb g n cp pb z (connackP z n r (blank 2) c):=by
 have XW:Hid (Cs w0 (w.alloc (.cells #[.pointer (some ⟨rb,0,none⟩),.int .i64 n] 129)) rb g n cp pb z r (blank 2) c):=h.below ((Below.refl _ _).alloc (Nat.le_refl _) _);have XV:Hid (Cs (w.alloc (.cells #[.pointer (some ⟨rb,0,none⟩),.int .i64 n] 129)) (w.alloc (.cells #[.pointer (some ⟨rb,0,none⟩),.int .i64 n] 129)) rb g n cp pb z r (blank 2) c):=XW.out.self (nx_blank 2);have LL:Hid (rb<w.heap.size/\pb<w.heap.size):=⟨lt_of_block h.rd.rd,lt_of_block h.pk⟩;have BX0:Hid ((w.alloc (.cells #[.pointer (some ⟨rb,0,none⟩),.int .i64 n] 129)).cell? ⟨w.heap.size,0,none⟩=some (.pointer (some ⟨rb,0,none⟩))):=by show _=_;simp [go_sem]
 have c0:(w.alloc (.cells #[.pointer (some ⟨rb,0,none⟩),.int .i64 n] 129)).cell? ⟨pb,0,none⟩=some (.int .i64 2):=XW.out.cell 0 _ rfl;obtain ⟨R,hR⟩:∃ R,R=connackP z n r (blank 2) c:=⟨_,rfl⟩;rw [<-hR];have HR:Hid (R=connackP z n r (blank 2) c):=hR;clear h hR;go_enter Tryz.func67,Tryz.ntmps67;go_wp2_with fail;go_must (go_at_call 94);have T:=connack_any XV.out;rw [<-HR.out] at T;refine T.mono ?_;rintro e w1 hO;obtain ⟨v,rfl⟩:=hO.ret;have HO:Hid (OutIs (w.alloc (.cells #[.pointer (some ⟨rb,0,none⟩),.int .i64 n] 129)) w1 (.returned v) rb g n cp pb z R):=hO;clear hO T;go_wp2;go_ret;exact OutIs.lower XW.out HO.out
theorem into_publish {w0 w:World} {rb g n cp pb:Nat} {z:Nat->Int} {r:Rs} {c:Cn} (fl:Int) (h:Cs w0 w rb g n cp pb z r (blank 3) c) :
 Calls Tryz.prog 67 #[.agg #[.pointer (some ⟨rb,0,none⟩),.int .i64 n],.pointer (some ⟨pb,0,none⟩),.int .i64 fl] w fun e w'=>OutIs w0 w' e rb g n cp pb z (errOut (publishP z n r (blank 3) c fl)):=by
 have XW:Hid (Cs w0 (w.alloc (.cells #[.pointer (some ⟨rb,0,none⟩),.int .i64 n] 129)) rb g n cp pb z r (blank 3) c):=h.below ((Below.refl _ _).alloc (Nat.le_refl _) _);have XV:Hid (Cs (w.alloc (.cells #[.pointer (some ⟨rb,0,none⟩),.int .i64 n] 129)) (w.alloc (.cells #[.pointer (some ⟨rb,0,none⟩),.int .i64 n] 129)) rb g n cp pb z r (blank 3) c):=XW.out.self (nx_blank 3);have LL:Hid (rb<w.heap.size/\pb<w.heap.size):=⟨lt_of_block h.rd.rd,lt_of_block h.pk⟩;have BX0:Hid ((w.alloc (.cells #[.pointer (some ⟨rb,0,none⟩),.int .i64 n] 129)).cell? ⟨w.heap.size,0,none⟩=some (.pointer (some ⟨rb,0,none⟩))):=by show _=_;simp [go_sem]
 have c0:(w.alloc (.cells #[.pointer (some ⟨rb,0,none⟩),.int .i64 n] 129)).cell? ⟨pb,0,none⟩=some (.int .i64 3):=XW.out.cell 0 _ rfl;obtain ⟨R,hR⟩:∃ R,R=errOut (publishP z n r (blank 3) c fl):=⟨_,rfl⟩;rw [<-hR];have HR:Hid (R=errOut (publishP z n r (blank 3) c fl)):=hR;clear h hR;go_enter Tryz.func67,Tryz.ntmps67;obtain ⟨Y,hY⟩:∃ Y,Y=publishP z n r (blank 3) c fl:=⟨_,rfl⟩;rw [<-hY] at HR;have DD:Hid (Calls Tryz.prog 95 #[.agg #[.pointer (some ⟨rb,0,none⟩),.int .i64 n],.pointer (some ⟨pb,0,none⟩),.int .i64 fl] (w.alloc (.cells #[.pointer (some ⟨rb,0,none⟩),.int .i64 n] 129)) fun e w'=>e = .returned (.tuple #[])/\Done (w.alloc (.cells #[.pointer (some ⟨rb,0,none⟩),.int .i64 n] 129)) w' rb g n cp pb z Y):=by rw [hY];exact publish_any fl XV.out
 clear hY;go_wp2_with fail;go_must (go_at_call 95);refine DD.out.mono ?_;rintro e w1 ⟨rfl,q,hq,ha⟩;have X1:Hid (Cs (w.alloc (.cells #[.pointer (some ⟨rb,0,none⟩),.int .i64 n] 129)) w1 rb g n cp pb z Y.1 q Y.2.2):=hq;have AL:Hid (Alike q Y.2.1):=ha;have BX1:Hid (w1.cell? ⟨w.heap.size,0,none⟩=some (.pointer (some ⟨rb,0,none⟩))):=by have q2:=hq.block w.heap.size (by simp) (by have:=LL.out;omega) (by have:=LL.out;omega);have q3:=BX0.out;show _=_;unfold World.cell? at q3 ⊢;rw [show ({ block:=w.heap.size,off:=0 }:Addr).block=w.heap.size from rfl,q2];exact q3
 clear hq ha DD;have bx:=BX1.out;go_wp2_with fail;go_must (go_at_call 101);clear bx;have T:=err_out X1.out (Y.2.1) AL.out;have EE:R=if (Y.1).q≠0 then .error ((Y.1).p,(Y.1).q) else .ok (Y.1,Y.2.1,Y.2.2):=HR.out;rw [<-EE] at T;refine T.mono ?_;rintro e w6 hO;obtain ⟨v,rfl⟩:=hO.ret;have HO:Hid (OutIs (w.alloc (.cells #[.pointer (some ⟨rb,0,none⟩),.int .i64 n] 129)) w6 (.returned v) rb g n cp pb z R):=hO;clear hO T EE;go_wp2;go_ret;exact OutIs.lower XW.out HO.out
theorem into_subscribe {w0 w:World} {rb g n cp pb:Nat} {z:Nat->Int} {r:Rs} {c:Cn} (fl:Int) (h:Cs w0 w rb g n cp pb z r (blank 8) c) :
 Calls Tryz.prog 67 #[.agg #[.pointer (some ⟨rb,0,none⟩),.int .i64 n],.pointer (some ⟨pb,0,none⟩),.int .i64 fl] w fun e w'=>OutIs w0 w' e rb g n cp pb z (errOut (subP z n r (blank 8) c)):=by
 have XW:Hid (Cs w0 (w.alloc (.cells #[.pointer (some ⟨rb,0,none⟩),.int .i64 n] 129)) rb g n cp pb z r (blank 8) c):=h.below ((Below.refl _ _).alloc (Nat.le_refl _) _);have XV:Hid (Cs (w.alloc (.cells #[.pointer (some ⟨rb,0,none⟩),.int .i64 n] 129)) (w.alloc (.cells #[.pointer (some ⟨rb,0,none⟩),.int .i64 n] 129)) rb g n cp pb z r (blank 8) c):=XW.out.self (nx_blank 8);have LL:Hid (rb<w.heap.size/\pb<w.heap.size):=⟨lt_of_block h.rd.rd,lt_of_block h.pk⟩;have BX0:Hid ((w.alloc (.cells #[.pointer (some ⟨rb,0,none⟩),.int .i64 n] 129)).cell? ⟨w.heap.size,0,none⟩=some (.pointer (some ⟨rb,0,none⟩))):=by show _=_;simp [go_sem]
 have c0:(w.alloc (.cells #[.pointer (some ⟨rb,0,none⟩),.int .i64 n] 129)).cell? ⟨pb,0,none⟩=some (.int .i64 8):=XW.out.cell 0 _ rfl;obtain ⟨R,hR⟩:∃ R,R=errOut (subP z n r (blank 8) c):=⟨_,rfl⟩;rw [<-hR];have HR:Hid (R=errOut (subP z n r (blank 8) c)):=hR;clear h hR;go_enter Tryz.func67,Tryz.ntmps67;obtain ⟨Y,hY⟩:∃ Y,Y=subP z n r (blank 8) c:=⟨_,rfl⟩;rw [<-hY] at HR;have DD:Hid (Calls Tryz.prog 96 #[.agg #[.pointer (some ⟨rb,0,none⟩),.int .i64 n],.pointer (some ⟨pb,0,none⟩)] (w.alloc (.cells #[.pointer (some ⟨rb,0,none⟩),.int .i64 n] 129)) fun e w'=>e = .returned (.tuple #[])/\Done (w.alloc (.cells #[.pointer (some ⟨rb,0,none⟩),.int .i64 n] 129)) w' rb g n cp pb z Y):=by rw [hY];exact sub_any XV.out rfl
 clear hY;go_wp2_with fail;go_must (go_at_call 96);refine DD.out.mono ?_;rintro e w1 ⟨rfl,q,hq,ha⟩;have X1:Hid (Cs (w.alloc (.cells #[.pointer (some ⟨rb,0,none⟩),.int .i64 n] 129)) w1 rb g n cp pb z Y.1 q Y.2.2):=hq;have AL:Hid (Alike q Y.2.1):=ha;have BX1:Hid (w1.cell? ⟨w.heap.size,0,none⟩=some (.pointer (some ⟨rb,0,none⟩))):=by have q2:=hq.block w.heap.size (by simp) (by have:=LL.out;omega) (by have:=LL.out;omega);have q3:=BX0.out;show _=_;unfold World.cell? at q3 ⊢;rw [show ({ block:=w.heap.size,off:=0 }:Addr).block=w.heap.size from rfl,q2];exact q3
 clear hq ha DD;have bx:=BX1.out;go_wp2_with fail;go_must (go_at_call 101);clear bx;have T:=err_out X1.out (Y.2.1) AL.out;have EE:R=if (Y.1).q≠0 then .error ((Y.1).p,(Y.1).q) else .ok (Y.1,Y.2.1,Y.2.2):=HR.out;rw [<-EE] at T;refine T.mono ?_;rintro e w6 hO;obtain ⟨v,rfl⟩:=hO.ret;have HO:Hid (OutIs (w.alloc (.cells #[.pointer (some ⟨rb,0,none⟩),.int .i64 n] 129)) w6 (.returned v) rb g n cp pb z R):=hO;clear hO T EE;go_wp2;go_ret;exact OutIs.lower XW.out HO.out
theorem into_suback {w0 w:World} {rb g n cp pb:Nat} {z:Nat->Int} {r:Rs} {c:Cn} (fl:Int) (h:Cs w0 w rb g n cp pb z r (blank 9) c) :
 Calls Tryz.prog 67 #[.agg #[.pointer (some ⟨rb,0,none⟩),.int .i64 n],.pointer (some ⟨pb,0,none⟩),.int .i64 fl] w fun e w'=>OutIs w0 w' e rb g n cp pb z (errOut (subackP z n r (blank 9) c)):=by
 have XW:Hid (Cs w0 (w.alloc (.cells #[.pointer (some ⟨rb,0,none⟩),.int .i64 n] 129)) rb g n cp pb z r (blank 9) c):=h.below ((Below.refl _ _).alloc (Nat.le_refl _) _);have XV:Hid (Cs (w.alloc (.cells #[.pointer (some ⟨rb,0,none⟩),.int .i64 n] 129)) (w.alloc (.cells #[.pointer (some ⟨rb,0,none⟩),.int .i64 n] 129)) rb g n cp pb z r (blank 9) c):=XW.out.self (nx_blank 9);have LL:Hid (rb<w.heap.size/\pb<w.heap.size):=⟨lt_of_block h.rd.rd,lt_of_block h.pk⟩;have BX0:Hid ((w.alloc (.cells #[.pointer (some ⟨rb,0,none⟩),.int .i64 n] 129)).cell? ⟨w.heap.size,0,none⟩=some (.pointer (some ⟨rb,0,none⟩))):=by show _=_;simp [go_sem]
 have c0:(w.alloc (.cells #[.pointer (some ⟨rb,0,none⟩),.int .i64 n] 129)).cell? ⟨pb,0,none⟩=some (.int .i64 9):=XW.out.cell 0 _ rfl;obtain ⟨R,hR⟩:∃ R,R=errOut (subackP z n r (blank 9) c):=⟨_,rfl⟩;rw [<-hR];have HR:Hid (R=errOut (subackP z n r (blank 9) c)):=hR;clear h hR;go_enter Tryz.func67,Tryz.ntmps67;obtain ⟨Y,hY⟩:∃ Y,Y=subackP z n r (blank 9) c:=⟨_,rfl⟩;rw [<-hY] at HR;have DD:Hid (Calls Tryz.prog 97 #[.agg #[.pointer (some ⟨rb,0,none⟩),.int .i64 n],.pointer (some ⟨pb,0,none⟩)] (w.alloc (.cells #[.pointer (some ⟨rb,0,none⟩),.int .i64 n] 129)) fun e w'=>e = .returned (.tuple #[])/\Done (w.alloc (.cells #[.pointer (some ⟨rb,0,none⟩),.int .i64 n] 129)) w' rb g n cp pb z Y):=by rw [hY];exact suback_any XV.out
 clear hY;go_wp2_with fail;go_must (go_at_call 97);refine DD.out.mono ?_;rintro e w1 ⟨rfl,q,hq,ha⟩;have X1:Hid (Cs (w.alloc (.cells #[.pointer (some ⟨rb,0,none⟩),.int .i64 n] 129)) w1 rb g n cp pb z Y.1 q Y.2.2):=hq;have AL:Hid (Alike q Y.2.1):=ha;have BX1:Hid (w1.cell? ⟨w.heap.size,0,none⟩=some (.pointer (some ⟨rb,0,none⟩))):=by have q2:=hq.block w.heap.size (by simp) (by have:=LL.out;omega) (by have:=LL.out;omega);have q3:=BX0.out;show _=_;unfold World.cell? at q3 ⊢;rw [show ({ block:=w.heap.size,off:=0 }:Addr).block=w.heap.size from rfl,q2];exact q3
 clear hq ha DD;have bx:=BX1.out;go_wp2_with fail;go_must (go_at_call 101);clear bx;have T:=err_out X1.out (Y.2.1) AL.out;have EE:R=if (Y.1).q≠0 then .error ((Y.1).p,(Y.1).q) else .ok (Y.1,Y.2.1,Y.2.2):=HR.out;rw [<-EE] at T;refine T.mono ?_;rintro e w6 hO;obtain ⟨v,rfl⟩:=hO.ret;have HO:Hid (OutIs (w.alloc (.cells #[.pointer (some ⟨rb,0,none⟩),.int .i64 n] 129)) w6 (.returned v) rb g n cp pb z R):=hO;clear hO T EE;go_wp2;go_ret;exact OutIs.lower XW.out HO.out
theorem into_unsubscribe {w0 w:World} {rb g n cp pb:Nat} {z:Nat->Int} {r:Rs} {c:Cn} (fl:Int) (h:Cs w0 w rb g n cp pb z r (blank 10) c) :
 Calls Tryz.prog 67 #[.agg #[.pointer (some ⟨rb,0,none⟩),.int .i64 n],.pointer (some ⟨pb,0,none⟩),.int .i64 fl] w fun e w'=>OutIs w0 w' e rb g n cp pb z (errOut (unsP z n r (blank 10) c)):=by
 have XW:Hid (Cs w0 (w.alloc (.cells #[.pointer (some ⟨rb,0,none⟩),.int .i64 n] 129)) rb g n cp pb z r (blank 10) c):=h.below ((Below.refl _ _).alloc (Nat.le_refl _) _);have XV:Hid (Cs (w.alloc (.cells #[.pointer (some ⟨rb,0,none⟩),.int .i64 n] 129)) (w.alloc (.cells #[.pointer (some ⟨rb,0,none⟩),.int .i64 n] 129)) rb g n cp pb z r (blank 10) c):=XW.out.self (nx_blank 10);have LL:Hid (rb<w.heap.size/\pb<w.heap.size):=⟨lt_of_block h.rd.rd,lt_of_block h.pk⟩;have BX0:Hid ((w.alloc (.cells #[.pointer (some ⟨rb,0,none⟩),.int .i64 n] 129)).cell? ⟨w.heap.size,0,none⟩=some (.pointer (some ⟨rb,0,none⟩))):=by show _=_;simp [go_sem]
 have c0:(w.alloc (.cells #[.pointer (some ⟨rb,0,none⟩),.int .i64 n] 129)).cell? ⟨pb,0,none⟩=some (.int .i64 10):=XW.out.cell 0 _ rfl;obtain ⟨R,hR⟩:∃ R,R=errOut (unsP z n r (blank 10) c):=⟨_,rfl⟩;rw [<-hR];have HR:Hid (R=errOut (unsP z n r (blank 10) c)):=hR;clear h hR;go_enter Tryz.func67,Tryz.ntmps67;obtain ⟨Y,hY⟩:∃ Y,Y=unsP z n r (blank 10) c:=⟨_,rfl⟩;rw [<-hY] at HR;have DD:Hid (Calls Tryz.prog 98 #[.agg #[.pointer (some ⟨rb,0,none⟩),.int .i64 n],.pointer (some ⟨pb,0,none⟩)] (w.alloc (.cells #[.pointer (some ⟨rb,0,none⟩),.int .i64 n] 129)) fun e w'=>e = .returned (.tuple #[])/\Done (w.alloc (.cells #[.pointer (some ⟨rb,0,none⟩),.int .i64 n] 129)) w' rb g n cp pb z Y):=by rw [hY];exact uns_any XV.out rfl
 clear hY;go_wp2_with fail;go_must (go_at_call 98);refine DD.out.mono ?_;rintro e w1 ⟨rfl,q,hq,ha⟩;have X1:Hid (Cs (w.alloc (.cells #[.pointer (some ⟨rb,0,none⟩),.int .i64 n] 129)) w1 rb g n cp pb z Y.1 q Y.2.2):=hq;have AL:Hid (Alike q Y.2.1):=ha;have BX1:Hid (w1.cell? ⟨w.heap.size,0,none⟩=some (.pointer (some ⟨rb,0,none⟩))):=by have q2:=hq.block w.heap.size (by simp) (by have:=LL.out;omega) (by have:=LL.out;omega);have q3:=BX0.out;show _=_;unfold World.cell? at q3 ⊢;rw [show ({ block:=w.heap.size,off:=0 }:Addr).block=w.heap.size from rfl,q2];exact q3
 clear hq ha DD;have bx:=BX1.out;go_wp2_with fail;go_must (go_at_call 101);clear bx;have T:=err_out X1.out (Y.2.1) AL.out;have EE:R=if (Y.1).q≠0 then .error ((Y.1).p,(Y.1).q) else .ok (Y.1,Y.2.1,Y.2.2):=HR.out;rw [<-EE] at T;refine T.mono ?_;rintro e w6 hO;obtain ⟨v,rfl⟩:=hO.ret;have HO:Hid (OutIs (w.alloc (.cells #[.pointer (some ⟨rb,0,none⟩),.int .i64 n] 129)) w6 (.returned v) rb g n cp pb z R):=hO;clear hO T EE;go_wp2;go_ret;exact OutIs.lower XW.out HO.out
theorem into_id {w0 w:World} {rb g n cp pb:Nat} {z:Nat->Int} {r:Rs} {c:Cn} (fl k:Int) (hk:k=4\/k=5\/k=6\/k=7\/k=11) (h:Cs w0 w rb g n cp pb z r (blank k) c) :
 Calls Tryz.prog 67 #[.agg #[.pointer (some ⟨rb,0,none⟩),.int .i64 n],.pointer (some ⟨pb,0,none⟩),.int .i64 fl] w fun e w'=>OutIs w0 w' e rb g n cp pb z (errOut (idP z n r (blank k) c)):=by
 have XW:Hid (Cs w0 (w.alloc (.cells #[.pointer (some ⟨rb,0,none⟩),.int .i64 n] 129)) rb g n cp pb z r (blank k) c):=h.below ((Below.refl _ _).alloc (Nat.le_refl _) _);have XV:Hid (Cs (w.alloc (.cells #[.pointer (some ⟨rb,0,none⟩),.int .i64 n] 129)) (w.alloc (.cells #[.pointer (some ⟨rb,0,none⟩),.int .i64 n] 129)) rb g n cp pb z r (blank k) c):=XW.out.self (nx_blank k);have LL:Hid (rb<w.heap.size/\pb<w.heap.size):=⟨lt_of_block h.rd.rd,lt_of_block h.pk⟩;have BX0:Hid ((w.alloc (.cells #[.pointer (some ⟨rb,0,none⟩),.int .i64 n] 129)).cell? ⟨w.heap.size,0,none⟩=some (.pointer (some ⟨rb,0,none⟩))):=by show _=_;simp [go_sem]
 have c0:(w.alloc (.cells #[.pointer (some ⟨rb,0,none⟩),.int .i64 n] 129)).cell? ⟨pb,0,none⟩=some (.int .i64 k):=XW.out.cell 0 _ rfl;obtain ⟨R,hR⟩:∃ R,R=errOut (idP z n r (blank k) c):=⟨_,rfl⟩;rw [<-hR];have HR:Hid (R=errOut (idP z n r (blank k) c)):=hR;clear h hR;go_enter Tryz.func67,Tryz.ntmps67;obtain ⟨t,ht⟩:∃ y,y=rNum z n r:=⟨_,rfl⟩;have H1:Hid (t=rNum z n r):=ht;obtain ⟨r2,hr2⟩:∃ y,y=rEnd n t.2:=⟨_,rfl⟩;have H2:Hid (r2=rEnd n t.2):=hr2;rw [idP,<-ht,<-hr2] at HR;clear ht hr2;obtain ⟨t,r1⟩:=t;simp only at H2 HR;rcases hk with hk | hk | hk | hk | hk <;> (rw [hk] at c0;clear hk);all_goals
  have bx:=BX0.out;go_wp2_with fail;go_must (go_at_call 99);clear bx c0;refine (number_any XV.out.rd).mono ?_;rw [<-H1.out];rintro e v1 ⟨rfl,hr,hg⟩;have X1:Hid (Cs (w.alloc (.cells #[.pointer (some ⟨rb,0,none⟩),.int .i64 n] 129)) v1 rb g n cp pb z r1 (blank k) c):=XV.out.read hr hg;have BX1:Hid (v1.cell? ⟨w.heap.size,0,none⟩=some (.pointer (some ⟨rb,0,none⟩))):=hg.cell BX0.out (by have:=LL.out;simp;omega);clear hr hg;have e21:=X1.out.cell 21 (.int .i64 0) rfl;have z21:=X1.out.frozen 21;obtain ⟨v2,hW⟩:∃ W,W=v1.setCell ⟨pb,21,none⟩ (.int .i64 t):=⟨_,rfl⟩;have X2:=(show Hid _ from X1.out.setS 21 (.int .i64 t) ({ blank k with id:=t }) rfl rfl rfl rfl rfl rfl rfl);rw [<-hW] at X2;have BX2:Hid (v2.cell? ⟨w.heap.size,0,none⟩=some (.pointer (some ⟨rb,0,none⟩))):=by show _=_;rw [hW];exact bx_set BX1.out (by have:=LL.out;omega)
  go_upto_region 23 with fail;rw [<-hW];clear hW e21 z21;have bx:=BX2.out;go_wp2_with fail;go_must (go_at_call 100);clear bx;refine (end_any X2.out.rd).mono ?_;rw [<-H2.out];rintro e v3 ⟨rfl,hr,hg⟩;have X3:Hid (Cs (w.alloc (.cells #[.pointer (some ⟨rb,0,none⟩),.int .i64 n] 129)) v3 rb g n cp pb z r2 ({ blank k with id:=t }) c):=X2.out.read hr hg;have BX3:Hid (v3.cell? ⟨w.heap.size,0,none⟩=some (.pointer (some ⟨rb,0,none⟩))):=hg.cell BX2.out (by have:=LL.out;simp;omega);clear hr hg;have bx:=BX3.out;go_wp2_with fail;go_must (go_at_call 101);clear bx;have T:=err_out X3.out ({ blank k with id:=t }) (Alike.refl _);have EE:R=if (r2).q≠0 then .error ((r2).p,(r2).q) else .ok (r2,{ blank k with id:=t },c):=HR.out;rw [<-EE] at T;refine T.mono ?_;rintro e w6 hO;obtain ⟨v,rfl⟩:=hO.ret;have HO:Hid (OutIs (w.alloc (.cells #[.pointer (some ⟨rb,0,none⟩),.int .i64 n] 129)) w6 (.returned v) rb g n cp pb z R):=hO;clear hO T EE;go_wp2;go_ret;exact OutIs.lower XW.out HO.out
theorem into_no {w0 w:World} {rb g n cp pb:Nat} {z:Nat->Int} {r:Rs} {c:Cn} (fl k:Int) (hk:k=12\/k=13\/k=14) (h:Cs w0 w rb g n cp pb z r (blank k) c) :
 Calls Tryz.prog 67 #[.agg #[.pointer (some ⟨rb,0,none⟩),.int .i64 n],.pointer (some ⟨pb,0,none⟩),.int .i64 fl] w fun e w'=>OutIs w0 w' e rb g n cp pb z (errOut (rEnd n r,blank k,c)):=by
 have XW:Hid (Cs w0 (w.alloc (.cells #[.pointer (some ⟨rb,0,none⟩),.int .i64 n] 129)) rb g n cp pb z r (blank k) c):=h.below ((Below.refl _ _).alloc (Nat.le_refl _) _);have XV:Hid (Cs (w.alloc (.cells #[.pointer (some ⟨rb,0,none⟩),.int .i64 n] 129)) (w.alloc (.cells #[.pointer (some ⟨rb,0,none⟩),.int .i64 n] 129)) rb g n cp pb z r (blank k) c):=XW.out.self (nx_blank k);have LL:Hid (rb<w.heap.size/\pb<w.heap.size):=⟨lt_of_block h.rd.rd,lt_of_block h.pk⟩;have BX0:Hid ((w.alloc (.cells #[.pointer (some ⟨rb,0,none⟩),.int .i64 n] 129)).cell? ⟨w.heap.size,0,none⟩=some (.pointer (some ⟨rb,0,none⟩))):=by show _=_;simp [go_sem]
 have c0:(w.alloc (.cells #[.pointer (some ⟨rb,0,none⟩),.int .i64 n] 129)).cell? ⟨pb,0,none⟩=some (.int .i64 k):=XW.out.cell 0 _ rfl;obtain ⟨R,hR⟩:∃ R,R=errOut (rEnd n r,blank k,c):=⟨_,rfl⟩;rw [<-hR];have HR:Hid (R=errOut (rEnd n r,blank k,c)):=hR;clear h hR;go_enter Tryz.func67,Tryz.ntmps67;obtain ⟨r1,hr1⟩:∃ y,y=rEnd n r:=⟨_,rfl⟩;have H1:Hid (r1=rEnd n r):=hr1;rw [<-hr1] at HR;clear hr1;rcases hk with hk | hk | hk <;> (rw [hk] at c0;clear hk);all_goals have bx:=BX0.out;go_wp2_with fail;go_must (go_at_call 100);clear bx;refine (end_any XV.out.rd).mono ?_;rw [<-H1.out];rintro e v1 ⟨rfl,hr,hg⟩;have X1:Hid (Cs (w.alloc (.cells #[.pointer (some ⟨rb,0,none⟩),.int .i64 n] 129)) v1 rb g n cp pb z r1 (blank k) c):=XV.out.read hr hg;have BX1:Hid (v1.cell? ⟨w.heap.size,0,none⟩=some (.pointer (some ⟨rb,0,none⟩))):=hg.cell BX0.out (by have:=LL.out;simp;omega);clear hr hg;have bx:=BX1.out;go_wp2_with fail;go_must (go_at_call 101);clear bx;have T:=err_out X1.out (blank k) (Alike.refl _);have EE:R=if (r1).q≠0 then .error ((r1).p,(r1).q) else .ok (r1,blank k,c):=HR.out;rw [<-EE] at T;refine T.mono ?_;rintro e w6 hO;obtain ⟨v,rfl⟩:=hO.ret;have HO:Hid (OutIs (w.alloc (.cells #[.pointer (some ⟨rb,0,none⟩),.int .i64 n] 129)) w6 (.returned v) rb g n cp pb z R):=hO;clear hO T EE;go_wp2;go_ret;exact OutIs.lower XW.out HO.out
def intoP (z:Nat->Int) (n:Nat) (r:Rs) (k:Int) (c:Cn) (fl:Int):Except (Int×Int) (Rs×Pk×Cn) := if k=1 then connectP z n r (blank k) c else if k=2 then connackP z n r (blank k) c else if k=3 then errOut (publishP z n r (blank k) c fl) else if k=8 then errOut (subP z n r (blank k) c) else if k=9 then errOut (subackP z n r (blank k) c) else if k=10 then errOut (unsP z n r (blank k) c) else if k=12\/k=13\/k=14 then errOut (rEnd n r,blank k,c) else errOut (idP z n r (blank k) c)
theorem into_any {w0 w:World} {rb g n cp pb:Nat} {z:Nat->Int} {r:Rs} {c:Cn} (fl k:Int) (hk:1<=k/\k<=14) (h:Cs w0 w rb g n cp pb z r (blank k) c) :
 Calls Tryz.prog 67 #[.agg #[.pointer (some ⟨rb,0,none⟩),.int .i64 n],.pointer (some ⟨pb,0,none⟩),.int .i64 fl] w fun e w'=>OutIs w0 w' e rb g n cp pb z (intoP z n r k c fl):=by
 have hs:k=1\/k=2\/k=3\/k=4\/k=5\/k=6\/k=7\/k=8\/k=9\/k=10\/k=11\/k=12\/k=13\/k=14:=by omega
 rcases hs with rfl | rfl | rfl | rfl | rfl | rfl | rfl | rfl | rfl | rfl | rfl | rfl | rfl | rfl;· exact into_connect fl h
 · exact into_connack fl h
 · exact into_publish fl h
 · exact into_id fl 4 (.inl rfl) h
 · exact into_id fl 5 (.inr (.inl rfl)) h
 · exact into_id fl 6 (.inr (.inr (.inl rfl))) h
 · exact into_id fl 7 (.inr (.inr (.inr (.inl rfl)))) h
 · exact into_subscribe fl h
 · exact into_suback fl h
 · exact into_unsubscribe fl h
 · exact into_id fl 11 (.inr (.inr (.inr (.inr rfl)))) h
 · exact into_no fl 12 (.inl rfl) h
 · exact into_no fl 13 (.inr (.inl rfl)) h
 · exact into_no fl 14 (.inr (.inr rfl)) h
open Pkt (Pk Cn Sl In By Is Ss As pkCells Gd KindsAt form isK isKind_any)
set_option maxHeartbeats 1000000
theorem and15 (x:Int) (h:0<=x/\x<=255):bits .and .u8 x 15=x % 16:=bits_mask .u8 8 (by decide) wraps_u8 4 (by decide) x h.1 (by omega)
theorem split_any (b:Int) (hb:0<=b/\b<=255) (w:World):Calls Tryz.prog 66 #[.int .u8 b] w fun e w'=>e = .returned (.tuple #[.int .i64 (b / 16),.int .i64 (b % 16)])/\w'=w:=by
 have h15:=and15 b hb;have s1:0<=b / 16/\b / 16<=255:=by omega
 have s2:0<=b % 16/\b % 16<=255:=by omega
 go_enter Tryz.func66,Tryz.ntmps66;go_wp2;go_ret2;refine ⟨?_,rfl⟩;first | rfl | simp
def mayP (k f:Int):Bool:=if k=3 then (!(bits .and .i64 f 6==6) && ((bits .and .i64 f 8==0) || (bits .and .i64 f 6 != 0))) else f==(form k.toNat).2.1
theorem may_any (k f:Int) (hk:1<=k/\k<=14) (hf:0<=f/\f<=15) (w:World) (hg:Gd w):Calls Tryz.prog 88 #[.int .i64 k,.int .i64 f] w fun e w'=>e = .returned (.bool (mayP k f))/\w'=w:=by
 by_cases h3:k=3;·
  subst h3;have HK:Hid (isK 3=true):=rfl;clear hg;obtain ⟨a,ha⟩:∃ a,(bits .and .i64 f 6==6)=a:=⟨_,rfl⟩;obtain ⟨b,hb⟩:∃ a,(bits .and .i64 f 8==0)=a:=⟨_,rfl⟩;obtain ⟨c,hc⟩:∃ a,(bits .and .i64 f 6 != 0)=a:=⟨_,rfl⟩;have HV:Hid (mayP 3 f=(!a && (b || c))):=by show _=_;rw [mayP,if_pos rfl,ha,hb,hc]
  rw [HV.out];have n1:¬ f<0:=by omega
  have n2:¬ 15<f:=by omega
  cases a <;> cases b <;> cases c;all_goals go_enter Tryz.func88,Tryz.ntmps88;go_wp2_with (go_at_call 102;refine (isKind_any _ _).mono ?_;rintro e w' ⟨rfl,hee⟩;obtain rfl:=hee.symm;clear hee;rw [HK.out]);go_ret;exact ⟨rfl,rfl⟩
 ·
  obtain ⟨i,rfl⟩:∃ i:Nat,k=i:=⟨k.toNat,by omega⟩;have hi:i<15:=by omega
  have hi':(i:Int)<15:=by omega
  have kf:=(hg.kinds i hi).2.1;have HK:Hid (isK (i:Int)=true):=by show isK _=true;simp [isK];omega
  clear hg;have HV:Hid (mayP (i:Int) f=(f==(form i).2.1)):=by show _=_;rw [mayP,if_neg h3];rfl
  rw [HV.out];go_enter Tryz.func88,Tryz.ntmps88;go_wp2_with (go_at_call 102;refine (isKind_any _ _).mono ?_;rintro e w' ⟨rfl,hee⟩;obtain rfl:=hee.symm;clear hee;rw [HK.out]);go_ret;exact ⟨rfl,rfl⟩
def firstP (b:Int):Int:=if b / 16<1\/14<b / 16 then 30 else if mayP (b / 16) (b % 16) then 0 else 31
theorem first_any (b:Int) (hb:0<=b/\b<=255) (w:World) (hg:Gd w):Calls Tryz.prog 62 #[.int .u8 b] w fun e w'=>e = .returned (.int .i64 (firstP b))/\w'=w:=by
 have S:Hid (Calls Tryz.prog 66 #[.int .u8 b] w fun e w'=>e = .returned (.tuple #[.int .i64 (b / 16),.int .i64 (b % 16)])/\w'=w):=split_any b hb w;have M:Hid (∀ k f,k=b / 16->f=b % 16->¬ (k<1\/14<k)->Calls Tryz.prog 88 #[.int .i64 k,.int .i64 f] w fun e w'=>e = .returned (.bool (mayP k f))/\w'=w):=fun k f h1 h2 h3=>may_any k f (by omega) (by omega) w hg;obtain ⟨F,hF⟩:∃ F,F=firstP b:=⟨_,rfl⟩;rw [<-hF];obtain ⟨k,hk⟩:∃ k,k=b / 16:=⟨_,rfl⟩;obtain ⟨f,hf⟩:∃ k,k=b % 16:=⟨_,rfl⟩;rw [<-hk,<-hf] at S M;have HF:Hid (F=if k<1\/14<k then 30 else if mayP k f then 0 else 31):=by show _=_;rw [hF,firstP,hk,hf]
 clear hF hg;by_cases h1:k<1;·
  have HV:Hid (F=30):=by show _=_;rw [HF.out,if_pos (.inl h1)]
  clear hk hf hb;go_enter Tryz.func62,Tryz.ntmps62;go_wp2_with (go_at_call 66;refine S.out.mono ?_;rintro e w' ⟨rfl,hee⟩;obtain rfl:=hee.symm;clear hee);go_ret;exact ⟨by rw [HV.out];rfl,rfl⟩
 by_cases h2:14<k;·
  have HV:Hid (F=30):=by show _=_;rw [HF.out,if_pos (.inr h2)]
  clear hk hf hb;go_enter Tryz.func62,Tryz.ntmps62;go_wp2_with (go_at_call 66;refine S.out.mono ?_;rintro e w' ⟨rfl,hee⟩;obtain rfl:=hee.symm;clear hee);go_ret;exact ⟨by rw [HV.out];rfl,rfl⟩
 ·
  have MM:Hid (Calls Tryz.prog 88 #[.int .i64 k,.int .i64 f] w fun e w'=>e = .returned (.bool (mayP k f))/\w'=w):=M.out k f rfl rfl (by omega);have HV:Hid (F=if mayP k f then 0 else 31):=by show _=_;rw [HF.out,if_neg (by omega)]
  obtain ⟨m,hm⟩:∃ m,m=mayP k f:=⟨_,rfl⟩;rw [<-hm] at MM HV;clear hk hf hb hm M HF;cases m;all_goals go_enter Tryz.func62,Tryz.ntmps62;go_wp2_with (first | (go_at_call 66;refine S.out.mono ?_;rintro e w' ⟨rfl,hee⟩;obtain rfl:=hee.symm;clear hee)|(go_at_call 88;refine MM.out.mono ?_;rintro e w' ⟨rfl,hee⟩;obtain rfl:=hee.symm;clear hee));go_ret;exact ⟨by rw [HV.out];rfl,rfl⟩
set_option maxHeartbeats 4000000
def HeadIs (w':World) (e:Ending) (x:Int×Int×Option (Int×Int)):Prop := match x.2.2 with | none=>e = .returned (.tuple #[.int .i64 x.1,.int .i64 x.2.1,.nilIface]) | some y=>∃ gg,e = .returned (.tuple #[.int .i64 x.1,.int .i64 x.2.1,.iface 91 (.pointer (some ⟨gg,0,none⟩))])/\w'.heap[gg]?=some (.cells #[.int .i64 y.1,.int .i64 y.2] 81 (0,0))
def lenF (z:Nat->Int) (n:Nat) (most:Int):Nat->Nat->Int->Int×Int×Option (Int×Int) | 0,_,_=>(0,0,some (4,12)) | f+1,k,acc=>if k=n then (0,0,none) else if z k<128 then (if most<acc+z k % 128*128 ^ (k-1) then (0,0,some (1,32)) else (((k+1:Nat):Int),acc+z k % 128*128 ^ (k-1),none)) else lenF z n most f (k+1) (acc+z k % 128*128 ^ (k-1))
def headP (z:Nat->Int) (n:Nat) (most:Int):Int×Int×Option (Int×Int) := if n=0 then (0,0,none) else if firstP (z 0)≠0 then (0,0,some (0,firstP (z 0))) else lenF z n most 4 1 0
theorem grp_nat (k:Nat) (acc x:Int) (h0:0<=acc) (h1:acc<128 ^ k) (hx:0<=x/\x<=255):acc+x % 128*128 ^ k<128 ^ (k+1):=by have hp:(0:Int)<128 ^ k:=Int.pow_pos (by decide);have:x % 128*128 ^ k<=127*128 ^ k:=Int.mul_le_mul_of_nonneg_right (by omega) (by omega);rw [Int.pow_succ];omega
theorem head_any (g off n cp:Nat) (z:Nat->Int) (most:Int) (w:World) (hc:∀ j,j<n->w.cell? ⟨g,off+j,none⟩=some (.int .u8 (z j))) (hz:∀ i,0<=z i/\z i<=255) (hn:n<=1000000) (hg:Gd w) :
 Calls Tryz.prog 49 #[.slice (some ⟨g,off,none⟩) n cp,.int .i64 most] w fun e w'=>HeadIs w' e (headP z n most)/\Below w.heap.size w w':=by
 obtain ⟨R,hR⟩:∃ R,R=headP z n most:=⟨_,rfl⟩;rw [<-hR];by_cases h0:n=0
 · have HV:Hid (R=(0,0,none)):=by show _=_;rw [hR,headP,if_pos h0]
   have n0:(n:Int)=0:=by omega
   clear hR hc hz hn hg h0;go_enter Tryz.func49,Tryz.ntmps49;go_wp2;go_step3;go_wp2;try rw [Exit.noGoto_ret]
   go_ret3;rw [HV.out];exact ⟨rfl,Below.refl _ _⟩
 have h1:(0:Int)<n:=by omega
 have FS:Hid (Calls Tryz.prog 62 #[.int .u8 (z 0)] w fun e w'=>e = .returned (.int .i64 (firstP (z 0)))/\w'=w):=first_any (z 0) (hz 0) w hg;obtain ⟨F,hF⟩:∃ F,F=firstP (z 0):=⟨_,rfl⟩;rw [<-hF] at FS;obtain ⟨x0,hx0⟩:∃ x,x=z 0:=⟨_,rfl⟩;have c0:=hc 0 (by omega);rw [Nat.add_zero] at c0;rw [<-hx0] at FS c0;have HC:Hid (∀ j,j<n->w.cell? ⟨g,off+j,none⟩=some (.int .u8 (z j))):=hc;have HZ:Hid (∀ i,0<=z i/\z i<=255):=hz;by_cases hf:F=0
 · have HV:Hid (R=lenF z n most 4 1 0):=by show _=_;rw [hR,headP,if_neg h0,if_neg (by rw [<-hF];simpa using hf)]
   subst hf;clear hR hc hz hg hF hx0;have n0:¬ (n:Int)=0:=by omega
   have H0:Hid (¬ n=0):=h0;clear h0;go_enter Tryz.func49,Tryz.ntmps49;go_wp2;refine wp_scope_jumps 0 (fun a' w'=>w'=w/\∃ (k:Nat) (acc:Int) (u4 u5 u6 u10 u11 u12 u13 u14 u15 u16 u17 u18 u19 u20 u21 u22 u23 u24 u25 u26 u27 u28 u29 u30 u31 u32 u33 u34 u35 u36 u37 u38 u39 u40 u41 u42 u43 u44 u45 u46 u47 u48 u49 u50 u51 u52 u53 u54:Value),a' = { tmps:=#[.slice (some ⟨g,off,none⟩) n cp,.int .i64 most,undef,undef,u4,u5,u6,.int .i64 0,.int .i64 acc,.int .i64 (k:Int),u10,u11,u12,u13,u14,u15,u16,u17,u18,u19,u20,u21,u22,u23,u24,u25,u26,u27,u28,u29,u30,u31,u32,u33,u34,u35,u36,u37,u38,u39,u40,u41,u42,u43,u44,u45,u46,u47,u48,u49,u50,u51,u52,u53,u54],defers:=[] }/\1<=k/\k<=4/\Hid (R=if most<acc then (0,0,some (1,32)) else (((k+1:Nat):Int),acc,none))) (fun _ _=>0) rfl ?_ ?_;rotate_left
   · rintro a' w' ⟨rfl,k,acc,u4,u5,u6,u10,u11,u12,u13,u14,u15,u16,u17,u18,u19,u20,u21,u22,u23,u24,u25,u26,u27,u28,u29,u30,u31,u32,u33,u34,u35,u36,u37,u38,u39,u40,u41,u42,u43,u44,u45,u46,u47,u48,u49,u50,u51,u52,u53,u54,rfl,hk1,hk4,HR⟩
     by_cases hm:most<acc
     · have HR2:Hid (R=(0,0,some (1,32))):=by show _=_;rw [HR.out,if_pos hm]
       go_wp2_with (go_at_call 63;refine (fault_any _ _ _).mono ?_;rintro e w2 ⟨⟨gg,rfl,hgg⟩,hb⟩;have Z:Hid (w2.heap[gg]?=some (.cells #[.int .i64 1,.int .i64 32] 81 (0,0))/\Below w'.heap.size w' w2):=⟨hgg,hb⟩;clear hgg hb);simp only [Exit.jump];go_ret3;rw [HR2.out];exact ⟨⟨gg,rfl,Z.out.1⟩,Z.out.2⟩
     · have HR2:Hid (R=(((k+1:Nat):Int),acc,none)):=by show _=_;rw [HR.out,if_neg hm]
       go_wp2;simp only [Exit.jump];go_ret3;rw [HR2.out];exact ⟨rfl,Below.refl _ _⟩
   go_wp2_with (go_at_call 62;refine FS.out.mono ?_;rintro e w' ⟨rfl,hee⟩;obtain rfl:=hee.symm;clear hee);go_loopg [8,9] 4 (fun gg s8 s9 wx=>∃ (k:Nat) (acc:Int),s8 = .int .i64 acc/\s9 = .int .i64 k/\k+gg=5/\Hid (wx=w)/\1<=k/\k<=n/\0<=acc/\Hid (acc<128 ^ (k-1))/\Hid (R=lenF z n most gg k acc));case atStart=>exact ⟨1,0,rfl,rfl,rfl,rfl,by omega,by have:=H0.out;omega,by omega,by show (0:Int)<128 ^ 0;decide,HV.out⟩
   case round =>
    obtain ⟨k,acc,rfl,rfl,hkg,hw,hk1,hkn,ha0,A1,E0⟩:=hrel;have hww:=hw.out;clear hw;subst hww;by_cases hk4:5<=k
    · have e5:k=5:=by omega
      have HR:Hid (R=(0,0,some (4,12))):=by show _=_;rw [E0.out,show gk=0 by omega];rfl
      subst e5;clear E0 A1;go_wp2_with (go_at_call 63;refine (fault_any _ _ _).mono ?_;rintro e w2 ⟨⟨gg,rfl,hgg⟩,hb⟩;have Z:Hid (w2.heap[gg]?=some (.cells #[.int .i64 4,.int .i64 12] 81 (0,0))/\Below wr.heap.size wr w2):=⟨hgg,hb⟩;clear hgg hb);simp only [Exit.jump];go_ret3;rw [HR.out];exact ⟨⟨gg,rfl,Z.out.1⟩,Z.out.2⟩
    obtain ⟨gg,rfl⟩:∃ gg,gk=gg+1:=⟨gk-1,by omega⟩;by_cases hkn':k=n
    · have HR:Hid (R=(0,0,none)):=by show _=_;rw [E0.out,lenF,if_pos hkn']
      subst hkn';have k4:(k:Int)<=4:=by omega
      clear E0 A1;go_wp2;simp only [Exit.jump];go_ret3;rw [HR.out];exact ⟨rfl,Below.refl _ _⟩
    have ck:=HC.out k (by omega);have hx:=HZ.out k;have E1:Hid (R=if z k<128 then (if most<acc+z k % 128*128 ^ (k-1) then (0,0,some (1,32)) else (((k+1:Nat):Int),acc+z k % 128*128 ^ (k-1),none)) else lenF z n most gg (k+1) (acc+z k % 128*128 ^ (k-1))):=by show _=_;rw [E0.out,lenF,if_neg hkn']
    have A2:Hid (acc+z k % 128*128 ^ (k-1)<128 ^ k):=by have q:=grp_nat (k-1) acc (z k) ha0 A1.out hx;rw [show k-1+1=k by omega] at q;exact q
    obtain ⟨x,hxx⟩:∃ x,x=z k:=⟨_,rfl⟩;rw [<-hxx] at ck hx E1 A2;have f1:=and127 x hx;have f2:=and128 x hx;have hkc:k=1\/k=2\/k=3\/k=4:=by omega
    have HG:Hid (k+1+gg=5):=by show _=_;omega
    have KN:Hid (k+1<=n):=by show _<=_;omega
    clear hxx E0 hk4 hkg;rcases hkc with rfl | rfl | rfl | rfl
    · have a1:acc<1:=by have q:=A1.out;simpa using q
      have o1:bits .or .i64 acc (x % 128)=acc+x % 128:=or_up 0 (by decide) acc (x % 128) ha0 (by simp;omega) (by simp;omega) (by omega) (by simp;try omega) (by simp;omega);have EY:Hid (acc+x % 128*128 ^ (1-1)=acc+x % 128):=by show _=_;simp
      have nk:¬ (n:Int)=1:=by omega
      have nk':(1:Int)<n:=by have:=KN.out;omega
      rw [EY.out] at E1 A2;clear EY hkn' hkn;by_cases hlt:x<128
      · have f3:(bits .and .u8 x 128==0)=true:=by rw [f2];exact decide_eq_true hlt
        have HR:Hid (R=if most<acc+x % 128 then (0,0,some (1,32)) else (((1+1:Nat):Int),acc+x % 128,none)):=by show _=_;rw [E1.out,if_pos hlt]
        clear f2 hlt E1;go_wp2;go_step3;refine ⟨rfl,rfl,1,acc+x % 128,_,_,_,_,_,_,_,_,_,_,_,_,_,_,_,_,_,_,_,_,_,_,_,_,_,_,_,_,_,_,_,_,_,_,_,_,_,_,_,_,_,_,_,_,_,_,_,_,rfl,by omega,by omega,HR⟩
      · have f3:(bits .and .u8 x 128==0)=false:=by rw [f2];exact decide_eq_false hlt
        have HR:Hid (R=lenF z n most gg (1+1) (acc+x % 128)):=by show _=_;rw [E1.out,if_neg hlt]
        clear f2 hlt E1;go_wp2;go_roundg gg;case measure=>omega
        case rel=>exact ⟨1+1,acc+x % 128,by first | rfl | simp,by first | rfl | simp,HG.out,rfl,by omega,KN.out,by omega,A2.out,HR.out⟩
    · have a1:acc<128:=by have q:=A1.out;simpa using q
      have o1:bits .or .i64 acc (x % 128*128)=acc+x % 128*128:=or_up 7 (by decide) acc (x % 128*128) ha0 (by simp;omega) (by simp;omega) (by omega) (by simp;try omega) (by simp;omega);have EY:Hid (acc+x % 128*128 ^ (2-1)=acc+x % 128*128):=by show _=_;simp
      have nk:¬ (n:Int)=2:=by omega
      have nk':(2:Int)<n:=by have:=KN.out;omega
      rw [EY.out] at E1 A2;clear EY hkn' hkn;by_cases hlt:x<128
      · have f3:(bits .and .u8 x 128==0)=true:=by rw [f2];exact decide_eq_true hlt
        have HR:Hid (R=if most<acc+x % 128*128 then (0,0,some (1,32)) else (((2+1:Nat):Int),acc+x % 128*128,none)):=by show _=_;rw [E1.out,if_pos hlt]
        clear f2 hlt E1;go_wp2;go_step3;refine ⟨rfl,rfl,2,acc+x % 128*128,_,_,_,_,_,_,_,_,_,_,_,_,_,_,_,_,_,_,_,_,_,_,_,_,_,_,_,_,_,_,_,_,_,_,_,_,_,_,_,_,_,_,_,_,_,_,_,_,rfl,by omega,by omega,HR⟩
      · have f3:(bits .and .u8 x 128==0)=false:=by rw [f2];exact decide_eq_false hlt
        have HR:Hid (R=lenF z n most gg (2+1) (acc+x % 128*128)):=by show _=_;rw [E1.out,if_neg hlt]
        clear f2 hlt E1;go_wp2;go_roundg gg;case measure=>omega
        case rel=>exact ⟨2+1,acc+x % 128*128,by first | rfl | simp,by first | rfl | simp,HG.out,rfl,by omega,KN.out,by omega,A2.out,HR.out⟩
    · have a1:acc<16384:=by have q:=A1.out;simpa using q
      have o1:bits .or .i64 acc (x % 128*16384)=acc+x % 128*16384:=or_up 14 (by decide) acc (x % 128*16384) ha0 (by simp;omega) (by simp;omega) (by omega) (by simp;try omega) (by simp;omega);have EY:Hid (acc+x % 128*128 ^ (3-1)=acc+x % 128*16384):=by show _=_;simp
      have nk:¬ (n:Int)=3:=by omega
      have nk':(3:Int)<n:=by have:=KN.out;omega
      rw [EY.out] at E1 A2;clear EY hkn' hkn;by_cases hlt:x<128
      · have f3:(bits .and .u8 x 128==0)=true:=by rw [f2];exact decide_eq_true hlt
        have HR:Hid (R=if most<acc+x % 128*16384 then (0,0,some (1,32)) else (((3+1:Nat):Int),acc+x % 128*16384,none)):=by show _=_;rw [E1.out,if_pos hlt]
        clear f2 hlt E1;go_wp2;go_step3;refine ⟨rfl,rfl,3,acc+x % 128*16384,_,_,_,_,_,_,_,_,_,_,_,_,_,_,_,_,_,_,_,_,_,_,_,_,_,_,_,_,_,_,_,_,_,_,_,_,_,_,_,_,_,_,_,_,_,_,_,_,rfl,by omega,by omega,HR⟩
      · have f3:(bits .and .u8 x 128==0)=false:=by rw [f2];exact decide_eq_false hlt
        have HR:Hid (R=lenF z n most gg (3+1) (acc+x % 128*16384)):=by show _=_;rw [E1.out,if_neg hlt]
        clear f2 hlt E1;go_wp2;go_roundg gg;case measure=>omega
        case rel=>exact ⟨3+1,acc+x % 128*16384,by first | rfl | simp,by first | rfl | simp,HG.out,rfl,by omega,KN.out,by omega,A2.out,HR.out⟩
    · have a1:acc<2097152:=by have q:=A1.out;simpa using q
      have o1:bits .or .i64 acc (x % 128*2097152)=acc+x % 128*2097152:=or_up 21 (by decide) acc (x % 128*2097152) ha0 (by simp;omega) (by simp;omega) (by omega) (by simp;try omega) (by simp;omega);have EY:Hid (acc+x % 128*128 ^ (4-1)=acc+x % 128*2097152):=by show _=_;simp
      have nk:¬ (n:Int)=4:=by omega
      have nk':(4:Int)<n:=by have:=KN.out;omega
      rw [EY.out] at E1 A2;clear EY hkn' hkn;by_cases hlt:x<128
      · have f3:(bits .and .u8 x 128==0)=true:=by rw [f2];exact decide_eq_true hlt
        have HR:Hid (R=if most<acc+x % 128*2097152 then (0,0,some (1,32)) else (((4+1:Nat):Int),acc+x % 128*2097152,none)):=by show _=_;rw [E1.out,if_pos hlt]
        clear f2 hlt E1;go_wp2;go_step3;refine ⟨rfl,rfl,4,acc+x % 128*2097152,_,_,_,_,_,_,_,_,_,_,_,_,_,_,_,_,_,_,_,_,_,_,_,_,_,_,_,_,_,_,_,_,_,_,_,_,_,_,_,_,_,_,_,_,_,_,_,_,rfl,by omega,by omega,HR⟩
      · have f3:(bits .and .u8 x 128==0)=false:=by rw [f2];exact decide_eq_false hlt
        have HR:Hid (R=lenF z n most gg (4+1) (acc+x % 128*2097152)):=by show _=_;rw [E1.out,if_neg hlt]
        clear f2 hlt E1;go_wp2;go_roundg gg;case measure=>omega
        case rel=>exact ⟨4+1,acc+x % 128*2097152,by first | rfl | simp,by first | rfl | simp,HG.out,rfl,by omega,KN.out,by omega,A2.out,HR.out⟩
 · have HV:Hid (R=(0,0,some (0,F))):=by show _=_;rw [hR,headP,if_neg h0,<-hF,if_pos hf]
   have n0:¬ (n:Int)=0:=by omega
   clear hR hc hz hg hF hx0 h0;go_enter Tryz.func49,Tryz.ntmps49;go_wp2;go_step3;go_wp2_with (first | (go_at_call 62;refine FS.out.mono ?_;rintro e w' ⟨rfl,hee⟩;obtain rfl:=hee.symm;clear hee)|(go_at_call 63;refine (fault_any _ _ _).mono ?_;rintro e w2 ⟨⟨gg,rfl,hgg⟩,hb⟩;have Z:Hid (w2.heap[gg]?=some (.cells #[.int .i64 0,.int .i64 F] 81 (0,0))/\Below w.heap.size w w2):=⟨hgg,hb⟩;clear hgg hb));try rw [Exit.noGoto_ret]
   go_ret3;rw [HV.out];exact ⟨⟨gg,rfl,Z.out.1⟩,Z.out.2⟩
open Pkt (Pk Cn Sl In By Is Ss As pkCells Gd KindsAt form isK isKind_any Small ck TT sumN Tx)
theorem ck_alike {q p:Pk} (ha:Alike q p) (T:Tx) (c:Cn):ck T q c=ck T p c:=by obtain ⟨⟨a1,n1,c1⟩,⟨a2,n2,c2⟩,⟨a3,n3,c3⟩,⟨a4,n4,c4⟩,⟨a5,n5,c5⟩,⟨a6,n6,c6⟩,rfl,h1,h2,h3,h4,h5,h6⟩:=ha;obtain ⟨kind,level,clean,keep,client,hasWill,wT,⟨b1,m1,d1⟩,wQ,wR,hasUser,user,hasPass,⟨b2,m2,d2⟩,present,code,dup,mT,⟨b3,m3,d3⟩,mQ,mR,id,⟨b4,m4,d4⟩,⟨b5,m5,d5⟩,⟨b6,m6,d6⟩⟩:=p;simp only at h1 h2 h3 h4 h5 h6;subst h1 h2 h3 h4 h5 h6;rfl
theorem small_alike {q p:Pk} {c:Cn} (ha:Alike q p) (h:Small p c):Small q c:=by obtain ⟨s1,s2,s3,s4,s5,s6,rfl,h1,h2,h3,h4,h5,h6⟩:=ha;exact ⟨h.cl,h.us,h.wt,h.mt,by show s1.n<=_;rw [h1];exact h.wp,by show s2.n<=_;rw [h2];exact h.ps,by show s3.n<=_;rw [h3];exact h.mp,by show s4.n<=_;rw [h4];exact h.an,by show s5.n<=_;rw [h5];exact h.cn,by show s6.n<=_;rw [h6];exact h.fn,by show sumN _ s4.n<=_;rw [h4];exact h.sa,by show sumN _ s6.n<=_;rw [h6];exact h.sf⟩
section
variable {z:Nat->Int} {n:Nat}
theorem txtAt_size (k L:Nat):(txtAt z k L).size=L:=Pkt.strZ_size _ _
theorem rText_size (r:Rs):(rText z n r).1.size<=n:=by
 unfold rText;split;· exact Nat.zero_le _
 split;· exact Nat.zero_le _
 split;· exact Nat.zero_le _
 split;· exact Nat.zero_le _
 · simp only [txtAt_size];omega
theorem rText_q {r:Rs} (h:(rText z n r).2.q=0):r.q=0/\r.at0+2+(rText z n r).1.size<=(rText z n r).2.at0:=by
 revert h;unfold rText;split;· rename_i hq;intro h;exact absurd h hq
 rename_i hq;split;· intro h;cases h
 split;· intro h;cases h
 split;· rename_i hc;intro h;have h':((chk (txtAt z r.at0 (two z r.at0))).2:Int)=0:=h;exact absurd (by omega) hc
 · intro _;refine ⟨alive hq,?_⟩;simp only [txtAt_size];show _<=r.at0+(2+two z r.at0);omega
theorem rText_at {r:Rs} (h:r.at0<=n):(rText z n r).2.at0<=n:=by
 unfold rText;split;· exact h
 split;· exact h
 split;· exact h
 split;· exact h
 · show r.at0+(2+two z r.at0)<=n;omega
theorem rByte_q {r:Rs} (h:(rByte z n r).2.q=0):r.q=0/\r.at0+1<=(rByte z n r).2.at0:=by
 revert h;unfold rByte;split;· rename_i hq;intro h;exact absurd h hq
 rename_i hq;split;· intro h;cases h
 · intro _;exact ⟨alive hq,Nat.le_refl _⟩
theorem rByte_at {r:Rs} (h:r.at0<=n):(rByte z n r).2.at0<=n:=by
 unfold rByte;split;· exact h
 split;· exact h
 · show r.at0+1<=n;omega
theorem rNum_at {r:Rs} (h:r.at0<=n):(rNum z n r).2.at0<=n:=by
 unfold rNum;split;· exact h
 split;· exact h
 · show r.at0+2<=n;omega
theorem rData_len (r:Rs):(rData z n r).1.1<=n:=by
 unfold rData;split;· exact Nat.zero_le _
 split;· exact Nat.zero_le _
 split;· exact Nat.zero_le _
 · show two z r.at0<=n;omega
def SA (L:List (ByteArray×Int)):Nat:=sumN (fun i=>3+(L.getD i (⟨#[]⟩,0)).1.size) L.length
def SF (L:List ByteArray):Nat:=sumN (fun i=>2+(L.getD i ⟨#[]⟩).size) L.length
theorem SA_append (L:List (ByteArray×Int)) (x:ByteArray×Int):SA (L++[x])=SA L+(3+x.1.size):=by
 unfold SA;rw [List.length_append,List.length_singleton,sumN];congr 1;· exact Pkt.sumN_congr _ _ _ fun i hi=>by simp only [List.getD_eq_getElem?_getD,List.getElem?_append_left hi]
 · simp
theorem SF_append (L:List ByteArray) (x:ByteArray):SF (L++[x])=SF L+(2+x.size):=by
 unfold SF;rw [List.length_append,List.length_singleton,sumN];congr 1;· exact Pkt.sumN_congr _ _ _ fun i hi=>by simp only [List.getD_eq_getElem?_getD,List.getElem?_append_left hi]
 · simp
theorem subF_sum (b:Nat) (r:Rs) (L:List (ByteArray×Int)) (h:r.at0<=n) (hs:r.q=0->SA L<=r.at0):(subF z n b r L).1.at0<=n/\((subF z n b r L).1.q=0->SA (subF z n b r L).2<=(subF z n b r L).1.at0):=by
 induction b generalizing r L with
 | zero=>exact ⟨h,hs⟩;| succ b ih =>
  unfold subF;split;· rename_i hm;refine ih _ _ (rByte_at (rText_at h)) fun q=>?_;obtain ⟨q1,l1⟩:=rByte_q q;obtain ⟨q2,l2⟩:=rText_q q1;have:=hs q2;rw [SA_append];simp only;omega
  · exact ⟨h,hs⟩
theorem unsF_sum (b:Nat) (r:Rs) (L:List ByteArray) (h:r.at0<=n) (hs:r.q=0->SF L<=r.at0):(unsF z n b r L).1.at0<=n/\((unsF z n b r L).1.q=0->SF (unsF z n b r L).2<=(unsF z n b r L).1.at0):=by
 induction b generalizing r L with
 | zero=>exact ⟨h,hs⟩;| succ b ih =>
  unfold unsF;split;· rename_i hm;refine ih _ _ (rText_at h) fun q=>?_;obtain ⟨q2,l2⟩:=rText_q q;have:=hs q2;rw [SF_append];omega
  · exact ⟨h,hs⟩
theorem cWill_size (x:Nat->Int) (b:Bool) (r:Rs):(cWill z n b r ⟨#[]⟩ (0,x)).1.1.size<=n/\(cWill z n b r ⟨#[]⟩ (0,x)).1.2.1<=n:=by
 unfold cWill;split;· exact ⟨rText_size _,rData_len _⟩
 · exact ⟨Nat.zero_le _,Nat.zero_le _⟩
theorem cUser_size (b:Bool) (r:Rs):(cUser z n b r ⟨#[]⟩).1.size<=n:=by
 unfold cUser;split;· exact rText_size _
 · exact Nat.zero_le _
theorem cPass_size (x:Nat->Int) (b:Bool) (r:Rs):(cPass z n b r (0,x)).1.1<=n:=by
 unfold cPass;split;· exact rData_len _
 · exact Nat.zero_le _
theorem errOut_ok {y x:Rs×Pk×Cn} (h:errOut y = .ok x):x=y/\y.1.q=0:=by
 unfold errOut at h;split at h;· cases h
 · rename_i hq;cases h;exact ⟨rfl,alive hq⟩
theorem small_blank (k:Int) (c:Cn):Small (blank k) c := ⟨Nat.zero_le _,Nat.zero_le _,Nat.zero_le _,Nat.zero_le _,Nat.zero_le _,Nat.zero_le _,Nat.zero_le _,Nat.zero_le _,Nat.zero_le _,Nat.zero_le _,Nat.zero_le _,Nat.zero_le _⟩
theorem connect_small {r:Rs} {k:Int} {c:Cn} {y:Rs×Pk×Cn} (hn:n<=700000) (h:connectP z n r (blank k) c = .ok y):Small y.2.1 y.2.2:=by
 unfold connectP at h;split at h;· cases h
 split at h;· cases h
 unfold cMid cEnd at h;split at h;· cases h
 · cases h;have a:=@cWill_size z n c.wz;have b:=@cUser_size z n;have d:=@cPass_size z n c.pz;have e:=@rText_size z n;refine ⟨Nat.le_trans (e _) (by omega),Nat.le_trans (b _ _) (by omega),Nat.le_trans (a _ _).1 (by omega),Nat.zero_le _,Nat.le_trans (a _ _).2 (by omega),Nat.le_trans (d _ _) (by omega),Nat.zero_le _,Nat.zero_le _,Nat.zero_le _,Nat.zero_le _,Nat.zero_le _,Nat.zero_le _⟩
theorem into_small {r:Rs} {k fl:Int} {c:Cn} {y:Rs×Pk×Cn} (hn:n<=700000) (hr:r.at0<=n) (h:intoP z n r k c fl = .ok y):Small y.2.1 y.2.2:=by
 have B:=small_blank k c;unfold intoP at h;split at h;· exact connect_small hn h
 split at h;·
  unfold connackP at h;split at h;· cases h
  split at h;· cases h
  · cases h
    exact ⟨B.cl,B.us,B.wt,B.mt,B.wp,B.ps,B.mp,B.an,B.cn,B.fn,B.sa,B.sf⟩
 split at h
 · obtain ⟨rfl,_⟩:=errOut_ok h
   exact ⟨B.cl,B.us,B.wt,Nat.le_trans (rText_size _) (by omega),B.wp,B.ps,Nat.le_trans rRest_le (by omega),B.an,B.cn,B.fn,B.sa,B.sf⟩
 split at h;·
  obtain ⟨rfl,hq⟩:=errOut_ok h;have q:=subF_sum (z:=z) (n:=n) n (rNum z n r).2 [] (rNum_at hr) (fun _=>Nat.zero_le _);have s:=q.2 hq;have l:(subF z n n (rNum z n r).2 []).2.length<=SA (subF z n n (rNum z n r).2 []).2:=Pkt.sumN_many _ _ fun i _=>by omega
  exact ⟨B.cl,B.us,B.wt,B.mt,B.wp,B.ps,B.mp,by show (subF z n n (rNum z n r).2 []).2.length<=_;omega,B.cn,B.fn,by show SA (subF z n n (rNum z n r).2 []).2<=_;omega,B.sf⟩
 split at h
 · obtain ⟨rfl,_⟩:=errOut_ok h
   exact ⟨B.cl,B.us,B.wt,B.mt,B.wp,B.ps,B.mp,B.an,Nat.le_trans rRest_le (by omega),B.fn,B.sa,B.sf⟩
 split at h;·
  obtain ⟨rfl,hq⟩:=errOut_ok h;have q:=unsF_sum (z:=z) (n:=n) n (rNum z n r).2 [] (rNum_at hr) (fun _=>Nat.zero_le _);have s:=q.2 hq;have l:(unsF z n n (rNum z n r).2 []).2.length<=SF (unsF z n n (rNum z n r).2 []).2:=Pkt.sumN_many _ _ fun i _=>by omega
  exact ⟨B.cl,B.us,B.wt,B.mt,B.wp,B.ps,B.mp,B.an,B.cn,by show (unsF z n n (rNum z n r).2 []).2.length<=_;omega,B.sa,by show SF (unsF z n n (rNum z n r).2 []).2<=_;omega⟩
 split at h
 · obtain ⟨rfl,_⟩:=errOut_ok h
   exact B
 · obtain ⟨rfl,_⟩:=errOut_ok h
   exact ⟨B.cl,B.us,B.wt,B.mt,B.wp,B.ps,B.mp,B.an,B.cn,B.fn,B.sa,B.sf⟩
end
end Go.Proofs.YtpldoeeahhaimaaGreatDoor
