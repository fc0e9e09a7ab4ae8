import Derived.Test.YtceigllifjgalaaGreatDoorPShelf
import Derived.Test.YtceigllifjgalaaGreatDoorChk
import Derived.BigQuiet
namespace Go.Proofs.YtceigllifjgalaaGreatDoor.Pkt
open Go Go.RowKit
set_option linter.unusedSimpArgs false
set_option linter.unusedVariables false
set_option maxRecDepth 1000000
set_option maxHeartbeats 400000
theorem rune_bad (r:Int) (h:128<=r) (hn:¬ r=65533) (hv:Lib.validRune r=false) (w:World):Calls Tryz.prog 325 #[.string ⟨#[43,35]⟩,.int .i32 r] w fun e w'=>e = .returned (.int .i64 (-1))/\Below w.heap.size w w':=by
 have h1:¬ r<128:=by omega
 have h0:0<=r:=by omega
 go_enter Tryz.func325,Tryz.ntmps325;go_wp2_with (go_at_call 338;refine (Tryz.utf8_ValidRune _ _).mono ?_;rintro e w' ⟨rfl,rfl⟩;rw [hv]);go_ret;exact ⟨rfl,Below.refl _ _⟩
theorem valid_rune (r:Int) (h:Lib.validRune r=true):Utf8.valid r=true:=by revert h;simp [Lib.validRune,Utf8.valid];omega
theorem rune_good (r:Int) (h:128<=r) (hn:¬ r=65533) (hv:Lib.validRune r=true) (w:World):Calls Tryz.prog 325 #[.string ⟨#[43,35]⟩,.int .i32 r] w fun e w'=>e = .returned (.int .i64 (-1))/\Below w.heap.size w w':=by
 have h1:¬ r<128:=by omega
 have h0:0<=r:=by omega
 have hcv:∀ w,(convert 21 9 (.int .i32 r)).run Tryz.prog w = .ok (.string (Utf8.encode r)) w:=fun w=>run_convert_int_string w 21 9 .i32 r (by rw [Tryz.underlying21];rfl) Tryz.underlying9;obtain ⟨f1,f2,f3⟩:=encode_facts r (valid_rune r hv) h;generalize Utf8.encode r=rs at *;have hs3:rs.size=2\/rs.size=3\/rs.size=4:=by omega
 rcases hs3 with hs | hs | hs;·
  have f4:=f3 (by omega);have hs':(rs.size:Int)-1=1:=by omega
  have hl:(1:Int)<rs.size:=by omega
  obtain ⟨x,hx⟩:∃ x:UInt8,rs[1]'(by omega)=x:=⟨_,rfl⟩;have hx2:128<=x.toNat:=by rw [<-hx];simpa [hs] using f4
  have hne:((((⟨#[43,35]⟩:ByteArray)[1]'(by decide)).toNat:Int) != (x.toNat:Int))=true:=by have e:((⟨#[43,35]⟩:ByteArray)[1]'(by decide)).toNat=35:=rfl;rw [e];simp;omega
  have IB:Hid (∀ w,Calls Tryz.prog 337 #[.string ByteArray.empty,.int .u8 (x.toNat:Int)] w fun e w'=>e = .returned (.int .i64 (-1))/\w'=w):=fun w=>Tryz.strings_IndexByte ByteArray.empty _ w;have hw2:IntKind.i64.wrap 2=2:=by kernel_rfl
  clear f3 f4 f1 f2 h;go_enter Tryz.func325,Tryz.ntmps325;go_wp2_with (go_at_call 338;refine (Tryz.utf8_ValidRune _ _).mono ?_;rintro e w' ⟨rfl,rfl⟩;rw [hv]);go_step3;go_wp2;go_loopw [9,10] (fun i f wx=>i = .int .i64 1/\f = .int .i64 0/\wx=w') (fun _ _ _=>0);case atStart=>exact ⟨by first | rfl | simp [hs'],rfl,rfl⟩
  case round => obtain ⟨rfl,rfl,rfl⟩:=hrel;go_wp2;go_step3;go_wp2;go_quiet (fail);have hb1:Below wr.heap.size wr (wr.drewN nq):=below_drewN (Below.refl _ _) nq;obtain ⟨w1,hw1⟩:∃ w1,w1=wr.drewN nq:=⟨_,rfl⟩;rw [<-hw1] at hb1 ⊢;have B1:=Hi hb1;clear hw1 hb1;go_wp2;go_quiet ((go_at_call 337;exact Calls.quiet_of_same (IB.out _)));have hb2:Below w1.heap.size w1 (w1.drewN nq):=below_drewN (Below.refl _ _) nq;obtain ⟨w2,hw2⟩:∃ w2,w2=w1.drewN nq:=⟨_,rfl⟩;rw [<-hw2] at hb2 ⊢;have B2:=Hi (B1.out.trans (hb2.mono B1.out.size));clear hw2 hb2;go_wp2;exact bodyPost_ret (P:=Tryz.prog) (fn:=Tryz.f325) (R:=fun e w'=>e=Ending.returned (Value.int IntKind.i64 (-1))/\Below wr.heap.size wr w') (results_tmp rfl _ _ _) rfl ⟨rfl,B2.out⟩
 ·
  have hs':(rs.size:Int)-1=2:=by omega
  clear f3 f1 f2 h;go_enter Tryz.func325,Tryz.ntmps325;go_wp2_with (go_at_call 338;refine (Tryz.utf8_ValidRune _ _).mono ?_;rintro e w' ⟨rfl,rfl⟩;rw [hv]);go_step3;go_wp2;go_loopw [9,10] (fun i f wx=>i = .int .i64 2/\f = .int .i64 0/\wx=w') (fun _ _ _=>0);case atStart=>exact ⟨by first | rfl | simp,rfl,rfl⟩
  case round =>
   obtain ⟨rfl,rfl,rfl⟩:=hrel;go_wp2;try rw [Exit.noGoto_ret]
   go_ret;exact ⟨rfl,Below.refl _ _⟩
 ·
  have hs':(rs.size:Int)-1=3:=by omega
  clear f3 f1 f2 h;go_enter Tryz.func325,Tryz.ntmps325;go_wp2_with (go_at_call 338;refine (Tryz.utf8_ValidRune _ _).mono ?_;rintro e w' ⟨rfl,rfl⟩;rw [hv]);go_step3;go_wp2;go_loopw [9,10] (fun i f wx=>i = .int .i64 3/\f = .int .i64 0/\wx=w') (fun _ _ _=>0);case atStart=>exact ⟨by first | rfl | simp,rfl,rfl⟩
  case round =>
   obtain ⟨rfl,rfl,rfl⟩:=hrel;go_wp2;try rw [Exit.noGoto_ret]
   go_ret;exact ⟨rfl,Below.refl _ _⟩
theorem rune_err (w:World):Calls Tryz.prog 325 #[.string ⟨#[43,35]⟩,.int .i32 65533] w fun e w'=>e = .returned (.int .i64 (-1))/\Below w.heap.size w w':=by
 go_enter Tryz.func325,Tryz.ntmps325;go_wp2;go_loopw [5,6] (fun i c w'=>∃ k:Nat,w'=w.iter ⟨#[43,35]⟩ k/\k<=2) (fun _ _ w'=>2-w'.iterPos w.heap.size);case atStart=>exact ⟨0,rfl,by omega⟩
 case round =>
  obtain ⟨k,rfl,hk⟩:=hrel;have:k=0\/k=1\/k=2:=by omega
  rcases this with rfl | rfl | rfl;·
   have hnx:∀ ty,(Instr.next (.pointer (some ⟨w.heap.size,0,none⟩)) true ty).run Tryz.prog (w.iter ⟨#[43,35]⟩ 0) = .ok (.tuple #[.bool true,.int .i64 0,.int .i32 43]) (w.iter ⟨#[43,35]⟩ 1):=fun ty=>run_next_any w ⟨#[43,35]⟩ 0 ty (by decide);go_wp2;go_roundw;case rel=>exact ⟨1,rfl,by omega⟩
   case measure=>simp
  ·
   have hnx:∀ ty,(Instr.next (.pointer (some ⟨w.heap.size,0,none⟩)) true ty).run Tryz.prog (w.iter ⟨#[43,35]⟩ 1) = .ok (.tuple #[.bool true,.int .i64 1,.int .i32 35]) (w.iter ⟨#[43,35]⟩ 2):=fun ty=>run_next_any w ⟨#[43,35]⟩ 1 ty (by decide);go_wp2;go_roundw;case rel=>exact ⟨2,rfl,by omega⟩
   case measure=>simp
  · have hnx:∀ ty,(Instr.next (.pointer (some ⟨w.heap.size,0,none⟩)) true ty).run Tryz.prog (w.iter ⟨#[43,35]⟩ 2)=_:=fun ty=>run_next_end w ⟨#[43,35]⟩ 2 ty (by decide);go_wp2;go_ret;exact ⟨rfl,zaV _ _ _⟩
end Go.Proofs.YtceigllifjgalaaGreatDoor.Pkt
