import Derived.Test.YtceigllifjgalaaGreatDoorKra
namespace Go.Proofs.YtceigllifjgalaaGreatDoor.Bk
open Go Go.RowKit
set_option linter.unusedSimpArgs false
set_option linter.unusedVariables false
set_option maxRecDepth 100000
set_option maxHeartbeats 400000
theorem markN9 (bb:Nat) (cs:Array Value) (w:World) (hB:BkAt w bb cs) (hr:Rest cs):Calls Tryz.prog 178 #[.pointer (some ⟨bb,0,none⟩)] w fun e w'=>e = .returned (.tuple #[])∧w'=w:=by
 have x2:w.cell? ⟨bb,87,none⟩=some (.slice none 0 0):=(za0 hB (hr 9 (by decide) 2 (by decide))).1
 have x3:w.cell? ⟨bb,88,none⟩=some (.slice none 0 0):=(za0 hB (hr 9 (by decide) 3 (by decide))).1
 have x5:w.cell? ⟨bb,90,none⟩=some (.slice none 0 0):=(za0 hB (hr 9 (by decide) 5 (by decide))).1
 have x6:w.cell? ⟨bb,91,none⟩=some (.slice none 0 0):=(za0 hB (hr 9 (by decide) 6 (by decide))).1
 clear hB hr
 go_enter Tryz.func178,Tryz.ntmps178
 go_wp2
 exact bodyPost_ret (results_none rfl _ _ _) rfl ⟨rfl,rfl⟩
theorem growN9 (bb:Nat) (cs:Array Value) (w:World) (hB:BkAt w bb cs) (hr:Rest cs):Calls Tryz.prog 195 #[.pointer (some ⟨bb,0,none⟩)] w fun e w'=>e = .returned (.tuple #[])∧BkAt w' bb cs∧Below w.heap.size w w':=by
 have r4:cs[89]?=some (.slice none 0 0):=hr 9 (by decide) 4 (by decide)
 have r7:cs[92]?=some (.slice none 0 0):=hr 9 (by decide) 7 (by decide)
 obtain ⟨x4,y4⟩:=za0 hB r4
 obtain ⟨x7,y7⟩:=za0 hB r7
 have HB:Hid (BkAt w bb cs∧cs[89]?=some (.slice none 0 0)∧cs[92]?=some (.slice none 0 0)):=⟨hB,r4,r7⟩
 clear hB hr r4 r7
 go_enter Tryz.func195,Tryz.ntmps195
 go_wp2
 go_loop [2] (fun i=>i = .int .i64 0) (fun _=>0)
 case atStart=>rfl
 case round =>
  subst hrel
  go_wp2
  go_end0
  exact ⟨rfl,zai HB.out.1 HB.out.2.1 HB.out.2.2⟩
theorem holdN9 (bb:Nat) (cs:Array Value) (w:World) (hB:BkAt w bb cs) (hr:Rest cs):Calls Tryz.prog 65 #[.pointer (some ⟨bb,0,none⟩)] w fun e w'=>e = .returned (.bool true)∧w'=w:=by
 have x0:w.cell? ⟨bb,85,none⟩=some (.slice none 0 0):=(za0 hB (hr 9 (by decide) 0 (by decide))).1
 have x2:w.cell? ⟨bb,87,none⟩=some (.slice none 0 0):=(za0 hB (hr 9 (by decide) 2 (by decide))).1
 clear hB hr
 go_enter Tryz.func65,Tryz.ntmps65
 go_wp2
 go_loop [3] (fun i=>i = .int .i64 0) (fun _=>0)
 case atStart=>rfl
 case round =>
  subst hrel
  go_wp2
  go_loop [4] (fun i=>i = .int .i64 0) (fun _=>0)
  case atStart=>rfl
  case round =>
   subst hrel
   go_wp2
   go_ret
   exact ⟨rfl,rfl⟩
theorem markN10 (bb:Nat) (cs:Array Value) (w:World) (hB:BkAt w bb cs) (hr:Rest cs):Calls Tryz.prog 179 #[.pointer (some ⟨bb,0,none⟩)] w fun e w'=>e = .returned (.tuple #[])∧w'=w:=by
 have x2:w.cell? ⟨bb,96,none⟩=some (.slice none 0 0):=(za0 hB (hr 10 (by decide) 2 (by decide))).1
 have x3:w.cell? ⟨bb,97,none⟩=some (.slice none 0 0):=(za0 hB (hr 10 (by decide) 3 (by decide))).1
 have x5:w.cell? ⟨bb,99,none⟩=some (.slice none 0 0):=(za0 hB (hr 10 (by decide) 5 (by decide))).1
 have x6:w.cell? ⟨bb,100,none⟩=some (.slice none 0 0):=(za0 hB (hr 10 (by decide) 6 (by decide))).1
 clear hB hr
 go_enter Tryz.func179,Tryz.ntmps179
 go_wp2
 exact bodyPost_ret (results_none rfl _ _ _) rfl ⟨rfl,rfl⟩
theorem growN10 (bb:Nat) (cs:Array Value) (w:World) (hB:BkAt w bb cs) (hr:Rest cs):Calls Tryz.prog 196 #[.pointer (some ⟨bb,0,none⟩)] w fun e w'=>e = .returned (.tuple #[])∧BkAt w' bb cs∧Below w.heap.size w w':=by
 have r4:cs[98]?=some (.slice none 0 0):=hr 10 (by decide) 4 (by decide)
 have r7:cs[101]?=some (.slice none 0 0):=hr 10 (by decide) 7 (by decide)
 obtain ⟨x4,y4⟩:=za0 hB r4
 obtain ⟨x7,y7⟩:=za0 hB r7
 have HB:Hid (BkAt w bb cs∧cs[98]?=some (.slice none 0 0)∧cs[101]?=some (.slice none 0 0)):=⟨hB,r4,r7⟩
 clear hB hr r4 r7
 go_enter Tryz.func196,Tryz.ntmps196
 go_wp2
 go_loop [2] (fun i=>i = .int .i64 0) (fun _=>0)
 case atStart=>rfl
 case round =>
  subst hrel
  go_wp2
  go_end0
  exact ⟨rfl,zai HB.out.1 HB.out.2.1 HB.out.2.2⟩
theorem holdN10 (bb:Nat) (cs:Array Value) (w:World) (hB:BkAt w bb cs) (hr:Rest cs):Calls Tryz.prog 66 #[.pointer (some ⟨bb,0,none⟩)] w fun e w'=>e = .returned (.bool true)∧w'=w:=by
 have x0:w.cell? ⟨bb,94,none⟩=some (.slice none 0 0):=(za0 hB (hr 10 (by decide) 0 (by decide))).1
 have x2:w.cell? ⟨bb,96,none⟩=some (.slice none 0 0):=(za0 hB (hr 10 (by decide) 2 (by decide))).1
 clear hB hr
 go_enter Tryz.func66,Tryz.ntmps66
 go_wp2
 go_loop [3] (fun i=>i = .int .i64 0) (fun _=>0)
 case atStart=>rfl
 case round =>
  subst hrel
  go_wp2
  go_loop [4] (fun i=>i = .int .i64 0) (fun _=>0)
  case atStart=>rfl
  case round =>
   subst hrel
   go_wp2
   go_ret
   exact ⟨rfl,rfl⟩
theorem markN11 (bb:Nat) (cs:Array Value) (w:World) (hB:BkAt w bb cs) (hr:Rest cs):Calls Tryz.prog 180 #[.pointer (some ⟨bb,0,none⟩)] w fun e w'=>e = .returned (.tuple #[])∧w'=w:=by
 have x2:w.cell? ⟨bb,105,none⟩=some (.slice none 0 0):=(za0 hB (hr 11 (by decide) 2 (by decide))).1
 have x3:w.cell? ⟨bb,106,none⟩=some (.slice none 0 0):=(za0 hB (hr 11 (by decide) 3 (by decide))).1
 have x5:w.cell? ⟨bb,108,none⟩=some (.slice none 0 0):=(za0 hB (hr 11 (by decide) 5 (by decide))).1
 have x6:w.cell? ⟨bb,109,none⟩=some (.slice none 0 0):=(za0 hB (hr 11 (by decide) 6 (by decide))).1
 clear hB hr
 go_enter Tryz.func180,Tryz.ntmps180
 go_wp2
 exact bodyPost_ret (results_none rfl _ _ _) rfl ⟨rfl,rfl⟩
theorem growN11 (bb:Nat) (cs:Array Value) (w:World) (hB:BkAt w bb cs) (hr:Rest cs):Calls Tryz.prog 197 #[.pointer (some ⟨bb,0,none⟩)] w fun e w'=>e = .returned (.tuple #[])∧BkAt w' bb cs∧Below w.heap.size w w':=by
 have r4:cs[107]?=some (.slice none 0 0):=hr 11 (by decide) 4 (by decide)
 have r7:cs[110]?=some (.slice none 0 0):=hr 11 (by decide) 7 (by decide)
 obtain ⟨x4,y4⟩:=za0 hB r4
 obtain ⟨x7,y7⟩:=za0 hB r7
 have HB:Hid (BkAt w bb cs∧cs[107]?=some (.slice none 0 0)∧cs[110]?=some (.slice none 0 0)):=⟨hB,r4,r7⟩
 clear hB hr r4 r7
 go_enter Tryz.func197,Tryz.ntmps197
 go_wp2
 go_loop [2] (fun i=>i = .int .i64 0) (fun _=>0)
 case atStart=>rfl
 case round =>
  subst hrel
  go_wp2
  go_end0
  exact ⟨rfl,zai HB.out.1 HB.out.2.1 HB.out.2.2⟩
theorem holdN11 (bb:Nat) (cs:Array Value) (w:World) (hB:BkAt w bb cs) (hr:Rest cs):Calls Tryz.prog 67 #[.pointer (some ⟨bb,0,none⟩)] w fun e w'=>e = .returned (.bool true)∧w'=w:=by
 have x0:w.cell? ⟨bb,103,none⟩=some (.slice none 0 0):=(za0 hB (hr 11 (by decide) 0 (by decide))).1
 have x2:w.cell? ⟨bb,105,none⟩=some (.slice none 0 0):=(za0 hB (hr 11 (by decide) 2 (by decide))).1
 clear hB hr
 go_enter Tryz.func67,Tryz.ntmps67
 go_wp2
 go_loop [3] (fun i=>i = .int .i64 0) (fun _=>0)
 case atStart=>rfl
 case round =>
  subst hrel
  go_wp2
  go_loop [4] (fun i=>i = .int .i64 0) (fun _=>0)
  case atStart=>rfl
  case round =>
   subst hrel
   go_wp2
   go_ret
   exact ⟨rfl,rfl⟩
theorem markN12 (bb:Nat) (cs:Array Value) (w:World) (hB:BkAt w bb cs) (hr:Rest cs):Calls Tryz.prog 181 #[.pointer (some ⟨bb,0,none⟩)] w fun e w'=>e = .returned (.tuple #[])∧w'=w:=by
 have x2:w.cell? ⟨bb,114,none⟩=some (.slice none 0 0):=(za0 hB (hr 12 (by decide) 2 (by decide))).1
 have x3:w.cell? ⟨bb,115,none⟩=some (.slice none 0 0):=(za0 hB (hr 12 (by decide) 3 (by decide))).1
 have x5:w.cell? ⟨bb,117,none⟩=some (.slice none 0 0):=(za0 hB (hr 12 (by decide) 5 (by decide))).1
 have x6:w.cell? ⟨bb,118,none⟩=some (.slice none 0 0):=(za0 hB (hr 12 (by decide) 6 (by decide))).1
 clear hB hr
 go_enter Tryz.func181,Tryz.ntmps181
 go_wp2
 exact bodyPost_ret (results_none rfl _ _ _) rfl ⟨rfl,rfl⟩
theorem growN12 (bb:Nat) (cs:Array Value) (w:World) (hB:BkAt w bb cs) (hr:Rest cs):Calls Tryz.prog 198 #[.pointer (some ⟨bb,0,none⟩)] w fun e w'=>e = .returned (.tuple #[])∧BkAt w' bb cs∧Below w.heap.size w w':=by
 have r4:cs[116]?=some (.slice none 0 0):=hr 12 (by decide) 4 (by decide)
 have r7:cs[119]?=some (.slice none 0 0):=hr 12 (by decide) 7 (by decide)
 obtain ⟨x4,y4⟩:=za0 hB r4
 obtain ⟨x7,y7⟩:=za0 hB r7
 have HB:Hid (BkAt w bb cs∧cs[116]?=some (.slice none 0 0)∧cs[119]?=some (.slice none 0 0)):=⟨hB,r4,r7⟩
 clear hB hr r4 r7
 go_enter Tryz.func198,Tryz.ntmps198
 go_wp2
 go_loop [2] (fun i=>i = .int .i64 0) (fun _=>0)
 case atStart=>rfl
 case round =>
  subst hrel
  go_wp2
  go_end0
  exact ⟨rfl,zai HB.out.1 HB.out.2.1 HB.out.2.2⟩
theorem holdN12 (bb:Nat) (cs:Array Value) (w:World) (hB:BkAt w bb cs) (hr:Rest cs):Calls Tryz.prog 68 #[.pointer (some ⟨bb,0,none⟩)] w fun e w'=>e = .returned (.bool true)∧w'=w:=by
 have x0:w.cell? ⟨bb,112,none⟩=some (.slice none 0 0):=(za0 hB (hr 12 (by decide) 0 (by decide))).1
 have x2:w.cell? ⟨bb,114,none⟩=some (.slice none 0 0):=(za0 hB (hr 12 (by decide) 2 (by decide))).1
 clear hB hr
 go_enter Tryz.func68,Tryz.ntmps68
 go_wp2
 go_loop [3] (fun i=>i = .int .i64 0) (fun _=>0)
 case atStart=>rfl
 case round =>
  subst hrel
  go_wp2
  go_loop [4] (fun i=>i = .int .i64 0) (fun _=>0)
  case atStart=>rfl
  case round =>
   subst hrel
   go_wp2
   go_ret
   exact ⟨rfl,rfl⟩
theorem markN13 (bb:Nat) (cs:Array Value) (w:World) (hB:BkAt w bb cs) (hr:Rest cs):Calls Tryz.prog 182 #[.pointer (some ⟨bb,0,none⟩)] w fun e w'=>e = .returned (.tuple #[])∧w'=w:=by
 have x2:w.cell? ⟨bb,123,none⟩=some (.slice none 0 0):=(za0 hB (hr 13 (by decide) 2 (by decide))).1
 have x3:w.cell? ⟨bb,124,none⟩=some (.slice none 0 0):=(za0 hB (hr 13 (by decide) 3 (by decide))).1
 have x5:w.cell? ⟨bb,126,none⟩=some (.slice none 0 0):=(za0 hB (hr 13 (by decide) 5 (by decide))).1
 have x6:w.cell? ⟨bb,127,none⟩=some (.slice none 0 0):=(za0 hB (hr 13 (by decide) 6 (by decide))).1
 clear hB hr
 go_enter Tryz.func182,Tryz.ntmps182
 go_wp2
 exact bodyPost_ret (results_none rfl _ _ _) rfl ⟨rfl,rfl⟩
theorem growN13 (bb:Nat) (cs:Array Value) (w:World) (hB:BkAt w bb cs) (hr:Rest cs):Calls Tryz.prog 199 #[.pointer (some ⟨bb,0,none⟩)] w fun e w'=>e = .returned (.tuple #[])∧BkAt w' bb cs∧Below w.heap.size w w':=by
 have r4:cs[125]?=some (.slice none 0 0):=hr 13 (by decide) 4 (by decide)
 have r7:cs[128]?=some (.slice none 0 0):=hr 13 (by decide) 7 (by decide)
 obtain ⟨x4,y4⟩:=za0 hB r4
 obtain ⟨x7,y7⟩:=za0 hB r7
 have HB:Hid (BkAt w bb cs∧cs[125]?=some (.slice none 0 0)∧cs[128]?=some (.slice none 0 0)):=⟨hB,r4,r7⟩
 clear hB hr r4 r7
 go_enter Tryz.func199,Tryz.ntmps199
 go_wp2
 go_loop [2] (fun i=>i = .int .i64 0) (fun _=>0)
 case atStart=>rfl
 case round =>
  subst hrel
  go_wp2
  go_end0
  exact ⟨rfl,zai HB.out.1 HB.out.2.1 HB.out.2.2⟩
theorem holdN13 (bb:Nat) (cs:Array Value) (w:World) (hB:BkAt w bb cs) (hr:Rest cs):Calls Tryz.prog 69 #[.pointer (some ⟨bb,0,none⟩)] w fun e w'=>e = .returned (.bool true)∧w'=w:=by
 have x0:w.cell? ⟨bb,121,none⟩=some (.slice none 0 0):=(za0 hB (hr 13 (by decide) 0 (by decide))).1
 have x2:w.cell? ⟨bb,123,none⟩=some (.slice none 0 0):=(za0 hB (hr 13 (by decide) 2 (by decide))).1
 clear hB hr
 go_enter Tryz.func69,Tryz.ntmps69
 go_wp2
 go_loop [3] (fun i=>i = .int .i64 0) (fun _=>0)
 case atStart=>rfl
 case round =>
  subst hrel
  go_wp2
  go_loop [4] (fun i=>i = .int .i64 0) (fun _=>0)
  case atStart=>rfl
  case round =>
   subst hrel
   go_wp2
   go_ret
   exact ⟨rfl,rfl⟩
theorem markN14 (bb:Nat) (cs:Array Value) (w:World) (hB:BkAt w bb cs) (hr:Rest cs):Calls Tryz.prog 183 #[.pointer (some ⟨bb,0,none⟩)] w fun e w'=>e = .returned (.tuple #[])∧w'=w:=by
 have x2:w.cell? ⟨bb,132,none⟩=some (.slice none 0 0):=(za0 hB (hr 14 (by decide) 2 (by decide))).1
 have x3:w.cell? ⟨bb,133,none⟩=some (.slice none 0 0):=(za0 hB (hr 14 (by decide) 3 (by decide))).1
 have x5:w.cell? ⟨bb,135,none⟩=some (.slice none 0 0):=(za0 hB (hr 14 (by decide) 5 (by decide))).1
 have x6:w.cell? ⟨bb,136,none⟩=some (.slice none 0 0):=(za0 hB (hr 14 (by decide) 6 (by decide))).1
 clear hB hr
 go_enter Tryz.func183,Tryz.ntmps183
 go_wp2
 exact bodyPost_ret (results_none rfl _ _ _) rfl ⟨rfl,rfl⟩
theorem growN14 (bb:Nat) (cs:Array Value) (w:World) (hB:BkAt w bb cs) (hr:Rest cs):Calls Tryz.prog 200 #[.pointer (some ⟨bb,0,none⟩)] w fun e w'=>e = .returned (.tuple #[])∧BkAt w' bb cs∧Below w.heap.size w w':=by
 have r4:cs[134]?=some (.slice none 0 0):=hr 14 (by decide) 4 (by decide)
 have r7:cs[137]?=some (.slice none 0 0):=hr 14 (by decide) 7 (by decide)
 obtain ⟨x4,y4⟩:=za0 hB r4
 obtain ⟨x7,y7⟩:=za0 hB r7
 have HB:Hid (BkAt w bb cs∧cs[134]?=some (.slice none 0 0)∧cs[137]?=some (.slice none 0 0)):=⟨hB,r4,r7⟩
 clear hB hr r4 r7
 go_enter Tryz.func200,Tryz.ntmps200
 go_wp2
 go_loop [2] (fun i=>i = .int .i64 0) (fun _=>0)
 case atStart=>rfl
 case round =>
  subst hrel
  go_wp2
  go_end0
  exact ⟨rfl,zai HB.out.1 HB.out.2.1 HB.out.2.2⟩
theorem holdN14 (bb:Nat) (cs:Array Value) (w:World) (hB:BkAt w bb cs) (hr:Rest cs):Calls Tryz.prog 70 #[.pointer (some ⟨bb,0,none⟩)] w fun e w'=>e = .returned (.bool true)∧w'=w:=by
 have x0:w.cell? ⟨bb,130,none⟩=some (.slice none 0 0):=(za0 hB (hr 14 (by decide) 0 (by decide))).1
 have x2:w.cell? ⟨bb,132,none⟩=some (.slice none 0 0):=(za0 hB (hr 14 (by decide) 2 (by decide))).1
 clear hB hr
 go_enter Tryz.func70,Tryz.ntmps70
 go_wp2
 go_loop [3] (fun i=>i = .int .i64 0) (fun _=>0)
 case atStart=>rfl
 case round =>
  subst hrel
  go_wp2
  go_loop [4] (fun i=>i = .int .i64 0) (fun _=>0)
  case atStart=>rfl
  case round =>
   subst hrel
   go_wp2
   go_ret
   exact ⟨rfl,rfl⟩
theorem markN15 (bb:Nat) (cs:Array Value) (w:World) (hB:BkAt w bb cs) (hr:Rest cs):Calls Tryz.prog 184 #[.pointer (some ⟨bb,0,none⟩)] w fun e w'=>e = .returned (.tuple #[])∧w'=w:=by
 have x2:w.cell? ⟨bb,141,none⟩=some (.slice none 0 0):=(za0 hB (hr 15 (by decide) 2 (by decide))).1
 have x3:w.cell? ⟨bb,142,none⟩=some (.slice none 0 0):=(za0 hB (hr 15 (by decide) 3 (by decide))).1
 have x5:w.cell? ⟨bb,144,none⟩=some (.slice none 0 0):=(za0 hB (hr 15 (by decide) 5 (by decide))).1
 have x6:w.cell? ⟨bb,145,none⟩=some (.slice none 0 0):=(za0 hB (hr 15 (by decide) 6 (by decide))).1
 clear hB hr
 go_enter Tryz.func184,Tryz.ntmps184
 go_wp2
 exact bodyPost_ret (results_none rfl _ _ _) rfl ⟨rfl,rfl⟩
theorem growN15 (bb:Nat) (cs:Array Value) (w:World) (hB:BkAt w bb cs) (hr:Rest cs):Calls Tryz.prog 201 #[.pointer (some ⟨bb,0,none⟩)] w fun e w'=>e = .returned (.tuple #[])∧BkAt w' bb cs∧Below w.heap.size w w':=by
 have r4:cs[143]?=some (.slice none 0 0):=hr 15 (by decide) 4 (by decide)
 have r7:cs[146]?=some (.slice none 0 0):=hr 15 (by decide) 7 (by decide)
 obtain ⟨x4,y4⟩:=za0 hB r4
 obtain ⟨x7,y7⟩:=za0 hB r7
 have HB:Hid (BkAt w bb cs∧cs[143]?=some (.slice none 0 0)∧cs[146]?=some (.slice none 0 0)):=⟨hB,r4,r7⟩
 clear hB hr r4 r7
 go_enter Tryz.func201,Tryz.ntmps201
 go_wp2
 go_loop [2] (fun i=>i = .int .i64 0) (fun _=>0)
 case atStart=>rfl
 case round =>
  subst hrel
  go_wp2
  go_end0
  exact ⟨rfl,zai HB.out.1 HB.out.2.1 HB.out.2.2⟩
theorem holdN15 (bb:Nat) (cs:Array Value) (w:World) (hB:BkAt w bb cs) (hr:Rest cs):Calls Tryz.prog 71 #[.pointer (some ⟨bb,0,none⟩)] w fun e w'=>e = .returned (.bool true)∧w'=w:=by
 have x0:w.cell? ⟨bb,139,none⟩=some (.slice none 0 0):=(za0 hB (hr 15 (by decide) 0 (by decide))).1
 have x2:w.cell? ⟨bb,141,none⟩=some (.slice none 0 0):=(za0 hB (hr 15 (by decide) 2 (by decide))).1
 clear hB hr
 go_enter Tryz.func71,Tryz.ntmps71
 go_wp2
 go_loop [3] (fun i=>i = .int .i64 0) (fun _=>0)
 case atStart=>rfl
 case round =>
  subst hrel
  go_wp2
  go_loop [4] (fun i=>i = .int .i64 0) (fun _=>0)
  case atStart=>rfl
  case round =>
   subst hrel
   go_wp2
   go_ret
   exact ⟨rfl,rfl⟩
theorem markN16 (bb:Nat) (cs:Array Value) (w:World) (hB:BkAt w bb cs) (hr:Rest cs):Calls Tryz.prog 185 #[.pointer (some ⟨bb,0,none⟩)] w fun e w'=>e = .returned (.tuple #[])∧w'=w:=by
 have x2:w.cell? ⟨bb,150,none⟩=some (.slice none 0 0):=(za0 hB (hr 16 (by decide) 2 (by decide))).1
 have x3:w.cell? ⟨bb,151,none⟩=some (.slice none 0 0):=(za0 hB (hr 16 (by decide) 3 (by decide))).1
 have x5:w.cell? ⟨bb,153,none⟩=some (.slice none 0 0):=(za0 hB (hr 16 (by decide) 5 (by decide))).1
 have x6:w.cell? ⟨bb,154,none⟩=some (.slice none 0 0):=(za0 hB (hr 16 (by decide) 6 (by decide))).1
 clear hB hr
 go_enter Tryz.func185,Tryz.ntmps185
 go_wp2
 exact bodyPost_ret (results_none rfl _ _ _) rfl ⟨rfl,rfl⟩
theorem growN16 (bb:Nat) (cs:Array Value) (w:World) (hB:BkAt w bb cs) (hr:Rest cs):Calls Tryz.prog 202 #[.pointer (some ⟨bb,0,none⟩)] w fun e w'=>e = .returned (.tuple #[])∧BkAt w' bb cs∧Below w.heap.size w w':=by
 have r4:cs[152]?=some (.slice none 0 0):=hr 16 (by decide) 4 (by decide)
 have r7:cs[155]?=some (.slice none 0 0):=hr 16 (by decide) 7 (by decide)
 obtain ⟨x4,y4⟩:=za0 hB r4
 obtain ⟨x7,y7⟩:=za0 hB r7
 have HB:Hid (BkAt w bb cs∧cs[152]?=some (.slice none 0 0)∧cs[155]?=some (.slice none 0 0)):=⟨hB,r4,r7⟩
 clear hB hr r4 r7
 go_enter Tryz.func202,Tryz.ntmps202
 go_wp2
 go_loop [2] (fun i=>i = .int .i64 0) (fun _=>0)
 case atStart=>rfl
 case round =>
  subst hrel
  go_wp2
  go_end0
  exact ⟨rfl,zai HB.out.1 HB.out.2.1 HB.out.2.2⟩
theorem holdN16 (bb:Nat) (cs:Array Value) (w:World) (hB:BkAt w bb cs) (hr:Rest cs):Calls Tryz.prog 72 #[.pointer (some ⟨bb,0,none⟩)] w fun e w'=>e = .returned (.bool true)∧w'=w:=by
 have x0:w.cell? ⟨bb,148,none⟩=some (.slice none 0 0):=(za0 hB (hr 16 (by decide) 0 (by decide))).1
 have x2:w.cell? ⟨bb,150,none⟩=some (.slice none 0 0):=(za0 hB (hr 16 (by decide) 2 (by decide))).1
 clear hB hr
 go_enter Tryz.func72,Tryz.ntmps72
 go_wp2
 go_loop [3] (fun i=>i = .int .i64 0) (fun _=>0)
 case atStart=>rfl
 case round =>
  subst hrel
  go_wp2
  go_loop [4] (fun i=>i = .int .i64 0) (fun _=>0)
  case atStart=>rfl
  case round =>
   subst hrel
   go_wp2
   go_ret
   exact ⟨rfl,rfl⟩
end Go.Proofs.YtceigllifjgalaaGreatDoor.Bk
