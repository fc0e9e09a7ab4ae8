import Derived.Test.YtceigllifjgalaaGreatDoorPKt
import Derived.WalkLawsBesides
namespace Go.Proofs.YtceigllifjgalaaGreatDoor.Pkt
open Go Go.RowKit
set_option linter.unusedSimpArgs false
set_option linter.unusedVariables false
theorem zar (k:Int) (w:World):Calls Tryz.prog 230 #[.int .i64 k] w fun e w'=>e = .returned (.bool (isK k))/\w'=w:=by
 by_cases h1:1<=k;·
  by_cases h2:k<=14;·
   have e:isK k=true:=by simp [isK,h1,h2]
   rw [e];clear e;go_enter Tryz.func230,Tryz.ntmps230;go_wp2;go_ret;exact ⟨rfl,rfl⟩
  ·
   have e:isK k=false:=by simp [isK,h1,h2]
   rw [e];clear e;go_enter Tryz.func230,Tryz.ntmps230;go_wp2;go_ret;exact ⟨rfl,rfl⟩
 ·
  have e:isK k=false:=by simp [isK,h1]
  rw [e];clear e;go_enter Tryz.func230,Tryz.ntmps230;go_wp2;go_ret;exact ⟨rfl,rfl⟩
end Go.Proofs.YtceigllifjgalaaGreatDoor.Pkt
