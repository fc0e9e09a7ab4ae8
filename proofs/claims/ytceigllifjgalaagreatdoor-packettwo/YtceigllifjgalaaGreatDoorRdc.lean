import Derived.Test.YtceigllifjgalaaGreatDoorOw
import Derived.Test.YtceigllifjgalaaGreatDoorRda
import Derived.Test.YtceigllifjgalaaGreatDoorPWb
namespace Go.Proofs.YtceigllifjgalaaGreatDoor
open Go Go.RowKit
set_option linter.unusedSimpArgs false
set_option linter.unusedVariables false
structure Rs where
 at0:Nat
 p:Int
 q:Int
def Rs.on (r:Rs) (k:Nat):Rs:=⟨r.at0+k,r.p,0⟩
structure Rdr (w:World) (rb g n cp:Nat) (z:Nat→Int) (r:Rs):Prop where
 rd:RdAt w rb (.slice (some ⟨g,0,none⟩) n cp) r.at0 r.p r.q
 rb:Rb w rb g n cp z
 le:r.at0≤n
end Go.Proofs.YtceigllifjgalaaGreatDoor
