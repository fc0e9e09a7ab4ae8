import Derived.Test.YtceigllifjgalaaGreatDoorPRqc
import Derived.Test.YtceigllifjgalaaGreatDoorPRqd
namespace Go.Proofs.YtceigllifjgalaaGreatDoor.Pkt
open Go Go.RowKit Go.Sort
set_option linter.unusedSimpArgs false
set_option linter.unusedVariables false
theorem rcheck2_any (p:Pk) (c:Cn) (w:World) (hin:In w p c) (hs:Small p c):Calls Tryz.prog 93 #[p.v] w fun e w'=>e = .returned (.int .i64 (ck TT p c))/\Below w.heap.size w w':=by
 rw [<-rck_ck];cases hbad:(!isK p.kind || rbad1 p || bad2 TT p || !rtps p || !rflts p c || !rqls p c);case true=>exact rcheck_one p c w hin hs hbad
 simp only [Bool.or_eq_false_iff] at hbad;obtain ⟨⟨⟨⟨⟨h0,h1⟩,h2⟩,h3⟩,h4⟩,h5⟩:=hbad;cases hbad:(rbad6 p || rbad7 p c);case true=>exact rcheck_two p c w hin hs h0 h1 h2 h3 h4 h5 hbad
 rw [Bool.or_eq_false_iff] at hbad;exact rcheck_three p c w hin hs h0 h1 h2 h3 h4 h5 hbad.1 hbad.2
end Go.Proofs.YtceigllifjgalaaGreatDoor.Pkt
