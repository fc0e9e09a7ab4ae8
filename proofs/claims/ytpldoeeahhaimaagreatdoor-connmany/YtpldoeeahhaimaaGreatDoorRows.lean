/-
  NARROWER THAN 'FOR EVERY INPUT', by the rows' own cells (each row's printed sentence says how): ConnPlays: laid · ConnMany: laid.
  DERIVED. THE GIVEN ROWS OF THIS SEAT. 2 by the template 'for every input the law returns true; each argument reads behind the call as it read before'; 0 by the template 'total and deterministic' (their statements: YtpldoeeahhaimaaGreatDoorTotals.lean).
  GIVEN WITH THE SEED: the statements are not yours to turn. If you find one false, say at which input.
  Laid BY PROGRAM, IN A SANDBOX (cutbox-rows.mjs): the forced cells as the released guide's own fill.sh prints them over the translation 6e1323619cdeea34… (all of the seat's roots in one cut). By AI agents, Wed Nov 11 2026. No macro, syntax, notation, axiom, sorry.
-/
import Derived.Test.YtpldoeeahhaimaaGreatDoorChecked
import GoSem.Claim
import GoSem.ClaimJoined
import GoSem.ClaimMapViews
import Derived.JoinedTies
import Derived.KernelRfl
namespace Go.Proofs.YtpldoeeahhaimaaGreatDoor
/- THE CELL 'sum', in the pinned program and in every row, IS THE sha256 OF THE DUMP (.gsa) THAT YtpldoeeahhaimaaGreatDoorProg.lean LOADS. Nothing in Lean hashes anything: it is a label: what it is worth is what the hold of that sum in a sandbox is worth. -/
noncomputable def Tryz.pinned : Pinned := { name := "ytpldoeeahhaimaagreatdoor", sum := "6e1323619cdeea348ca11791b487fc002298f2fc0c222451fb13548b52ae52d5", checked := Tryz.checked }
namespace Rows
def none {H : Type} : Left H := { results := [], args := [] }

/- WHAT THE LISTED PACKAGE-LEVEL VARIABLES READ AS WHEN THE CALL BEGINS. Each datum BY PROGRAM (the guide's laid-datum.mjs) off the statement by which the dump's own 'gosem.cut.vars' lays the variable. In a bare row this is a premise. The card (YtpldoeeahhaimaaGreatDoorCards.lean) ties it to the program's text. -/
def laid_errors_errorType {H : Type} : DataW H := .iface "internal/reflectlite.rtype" (.agg [.ptr (.lit (.string [101, 114, 114, 111, 114]))])
def laid_crier_packet_kinds {H : Type} : DataW H := .agg [.agg [.lit (.string []), .lit (.int .i64 0), .lit (.int .i64 0)], .agg [.lit (.string [67, 111, 110, 110, 101, 99, 116]), .lit (.int .i64 0), .lit (.int .i64 1023)], .agg [.lit (.string [67, 111, 110, 110, 97, 99, 107]), .lit (.int .i64 0), .lit (.int .i64 3072)], .agg [.lit (.string [80, 117, 98, 108, 105, 115, 104]), .lit (.int .i64 0), .lit (.int .i64 28672)], .agg [.lit (.string [80, 117, 98, 97, 99, 107]), .lit (.int .i64 0), .lit (.int .i64 16384)], .agg [.lit (.string [80, 117, 98, 114, 101, 99]), .lit (.int .i64 0), .lit (.int .i64 16384)], .agg [.lit (.string [80, 117, 98, 114, 101, 108]), .lit (.int .i64 2), .lit (.int .i64 16384)], .agg [.lit (.string [80, 117, 98, 99, 111, 109, 112]), .lit (.int .i64 0), .lit (.int .i64 16384)], .agg [.lit (.string [83, 117, 98, 115, 99, 114, 105, 98, 101]), .lit (.int .i64 2), .lit (.int .i64 49152)], .agg [.lit (.string [83, 117, 98, 97, 99, 107]), .lit (.int .i64 0), .lit (.int .i64 81920)], .agg [.lit (.string [85, 110, 115, 117, 98, 115, 99, 114, 105, 98, 101]), .lit (.int .i64 2), .lit (.int .i64 147456)], .agg [.lit (.string [85, 110, 115, 117, 98, 97, 99, 107]), .lit (.int .i64 0), .lit (.int .i64 16384)], .agg [.lit (.string [80, 105, 110, 103, 114, 101, 113]), .lit (.int .i64 0), .lit (.int .i64 0)], .agg [.lit (.string [80, 105, 110, 103, 114, 101, 115, 112]), .lit (.int .i64 0), .lit (.int .i64 0)], .agg [.lit (.string [68, 105, 115, 99, 111, 110, 110, 101, 99, 116]), .lit (.int .i64 0), .lit (.int .i64 0)]]

/-- 'crierlaw14.ConnPlays': WHATEVER THE INPUT: true; the input reads as it did. -/
def connPlaysSpec : ChangeSpec := { name := "connPlays", fn := fun _ => fun
  | [d1, d2, d3] => { results := [.lit (.bool true)], args := [d1, d2, d3] }
  | _ => none }
def connPlaysRow : OpenClaim := { program := "ytpldoeeahhaimaagreatdoor", sum := "6e1323619cdeea348ca11791b487fc002298f2fc0c222451fb13548b52ae52d5", func := "crier/crierlaw14.ConnPlays", spec := "connPlays", inPlace := ["internal/bytealg.IndexByteString", "internal/bytealg.IndexString", "internal/bytealg.CountString", "internal/reflectlite.ValueOf", "(internal/reflectlite.Value).Type", "(internal/reflectlite.Value).IsNil", "internal/reflectlite.TypeOf", "(internal/reflectlite.Value).Elem", "(internal/reflectlite.Value).Set"], unfollowed := true, recurses := true, named := ["crier/packet.kinds", "internal/bytealg.MaxLen", "errors.errorType"], apart := false, laid := [("errors.errorType", laid_errors_errorType), ("crier/packet.kinds", laid_crier_packet_kinds)] }
def ConnPlaysSaid : Prop := connPlaysRow.holds Tryz.pinned (OpenSpec.ofChange connPlaysSpec)

/-- ITS FALSE NEIGHBOUR: 'it returns false'. Refute it at one input. -/
def connPlaysWrong : ChangeSpec := { name := "connPlays", fn := fun _ => fun
  | [d1, d2, d3] => { results := [.lit (.bool false)], args := [d1, d2, d3] }
  | _ => none }
def ConnPlaysWrongFalsely : Prop := connPlaysRow.holds Tryz.pinned (OpenSpec.ofChange connPlaysWrong)

/-- 'crierlaw14.ConnMany': WHATEVER THE INPUT: true; the input reads as it did. -/
def connManySpec : ChangeSpec := { name := "connMany", fn := fun _ => fun
  | [d1, d2, d3, d4] => { results := [.lit (.bool true)], args := [d1, d2, d3, d4] }
  | _ => none }
def connManyRow : OpenClaim := { program := "ytpldoeeahhaimaagreatdoor", sum := "6e1323619cdeea348ca11791b487fc002298f2fc0c222451fb13548b52ae52d5", func := "crier/crierlaw14.ConnMany", spec := "connMany", inPlace := ["internal/bytealg.IndexByteString", "internal/bytealg.IndexString", "internal/bytealg.CountString", "internal/reflectlite.ValueOf", "(internal/reflectlite.Value).Type", "(internal/reflectlite.Value).IsNil", "internal/reflectlite.TypeOf", "(internal/reflectlite.Value).Elem", "(internal/reflectlite.Value).Set"], unfollowed := true, recurses := true, named := ["crier/packet.kinds", "internal/bytealg.MaxLen", "errors.errorType"], apart := false, laid := [("errors.errorType", laid_errors_errorType), ("crier/packet.kinds", laid_crier_packet_kinds)] }
def ConnManySaid : Prop := connManyRow.holds Tryz.pinned (OpenSpec.ofChange connManySpec)

/-- ITS FALSE NEIGHBOUR: 'it returns false'. Refute it at one input. -/
def connManyWrong : ChangeSpec := { name := "connMany", fn := fun _ => fun
  | [d1, d2, d3, d4] => { results := [.lit (.bool false)], args := [d1, d2, d3, d4] }
  | _ => none }
def ConnManyWrongFalsely : Prop := connManyRow.holds Tryz.pinned (OpenSpec.ofChange connManyWrong)

/- THE SECOND FORM. 'bulk': how many values and letters a reading holds, each counted each time it is reached (what is shared counts as often as it is met; a slice's spare places count too). A statement '..UptoSaid' is the law's where the arguments, and the package variables that the reading takes, are together of bulk at most 1048576: NARROWER than '..Said'. Prove '..Said' where nothing that the law and all that it calls make is longer than what came in: it says more and counts as full. Else prove '..UptoSaid'. A law counts once. -/
mutual
def uptoBulk {H : Type} : DataW H → Nat
  | .lit (.string bytes) => bytes.length + 1
  | .lit _ => 1
  | .nil => 1
  | .ptr d => uptoBulk d + 1
  | .slice elems spare => uptoBulkAll elems + uptoBulkAll spare + 1
  | .agg parts => uptoBulkAll parts + 1
  | .iface _ d => uptoBulk d + 1
  | .map entries => uptoBulkEntries entries + 1
  | .held _ => 1
def uptoBulkAll {H : Type} : List (DataW H) → Nat
  | [] => 0
  | d :: r => uptoBulk d + uptoBulkAll r
def uptoBulkEntries {H : Type} : List (Lit × DataW H) → Nat
  | [] => 0
  | x :: r => uptoBulkEntry x + uptoBulkEntries r
def uptoBulkEntry {H : Type} : Lit × DataW H → Nat
  | (.string bytes, d) => bytes.length + uptoBulk d + 1
  | (_, d) => uptoBulk d + 1
 end
def uptoSmall : (H : Type) → List (DataW H) → Bool := fun _ ds => decide (uptoBulkAll ds ≤ 1048576)
def OpenSpec.upto (s : _root_.Go.ChangeSpec) : _root_.Go.OpenSpec := { _root_.Go.OpenSpec.ofChange s with cond := some uptoSmall }

/-- 'crierlaw14.ConnPlays', WHERE WHAT IT READS IS OF BULK AT MOST 1048576: true; the input reads as it did. -/
def connPlaysUptoRow : OpenClaim := { program := "ytpldoeeahhaimaagreatdoor", sum := "6e1323619cdeea348ca11791b487fc002298f2fc0c222451fb13548b52ae52d5", func := "crier/crierlaw14.ConnPlays", spec := "connPlays", inPlace := ["internal/bytealg.IndexByteString", "internal/bytealg.IndexString", "internal/bytealg.CountString", "internal/reflectlite.ValueOf", "(internal/reflectlite.Value).Type", "(internal/reflectlite.Value).IsNil", "internal/reflectlite.TypeOf", "(internal/reflectlite.Value).Elem", "(internal/reflectlite.Value).Set"], unfollowed := true, recurses := true, named := ["crier/packet.kinds", "internal/bytealg.MaxLen", "errors.errorType"], apart := false, laid := [("errors.errorType", laid_errors_errorType), ("crier/packet.kinds", laid_crier_packet_kinds)], narrowed := true }
def ConnPlaysUptoSaid : Prop := connPlaysUptoRow.holds Tryz.pinned (OpenSpec.upto connPlaysSpec)

/-- 'crierlaw14.ConnMany', WHERE WHAT IT READS IS OF BULK AT MOST 1048576: true; the input reads as it did. -/
def connManyUptoRow : OpenClaim := { program := "ytpldoeeahhaimaagreatdoor", sum := "6e1323619cdeea348ca11791b487fc002298f2fc0c222451fb13548b52ae52d5", func := "crier/crierlaw14.ConnMany", spec := "connMany", inPlace := ["internal/bytealg.IndexByteString", "internal/bytealg.IndexString", "internal/bytealg.CountString", "internal/reflectlite.ValueOf", "(internal/reflectlite.Value).Type", "(internal/reflectlite.Value).IsNil", "internal/reflectlite.TypeOf", "(internal/reflectlite.Value).Elem", "(internal/reflectlite.Value).Set"], unfollowed := true, recurses := true, named := ["crier/packet.kinds", "internal/bytealg.MaxLen", "errors.errorType"], apart := false, laid := [("errors.errorType", laid_errors_errorType), ("crier/packet.kinds", laid_crier_packet_kinds)], narrowed := true }
def ConnManyUptoSaid : Prop := connManyUptoRow.holds Tryz.pinned (OpenSpec.upto connManySpec)

end Rows
end Go.Proofs.YtpldoeeahhaimaaGreatDoor
