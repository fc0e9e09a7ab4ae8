/-
  DERIVED. GIVEN WITH THE SEED: THE CARDS: each row of YtdibmmagnkjapaaGreatDoorRows.lean that lists a variable, with what it lists TIED to the program's text (the seventh form; the later family's looks); each row that meets fmt, with fmt's text TOLD by the authors' own Lean function (tested against real Go, not proved from fmt's source: count such statements apart). THE CARD IS WHAT COUNTS. Prove the row's statement (the work); the ties are given (YtdibmmagnkjapaaGreatDoorTie.lean); close each card by the builder's one call (the guide's Derived/Test/ToyasCard.lean, 'card_holds'). Laid BY PROGRAM, IN A SANDBOX (cutbox-door.mjs). By AI agents, Wed Nov 11 2026. No macro, syntax, notation, axiom, sorry.
-/
import Derived.Test.YtdibmmagnkjapaaGreatDoorRows
import GoSem.ClaimSeven
namespace Go.Proofs.YtdibmmagnkjapaaGreatDoor
namespace Rows

/-- THE TIED CARD OF 'crierlaw5.TopicChecks'. -/
def topicChecksCard : Claim7 := { stood := { row := topicChecksRow, standIns := [], harness := (true, "d48254c2383223122225f25643e0ad04f46073dbb8011f7c5c87cd20458aae12"), looks := false }, kinds := [], alts := [], laidByText := true, laidKinds := [.data, .data, .data], laidTests := true, laidLooks := .later }
def TopicChecksCardSaid : Prop := Claim7.holds Tryz.pinned (.plain (OpenSpec.ofChange topicChecksSpec)) topicChecksCard

/-- THE TIED CARD OF 'crierlaw5.TopicLists'. -/
def topicListsCard : Claim7 := { stood := { row := topicListsRow, standIns := [], harness := (true, "d48254c2383223122225f25643e0ad04f46073dbb8011f7c5c87cd20458aae12"), looks := false }, kinds := [], alts := [], laidByText := true, laidKinds := [.data, .data, .data], laidTests := true, laidLooks := .later }
def TopicListsCardSaid : Prop := Claim7.holds Tryz.pinned (.plain (OpenSpec.ofChange topicListsSpec)) topicListsCard

/-- THE SECOND FORM's CARD OF 'crierlaw5.TopicChecks'. -/
def topicChecksUptoCard : Claim7 := { stood := { row := topicChecksUptoRow, standIns := [], harness := (true, "d48254c2383223122225f25643e0ad04f46073dbb8011f7c5c87cd20458aae12"), looks := false }, kinds := [], alts := [], laidByText := true, laidKinds := [.data, .data, .data], laidTests := true, laidLooks := .later }
def TopicChecksUptoCardSaid : Prop := Claim7.holds Tryz.pinned (.plain (OpenSpec.upto topicChecksSpec)) topicChecksUptoCard

/-- THE SECOND FORM's CARD OF 'crierlaw5.TopicLists'. -/
def topicListsUptoCard : Claim7 := { stood := { row := topicListsUptoRow, standIns := [], harness := (true, "d48254c2383223122225f25643e0ad04f46073dbb8011f7c5c87cd20458aae12"), looks := false }, kinds := [], alts := [], laidByText := true, laidKinds := [.data, .data, .data], laidTests := true, laidLooks := .later }
def TopicListsUptoCardSaid : Prop := Claim7.holds Tryz.pinned (.plain (OpenSpec.upto topicListsSpec)) topicListsUptoCard
end Rows
end Go.Proofs.YtdibmmagnkjapaaGreatDoor
