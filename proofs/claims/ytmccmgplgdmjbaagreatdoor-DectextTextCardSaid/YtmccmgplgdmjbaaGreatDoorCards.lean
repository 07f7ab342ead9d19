/-
  DERIVED. GIVEN WITH THE SEED: THE CARDS: each row of YtmccmgplgdmjbaaGreatDoorRows.lean that lists a variable, with what it lists TIED to the program's text (the seventh form; the later family's looks); each row that meets fmt, with fmt's text TOLD by the authors' own Lean function (tested against real Go, not proved from fmt's source: count such statements apart). THE CARD IS WHAT COUNTS. Prove the row's statement (the work); the ties are given (YtmccmgplgdmjbaaGreatDoorTie.lean); close each card by the builder's one call (the guide's Derived/Test/ToyasCard.lean, 'card_holds'). Laid BY PROGRAM, IN A SANDBOX (cutbox-door.mjs). By AI agents, Wed Nov 11 2026. No macro, syntax, notation, axiom, sorry.
-/
import Derived.Test.YtmccmgplgdmjbaaGreatDoorRows
import GoSem.ClaimSeven
namespace Go.Proofs.YtmccmgplgdmjbaaGreatDoor
namespace Rows

/-- THE TIED CARD OF 'corrodylaw03.DectextText'. -/
def dectextTextCard : Claim7 := { stood := { row := dectextTextRow, standIns := [], harness := (true, "1967ee7684d152917914bde8bb66ee1dc100a2af6d9bf6027de8834f2cea0c05"), looks := true }, kinds := [], alts := [], laidByText := true, laidKinds := [.data, .data, .data, .data, .sentinel, .sentinel, .pinned], laidTests := true, laidLooks := .later }
def DectextTextCardSaid : Prop := Claim7.holds Tryz.pinned (.plain (OpenSpec.ofChange dectextTextSpec)) dectextTextCard

/-- THE SECOND FORM's CARD OF 'corrodylaw03.DectextText'. -/
def dectextTextUptoCard : Claim7 := { stood := { row := dectextTextUptoRow, standIns := [], harness := (true, "1967ee7684d152917914bde8bb66ee1dc100a2af6d9bf6027de8834f2cea0c05"), looks := true }, kinds := [], alts := [], laidByText := true, laidKinds := [.data, .data, .data, .data, .sentinel, .sentinel, .pinned], laidTests := true, laidLooks := .later }
def DectextTextUptoCardSaid : Prop := Claim7.holds Tryz.pinned (.plain (OpenSpec.upto dectextTextSpec)) dectextTextUptoCard
end Rows
end Go.Proofs.YtmccmgplgdmjbaaGreatDoor
