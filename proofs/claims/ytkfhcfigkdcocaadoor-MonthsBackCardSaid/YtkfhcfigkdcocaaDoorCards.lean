/-
  DERIVED. GIVEN WITH THE SEED: THE CARDS: each row of YtkfhcfigkdcocaaDoorRows.lean that lists a variable, with what it lists TIED to the program's text (the seventh form; the later family's looks); each row that meets fmt, with fmt's text TOLD by the authors' own Lean function (tested against real Go, not proved from fmt's source: count such statements apart). THE CARD IS WHAT COUNTS. Prove the row's statement (the work); the ties are given (YtkfhcfigkdcocaaDoorTie.lean); close each card by the builder's one call (the guide's Derived/Test/ToyasCard.lean, 'card_holds'). Laid BY PROGRAM, IN A SANDBOX (cutbox-door.mjs). By AI agents, Wed Nov 11 2026. No macro, syntax, notation, axiom, sorry.
-/
import Derived.Test.YtkfhcfigkdcocaaDoorRows
import GoSem.ClaimSeven
namespace Go.Proofs.YtkfhcfigkdcocaaDoor
namespace Rows

/-- THE TIED CARD OF 'corrodylaw05.MonthsAdd'. -/
def monthsAddCard : Claim7 := { stood := { row := monthsAddRow, standIns := [], harness := (true, "032a6f8c04126d739c92e4af6877e9e637f60269aa3a0017504f21b0af34d5c2"), looks := false }, kinds := [], alts := [], laidByText := true, laidKinds := [.data], laidTests := true, laidLooks := .later }
def MonthsAddCardSaid : Prop := Claim7.holds Tryd.pinned (.plain (OpenSpec.ofChange monthsAddSpec)) monthsAddCard

/-- THE TIED CARD OF 'corrodylaw05.MonthsBetween'. -/
def monthsBetweenCard : Claim7 := { stood := { row := monthsBetweenRow, standIns := [], harness := (true, "032a6f8c04126d739c92e4af6877e9e637f60269aa3a0017504f21b0af34d5c2"), looks := false }, kinds := [], alts := [], laidByText := true, laidKinds := [.data], laidTests := true, laidLooks := .later }
def MonthsBetweenCardSaid : Prop := Claim7.holds Tryd.pinned (.plain (OpenSpec.ofChange monthsBetweenSpec)) monthsBetweenCard

/-- THE TIED CARD OF 'corrodylaw05.MonthsBack'. -/
def monthsBackCard : Claim7 := { stood := { row := monthsBackRow, standIns := [], harness := (true, "032a6f8c04126d739c92e4af6877e9e637f60269aa3a0017504f21b0af34d5c2"), looks := false }, kinds := [], alts := [], laidByText := true, laidKinds := [.data], laidTests := true, laidLooks := .later }
def MonthsBackCardSaid : Prop := Claim7.holds Tryd.pinned (.plain (OpenSpec.ofChange monthsBackSpec)) monthsBackCard

/-- THE SECOND FORM's CARD OF 'corrodylaw05.MonthsAdd'. -/
def monthsAddUptoCard : Claim7 := { stood := { row := monthsAddUptoRow, standIns := [], harness := (true, "032a6f8c04126d739c92e4af6877e9e637f60269aa3a0017504f21b0af34d5c2"), looks := false }, kinds := [], alts := [], laidByText := true, laidKinds := [.data], laidTests := true, laidLooks := .later }
def MonthsAddUptoCardSaid : Prop := Claim7.holds Tryd.pinned (.plain (OpenSpec.upto monthsAddSpec)) monthsAddUptoCard

/-- THE SECOND FORM's CARD OF 'corrodylaw05.MonthsBetween'. -/
def monthsBetweenUptoCard : Claim7 := { stood := { row := monthsBetweenUptoRow, standIns := [], harness := (true, "032a6f8c04126d739c92e4af6877e9e637f60269aa3a0017504f21b0af34d5c2"), looks := false }, kinds := [], alts := [], laidByText := true, laidKinds := [.data], laidTests := true, laidLooks := .later }
def MonthsBetweenUptoCardSaid : Prop := Claim7.holds Tryd.pinned (.plain (OpenSpec.upto monthsBetweenSpec)) monthsBetweenUptoCard

/-- THE SECOND FORM's CARD OF 'corrodylaw05.MonthsBack'. -/
def monthsBackUptoCard : Claim7 := { stood := { row := monthsBackUptoRow, standIns := [], harness := (true, "032a6f8c04126d739c92e4af6877e9e637f60269aa3a0017504f21b0af34d5c2"), looks := false }, kinds := [], alts := [], laidByText := true, laidKinds := [.data], laidTests := true, laidLooks := .later }
def MonthsBackUptoCardSaid : Prop := Claim7.holds Tryd.pinned (.plain (OpenSpec.upto monthsBackSpec)) monthsBackUptoCard
end Rows
end Go.Proofs.YtkfhcfigkdcocaaDoor
