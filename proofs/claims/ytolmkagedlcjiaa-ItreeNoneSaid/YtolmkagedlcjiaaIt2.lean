/- Contracts of corrodyref09: Stab, Overlap. (Written by wip/gen/genit1.py.) Contracts of corrodyref09: First, Last. (Written by wip/gen/genit2.py.) -/
import Derived.Test.YtolmkagedlcjiaaAv5
namespace Corr
open Go Go.RowKit
def stabB (day : Int) (y : It) : Bool := decide (y.1 ≤ day) && decide (day < y.2.1)
def overB (a b : Int) (y : It) : Bool := decide (a < b) && (decide (y.1 < b) && decide (a < y.2.1))
/-- What a call leaves that tells items, in memory of its own. -/
def RetItm (T : TypeId) (w : World) (l : ItL) (e : Ending) (w' : World) : Prop := ∃ A n c, e = .returned (.slice A n c) ∧ w'.ownsRow w.heap.size T 3 (.slice A n c) n (cells3 l) ∧ Below w.heap.size w w'
end Corr
namespace Go.Proofs.Ytolmkagedlcjiaa
open Go.RowKit Corr
set_option linter.unusedVariables false
set_option linter.unusedSimpArgs false
end Go.Proofs.Ytolmkagedlcjiaa
namespace Corr
open Go Go.RowKit
/-- One item, if there is one. -/
def oneI (o : Option It) : Value := .tuple #[itV (o.getD (0, 0, 0)), .bool o.isSome]
end Corr
namespace Go.Proofs.Ytolmkagedlcjiaa
open Go.RowKit Corr
set_option linter.unusedVariables false
set_option linter.unusedSimpArgs false
end Go.Proofs.Ytolmkagedlcjiaa
