/- Contracts of corrodyref07: Has, held. -/
import Derived.Test.YtmolbckndkhhlaaChecked
import Derived.Test.YtmolbckndkhhlaaRow
namespace Corr
open Go Go.RowKit
def inB (s : Int × Int) (day : Int) : Bool := decide (s.1 ≤ day ∧ day < s.2)
/-- Is the day one of the spans'? -/
def hasB (l : SpL) (day : Int) : Bool := decide (1 ≤ day ∧ day ≤ 3652059) && l.any fun s => inB s day
/-- An end, held within all days. -/
def heldI (n : Int) : Int := if n < 1 then 1 else if 3652060 < n then 3652060 else n
end Corr
namespace Go.Proofs.Ytmolbckndkhhlaa
open Go.RowKit Corr
set_option linter.unusedVariables false
end Go.Proofs.Ytmolbckndkhhlaa
