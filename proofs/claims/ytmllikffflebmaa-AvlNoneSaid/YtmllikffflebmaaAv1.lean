/- corrodyref08: the plain side; Less. -/
import Derived.Test.YtmllikffflebmaaChecked
import Derived.Test.YtmllikffflebmaaRow3
namespace Corr
/-- Is an item less? -/
def lessB (a b : It) : Bool := if a.1 = b.1 then (if a.2.1 = b.2.1 then decide (a.2.2 < b.2.2) else decide (a.2.1 < b.2.1)) else decide (a.1 < b.1)
/-- How many stand ahead of it. -/
def cntI (x : It) (l : ItL) : Nat := (l.takeWhile fun y => lessB y x).length
end Corr
namespace Go.Proofs.Ytmllikffflebmaa
open Go.RowKit Corr
set_option linter.unusedVariables false
set_option linter.unusedSimpArgs false
end Go.Proofs.Ytmllikffflebmaa
