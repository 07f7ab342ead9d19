/- Contracts of corrodyref08: Delete, Same. (Written by wip/gen/genav4.py.) -/
import Derived.Test.YtmllikffflebmaaAv3
import Derived.Deep.RegionHeld3
namespace Corr
open Go Go.RowKit
/-- Without the item at its place. -/
def delI (x : It) (l : ItL) : ItL := l.take (cntI x l) ++ l.drop (cntI x l + 1)
end Corr
namespace Go.Proofs.Ytmllikffflebmaa
open Go.RowKit Corr
set_option linter.unusedVariables false
set_option linter.unusedSimpArgs false
end Go.Proofs.Ytmllikffflebmaa
