/- Contracts of corrodyref07: add. -/
import Derived.Test.YtmolbckndkhhlaaSp1
import Derived.Deep.RegionLaw
import Derived.Deep.CutRange
import Derived.Deep.AppendLies
import Derived.Laws.IdiomStrings
import Derived.Deep.DeepCutAuto
import Derived.Deep.CutBlock
namespace Corr
open Go Go.RowKit
/-- A number at its place, once. -/
def insE (n : Int) : List Int → List Int
  | [] => [n]
  | x :: r => if x < n then x :: insE n r else if x = n then x :: r else n :: x :: r
theorem insE_len (n : Int) : ∀ l : List Int, (insE n l).length ≤ l.length + 1
  | [] => by simp [insE]
  | x :: r => by
    have := insE_len n r
    unfold insE
    repeat' split
    all_goals simp
    omega
end Corr
namespace Go.Proofs.Ytmolbckndkhhlaa
open Go.RowKit Corr
set_option linter.unusedVariables false
end Go.Proofs.Ytmolbckndkhhlaa
