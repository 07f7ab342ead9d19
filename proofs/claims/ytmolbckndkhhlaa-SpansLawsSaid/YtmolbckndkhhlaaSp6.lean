/- Contracts of corrodyref07: Two, Of. -/
import Derived.Test.YtmolbckndkhhlaaSp5
namespace Corr
open Go Go.RowKit
/-- Which days to take. -/
def takeB (kind : Int) (x y : Bool) : Bool := if kind = 0 then x || y else if kind = 1 then x && y else x && !y
/-- At each end. -/
def markL (kind : Int) (a b : SpL) (es : List Int) : List Bool := es.map fun e => takeB kind (hasB a e) (hasB b e)
def endsAB (a b : SpL) : List Int := endsL (endsL [] a) b
/-- What Two tells. -/
def twoL (kind : Int) (a b : SpL) : SpL := rightK (endsAB a b) (markL kind a b (endsAB a b)) ((endsAB a b).length - 1)
theorem endsAB_len (a b : SpL) : (endsAB a b).length ≤ 2 * a.length + 2 * b.length := by
  have h1 := endsL_len (endsL [] a) b
  have h2 := endsL_len [] a
  unfold endsAB
  simp at h2; omega
end Corr
namespace Go.Proofs.Ytmolbckndkhhlaa
open Go.RowKit Corr
set_option linter.unusedVariables false
set_option linter.unusedSimpArgs false
end Go.Proofs.Ytmolbckndkhhlaa
