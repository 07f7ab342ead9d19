/- Contracts of corrodyref04: Leap, Length. The calendar's arithmetic. -/
import Derived.Test.YtmdmhookhkhdoaaDoorBase
import Derived.Lib.Hide
namespace Corr
open Go
/-- A leap year, from 1 to 9999? -/
def leapB (y : Int) : Bool := decide (1 ≤ y ∧ y ≤ 9999 ∧ (y % 400 = 0 ∨ (y % 4 = 0 ∧ ¬ y % 100 = 0)))
/-- A month's length. -/
def lenI (y m : Int) : Int :=
  if y < 1 ∨ 9999 < y then 0
  else if m = 1 ∨ m = 3 ∨ m = 5 ∨ m = 7 ∨ m = 8 ∨ m = 10 ∨ m = 12 then 31
  else if m = 4 ∨ m = 6 ∨ m = 9 ∨ m = 11 then 30
  else if m = 2 then (if leapB y = true then 29 else 28)
  else 0
theorem leap_true {y : Int} (h1 : 1 ≤ y) (h2 : y ≤ 9999) (h : y % 400 = 0 ∨ (y % 4 = 0 ∧ ¬ y % 100 = 0)) : leapB y = true := decide_eq_true ⟨h1, h2, h⟩
theorem leap_false {y : Int} (h : ¬ (1 ≤ y ∧ y ≤ 9999 ∧ (y % 400 = 0 ∨ (y % 4 = 0 ∧ ¬ y % 100 = 0)))) : leapB y = false := decide_eq_false h
end Corr
namespace Go.Proofs.YtmdmhookhkhdoaaDoor
open Go.RowKit Corr
set_option linter.unusedVariables false

end Go.Proofs.YtmdmhookhkhdoaaDoor
