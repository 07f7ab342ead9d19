/- Contracts of corrodyref05: Years; Begin and End of no day; Between. -/
import Derived.Test.YtkfhcfigkdcocaaDoorMon1
namespace Corr
open Go
/-- Does the day n months behind lie at b, or ahead of it? -/
def notPast (T d b : Int) (n : Nat) : Bool := (monV (T + (n : Int)) d).2 && decide ((monV (T + (n : Int)) d).1 ≤ b)
/-- The greatest such number, from n on down; else 0. -/
def lastN (T d b : Int) : Nat → Nat
  | 0 => 0
  | n + 1 => if notPast T d b (n + 1) = true then n + 1 else lastN T d b n
end Corr
namespace Go.Proofs.YtkfhcfigkdcocaaDoor
open Go.RowKit Corr
set_option linter.unusedVariables false
end Go.Proofs.YtkfhcfigkdcocaaDoor
