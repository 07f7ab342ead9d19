/- Contract of corrodyref02: May. Contracts of corrodyref10: May, Text. (Written by wip/gen/genvl1.py.) -/
import Derived.Test.YtgojfonnikgboaaGreatDoorDec5
import Derived.Test.YtgojfonnikgboaaGreatDoorRowRel
import Derived.Test.YtgojfonnikgboaaGreatDoorTxPut
import Derived.Test.YtgojfonnikgboaaGreatDoorTxBytes
import Derived.Test.YtgojfonnikgboaaGreatDoorDec2
import Derived.Test.YtgojfonnikgboaaGreatDoorNat
import Derived.Laws.IdiomStrings
import Derived.Deep.DeepCutAuto
import Derived.Deep.CutBlock
namespace Go.Proofs.YtgojfonnikgboaaGreatDoor
open Go.RowKit Corr
set_option linter.unusedVariables false
end Go.Proofs.YtgojfonnikgboaaGreatDoor
namespace Corr
open Go Go.RowKit
/-- A value of the layers' as a value. -/
abbrev vlV (K C S E : Int) : Value := .agg #[.int .u8 K, .int .i64 C, .int .i64 S, .int .i64 E]
/-- May a decimal be: a canonical one? -/
def mayD (C S : Int) : Bool := decide (0 ≤ S ∧ S ≤ 9 ∧ (S = 0 ∨ ¬ C % 10 = 0))
/-- May a value be? -/
def mayV (K C S E : Int) : Bool :=
  if K = 0 ∨ K = 2 ∨ K = 3 then (decide (C = 0 ∧ S = 0) && decide (E = 0))
  else if K = 1 then (mayD C S && decide (E = 0))
  else if K = 4 then (decide (C = 0 ∧ S = 0) && (decide (E = 11) || decide (E = 12) || decide (E = 13)))
  else false
theorem retb {a b : Bool} (h : a = b) : Ending.returned (.bool a) = .returned (.bool b) := by rw [h]
end Corr
namespace Go.Proofs.YtgojfonnikgboaaGreatDoor
open Go.RowKit Corr
set_option linter.unusedVariables false
set_option linter.unusedSimpArgs false
end Go.Proofs.YtgojfonnikgboaaGreatDoor
