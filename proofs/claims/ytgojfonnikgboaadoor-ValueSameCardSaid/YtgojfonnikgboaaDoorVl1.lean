/- Contract of corrodyref02: May. Contracts of corrodyref10: May, Text. (Written by wip/gen/genvl1.py.) -/
import Derived.Test.YtgojfonnikgboaaDoorDec5
import Derived.Test.YtgojfonnikgboaaDoorRowRel
import Derived.Test.YtgojfonnikgboaaDoorTxPut
import Derived.Test.YtgojfonnikgboaaDoorTxBytes
import Derived.Test.YtgojfonnikgboaaDoorRef12
import Derived.Test.YtgojfonnikgboaaDoorMem
import Derived.Test.YtgojfonnikgboaaDoorDecMath
import Derived.Laws.IdiomStrings
import Derived.Deep.DeepCutAuto
import Derived.Deep.CutBlock
namespace Go.Proofs.YtgojfonnikgboaaDoor
open Go.RowKit Corr
set_option linter.unusedVariables false
end Go.Proofs.YtgojfonnikgboaaDoor
namespace Corr
open Go Go.RowKit
/-- A value of the layers' as a value. -/
abbrev vlV (K C S E : Int) : Value := .agg #[.int .u8 K, .int .i64 C, .int .i64 S, .int .i64 E]
/-- May a decimal be: a canonical one? -/
def mayD (C S : Int) : Bool := decide (0 ≤ S ∧ S ≤ 9 ∧ (S = 0 ∨ ¬ C % 10 = 0))
/-- May a value be? -/
def mayV (K C S E : Int) : Bool :=
  if K = 0 ∨ K = 2 ∨ K = 3 then (decide (C = 0 ∧ S = 0) && decide (E = 0))
  else if K = 1 then (mayD C S && decide (E = 0))
  else if K = 4 then (decide (C = 0 ∧ S = 0) && (decide (E = 11) || decide (E = 12) || decide (E = 13)))
  else false
theorem mayD_put {C : Int} {S : Nat} (h1 : -9223372036854775808 ≤ C) (h2 : C ≤ 9223372036854775807) (hS : S ≤ 9) : decide (mE (nine C S) 9 = 0 ∧ mC (nine C S) 9 = C ∧ mS (nine C S) 9 = S) = mayD C (S : Int) := by
  unfold mayD
  rw [decide_eq_decide]
  constructor
  · rintro ⟨_, e2, e3⟩
    obtain ⟨c, u, hc, hu, _, _, _, _, h⟩ := put_fit h1 h2 hS
    rw [e2] at hc; rw [e3] at hu
    subst hc hu
    exact ⟨by omega, by omega, by omega⟩
  · rintro ⟨_, _, h⟩
    obtain ⟨a, b, c⟩ := put_canon h1 h2 hS (by omega)
    exact ⟨c, a, b⟩
theorem retb {a b : Bool} (h : a = b) : Ending.returned (.bool a) = .returned (.bool b) := by rw [h]
end Corr
namespace Go.Proofs.YtgojfonnikgboaaDoor
open Go.RowKit Corr
set_option linter.unusedVariables false
set_option linter.unusedSimpArgs false
end Go.Proofs.YtgojfonnikgboaaDoor
