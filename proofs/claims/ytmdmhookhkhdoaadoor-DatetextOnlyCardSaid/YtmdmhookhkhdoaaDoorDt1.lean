/- Contracts of corrodyref06: digits, number. -/
import Derived.Test.YtmdmhookhkhdoaaDoorTxBytes
import Derived.Test.YtmdmhookhkhdoaaDoorRelMem
import Derived.Laws.IdiomStrings
import Derived.Deep.DeepCutAuto
import Derived.Deep.CutBlock
namespace Corr
open Go Go.RowKit Go.PlainAid
theorem fixd_ahead (i N : Nat) : fixd (i + 1) N = dg (N / 10 ^ i) :: fixd i N := by
  have := fixd_add 1 i N
  rw [Nat.add_comm 1 i] at this
  rw [this]; rfl
end Corr
namespace Go.Proofs.YtmdmhookhkhdoaaDoor
open Go.RowKit Go.PlainAid Corr
set_option linter.unusedVariables false
set_option linter.unusedSimpArgs false
end Go.Proofs.YtmdmhookhkhdoaaDoor
