/- Contracts of corrodyref02: Div, May. (Written by wip/gen/gendec5.py.) -/
import Derived.Test.YtgojfonnikgboaaDoorRowRel
import Derived.Test.YtgojfonnikgboaaDoorRef12
import Derived.Test.YtgojfonnikgboaaDoorMem
import Derived.Test.YtgojfonnikgboaaDoorDecMath
namespace Corr
open Go Go.RowKit
theorem Mem.ne {w wr : World} {bs : List (Nat × Array Value)} {rs : List RowD} (S : Mem w wr bs rs) (i j : Nat) {k k' : Nat} {vs vs' : Array Value} (h : bs[i]? = some (k, vs)) (h' : bs[j]? = some (k', vs')) (hij : i < j) : k ≠ k' := by
  obtain ⟨hi, e1⟩ := List.getElem?_eq_some_iff.1 h
  obtain ⟨hj, e2⟩ := List.getElem?_eq_some_iff.1 h'
  have := List.pairwise_iff_getElem.1 S.nd i j hi hj hij
  rw [e1, e2] at this
  exact this
end Corr
namespace Go.Proofs.YtgojfonnikgboaaDoor
open Go.RowKit Corr
set_option linter.unusedVariables false
end Go.Proofs.YtgojfonnikgboaaDoor
