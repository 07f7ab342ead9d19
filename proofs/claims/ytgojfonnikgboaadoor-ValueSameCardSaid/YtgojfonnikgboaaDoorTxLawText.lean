/- The walk of corrodylaw03.DectextText, at every Dec. -/
import Derived.Test.YtgojfonnikgboaaDoorTx6
import Derived.Test.YtgojfonnikgboaaDoorTxPut
import Derived.Test.YtgojfonnikgboaaDoorTxBytes
import Derived.Test.YtgojfonnikgboaaDoorRowRel
import Derived.Test.YtgojfonnikgboaaDoorRef12
import Derived.Test.YtgojfonnikgboaaDoorMem
import Derived.Test.YtgojfonnikgboaaDoorDecMath
import Derived.Laws.IdiomStrings
import Derived.Deep.DeepCutAuto
import Derived.Deep.CutBlock
namespace Corr
open Go
set_option linter.unusedSimpArgs false
set_option linter.unusedVariables false
/-- The text of a number that Put tells is read as that number. -/
theorem text_back {c : Int} {t : Nat} (h1 : -9223372036854775808 ≤ c) (h2 : c ≤ 9223372036854775807) (ht : t ≤ 9) (hc : t = 0 ∨ ¬ c % 10 = 0) :
    pE (txt c t) = 0 ∧ pC (txt c t) = c ∧ pS (txt c t) = t := by
  obtain ⟨w, p, hF, hp, hv⟩ := form_txt ht hc
  obtain ⟨f1, f2, f3, f4⟩ := form_ok hF
  have hV : pV (txt c t) = c := by unfold pV; rw [f2, f3, f4]; exact hv
  have hE : pE (txt c t) = 0 := by
    unfold pE
    rw [if_neg (by have := txt_len (c := c) (S := t) ht (by omega); omega), f1, if_pos rfl, hV]
    have : fitsI c = true := by simp [fitsI, h1, h2]
    rw [this, if_pos rfl]
  refine ⟨hE, ?_, ?_⟩
  · unfold pC; rw [if_pos hE, hV]
  · unfold pS; rw [if_pos hE, f4, hp]
end Corr
namespace Go.Proofs.YtgojfonnikgboaaDoor
open Go.RowKit Go.PlainAid Corr
set_option linter.unusedVariables false
set_option linter.unusedSimpArgs false
end Go.Proofs.YtgojfonnikgboaaDoor
