/- Contract of corrodyref10: Text. (Written by wip/gen/genvl2.py.) Contract of corrodyref10: Parse. (Written by wip/gen/genvl3.py.) -/
import Derived.Test.YtgojfonnikgboaaDoorVl1
import Derived.Test.YtgojfonnikgboaaDoorTxScan
import Derived.Test.YtgojfonnikgboaaDoorTxBytes
import Derived.Test.YtgojfonnikgboaaDoorRowRel
import Derived.Test.YtgojfonnikgboaaDoorRef12
import Derived.Test.YtgojfonnikgboaaDoorMem
import Derived.Test.YtgojfonnikgboaaDoorDecMath
import Derived.Deep.QuietTactic
import Derived.Deep.DeepCutAuto
import Derived.Deep.CutBlock
namespace Corr
open Go Go.RowKit
/-- The text of a value that may be. -/
def textV (K C S E : Int) : List UInt8 :=
  if mayV K C S E = true then
    (if K = 0 then [97, 98, 115, 101, 110, 116] else if K = 1 then txt C S.toNat else if K = 2 then [116, 114, 117, 101] else if K = 3 then [102, 97, 108, 115, 101] else if E = 11 then [111, 118, 101, 114] else if E = 12 then [100, 105, 118] else [109, 105, 115, 115, 105, 110, 103])
  else []
theorem mayV_kind {K C S E : Int} (h : mayV K C S E = true) : K = 0 ∨ K = 1 ∨ K = 2 ∨ K = 3 ∨ K = 4 := by
  unfold mayV at h
  split at h
  · omega
  · split at h
    · omega
    · split at h
      · omega
      · cases h
theorem mayV_num {C S E : Int} (h : mayV 1 C S E = true) : 0 ≤ S ∧ S ≤ 9 ∧ (S = 0 ∨ ¬ C % 10 = 0) := by
  unfold mayV at h
  rw [if_neg (by decide), if_pos rfl, Bool.and_eq_true] at h
  exact of_decide_eq_true h.1
theorem mayV_bad {C S E : Int} (h : mayV 4 C S E = true) : E = 11 ∨ E = 12 ∨ E = 13 := by
  unfold mayV at h
  rw [if_neg (by decide), if_neg (by decide), if_pos rfl, Bool.and_eq_true] at h
  have h2 := h.2
  simp at h2
  omega
theorem rets {a b : ByteArray} (h : a = b) : Ending.returned (.string a) = .returned (.string b) := by rw [h]
end Corr
namespace Go.Proofs.YtgojfonnikgboaaDoor
open Go.RowKit Corr
set_option linter.unusedVariables false
set_option linter.unusedSimpArgs false
end Go.Proofs.YtgojfonnikgboaaDoor
namespace Corr
open Go Go.RowKit Go.PlainAid
/-- What a text is read as: kind, number, error; and why it is none. -/
def readV (l : List UInt8) : Int × Int × Int × Int × Int :=
  if l = [97, 98, 115, 101, 110, 116] then (0, 0, 0, 0, 0) else if l = [116, 114, 117, 101] then (2, 0, 0, 0, 0) else if l = [102, 97, 108, 115, 101] then (3, 0, 0, 0, 0) else if l = [111, 118, 101, 114] then (4, 0, 0, 11, 0) else if l = [100, 105, 118] then (4, 0, 0, 12, 0) else if l = [109, 105, 115, 115, 105, 110, 103] then (4, 0, 0, 13, 0) else if l.length ≤ 21 ∧ pE l = 0 then (1, pC l, (pS l : Int), 0, 0) else (0, 0, 0, 0, 4)
/-- .. as an answer. -/
def readR (r : Int × Int × Int × Int × Int) : Value := .tuple #[vlV r.1 r.2.1 r.2.2.1 r.2.2.2.1, .int .i64 r.2.2.2.2]
theorem readV_rest {l : List UInt8} (h0 : ¬ l = [97, 98, 115, 101, 110, 116]) (h1 : ¬ l = [116, 114, 117, 101]) (h2 : ¬ l = [102, 97, 108, 115, 101]) (h3 : ¬ l = [111, 118, 101, 114]) (h4 : ¬ l = [100, 105, 118]) (h5 : ¬ l = [109, 105, 115, 115, 105, 110, 103]) : readV l = if l.length ≤ 21 ∧ pE l = 0 then (1, pC l, (pS l : Int), 0, 0) else (0, 0, 0, 0, 4) := by
  unfold readV
  rw [if_neg h0, if_neg h1, if_neg h2, if_neg h3, if_neg h4, if_neg h5]
end Corr
namespace Go.Proofs.YtgojfonnikgboaaDoor
open Go.RowKit Go.PlainAid Corr
set_option linter.unusedVariables false
set_option linter.unusedSimpArgs false
end Go.Proofs.YtgojfonnikgboaaDoor
