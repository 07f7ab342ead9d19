/- Proved: corrodylaw01.WideDivides answers true at every Wide x, every uint64 d and every int n, and leaves them as they were. Conditions: none beside the row's own. -/
import Derived.Test.YtbenpcnibongaaaFrameDiv
import Derived.Test.YtbenpcnibongaaaDivZero
namespace Go.Proofs.Ytbenpcnibongaaa
open Corr
theorem wideDivides_holds : Rows.WideDividesSaid := div_row fun s h l d nn w a b c n0 n1 => by
  rcases Nat.eq_zero_or_pos d with rfl | h0
  · exact divides_zero s h l nn w a b n0 n1
  · exact divides_pos s _ _ _ h l d _ _ _ _ _ _ _ nn _ _ _ w a b c h0 n0 n1 rfl rfl rfl rfl rfl rfl rfl rfl rfl rfl rfl rfl rfl
#print axioms wideDivides_holds
end Go.Proofs.Ytbenpcnibongaaa
