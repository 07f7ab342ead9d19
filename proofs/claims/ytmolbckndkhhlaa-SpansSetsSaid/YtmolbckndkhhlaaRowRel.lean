/- Rows of cells as what a drawn region's operations yield. -/
import Derived.Test.YtmolbckndkhhlaaRow
import Derived.Test.YtmolbckndkhhlaaRelMem
namespace Corr
open Go Go.RowKit
/-- The value is a row of these cells. -/
def VSl (sz : Nat) (xs : List Value) (v : Value) (w : World) : Prop := ∃ A n c, v = .slice A n c ∧ Lies w sz A n c xs
theorem stays_VSl (sz : Nat) (xs : List Value) : stays (VSl sz xs) := fun _ _ _ h hb => by
  obtain ⟨A, n, c, h1, h2⟩ := h; exact ⟨A, n, c, h1, h2.keep hb⟩
end Corr
