/- The law SpansSets. -/
import Derived.Test.YtmolbckndkhhlaaSpKnown
namespace Go.Proofs.Ytmolbckndkhhlaa
open Go.RowKit Corr
set_option linter.unusedVariables false
set_option linter.unusedSimpArgs false
theorem two_cells (w : World) (u v : Value) (T : TypeId) : (w.alloc (.cells #[u, v] T)).cell? ⟨w.heap.size, 0, none⟩ = some u ∧ (w.alloc (.cells #[u, v] T)).cell? ⟨w.heap.size, 1, none⟩ = some v := by
  exact ⟨by simp, by simp⟩
end Go.Proofs.Ytmolbckndkhhlaa
