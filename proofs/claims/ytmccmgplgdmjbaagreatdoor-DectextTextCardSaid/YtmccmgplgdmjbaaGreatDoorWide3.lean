/- Contracts of package wide: Times, apart, Add. -/
import Derived.Test.YtmccmgplgdmjbaaGreatDoorCarry
namespace Go.Proofs.YtmccmgplgdmjbaaGreatDoor
open Go.RowKit Corr
set_option linter.unusedVariables false

/-- A Wide of noughts. -/
abbrev W0 : Value := .agg #[.bool false, .int .u64 0, .int .u64 0]

/-- A block of three cells, in a world that is as it was below. -/
theorem cells3 {W w1 : World} {k : Nat} {a b c : Value} {T : TypeId} (hb : Below W.heap.size W w1) (hk : W.heap[k]? = some (.cells #[a, b, c] T)) :
    (w1.cell? ⟨k, 0, none⟩ = some a ∧ w1.cell? ⟨k, 1, none⟩ = some b ∧ w1.cell? ⟨k, 2, none⟩ = some c) ∧ w1.frozen? ⟨k, 0, none⟩ = false ∧ w1.frozen? ⟨k, 1, none⟩ = false ∧ w1.frozen? ⟨k, 2, none⟩ = false := by
  have hlt : k < W.heap.size := by
    rcases Nat.lt_or_ge k W.heap.size with h | h
    · exact h
    · rw [Array.getElem?_eq_none h] at hk; cases hk
  have h1 : w1.heap[k]? = some (.cells #[a, b, c] T) := by rw [hb.block k hlt]; exact hk
  refine ⟨⟨?_, ?_, ?_⟩, ?_, ?_, ?_⟩
  · rw [Joins.cell_of_block h1]; rfl
  · rw [Joins.cell_of_block h1]; rfl
  · rw [Joins.cell_of_block h1]; rfl
  all_goals exact Joins.unfrozen_of_block h1 _

theorem heap_alloc_new (w : World) (o : Obj) : (w.alloc o).heap[w.heap.size]? = some o := by
  show (w.heap.push o)[w.heap.size]? = some o
  simp
theorem heap_alloc_old (w : World) (o : Obj) (k : Nat) (h : k < w.heap.size) : (w.alloc o).heap[k]? = w.heap[k]? := Below.heap_alloc w o k h

end Go.Proofs.YtmccmgplgdmjbaaGreatDoor
