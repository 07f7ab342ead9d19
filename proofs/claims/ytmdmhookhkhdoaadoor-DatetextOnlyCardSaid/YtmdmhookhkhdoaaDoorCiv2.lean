/- Contracts of corrodyref04: Length outside of the calendar, Day. -/
import Derived.Test.YtmdmhookhkhdoaaDoorCiv1
namespace Corr
open Go
/-- Days of the years 1 to k. -/
def dby : Nat → Int
  | 0 => 0
  | k + 1 => dby k + 365 + (if leapB ((k : Int) + 1) = true then 1 else 0)
/-- Days of the months 1 to k of the year y. -/
def cumI (y : Int) : Nat → Int
  | 0 => 0
  | k + 1 => cumI y k + lenI y ((k : Int) + 1)
theorem dby_eq : ∀ (k : Nat), k ≤ 9999 → dby k = 365 * (k : Int) + (k : Int) / 4 - (k : Int) / 100 + (k : Int) / 400
  | 0, _ => rfl
  | k + 1, h => by
    rw [dby, dby_eq k (by omega)]
    by_cases hl : leapB ((k : Int) + 1) = true
    · rw [if_pos hl]
      have := of_decide_eq_true hl
      omega
    · rw [if_neg hl]
      have h1 : ¬ (1 ≤ (k : Int) + 1 ∧ (k : Int) + 1 ≤ 9999 ∧ (((k : Int) + 1) % 400 = 0 ∨ (((k : Int) + 1) % 4 = 0 ∧ ¬ ((k : Int) + 1) % 100 = 0))) := fun h' => hl (decide_eq_true h')
      omega
theorem lenI_bd (y m : Int) : 0 ≤ lenI y m ∧ lenI y m ≤ 31 := by
  unfold lenI
  repeat' split
  all_goals omega
theorem lenI_pos {y m : Int} (h : 1 ≤ lenI y m) : 1 ≤ y ∧ y ≤ 9999 ∧ 1 ≤ m ∧ m ≤ 12 := by
  unfold lenI at h
  split at h
  · omega
  · split at h
    · omega
    · split at h
      · omega
      · split at h
        · omega
        · omega
theorem lenI_out {y m : Int} (h : ¬ (1 ≤ y ∧ y ≤ 9999 ∧ 1 ≤ m ∧ m ≤ 12)) : lenI y m = 0 := by
  have h1 := lenI_bd y m
  rcases Int.lt_or_le (lenI y m) 1 with h2 | h2
  · omega
  · exact absurd (lenI_pos h2) h
theorem cumI_bd (y : Int) : ∀ k : Nat, 0 ≤ cumI y k ∧ cumI y k ≤ 31 * (k : Int)
  | 0 => by simp [cumI]
  | k + 1 => by
    have h1 := cumI_bd y k
    have h2 := lenI_bd y ((k : Int) + 1)
    rw [cumI]; omega
end Corr
namespace Go.Proofs.YtmdmhookhkhdoaaDoor
open Go.RowKit Corr
set_option linter.unusedVariables false

end Go.Proofs.YtmdmhookhkhdoaaDoor
