/- Contracts of corrodyref04: Date. -/
import Derived.Test.YtmdmhookhkhdoaaDoorCiv2
namespace Corr
open Go
theorem dby_step (k : Nat) : dby (k + 1) = dby k + (if leapB ((k : Int) + 1) = true then 366 else 365) := by
  rw [dby]; split <;> omega
theorem dby_last : dby 9999 = 3652059 := by rw [dby_eq 9999 (Nat.le_refl _)]; decide
theorem dby_mono {a b : Nat} (h : a ≤ b) : dby a ≤ dby b := by
  induction b with
  | zero => rw [show a = 0 by omega]; exact Int.le_refl _
  | succ b ih =>
    by_cases e : a = b + 1
    · subst e; exact Int.le_refl _
    · have := ih (by omega)
      rw [dby_step]; split <;> omega
theorem lenI_1 {y m : Int} (y1 : 1 ≤ y) (y2 : y ≤ 9999) (h : m = 1 ∨ m = 3 ∨ m = 5 ∨ m = 7 ∨ m = 8 ∨ m = 10 ∨ m = 12) : lenI y m = 31 := by
  unfold lenI; rw [if_neg (by omega), if_pos h]
theorem lenI_3 {y m : Int} (y1 : 1 ≤ y) (y2 : y ≤ 9999) (h : m = 4 ∨ m = 6 ∨ m = 9 ∨ m = 11) : lenI y m = 30 := by
  unfold lenI; rw [if_neg (by omega), if_neg (by omega), if_pos h]
theorem lenI_2 {y : Int} (y1 : 1 ≤ y) (y2 : y ≤ 9999) : lenI y 2 = if leapB y = true then 29 else 28 := by
  unfold lenI; rw [if_neg (by omega), if_neg (by omega), if_neg (by omega), if_pos rfl]
/-- A year's months are its days. -/
theorem cumI_12 {y : Int} (y1 : 1 ≤ y) (y2 : y ≤ 9999) : cumI y 12 = if leapB y = true then 366 else 365 := by
  have e1 : lenI y 1 = 31 := lenI_1 y1 y2 (by omega)
  have e2 := lenI_2 y1 y2
  have e3 : lenI y 3 = 31 := lenI_1 y1 y2 (by omega)
  have e4 : lenI y 4 = 30 := lenI_3 y1 y2 (by omega)
  have e5 : lenI y 5 = 31 := lenI_1 y1 y2 (by omega)
  have e6 : lenI y 6 = 30 := lenI_3 y1 y2 (by omega)
  have e7 : lenI y 7 = 31 := lenI_1 y1 y2 (by omega)
  have e8 : lenI y 8 = 31 := lenI_1 y1 y2 (by omega)
  have e9 : lenI y 9 = 30 := lenI_3 y1 y2 (by omega)
  have e10 : lenI y 10 = 31 := lenI_1 y1 y2 (by omega)
  have e11 : lenI y 11 = 30 := lenI_3 y1 y2 (by omega)
  have e12 : lenI y 12 = 31 := lenI_1 y1 y2 (by omega)
  show 0 + lenI y 1 + lenI y 2 + lenI y 3 + lenI y 4 + lenI y 5 + lenI y 6 + lenI y 7 + lenI y 8 + lenI y 9 + lenI y 10 + lenI y 11 + lenI y 12 = _
  rw [e1, e2, e3, e4, e5, e6, e7, e8, e9, e10, e11, e12]
  split <;> omega
theorem cumI_mono (y : Int) {a b : Nat} (h : a ≤ b) : cumI y a ≤ cumI y b := by
  induction b with
  | zero => rw [show a = 0 by omega]; exact Int.le_refl _
  | succ b ih =>
    by_cases e : a = b + 1
    · subst e; exact Int.le_refl _
    · have h1 := ih (by omega)
      have h2 := lenI_bd y ((b : Int) + 1)
      rw [cumI]; omega
/-- A date and its number. -/
def dateOf (n y m d : Int) : Prop := 1 ≤ d ∧ d ≤ lenI y m ∧ dby (y.toNat - 1) + cumI y (m.toNat - 1) + d = n
end Corr
namespace Go.Proofs.YtmdmhookhkhdoaaDoor
open Go.RowKit Corr
set_option linter.unusedVariables false
end Go.Proofs.YtmdmhookhkhdoaaDoor
