/- Contracts of corrodyref01: minus, short. -/
import Derived.Test.YtmllikffflebmaaRef2
namespace Corr
open Go Go.RowKit
theorem dv_lt {o : List Nat} (h : ∀ x ∈ o, x < 1000) : dv o < 1000 ^ o.length := by
  induction o with
  | nil => simp [dv]
  | cons x r ih =>
    have h1 := h x List.mem_cons_self
    have h2 := ih (fun y hy => h y (List.mem_cons_of_mem _ hy))
    simp only [dv, List.length_cons, Nat.pow_succ]
    omega
/-- One place of a difference: d is due, x above, y below. -/
theorem minus_step {p d s a b : Nat} (h : s + b = a + p * d) (x y r d' : Nat) (hr : r + d + y = x + 1000 * d') : (s + p * r) + (b + p * y) = (a + p * x) + p * 1000 * d' := by
  have h2 : p * (r + d + y) = p * (x + 1000 * d') := by rw [hr]
  rw [Nat.mul_add, Nat.mul_add, Nat.mul_add, ← Nat.mul_assoc] at h2
  omega
/-- A sign, but not of nought. -/
def nzB (s : Bool) (n : Nat) : Bool := s && decide (n ≠ 0)
/-- A row without a nought at its end is its number's row. -/
theorem digs_dv : ∀ (l : List Nat), (∀ x ∈ l, x < 1000) → (∀ x, l.getLast? = some x → x ≠ 0) → l = digs (dv l)
  | [], _, _ => by rw [show dv [] = 0 from rfl, digs_zero]
  | x :: r, h, hl => by
    have h1 := h x List.mem_cons_self
    have ih : r = digs (dv r) := by
      refine digs_dv r (fun y hy => h y (List.mem_cons_of_mem _ hy)) (fun y hy => ?_)
      cases r with
      | nil => cases hy
      | cons z t => exact hl y (by rw [List.getLast?_cons_cons]; exact hy)
    have hpos : 0 < dv (x :: r) := by
      cases r with
      | nil =>
        have := hl x rfl
        simp only [dv]; omega
      | cons z t =>
        have hz : 0 < dv (z :: t) := by
          rcases Nat.eq_zero_or_pos (dv (z :: t)) with h0 | h0
          · rw [h0, digs_zero] at ih; cases ih
          · exact h0
        simp only [dv] at hz ⊢; omega
    rw [digs_pos hpos]
    simp only [dv]
    rw [show (x + 1000 * dv r) % 1000 = x by omega, show (x + 1000 * dv r) / 1000 = dv r by omega, ← ih]
end Corr
namespace Go.Proofs.Ytmllikffflebmaa
open Go.RowKit Corr
set_option linter.unusedVariables false

/-- short: without noughts at the end. -/
theorem last_take {xs : List Nat} {j x : Nat} (h : xs[j]? = some x) : dv (xs.take (j + 1)) = dv (xs.take j) + 1000 ^ j * x := dv_take h
end Go.Proofs.Ytmllikffflebmaa
