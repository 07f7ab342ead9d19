/- Rows of decimal thousands, the lowest ones first: plain arithmetic, no program in this text. -/
namespace Corr

/-- The thousands of a number, without noughts at the end. -/
def digs (n : Nat) : List Nat := if h : n = 0 then [] else n % 1000 :: digs (n / 1000)
termination_by n
decreasing_by omega
/-- The worth of a row. -/
def dv : List Nat → Nat
  | [] => 0
  | x :: r => x + 1000 * dv r

theorem digs_zero : digs 0 = [] := by rw [digs]; simp
theorem digs_pos {n : Nat} (h : 0 < n) : digs n = n % 1000 :: digs (n / 1000) := by rw [digs]; simp; omega
theorem dv_digs (n : Nat) : dv (digs n) = n := by
  induction n using Nat.strongRecOn with
  | _ n ih =>
    by_cases h : n = 0
    · subst h; rw [digs_zero]; rfl
    · rw [digs_pos (by omega)]
      show n % 1000 + 1000 * dv (digs (n / 1000)) = n
      rw [ih _ (by omega)]; omega
theorem digs_lt (n : Nat) : ∀ x ∈ digs n, x < 1000 := by
  induction n using Nat.strongRecOn with
  | _ n ih =>
    by_cases h : n = 0
    · subst h; rw [digs_zero]; intro x hx; cases hx
    · rw [digs_pos (by omega)]
      intro x hx
      rcases List.mem_cons.1 hx with rfl | hx
      · omega
      · exact ih _ (by omega) x hx
theorem digs_len : ∀ (k n : Nat), n < 1000 ^ k → (digs n).length ≤ k
  | 0, n, h => by
    have : n = 0 := by simpa using h
    subst this; rw [digs_zero]; simp
  | k + 1, n, h => by
    by_cases h0 : n = 0
    · subst h0; rw [digs_zero]; simp
    · rw [digs_pos (by omega), List.length_cons]
      have := digs_len k (n / 1000) ((Nat.div_lt_iff_lt_mul (by omega)).2 (by rw [Nat.pow_succ] at h; exact h))
      omega
theorem dv_append (a b : List Nat) : dv (a ++ b) = dv a + 1000 ^ a.length * dv b := by
  induction a with
  | nil => simp [dv]
  | cons x r ih =>
    simp only [List.cons_append, dv, ih, List.length_cons, Nat.pow_succ]
    rw [Nat.mul_add, ← Nat.mul_assoc, Nat.mul_comm 1000 (1000 ^ r.length), Nat.mul_assoc]
    omega
theorem dv_drop {xs : List Nat} {i x : Nat} (h : xs[i]? = some x) : dv (xs.drop i) = x + 1000 * dv (xs.drop (i + 1)) := by
  have hl : i < xs.length := (List.getElem?_eq_some_iff.1 h).1
  rw [List.drop_eq_getElem_cons hl, (List.getElem?_eq_some_iff.1 h).2]
  rfl
theorem dv_drop_le (xs : List Nat) : ∀ i, dv (xs.drop i) ≤ dv xs
  | 0 => by simp
  | i + 1 => by
    have ih := dv_drop_le xs i
    rcases Nat.lt_or_ge i xs.length with h | h
    · have := dv_drop (List.getElem?_eq_getElem h); omega
    · rw [List.drop_of_length_le (by omega)]; simp [dv]
end Corr
