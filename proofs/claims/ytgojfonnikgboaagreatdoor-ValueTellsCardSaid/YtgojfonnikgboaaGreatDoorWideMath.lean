/- Plain arithmetic of package wide: products and sums of two words: no program in this text. -/
import Derived.Test.YtgojfonnikgboaaGreatDoorBase
namespace Corr
open Go

/-- What Sub64 tells: the difference, and whether it had to borrow. -/
def subLo (x y b : Nat) : Nat := (x + B64 - y - b) % B64
def subBo (x y b : Nat) : Nat := if x < y + b then 1 else 0

theorem hilo (n : Nat) : n = hiW n * B64 + loW n := (nat2_hilo n).symm
theorem hiW_of {n a b : Nat} (h : n = a * B64 + b) (hb : b < B64) : hiW n = a := by rw [h]; exact hiW_nat2 hb
theorem loW_of {n a b : Nat} (h : n = a * B64 + b) (hb : b < B64) : loW n = b := by rw [h]; exact loW_nat2 hb
theorem hiW_small {n : Nat} (h : n < B64) : hiW n = 0 := Nat.div_eq_of_lt h
theorem loW_small {n : Nat} (h : n < B64) : loW n = n := Nat.mod_eq_of_lt h
theorem B128_eq : B128 = B64 * B64 := rfl

theorem times_parts (h l n : Nat) : nat2 h l * n = (hiW (h * n) * B64 + loW (h * n) + hiW (l * n)) * B64 + loW (l * n) := by
  have h1 := hilo (h * n)
  have h2 := hilo (l * n)
  unfold nat2
  rw [Nat.add_mul, Nat.mul_right_comm]
  rw [← h1, Nat.add_mul]
  omega
theorem fit_iff (a b : Nat) (hb : b < B64) : a * B64 + b < B128 ↔ a < B64 := by
  rw [B128_eq]; unfold B64 at *; omega
theorem times_fit {h l n : Nat} (hf : nat2 h l * n < B128) : hiW (h * n) = 0 ∧ loW (h * n) + hiW (l * n) < B64 := by
  rw [times_parts, fit_iff _ _ (loW_lt _)] at hf
  unfold B64 at *; omega
theorem times_over {h l n : Nat} (hf : ¬ nat2 h l * n < B128) : hiW (h * n) ≠ 0 ∨ B64 ≤ loW (h * n) + hiW (l * n) := by
  rw [times_parts, fit_iff _ _ (loW_lt _)] at hf
  unfold B64 at *; omega
theorem times_is {h l n : Nat} (hf : nat2 h l * n < B128) : nat2 (loW (loW (h * n) + hiW (l * n))) (loW (l * n)) = nat2 h l * n := by
  obtain ⟨h1, h2⟩ := times_fit hf
  rw [loW_small h2, times_parts h l n, h1]
  unfold nat2; simp
theorem or_test_false (a b : Nat) (ha : a < B64) (hb : b < B64) (h1 : a = 0) (h2 : b = 0) : (bits .or .u64 (a : Int) (b : Int) != 0) = false := by
  rw [or_test a b ha hb]; simp [nat2_zero, h1, h2]
theorem or_test_true (a b : Nat) (ha : a < B64) (hb : b < B64) (h : a ≠ 0 ∨ b ≠ 0) : (bits .or .u64 (a : Int) (b : Int) != 0) = true := by
  rw [or_test a b ha hb, bne_iff_ne, ne_eq, nat2_zero]; omega
theorem hiW_sum_lt {a b : Nat} (ha : a < B64) (hb : b < B64) : hiW (a + b) ≤ 1 := by unfold hiW B64 at *; omega
theorem hiW_pos {a : Nat} (h : B64 ≤ a) : hiW a ≠ 0 := by unfold hiW B64 at *; omega

theorem add_parts (h l h' l' : Nat) : nat2 h l + nat2 h' l' = (h + h' + hiW (l + l')) * B64 + loW (l + l') := by
  have h1 := hilo (l + l')
  unfold nat2
  rw [Nat.add_mul, Nat.add_mul]
  omega
theorem add_fit {h l h' l' : Nat} : nat2 h l + nat2 h' l' < B128 ↔ h + h' + hiW (l + l') < B64 := by
  rw [add_parts, fit_iff _ _ (loW_lt _)]
theorem add_is {h l h' l' : Nat} (hf : nat2 h l + nat2 h' l' < B128) : nat2 (loW (h + h' + hiW (l + l'))) (loW (l + l')) = nat2 h l + nat2 h' l' := by
  rw [loW_small (add_fit.1 hf), add_parts h l h' l']; rfl
theorem sub_is {h l h' l' : Nat} (hh : h < B64) (hl : l < B64) (hh' : h' < B64) (hl' : l' < B64) (hle : nat2 h' l' ≤ nat2 h l) :
    nat2 (subLo h h' (subBo l l' 0)) (subLo l l' 0) = nat2 h l - nat2 h' l' := by
  unfold nat2 subLo subBo at *
  by_cases hb : l < l' + 0
  · rw [if_pos hb]; unfold B64 at *; omega
  · rw [if_neg hb]; unfold B64 at *; omega
theorem subLo_lt (x y b : Nat) : subLo x y b < B64 := Nat.mod_lt _ (by decide)
theorem subBo_le (x y b : Nat) : subBo x y b ≤ 1 := by unfold subBo; split <;> omega

theorem val_add (s : Bool) (a b : Nat) : val s a + val s b = val s (a + b) := by cases s <;> simp [val]; omega
theorem val_apart (s : Bool) (a b : Nat) (h : b ≤ a) : val s a + val (!s) b = val s (a - b) := by cases s <;> simp [val] <;> omega
theorem val_apart' (s : Bool) (a b : Nat) (h : a ≤ b) : val s a + val (!s) b = val (!s) (b - a) := by cases s <;> simp [val] <;> omega
theorem val_natAbs_lt {s : Bool} {n : Nat} : (val s n).natAbs < B128 ↔ n < B128 := by rw [natAbs_val]
end Corr
