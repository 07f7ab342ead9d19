/- The plain arithmetic under math/bits.Div64 (the long division of two words by one, in halves): no program in this text. -/
namespace Corr

/-- 2^32 and 2^64, behind names. -/
def B32 : Nat := 4294967296
def B64 : Nat := 18446744073709551616

theorem B32_sq : B32 * B32 = B64 := by decide
theorem B32_pos : 0 < B32 := by decide

/-- One digit: u < y, y = y1 * B + y0, v < B; the digit is (u * B + v) / y. -/
structure Dig (u v y1 y0 : Nat) : Prop where
  y0lt : y0 < B32
  y1lt : y1 < B32
  y1ge : 2147483648 ≤ y1
  ult : u < y1 * B32 + y0
  vlt : v < B32

theorem Dig.lt {u v y1 y0 : Nat} (h : Dig u v y1 y0) : u * B32 + v < (y1 * B32 + y0) * B32 := by
  have h1 : (u + 1) * B32 ≤ (y1 * B32 + y0) * B32 := Nat.mul_le_mul_right _ h.ult
  have h2 := h.vlt
  rw [Nat.add_mul, Nat.one_mul] at h1
  omega

/-- The guess is at most one above the base. -/
theorem Dig.guess {u v y1 y0 : Nat} (h : Dig u v y1 y0) : u / y1 ≤ B32 + 1 := by
  have hp : 0 < y1 := by have := h.y1ge; omega
  refine Nat.le_of_lt_succ ((Nat.div_lt_iff_lt_mul hp).2 ?_)
  have h1 := h.ult; have h2 := h.y0lt; have h3 := h.y1ge
  have e : (B32 + 1 + 1) * y1 = y1 * B32 + 2 * y1 := by rw [Nat.add_mul, Nat.add_mul, Nat.mul_comm B32]; omega
  rw [e]
  unfold B32 at *
  omega

/-- What holds at the loop's head. -/
structure DInv (u v y1 y0 q r : Nat) : Prop where
  sum : q * y1 + r = u
  rlt : r < B32
  qge : (u * B32 + v) / (y1 * B32 + y0) ≤ q
  qle : q ≤ B32 + 1

theorem Dig.ypos {u v y1 y0 : Nat} (h : Dig u v y1 y0) : 0 < y1 * B32 + y0 := by
  have := h.ult; omega

theorem Dig.start {u v y1 y0 : Nat} (h : Dig u v y1 y0) : DInv u v y1 y0 (u / y1) (u % y1) := by
  have hp : 0 < y1 := by have := h.y1ge; omega
  have hm : u % y1 < y1 := Nat.mod_lt _ hp
  refine ⟨?_, ?_, ?_, h.guess⟩
  · rw [Nat.mul_comm]; exact Nat.div_add_mod u y1
  · have := h.y1lt; omega
  · refine Nat.le_of_lt_succ ((Nat.div_lt_iff_lt_mul h.ypos).2 ?_)
    have h1 : u + 1 ≤ (u / y1 + 1) * y1 := by
      have h3 := Nat.div_add_mod u y1
      have h4 : (u / y1 + 1) * y1 = y1 * (u / y1) + y1 := by rw [Nat.add_mul, Nat.one_mul, Nat.mul_comm]
      omega
    have h2 : (u + 1) * B32 ≤ (u / y1 + 1) * y1 * B32 := Nat.mul_le_mul_right _ h1
    have h3 : (u / y1 + 1) * y1 * B32 ≤ (u / y1).succ * (y1 * B32 + y0) := by
      rw [Nat.mul_assoc]; exact Nat.mul_le_mul_left _ (Nat.le_add_right _ _)
    have h4 := h.vlt
    rw [Nat.add_mul, Nat.one_mul] at h2
    omega

/-- The guess times the divisor, by its halves. -/
theorem prod_parts {u y1 y0 q r : Nat} (hs : q * y1 + r = u) : q * (y1 * B32 + y0) + r * B32 = u * B32 + q * y0 := by
  rw [Nat.mul_add, ← Nat.mul_assoc, ← hs, Nat.add_mul]
  omega

/-- The test says yes: the guess is too great. -/
theorem DInv.yes {u v y1 y0 q r : Nat} (h : Dig u v y1 y0) (i : DInv u v y1 y0 q r) (t : B32 ≤ q ∨ B32 * r + v < q * y0) :
    (u * B32 + v) / (y1 * B32 + y0) + 1 ≤ q := by
  rcases t with t | t
  · have : (u * B32 + v) / (y1 * B32 + y0) < B32 := (Nat.div_lt_iff_lt_mul h.ypos).2 (by rw [Nat.mul_comm B32]; exact h.lt)
    omega
  · refine (Nat.div_lt_iff_lt_mul h.ypos).2 ?_
    have := prod_parts (y0 := y0) i.sum
    have e : B32 * r = r * B32 := Nat.mul_comm _ _
    omega

/-- .. and one less, with a rest that is no half word any more, is the digit. -/
theorem DInv.out {u v y1 y0 q r : Nat} (h : Dig u v y1 y0) (i : DInv u v y1 y0 q r) (t : B32 ≤ q ∨ B32 * r + v < q * y0) (hr : B32 ≤ r + y1) :
    q - 1 = (u * B32 + v) / (y1 * B32 + y0) := by
  have hy := i.yes h t
  refine Nat.le_antisymm ((Nat.le_div_iff_mul_le h.ypos).2 ?_) (by omega)
  have hs : (q - 1) * y1 + (r + y1) = u := by
    have e : (q - 1 + 1) * y1 = (q - 1) * y1 + y1 := by rw [Nat.add_mul, Nat.one_mul]
    have hq : q - 1 + 1 = q := Nat.sub_add_cancel (Nat.le_trans (Nat.le_add_left 1 _) hy)
    rw [hq] at e
    have := i.sum
    omega
  have hp := prod_parts (y0 := y0) hs
  have h1 : B32 * B32 ≤ (r + y1) * B32 := Nat.mul_le_mul_right _ hr
  have h2 : (q - 1) * y0 ≤ B32 * B32 := Nat.mul_le_mul (by have := i.qle; omega) (by have := h.y0lt; omega)
  omega

/-- .. and one less is a guess again. -/
theorem DInv.next {u v y1 y0 q r : Nat} (h : Dig u v y1 y0) (i : DInv u v y1 y0 q r) (t : B32 ≤ q ∨ B32 * r + v < q * y0) (hr : r + y1 < B32) :
    DInv u v y1 y0 (q - 1) (r + y1) := by
  have hy := i.yes h t
  refine ⟨?_, hr, by omega, by have := i.qle; omega⟩
  have e : (q - 1 + 1) * y1 = (q - 1) * y1 + y1 := by rw [Nat.add_mul, Nat.one_mul]
  have hq : q - 1 + 1 = q := Nat.sub_add_cancel (Nat.le_trans (Nat.le_add_left 1 _) hy)
  rw [hq] at e
  have := i.sum
  omega

/-- The test says no: the guess is the digit. -/
theorem DInv.no {u v y1 y0 q r : Nat} (h : Dig u v y1 y0) (i : DInv u v y1 y0 q r) (t : q * y0 ≤ B32 * r + v) :
    q = (u * B32 + v) / (y1 * B32 + y0) := by
  refine Nat.le_antisymm ((Nat.le_div_iff_mul_le h.ypos).2 ?_) i.qge
  have hp := prod_parts (y0 := y0) i.sum
  have e : B32 * r = r * B32 := Nat.mul_comm _ _
  omega

theorem Dig.digit_lt {u v y1 y0 : Nat} (h : Dig u v y1 y0) : (u * B32 + v) / (y1 * B32 + y0) < B32 :=
  (Nat.div_lt_iff_lt_mul h.ypos).2 (by rw [Nat.mul_comm B32]; exact h.lt)

/-- What is left, worked out word by word. -/
theorem wrap_rest (a b m : Nat) (hm : m < B64) (h : a = b + m) : (((a : Int) - (b : Int)) % (B64 : Int)) = (m : Int) := by
  subst h
  have : ((b + m : Nat) : Int) - (b : Int) = (m : Int) := by omega
  rw [this]
  unfold B64 at *
  omega

/-- Two digits make the quotient; what is left behind both is what is left. -/
theorem two_digits (u v1 v0 y : Nat) (hy : 0 < y) :
    (u * B64 + (v1 * B32 + v0)) / y = (u * B32 + v1) / y * B32 + ((u * B32 + v1) % y * B32 + v0) / y ∧
    (u * B64 + (v1 * B32 + v0)) % y = ((u * B32 + v1) % y * B32 + v0) % y := by
  have e : u * B64 + (v1 * B32 + v0) = (u * B32 + v1) / y * B32 * y + ((u * B32 + v1) % y * B32 + v0) := by
    have h := Nat.div_add_mod (u * B32 + v1) y
    have h1 : (u * B32 + v1) * B32 = (y * ((u * B32 + v1) / y) + (u * B32 + v1) % y) * B32 := by rw [h]
    rw [Nat.add_mul, Nat.add_mul, Nat.mul_assoc u, B32_sq] at h1
    have h2 : y * ((u * B32 + v1) / y) * B32 = (u * B32 + v1) / y * B32 * y := by
      rw [Nat.mul_comm y, Nat.mul_assoc, Nat.mul_comm y, Nat.mul_assoc]
    omega
  rw [e]
  constructor
  · rw [Nat.mul_comm, Nat.mul_add_div hy]
  · rw [Nat.mul_comm, Nat.mul_add_mod]

/-- A shift of both leaves the quotient, and shifts what is left. -/
theorem shifted (n y p : Nat) (hp : 0 < p) : n * p / (y * p) = n / y ∧ n * p % (y * p) / p = n % y := by
  constructor
  · exact Nat.mul_div_mul_right n y hp
  · rw [Nat.mul_mod_mul_right, Nat.mul_div_cancel _ hp]

end Corr
