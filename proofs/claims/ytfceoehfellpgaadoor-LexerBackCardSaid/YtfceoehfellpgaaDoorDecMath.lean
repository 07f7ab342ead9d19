/- Decimal numbers as plain arithmetic: the nearest one (half-even), the canonical one, what fits. No walk in this text. Canonical decimal numbers: plain arithmetic about 'strip' and 'evZ'. No walk in this text. decimal beside the document's: plain arithmetic about 'strip', 'evZ' and places. No walk in this text. -/
import Derived.Test.YtfceoehfellpgaaDoorBase
namespace Corr
/-- The nearest one, half-even. -/
def evZ (z : Int) (d : Nat) : Int := if (d : Int) < z % d + z % d ∨ (z % d + z % d = d ∧ (z / d) % 2 = 1) then z / d + 1 else z / d
/-- Without noughts behind the point. -/
def strip : Int → Nat → Int × Nat
  | u, 0 => (u, 0)
  | u, s + 1 => if u % 10 = 0 then strip (u / 10) s else (u, s + 1)
theorem strip_yes {u : Int} (s : Nat) (h : u % 10 = 0) : strip u (s + 1) = strip (u / 10) s := by rw [strip, if_pos h]
theorem strip_no {u : Int} {s : Nat} (h : s = 0 ∨ ¬ u % 10 = 0) : strip u s = (u, s) := by
  cases s with
  | zero => rw [strip]
  | succ s => rw [strip, if_neg (by rcases h with h | h; · omega
                                    · exact h)]
def fitsI (c : Int) : Bool := decide (-9223372036854775808 ≤ c ∧ c ≤ 9223372036854775807)
/-- What Made tells: the number, its places, the error. -/
def mC (u : Int) (s : Nat) : Int := if fitsI (strip u s).1 = true then (strip u s).1 else 0
def mS (u : Int) (s : Nat) : Nat := if fitsI (strip u s).1 = true then (strip u s).2 else 0
def mE (u : Int) (s : Nat) : Int := if fitsI (strip u s).1 = true then 0 else 11
theorem made_fit {u u0 : Int} {s s0 : Nat} (h : strip u s = (u, s)) (hi : strip u s = strip u0 s0) (hf : -9223372036854775808 ≤ u ∧ u ≤ 9223372036854775807) : mC u0 s0 = u ∧ mS u0 s0 = s ∧ mE u0 s0 = 0 := by
  unfold mC mS mE
  rw [← hi, h]
  have : fitsI u = true := by simp [fitsI, hf]
  simp [this]
theorem made_over {u u0 : Int} {s s0 : Nat} (h : strip u s = (u, s)) (hi : strip u s = strip u0 s0) (hf : ¬ (-9223372036854775808 ≤ u ∧ u ≤ 9223372036854775807)) : mC u0 s0 = 0 ∧ mS u0 s0 = 0 ∧ mE u0 s0 = 11 := by
  unfold mC mS mE
  rw [← hi, h]
  have : fitsI u = false := decide_eq_false hf
  simp [this]
theorem tenth_le (u : Int) : (u / 10).natAbs ≤ u.natAbs := by omega
end Corr
namespace Corr
open Go
/-- S is 0, or C is no multiple of 10. -/
def canon (c : Int) (t : Nat) : Prop := t = 0 ∨ ¬ c % 10 = 0
theorem strip_spec : ∀ (s : Nat) (u : Int), (strip u s).2 ≤ s ∧ canon (strip u s).1 (strip u s).2 ∧ u = (strip u s).1 * ((10 ^ (s - (strip u s).2) : Nat) : Int)
  | 0, u => by rw [strip]; exact ⟨Nat.le_refl _, .inl rfl, by simp⟩
  | s + 1, u => by
    by_cases h : u % 10 = 0
    · rw [strip_yes s h]
      obtain ⟨h1, h2, h3⟩ := strip_spec s (u / 10)
      refine ⟨by omega, h2, ?_⟩
      have h4 : u = 10 * (u / 10) := by omega
      rw [show s + 1 - (strip (u / 10) s).2 = (s - (strip (u / 10) s).2) + 1 by omega, Nat.pow_succ, Int.natCast_mul, ← Int.mul_assoc, ← h3]
      omega
    · rw [strip_no (s := s + 1) (.inr h)]
      exact ⟨Nat.le_refl _, .inr h, by simp⟩
theorem pow_mod {k : Nat} (h : 0 < k) (c : Int) : (c * ((10 ^ k : Nat) : Int)) % 10 = 0 := by
  obtain ⟨j, rfl⟩ : ∃ j, k = j + 1 := ⟨k - 1, by omega⟩
  rw [Nat.pow_succ, Int.natCast_mul, ← Int.mul_assoc]
  exact Int.mul_emod_left _ _
theorem pow_cancel {c c' : Int} {k : Nat} (h : c * ((10 ^ k : Nat) : Int) = c' * ((10 ^ k : Nat) : Int)) : c = c' := by
  have hp : ((10 ^ k : Nat) : Int) ≠ 0 := by have := Nat.pow_pos (n := k) (show 0 < 10 by omega); omega
  exact Int.eq_of_mul_eq_mul_right hp h
/-- One canonical number a worth. -/
theorem canon_le {c c' : Int} {t t' s : Nat} (ht : t ≤ s) (ht' : t' ≤ s) (h' : canon c' t') (hv : c * ((10 ^ (s - t) : Nat) : Int) = c' * ((10 ^ (s - t') : Nat) : Int)) : t' ≤ t := by
  rcases Nat.lt_or_ge t t' with hlt | hge
  · exfalso
    have e : s - t = (s - t') + (t' - t) := by omega
    rw [e, Nat.pow_add, Int.natCast_mul, Int.mul_comm ((10 ^ (s - t') : Nat) : Int), ← Int.mul_assoc] at hv
    have h1 := pow_cancel hv
    rcases h' with h2 | h2
    · omega
    · exact h2 (by rw [← h1]; exact pow_mod (by omega) c)
  · exact hge
theorem canon_one {c c' : Int} {t t' s : Nat} (ht : t ≤ s) (ht' : t' ≤ s) (h : canon c t) (h' : canon c' t') (hv : c * ((10 ^ (s - t) : Nat) : Int) = c' * ((10 ^ (s - t') : Nat) : Int)) : c = c' ∧ t = t' := by
  have e : t = t' := Nat.le_antisymm (canon_le ht' ht h hv.symm) (canon_le ht ht' h' hv)
  subst e
  exact ⟨pow_cancel hv, rfl⟩
/-- What is canonical is what strip tells. -/
theorem strip_is {u c : Int} {s t : Nat} (ht : t ≤ s) (h : canon c t) (hv : u = c * ((10 ^ (s - t) : Nat) : Int)) : strip u s = (c, t) := by
  obtain ⟨h1, h2, h3⟩ := strip_spec s u
  obtain ⟨e1, e2⟩ := canon_one h1 ht h2 h (by rw [← h3, hv])
  exact Prod.ext e1 e2
/-- A multiple is rounded to itself. -/
theorem evZ_mul (z : Int) (d : Nat) (h : 0 < d) : evZ (z * (d : Int)) d = z := by
  unfold evZ
  rw [Int.mul_emod_left, Int.mul_ediv_cancel _ (by omega), if_neg (by omega)]
/-- The nearest one, by its distance. -/
theorem evZ_near (z : Int) (d : Nat) (h : 0 < d) : 2 * (z - evZ z d * d).natAbs ≤ d := by
  have h1 := Int.emod_nonneg z (show (d : Int) ≠ 0 by omega)
  have h2 := Int.emod_lt_of_pos z (show (0 : Int) < d by omega)
  have h3 := Int.mul_ediv_add_emod z d
  rw [Int.mul_comm] at h3
  unfold evZ
  split
  · rename_i hc
    rw [Int.add_mul, Int.one_mul]
    omega
  · rename_i hc
    omega
end Corr
namespace Corr
open Go
set_option linter.unusedVariables false
theorem strip_mul : ∀ (k s : Nat) (u : Int), strip (u * ((10 ^ k : Nat) : Int)) (s + k) = strip u s
  | 0, s, u => by simp
  | k + 1, s, u => by
    rw [← Nat.add_assoc, strip_yes (s + k) (pow_mod (by omega) u), Nat.pow_succ, Int.natCast_mul, ← Int.mul_assoc, show (((10 : Nat) : Int)) = 10 from rfl, Int.mul_ediv_cancel _ (by decide)]
    exact strip_mul k s u
theorem strip_at {u z : Int} {s t : Nat} (h : s ≤ t) (hz : z * ((10 ^ (t - s) : Nat) : Int) = u) : strip u t = strip z s := by
  obtain ⟨k, rfl⟩ : ∃ k, t = s + k := ⟨t - s, by omega⟩
  rw [show s + k - s = k by omega] at hz
  rw [← hz]; exact strip_mul k s z
/-- What is told hangs on the worth alone. -/
theorem made_at {u z : Int} {s t : Nat} (h : s ≤ t) (hz : z * ((10 ^ (t - s) : Nat) : Int) = u) : mC z s = mC u t ∧ mS z s = mS u t ∧ mE z s = mE u t := by
  unfold mC mS mE
  rw [strip_at h hz]; exact ⟨rfl, rfl, rfl⟩
theorem evZ_scale (z : Int) (d k : Nat) (hd : 0 < d) (hk : 0 < k) : evZ (z * (k : Int)) (d * k) = evZ z d := by
  unfold evZ
  have hk' : (0 : Int) < k := by omega
  have h1 : z * (k : Int) / ((d * k : Nat) : Int) = z / d := by rw [Int.natCast_mul]; exact Int.mul_ediv_mul_of_pos_left _ _ hk'
  have h2 : z * (k : Int) % ((d * k : Nat) : Int) = z % d * k := by
    rw [Int.natCast_mul, Int.mul_comm z, Int.mul_comm (d : Int), Int.mul_emod_mul_of_pos _ _ hk', Int.mul_comm]
  rw [h1, h2]
  have h3 : z % d * (k : Int) + z % d * k = (z % d + z % d) * k := (Int.add_mul _ _ _).symm
  rw [h3]
  have h4 : ((d * k : Nat) : Int) < (z % d + z % d) * k ↔ (d : Int) < z % d + z % d := by
    rw [Int.natCast_mul]; exact Int.mul_lt_mul_right hk'
  have h5 : (z % d + z % d) * k = ((d * k : Nat) : Int) ↔ z % d + z % d = (d : Int) := by
    rw [Int.natCast_mul]
    exact ⟨fun h => Int.eq_of_mul_eq_mul_right (by omega) h, fun h => by rw [h]⟩
  simp only [h4, h5]
theorem pow_split {a b c : Nat} (h : a + b = c) : ((10 ^ c : Nat) : Int) = ((10 ^ a : Nat) : Int) * ((10 ^ b : Nat) : Int) := by
  rw [← h, Nat.pow_add, Int.natCast_mul]
theorem p10 (n : Nat) : 0 < 10 ^ n := Nat.pow_pos (by omega)
theorem p10i (n : Nat) : (0 : Int) < ((10 ^ n : Nat) : Int) := by have := p10 n; omega
theorem p10_ne (n : Nat) : ((10 ^ n : Nat) : Int) ≠ 0 := by have := p10i n; omega
theorem evZ_neg (z : Int) (d : Nat) (hd : 0 < d) : evZ (-z) d = - evZ z d := by
  have hd' : (0 : Int) < d := by omega
  have h1 := Int.emod_nonneg z (show (d : Int) ≠ 0 by omega)
  have h2 := Int.emod_lt_of_pos z hd'
  have h3 := Int.mul_ediv_add_emod z d
  generalize hq : z / (d : Int) = q at *
  generalize hr : z % (d : Int) = r at *
  by_cases h0 : r = 0
  · have e : -z = (-q) * d := by rw [← h3, h0, Int.add_zero, Int.neg_mul, Int.mul_comm]
    have e1 : -z / (d : Int) = -q := by rw [e]; exact Int.mul_ediv_cancel _ (by omega)
    have e2 : -z % (d : Int) = 0 := by rw [e]; exact Int.mul_emod_left _ _
    unfold evZ
    rw [e1, e2, hq, hr, h0, if_neg (by omega), if_neg (by omega)]
  · have e : -z = (d - r) + (-q - 1) * d := by
      rw [← h3, Int.sub_mul, Int.neg_mul, Int.one_mul, Int.mul_comm]; omega
    have e1 : -z / (d : Int) = -q - 1 := by
      rw [e, Int.add_mul_ediv_right _ _ (by omega), Int.ediv_eq_zero_of_lt (by omega) (by omega)]; omega
    have e2 : -z % (d : Int) = d - r := by
      rw [e, Int.add_mul_emod_self_right, Int.emod_eq_of_lt (by omega) (by omega)]
    unfold evZ
    rw [e1, e2, hq, hr]
    split <;> split <;> omega
theorem evZ_one (z : Int) : evZ z 1 = z := by
  have := evZ_mul z 1 (by omega)
  simpa using this
/-- Nine places of a Dec. -/
def nine (C : Int) (S : Nat) : Int := C * ((10 ^ (9 - S) : Nat) : Int)
theorem nine_up (C : Int) {S : Nat} (h : S ≤ 9) : C * ((10 ^ (18 - S) : Nat) : Int) = nine C S * ((10 ^ 9 : Nat) : Int) := by
  unfold nine
  rw [Int.mul_assoc, ← pow_split (show (9 - S) + 9 = 18 - S by omega)]
theorem nine_le {C : Int} {S : Nat} (h1 : -9223372036854775808 ≤ C) (h2 : C ≤ 9223372036854775807) : (nine C S).natAbs ≤ 9223372036854775808 * 10 ^ 9 := by
  unfold nine
  rw [Int.natAbs_mul, Int.natAbs_natCast]
  exact Nat.mul_le_mul (by omega) (Nat.pow_le_pow_right (by omega) (by omega))
theorem scale_le {C : Int} {k : Nat} (h1 : -9223372036854775808 ≤ C) (h2 : C ≤ 9223372036854775807) (hk : k ≤ 9) : (C * ((10 ^ k : Nat) : Int)).natAbs ≤ 9223372036854775808 * 10 ^ 9 := by
  rw [Int.natAbs_mul, Int.natAbs_natCast]
  exact Nat.mul_le_mul (by omega) (Nat.pow_le_pow_right (by omega) hk)
/-- A sum in units of the finer scale, at nine places. -/
theorem nine_sum {C C' : Int} {S S' s : Nat} (h : S ≤ s) (h' : S' ≤ s) (hs : s ≤ 9) : (C * ((10 ^ (s - S) : Nat) : Int) + C' * ((10 ^ (s - S') : Nat) : Int)) * ((10 ^ (9 - s) : Nat) : Int) = nine C S + nine C' S' := by
  unfold nine
  rw [Int.add_mul, Int.mul_assoc, Int.mul_assoc, ← pow_split (show (s - S) + (9 - s) = 9 - S by omega), ← pow_split (show (s - S') + (9 - s) = 9 - S' by omega)]
theorem nine_sub {C C' : Int} {S S' s : Nat} (h : S ≤ s) (h' : S' ≤ s) (hs : s ≤ 9) : (C * ((10 ^ (s - S) : Nat) : Int) - C' * ((10 ^ (s - S') : Nat) : Int)) * ((10 ^ (9 - s) : Nat) : Int) = nine C S - nine C' S' := by
  unfold nine
  rw [Int.sub_mul, Int.mul_assoc, Int.mul_assoc, ← pow_split (show (s - S) + (9 - s) = 9 - S by omega), ← pow_split (show (s - S') + (9 - s) = 9 - S' by omega)]
theorem cmpI_scale {x y : Int} {k : Int} (hk : 0 < k) : cmpI (x * k) (y * k) = cmpI x y := by
  rcases Int.lt_trichotomy x y with h | h | h
  · rw [cmpI_lt h, cmpI_lt (Int.mul_lt_mul_of_pos_right h hk)]
  · rw [cmpI_eq h, cmpI_eq (by rw [h])]
  · rw [cmpI_gt h, cmpI_gt (Int.mul_lt_mul_of_pos_right h hk)]
theorem cmpI_sub (x y : Int) : cmpI (x - y) 0 = cmpI x y := by
  rcases Int.lt_trichotomy x y with h | h | h
  · rw [cmpI_lt h, cmpI_lt (by omega)]
  · rw [cmpI_eq h, cmpI_eq (by omega)]
  · rw [cmpI_gt h, cmpI_gt (by omega)]
end Corr
