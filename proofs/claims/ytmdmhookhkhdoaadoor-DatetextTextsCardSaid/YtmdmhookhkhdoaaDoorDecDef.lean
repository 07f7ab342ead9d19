/- Decimal numbers as plain arithmetic: the nearest one (half-even), the canonical one, what fits. No walk in this text. -/
import Derived.Test.YtmdmhookhkhdoaaDoorBase
namespace Corr
/-- The nearest one, half-even. -/
def evZ (z : Int) (d : Nat) : Int := if (d : Int) < z % d + z % d ∨ (z % d + z % d = d ∧ (z / d) % 2 = 1) then z / d + 1 else z / d
/-- Without noughts behind the point. -/
def strip : Int → Nat → Int × Nat
  | u, 0 => (u, 0)
  | u, s + 1 => if u % 10 = 0 then strip (u / 10) s else (u, s + 1)
theorem strip_yes {u : Int} (s : Nat) (h : u % 10 = 0) : strip u (s + 1) = strip (u / 10) s := by rw [strip, if_pos h]
theorem strip_no {u : Int} {s : Nat} (h : s = 0 ∨ ¬ u % 10 = 0) : strip u s = (u, s) := by
  cases s with
  | zero => rw [strip]
  | succ s => rw [strip, if_neg (by rcases h with h | h; · omega
                                    · exact h)]
def fitsI (c : Int) : Bool := decide (-9223372036854775808 ≤ c ∧ c ≤ 9223372036854775807)
/-- What Made tells: the number, its places, the error. -/
def mC (u : Int) (s : Nat) : Int := if fitsI (strip u s).1 = true then (strip u s).1 else 0
def mS (u : Int) (s : Nat) : Nat := if fitsI (strip u s).1 = true then (strip u s).2 else 0
def mE (u : Int) (s : Nat) : Int := if fitsI (strip u s).1 = true then 0 else 11
theorem made_fit {u u0 : Int} {s s0 : Nat} (h : strip u s = (u, s)) (hi : strip u s = strip u0 s0) (hf : -9223372036854775808 ≤ u ∧ u ≤ 9223372036854775807) : mC u0 s0 = u ∧ mS u0 s0 = s ∧ mE u0 s0 = 0 := by
  unfold mC mS mE
  rw [← hi, h]
  have : fitsI u = true := by simp [fitsI, hf]
  simp [this]
theorem made_over {u u0 : Int} {s s0 : Nat} (h : strip u s = (u, s)) (hi : strip u s = strip u0 s0) (hf : ¬ (-9223372036854775808 ≤ u ∧ u ≤ 9223372036854775807)) : mC u0 s0 = 0 ∧ mS u0 s0 = 0 ∧ mE u0 s0 = 11 := by
  unfold mC mS mE
  rw [← hi, h]
  have : fitsI u = false := decide_eq_false hf
  simp [this]
theorem tenth_le (u : Int) : (u / 10).natAbs ≤ u.natAbs := by omega
end Corr
