/- Contracts of corrodyref05: Years; Begin and End of no day; Between. -/
import Derived.Test.YtkfhcfigkdcocaaDoorMon1
namespace Corr
set_option maxRecDepth 8000
open Go
/-- Does the day n months behind lie at b, or ahead of it? -/
def notPast (T d b : Int) (n : Nat) : Bool := (monV (T + (n : Int)) d).2 && decide ((monV (T + (n : Int)) d).1 ≤ b)
/-- The greatest such number, from n on down; else 0. -/
def lastN (T d b : Int) : Nat → Nat
  | 0 => 0
  | n + 1 => if notPast T d b (n + 1) = true then n + 1 else lastN T d b n
theorem len00 : lenI 0 0 = 0 := lenI_out (by omega)
end Corr
namespace Go.Proofs.YtkfhcfigkdcocaaDoor
set_option maxRecDepth 8000
open Go.RowKit Corr
set_option linter.unusedVariables false
set_option maxHeartbeats 2000000 in
theorem mbegin_no (n : Int) (w : World) (h : n < 1 ∨ 3652059 < n) :
    Calls Tryd.prog 12 #[.int .i64 n] w fun e w' => e = .returned (.tuple #[.int .i64 0, .bool false]) ∧ w = w' := by
  have HD := Lib.hid (fun w => date_no n w h)
  have HE := Lib.hid (fun w => day_no 0 0 1 w (by rw [len00]; omega))
  clear h
  go_enter Tryd.func12, Tryd.ntmps12
  go_wp2_with fail
  refine (HD.out _).mono ?_
  rintro e w1 ⟨rfl, rfl⟩
  go_wp2_with fail
  refine (HE.out _).mono ?_
  rintro e w1 ⟨rfl, rfl⟩
  go_wp2_with fail
  go_ret2
  exact ⟨rfl, rfl⟩
set_option maxHeartbeats 2000000 in
theorem mend_no (n : Int) (w : World) (h : n < 1 ∨ 3652059 < n) :
    Calls Tryd.prog 13 #[.int .i64 n] w fun e w' => e = .returned (.tuple #[.int .i64 0, .bool false]) ∧ w = w' := by
  have HD := Lib.hid (fun w => date_no n w h)
  have HE := Lib.hid (fun w => day_no 0 0 0 w (by omega))
  have HL := Lib.hid (fun w => length_any 0 0 w)
  rw [len00] at HL
  clear h
  go_enter Tryd.func13, Tryd.ntmps13
  go_wp2_with fail
  refine (HD.out _).mono ?_
  rintro e w1 ⟨rfl, rfl⟩
  go_wp2_with fail
  refine (HL.out _).mono ?_
  rintro e w1 ⟨rfl, rfl⟩
  go_wp2_with fail
  refine (HE.out _).mono ?_
  rintro e w1 ⟨rfl, rfl⟩
  go_wp2_with fail
  go_ret2
  exact ⟨rfl, rfl⟩
set_option maxHeartbeats 2000000 in
theorem myears_in (n k y m d : Int) (w : World) (h : dateOf n y m d) (k1 : -10000 ≤ k) (k2 : k ≤ 10000) :
    Calls Tryd.prog 11 #[.int .i64 n, .int .i64 k] w fun e w' => e = .returned (.tuple #[.int .i64 (monV (12 * y + (m - 1) + 12 * k) d).1, .bool (monV (12 * y + (m - 1) + 12 * k) d).2]) ∧ w = w' := by
  have HA := Lib.hid (fun w => madd_in n (12 * k) y m d w h (by omega) (by omega))
  have t1 : decide (10000 < k) = false := decide_eq_false (by omega)
  have t2 : decide (k < -10000) = false := decide_eq_false (by omega)
  generalize (monV (12 * y + (m - 1) + 12 * k) d).1 = r at *
  generalize (monV (12 * y + (m - 1) + 12 * k) d).2 = ok at *
  clear h
  go_enter Tryd.func11, Tryd.ntmps11
  go_wp2_with fail
  refine (HA.out _).mono ?_
  rintro e w1 ⟨rfl, rfl⟩
  go_wp2_with fail
  go_ret2
  exact ⟨rfl, rfl⟩
set_option maxHeartbeats 2000000 in
theorem myears_none (n k : Int) (w : World) (h : (n < 1 ∨ 3652059 < n) ∨ k < -10000 ∨ 10000 < k) :
    Calls Tryd.prog 11 #[.int .i64 n, .int .i64 k] w fun e w' => e = .returned (.tuple #[.int .i64 0, .bool false]) ∧ w = w' := by
  by_cases hk1 : 10000 < k
  · clear h
    go_enter Tryd.func11, Tryd.ntmps11
    go_wp2_with fail
    go_ret2
    exact ⟨rfl, rfl⟩
  · have t1 : decide (10000 < k) = false := decide_eq_false hk1
    by_cases hk2 : k < -10000
    · clear h
      go_enter Tryd.func11, Tryd.ntmps11
      go_wp2_with fail
      go_ret2
      exact ⟨rfl, rfl⟩
    · have t2 : decide (k < -10000) = false := decide_eq_false hk2
      have HA := Lib.hid (fun w => madd_none n (12 * k) w (.inl (by omega)))
      have k1 : -10000 ≤ k := by omega
      have k2 : k ≤ 10000 := by omega
      clear h hk1 hk2
      go_enter Tryd.func11, Tryd.ntmps11
      go_wp2_with fail
      refine (HA.out _).mono ?_
      rintro e w1 ⟨rfl, rfl⟩
      go_wp2_with fail
      go_ret2
      exact ⟨rfl, rfl⟩

end Go.Proofs.YtkfhcfigkdcocaaDoor
