/- Contracts of corrodyref04: Leap, Length. The calendar's arithmetic. -/
import Derived.Test.YtmdmhookhkhdoaaDoorBase
import Derived.Lib.Hide
namespace Corr
set_option maxRecDepth 8000
open Go
/-- A leap year, from 1 to 9999? -/
def leapB (y : Int) : Bool := decide (1 ≤ y ∧ y ≤ 9999 ∧ (y % 400 = 0 ∨ (y % 4 = 0 ∧ ¬ y % 100 = 0)))
/-- A month's length. -/
def lenI (y m : Int) : Int :=
  if y < 1 ∨ 9999 < y then 0
  else if m = 1 ∨ m = 3 ∨ m = 5 ∨ m = 7 ∨ m = 8 ∨ m = 10 ∨ m = 12 then 31
  else if m = 4 ∨ m = 6 ∨ m = 9 ∨ m = 11 then 30
  else if m = 2 then (if leapB y = true then 29 else 28)
  else 0
theorem leap_true {y : Int} (h1 : 1 ≤ y) (h2 : y ≤ 9999) (h : y % 400 = 0 ∨ (y % 4 = 0 ∧ ¬ y % 100 = 0)) : leapB y = true := decide_eq_true ⟨h1, h2, h⟩
theorem leap_false {y : Int} (h : ¬ (1 ≤ y ∧ y ≤ 9999 ∧ (y % 400 = 0 ∨ (y % 4 = 0 ∧ ¬ y % 100 = 0)))) : leapB y = false := decide_eq_false h
end Corr
namespace Go.Proofs.YtmdmhookhkhdoaaDoor
set_option maxRecDepth 8000
open Go.RowKit Corr
set_option linter.unusedVariables false

set_option maxHeartbeats 1000000 in
theorem leap_any (y : Int) (w : World) : Calls Tryd.prog 30 #[.int .i64 y] w fun e w' => e = .returned (.bool (leapB y)) ∧ w = w' := by
  by_cases h1 : y < 1
  · have HL := Lib.hid (leap_false (y := y) (by omega))
    rw [HL.out]
    go_enter Tryd.func30, Tryd.ntmps30
    go_wp2_with fail
    go_ret
    exact ⟨rfl, rfl⟩
  · by_cases h2 : 9999 < y
    · have HL := Lib.hid (leap_false (y := y) (by omega))
      rw [HL.out]
      have d1 : decide (y < 1) = false := decide_eq_false h1
      go_enter Tryd.func30, Tryd.ntmps30
      go_wp2_with fail
      go_ret
      exact ⟨rfl, rfl⟩
    · have y1 : 1 ≤ y := by omega
      have y2 : y ≤ 9999 := by omega
      have d1 : decide (y < 1) = false := decide_eq_false h1
      have d2 : decide (9999 < y) = false := decide_eq_false h2
      by_cases h4 : y % 400 = 0
      · have HL := Lib.hid (leap_true y1 y2 (.inl h4))
        rw [HL.out]
        have d4 : (y % 400 == 0) = true := by simpa using h4
        clear h1 h2 h4
        go_enter Tryd.func30, Tryd.ntmps30
        go_wp2_with fail
        go_ret
        exact ⟨rfl, rfl⟩
      · have d4 : (y % 400 == 0) = false := by simpa using h4
        by_cases h5 : y % 4 = 0
        · have d5 : (y % 4 == 0) = true := by simpa using h5
          by_cases h6 : y % 100 = 0
          · have HL := Lib.hid (leap_false (y := y) (by omega))
            rw [HL.out]
            have d6 : (y % 100 != 0) = false := by simpa using h6
            clear h1 h2 h4 h5 h6
            go_enter Tryd.func30, Tryd.ntmps30
            go_wp2_with fail
            go_ret
            exact ⟨rfl, rfl⟩
          · have HL := Lib.hid (leap_true y1 y2 (.inr ⟨h5, h6⟩))
            rw [HL.out]
            have d6 : (y % 100 != 0) = true := by simpa using h6
            clear h1 h2 h4 h5 h6
            go_enter Tryd.func30, Tryd.ntmps30
            go_wp2_with fail
            go_ret
            exact ⟨rfl, rfl⟩
        · have HL := Lib.hid (leap_false (y := y) (by omega))
          rw [HL.out]
          have d5 : (y % 4 == 0) = false := by simpa using h5
          clear h1 h2 h4 h5
          go_enter Tryd.func30, Tryd.ntmps30
          go_wp2_with fail
          go_ret
          exact ⟨rfl, rfl⟩

set_option maxHeartbeats 2000000 in
theorem length_in (y m : Int) (b : Bool) (w : World) (y1 : 1 ≤ y) (y2 : y ≤ 9999) (m1 : 1 ≤ m) (m2 : m ≤ 12) (hb : leapB y = b) : Calls Tryd.prog 31 #[.int .i64 y, .int .i64 m] w fun e w' => e = .returned (.int .i64 (lenI y m)) ∧ w = w' := by
  have HB := Lib.hid hb
  have HLP := Lib.hid (fun w => leap_any y w)
  rw [hb] at HLP
  have d1 : decide (y < 1) = false := decide_eq_false (by omega)
  have d2 : decide (9999 < y) = false := decide_eq_false (by omega)
  have hm : m = 1 ∨ m = 2 ∨ m = 3 ∨ m = 4 ∨ m = 5 ∨ m = 6 ∨ m = 7 ∨ m = 8 ∨ m = 9 ∨ m = 10 ∨ m = 11 ∨ m = 12 := by omega
  have HV := Lib.hid (show ¬ (y < 1 ∨ 9999 < y) by omega)
  clear hb m1 m2
  rcases hm with rfl | rfl | rfl | rfl | rfl | rfl | rfl | rfl | rfl | rfl | rfl | rfl
  case inr.inl =>
    cases b
    · go_enter Tryd.func31, Tryd.ntmps31
      go_wp2_with fail
      refine (HLP.out _).mono ?_
      rintro e w1 ⟨rfl, rfl⟩
      go_wp2_with fail
      go_ret
      exact ⟨ret_int (by unfold lenI; rw [if_neg HV.out, HB.out]; rfl), rfl⟩
    · go_enter Tryd.func31, Tryd.ntmps31
      go_wp2_with fail
      refine (HLP.out _).mono ?_
      rintro e w1 ⟨rfl, rfl⟩
      go_wp2_with fail
      go_ret
      exact ⟨ret_int (by unfold lenI; rw [if_neg HV.out, HB.out]; rfl), rfl⟩
  all_goals
    go_enter Tryd.func31, Tryd.ntmps31
    go_wp2_with fail
    go_ret
    exact ⟨ret_int (by unfold lenI; rw [if_neg HV.out]; rfl), rfl⟩
end Go.Proofs.YtmdmhookhkhdoaaDoor
