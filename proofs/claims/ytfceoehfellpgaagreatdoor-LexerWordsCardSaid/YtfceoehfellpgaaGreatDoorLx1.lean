/- Contracts of corrodyref14: small, digit. -/
import Derived.Test.YtfceoehfellpgaaGreatDoorLxMath
import Derived.Test.YtfceoehfellpgaaGreatDoorRowRel
import Derived.Laws.IdiomStrings
namespace Go.Proofs.YtfceoehfellpgaaGreatDoor
set_option maxRecDepth 8000
open Go.RowKit Go.PlainAid Corr
set_option linter.unusedVariables false
set_option linter.unusedSimpArgs false
theorem small_any (x : Int) (w : World) : Calls Tryz.prog 15 #[.int .u8 x] w fun e w' => e = .returned (.bool (smallB x)) ∧ w' = w := by
  by_cases h1 : 97 ≤ x
  · have d1 : decide (x ≥ 97) = true := decide_eq_true (by omega)
    by_cases h2 : x ≤ 122
    · have d2 : decide (x ≤ 122) = true := decide_eq_true h2
      have HB := Lib.hid (show true = smallB x from (smallB_yes.2 ⟨h1, h2⟩).symm)
      clear h1 h2
      go_enter Tryz.func15, Tryz.ntmps15
      go_wp2_with fail
      go_ret
      exact ⟨by rw [← HB.out]; rfl, rfl⟩
    · have d2 : decide (x ≤ 122) = false := decide_eq_false h2
      have HB := Lib.hid (show false = smallB x from (Bool.eq_false_iff.2 fun e => h2 (smallB_yes.1 e).2).symm)
      clear h1 h2
      go_enter Tryz.func15, Tryz.ntmps15
      go_wp2_with fail
      go_ret
      exact ⟨by rw [← HB.out]; rfl, rfl⟩
  · have d1 : decide (x ≥ 97) = false := decide_eq_false (by omega)
    have HB := Lib.hid (show false = smallB x from (Bool.eq_false_iff.2 fun e => h1 (smallB_yes.1 e).1).symm)
    clear h1
    go_enter Tryz.func15, Tryz.ntmps15
    go_wp2_with fail
    go_ret
    exact ⟨by rw [← HB.out]; rfl, rfl⟩
theorem digit_any (x : Int) (w : World) : Calls Tryz.prog 16 #[.int .u8 x] w fun e w' => e = .returned (.bool (digB x)) ∧ w' = w := by
  by_cases h1 : 48 ≤ x
  · have d1 : decide (x ≥ 48) = true := decide_eq_true (by omega)
    by_cases h2 : x ≤ 57
    · have d2 : decide (x ≤ 57) = true := decide_eq_true h2
      have HB := Lib.hid (show true = digB x from (digB_yes.2 ⟨h1, h2⟩).symm)
      clear h1 h2
      go_enter Tryz.func16, Tryz.ntmps16
      go_wp2_with fail
      go_ret
      exact ⟨by rw [← HB.out]; rfl, rfl⟩
    · have d2 : decide (x ≤ 57) = false := decide_eq_false h2
      have HB := Lib.hid (show false = digB x from (Bool.eq_false_iff.2 fun e => h2 (digB_yes.1 e).2).symm)
      clear h1 h2
      go_enter Tryz.func16, Tryz.ntmps16
      go_wp2_with fail
      go_ret
      exact ⟨by rw [← HB.out]; rfl, rfl⟩
  · have d1 : decide (x ≥ 48) = false := decide_eq_false (by omega)
    have HB := Lib.hid (show false = digB x from (Bool.eq_false_iff.2 fun e => h1 (digB_yes.1 e).1).symm)
    clear h1
    go_enter Tryz.func16, Tryz.ntmps16
    go_wp2_with fail
    go_ret
    exact ⟨by rw [← HB.out]; rfl, rfl⟩
end Go.Proofs.YtfceoehfellpgaaGreatDoor
