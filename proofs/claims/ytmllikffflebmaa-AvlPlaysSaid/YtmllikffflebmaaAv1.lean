/- corrodyref08: the plain side; Less. -/
import Derived.Test.YtmllikffflebmaaChecked
import Derived.Test.YtmllikffflebmaaRow3
namespace Corr
set_option maxRecDepth 8000
/-- Is an item less? -/
def lessB (a b : It) : Bool := if a.1 = b.1 then (if a.2.1 = b.2.1 then decide (a.2.2 < b.2.2) else decide (a.2.1 < b.2.1)) else decide (a.1 < b.1)
/-- How many stand ahead of it. -/
def cntI (x : It) (l : ItL) : Nat := (l.takeWhile fun y => lessB y x).length
end Corr
namespace Go.Proofs.Ytmllikffflebmaa
set_option maxRecDepth 8000
open Go.RowKit Corr
set_option linter.unusedVariables false
set_option linter.unusedSimpArgs false
theorem ret_bool {a b : Bool} (h : a = b) : Ending.returned (.bool a) = .returned (.bool b) := by rw [h]
set_option maxHeartbeats 1000000 in
theorem less_any (a b : It) (w : World) : Calls Try.prog 33 #[itV a, itV b] w fun e w' => e = .returned (.bool (lessB a b)) ∧ Below w.heap.size w w' := by
  obtain ⟨a1, a2, a3⟩ := a
  obtain ⟨b1, b2, b3⟩ := b
  have HB := Lib.hid ((((Below.refl w.heap.size w).alloc (Nat.le_refl _) (.cells #[.int .i64 a1, .int .i64 a2, .int .i64 a3] 33)).alloc (by simp) (.cells #[.int .i64 b1, .int .i64 b2, .int .i64 b3] 33)))
  by_cases p1 : a1 = b1
  · by_cases p2 : a2 = b2
    · have HF := Lib.hid (show decide (a3 < b3) = lessB (a1, a2, a3) (b1, b2, b3) by unfold lessB; rw [if_pos p1, if_pos p2])
      have d1 : (a1 != b1) = false := by simpa using p1
      have d2 : (a2 != b2) = false := by simpa using p2
      clear p1 p2
      go_enter Try.func33, Try.ntmps33
      go_wp2_with fail
      go_ret
      exact ⟨ret_bool HF.out, HB.out⟩
    · have HF := Lib.hid (show decide (a2 < b2) = lessB (a1, a2, a3) (b1, b2, b3) by unfold lessB; rw [if_pos p1, if_neg p2])
      have d1 : (a1 != b1) = false := by simpa using p1
      have d2 : (a2 != b2) = true := by simpa using p2
      clear p1 p2
      go_enter Try.func33, Try.ntmps33
      go_wp2_with fail
      go_ret
      exact ⟨ret_bool HF.out, HB.out⟩
  · have HF := Lib.hid (show decide (a1 < b1) = lessB (a1, a2, a3) (b1, b2, b3) by unfold lessB; rw [if_neg p1])
    have d1 : (a1 != b1) = true := by simpa using p1
    clear p1
    go_enter Try.func33, Try.ntmps33
    go_wp2_with fail
    go_ret
    exact ⟨ret_bool HF.out, HB.out⟩
end Go.Proofs.Ytmllikffflebmaa
