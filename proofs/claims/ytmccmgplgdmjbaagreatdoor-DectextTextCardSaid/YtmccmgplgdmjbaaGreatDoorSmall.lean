/- Contracts of package wide: Small, Ten; the statements' own 'known'. -/
import Derived.Test.YtmccmgplgdmjbaaGreatDoorWide5
namespace Go.Proofs.YtmccmgplgdmjbaaGreatDoor
set_option maxRecDepth 8000
open Go.RowKit Corr
set_option linter.unusedVariables false

theorem neg_conv (L : Int) (h0 : 0 ≤ L) (h1 : L ≤ 9223372036854775808) : wrap64 (IntKind.u64.wrap (-L)) = -L := by
  unfold wrap64; rw [IntKind.wrap_u64]; omega
theorem small_neg (L : Int) (w : World) (h0 : 0 ≤ L) (h1 : L ≤ 9223372036854775808) :
    Calls Tryz.prog 50 #[.agg #[.bool true, .int .u64 0, .int .u64 L]] w fun e w' => e = .returned (.tuple #[.int .i64 (-L), .bool true]) ∧ Below w.heap.size w w' := by
  go_enter Tryz.func50, Tryz.ntmps50
  go_wp2_with fail
  go_ret2
  exact ⟨ret_intbool (neg_conv L h0 h1) rfl, (Below.refl _ _).alloc (Nat.le_refl _) _⟩
theorem small_pos (L : Int) (w : World) (h0 : 0 ≤ L) (h1 : L < 9223372036854775808) :
    Calls Tryz.prog 50 #[.agg #[.bool false, .int .u64 0, .int .u64 L]] w fun e w' => e = .returned (.tuple #[.int .i64 L, .bool true]) ∧ Below w.heap.size w w' := by
  go_enter Tryz.func50, Tryz.ntmps50
  go_wp2_with fail
  go_ret2
  exact ⟨rfl, (Below.refl _ _).alloc (Nat.le_refl _) _⟩
theorem small_far (s : Bool) (H L : Int) (w : World) (h0 : 1 ≤ H) (h1 : 0 ≤ L) :
    Calls Tryz.prog 50 #[.agg #[.bool s, .int .u64 H, .int .u64 L]] w fun e w' => e = .returned (.tuple #[.int .i64 0, .bool false]) ∧ Below w.heap.size w w' := by
  have e1 : (H == 0) = false := by rw [beq_eq_false_iff_ne]; omega
  go_enter Tryz.func50, Tryz.ntmps50
  go_wp2_with fail
  go_ret2
  exact ⟨rfl, (Below.refl _ _).alloc (Nat.le_refl _) _⟩
theorem small_low (L : Int) (w : World) (h1 : 9223372036854775808 < L) :
    Calls Tryz.prog 50 #[.agg #[.bool true, .int .u64 0, .int .u64 L]] w fun e w' => e = .returned (.tuple #[.int .i64 0, .bool false]) ∧ Below w.heap.size w w' := by
  go_enter Tryz.func50, Tryz.ntmps50
  go_wp2_with fail
  go_ret2
  exact ⟨rfl, (Below.refl _ _).alloc (Nat.le_refl _) _⟩
theorem small_high (L : Int) (w : World) (h1 : 9223372036854775808 ≤ L) :
    Calls Tryz.prog 50 #[.agg #[.bool false, .int .u64 0, .int .u64 L]] w fun e w' => e = .returned (.tuple #[.int .i64 0, .bool false]) ∧ Below w.heap.size w w' := by
  go_enter Tryz.func50, Tryz.ntmps50
  go_wp2_with fail
  go_ret2
  exact ⟨rfl, (Below.refl _ _).alloc (Nat.le_refl _) _⟩
/-- Small, where the number is an int64. -/
theorem small_ok (s : Bool) (h l : Nat) (z : Int) (w : World) (hl : l < B64) (hz : val s (nat2 h l) = z) (h1 : -9223372036854775808 ≤ z) (h2 : z ≤ 9223372036854775807) :
    Calls Tryz.prog 50 #[WV s h l] w fun e w' => e = .returned (.tuple #[.int .i64 z, .bool true]) ∧ Below w.heap.size w w' := by
  have e : h = 0 := by
    subst hz
    unfold nat2 B64 at *
    cases s <;> simp [val] at h1 h2 <;> omega
  subst e
  have e2 : nat2 0 l = l := by unfold nat2; omega
  rw [e2] at hz
  subst hz
  cases s
  · exact small_pos l w (by omega) (by simp [val] at h2; omega)
  · exact small_neg l w (by omega) (by simp [val] at h1; omega)
/-- .. and where it is none. -/
theorem small_no (s : Bool) (h l : Nat) (z : Int) (w : World) (hl : l < B64) (hz : val s (nat2 h l) = z) (hn : ¬ (-9223372036854775808 ≤ z ∧ z ≤ 9223372036854775807)) :
    Calls Tryz.prog 50 #[WV s h l] w fun e w' => e = .returned (.tuple #[.int .i64 0, .bool false]) ∧ Below w.heap.size w w' := by
  by_cases e : h = 0
  · subst e
    have e2 : nat2 0 l = l := by unfold nat2; omega
    rw [e2] at hz
    subst hz
    cases s
    · exact small_high l w (by simp [val] at hn; omega)
    · exact small_low l w (by simp [val] at hn; omega)
  · exact small_far s h l w (by omega) (by omega)

end Go.Proofs.YtmccmgplgdmjbaaGreatDoor
