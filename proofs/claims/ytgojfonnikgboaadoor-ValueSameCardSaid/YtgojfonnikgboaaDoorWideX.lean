/- Contracts of package wide: Small, Ten; the statements' own 'known'. Contracts of package wide in whole numbers, and the arithmetic that WideBack rests on. Contracts of package wide: Ten; the roundings where the divisor is 0. Package wide's answers by their parts, beside the document's: quotients, Even, Floor, Ten. Package wide's answers by their parts: Mul, Of, Neg, Cmp. -/
import Derived.Test.YtgojfonnikgboaaDoorWide6
import Derived.Test.YtgojfonnikgboaaDoorRef11
namespace Go.Proofs.YtgojfonnikgboaaDoor
set_option maxRecDepth 8000
open Go.RowKit Corr
set_option linter.unusedVariables false

theorem neg_conv (L : Int) (h0 : 0 ≤ L) (h1 : L ≤ 9223372036854775808) : wrap64 (IntKind.u64.wrap (-L)) = -L := by
  unfold wrap64; rw [IntKind.wrap_u64]; omega
theorem small_neg (L : Int) (w : World) (h0 : 0 ≤ L) (h1 : L ≤ 9223372036854775808) :
    Calls Tryd.prog 32 #[.agg #[.bool true, .int .u64 0, .int .u64 L]] w fun e w' => e = .returned (.tuple #[.int .i64 (-L), .bool true]) ∧ Below w.heap.size w w' := by
  go_enter Tryd.func32, Tryd.ntmps32
  go_wp2_with fail
  go_ret2
  exact ⟨ret_intbool (neg_conv L h0 h1) rfl, (Below.refl _ _).alloc (Nat.le_refl _) _⟩
theorem small_pos (L : Int) (w : World) (h0 : 0 ≤ L) (h1 : L < 9223372036854775808) :
    Calls Tryd.prog 32 #[.agg #[.bool false, .int .u64 0, .int .u64 L]] w fun e w' => e = .returned (.tuple #[.int .i64 L, .bool true]) ∧ Below w.heap.size w w' := by
  go_enter Tryd.func32, Tryd.ntmps32
  go_wp2_with fail
  go_ret2
  exact ⟨rfl, (Below.refl _ _).alloc (Nat.le_refl _) _⟩
theorem small_far (s : Bool) (H L : Int) (w : World) (h0 : 1 ≤ H) (h1 : 0 ≤ L) :
    Calls Tryd.prog 32 #[.agg #[.bool s, .int .u64 H, .int .u64 L]] w fun e w' => e = .returned (.tuple #[.int .i64 0, .bool false]) ∧ Below w.heap.size w w' := by
  have e1 : (H == 0) = false := by rw [beq_eq_false_iff_ne]; omega
  go_enter Tryd.func32, Tryd.ntmps32
  go_wp2_with fail
  go_ret2
  exact ⟨rfl, (Below.refl _ _).alloc (Nat.le_refl _) _⟩
theorem small_low (L : Int) (w : World) (h1 : 9223372036854775808 < L) :
    Calls Tryd.prog 32 #[.agg #[.bool true, .int .u64 0, .int .u64 L]] w fun e w' => e = .returned (.tuple #[.int .i64 0, .bool false]) ∧ Below w.heap.size w w' := by
  go_enter Tryd.func32, Tryd.ntmps32
  go_wp2_with fail
  go_ret2
  exact ⟨rfl, (Below.refl _ _).alloc (Nat.le_refl _) _⟩
theorem small_high (L : Int) (w : World) (h1 : 9223372036854775808 ≤ L) :
    Calls Tryd.prog 32 #[.agg #[.bool false, .int .u64 0, .int .u64 L]] w fun e w' => e = .returned (.tuple #[.int .i64 0, .bool false]) ∧ Below w.heap.size w w' := by
  go_enter Tryd.func32, Tryd.ntmps32
  go_wp2_with fail
  go_ret2
  exact ⟨rfl, (Below.refl _ _).alloc (Nat.le_refl _) _⟩
/-- Small, where the number is an int64. -/
theorem small_ok (s : Bool) (h l : Nat) (z : Int) (w : World) (hl : l < B64) (hz : val s (nat2 h l) = z) (h1 : -9223372036854775808 ≤ z) (h2 : z ≤ 9223372036854775807) :
    Calls Tryd.prog 32 #[WV s h l] w fun e w' => e = .returned (.tuple #[.int .i64 z, .bool true]) ∧ Below w.heap.size w w' := by
  have e : h = 0 := by
    subst hz
    unfold nat2 B64 at *
    cases s <;> simp [val] at h1 h2 <;> omega
  subst e
  have e2 : nat2 0 l = l := by unfold nat2; omega
  rw [e2] at hz
  subst hz
  cases s
  · exact small_pos l w (by omega) (by simp [val] at h2; omega)
  · exact small_neg l w (by omega) (by simp [val] at h1; omega)
/-- .. and where it is none. -/
theorem small_no (s : Bool) (h l : Nat) (z : Int) (w : World) (hl : l < B64) (hz : val s (nat2 h l) = z) (hn : ¬ (-9223372036854775808 ≤ z ∧ z ≤ 9223372036854775807)) :
    Calls Tryd.prog 32 #[WV s h l] w fun e w' => e = .returned (.tuple #[.int .i64 0, .bool false]) ∧ Below w.heap.size w w' := by
  by_cases e : h = 0
  · subst e
    have e2 : nat2 0 l = l := by unfold nat2; omega
    rw [e2] at hz
    subst hz
    cases s
    · exact small_high l w (by simp [val] at hn; omega)
    · exact small_low l w (by simp [val] at hn; omega)
  · exact small_far s h l w (by omega) (by omega)

end Go.Proofs.YtgojfonnikgboaaDoor
namespace Go.Proofs.YtgojfonnikgboaaDoor
set_option maxRecDepth 8000
open Go.RowKit Corr
set_option linter.unusedVariables false

theorem div_z (s : Bool) (h l d r : Nat) (z : Int) (w : World) (hh : h < B64) (hl : l < B64) (hd : d < B64) (h0 : 0 < d) (hz : val s (quoN (nat2 h l) d) = z) (hr : remN (nat2 h l) d = r) :
    Calls Tryd.prog 31 #[WV s h l, .int .u64 d] w fun e w' => e = .returned (.tuple #[ZW z, .int .u64 r, .int .i64 0]) ∧ Below w.heap.size w w' := by
  have h := div_ok s h l d w hh hl hd h0
  rw [← ZW_ZV, hz, hr] at h
  exact h
end Go.Proofs.YtgojfonnikgboaaDoor
namespace Go.Proofs.YtgojfonnikgboaaDoor
set_option maxRecDepth 8000
open Go.RowKit Corr
set_option linter.unusedVariables false

end Go.Proofs.YtgojfonnikgboaaDoor
namespace Go.Proofs.YtgojfonnikgboaaDoor
set_option maxRecDepth 8000
open Go.RowKit Corr
set_option linter.unusedVariables false
theorem div_w (s b1 : Bool) (h l d r h1 l1 : Nat) (z : Int) (w : World) (hh : h < B64) (hl : l < B64) (hd : d < B64) (h0 : 0 < d) (hz : val s (quoN (nat2 h l) d) = z) (hr : remN (nat2 h l) d = r) (e1 : negB z = b1) (e2 : hiW z.natAbs = h1) (e3 : loW z.natAbs = l1) :
    Calls Tryd.prog 31 #[WV s h l, .int .u64 d] w fun e w' => e = .returned (.tuple #[WV b1 h1 l1, .int .u64 r, .int .i64 0]) ∧ Below w.heap.size w w' := by
  subst e1 e2 e3; exact div_z s h l d r z w hh hl hd h0 hz hr
end Go.Proofs.YtgojfonnikgboaaDoor
namespace Go.Proofs.YtgojfonnikgboaaDoor
set_option maxRecDepth 8000
open Go.RowKit Corr
set_option linter.unusedVariables false
theorem of_w (b : Bool) (h l : Nat) (x : Int) (w : World) (a1 : -9223372036854775808 ≤ x) (a2 : x ≤ 9223372036854775807) (e1 : negB x = b) (e2 : hiW x.natAbs = h) (e3 : loW x.natAbs = l) :
    Calls Tryd.prog 20 #[.int .i64 x] w fun e w' => e = .returned (.agg #[.bool b, .int .u64 (h : Int), .int .u64 (l : Int)]) ∧ Below w.heap.size w w' := by
  subst e1 e2 e3; exact of_any x w a1 a2
theorem abs128 {a : Int} (a1 : -9223372036854775808 ≤ a) (a2 : a ≤ 9223372036854775807) : a.natAbs < B128 :=
  Nat.lt_of_le_of_lt (show a.natAbs ≤ 9223372036854775808 by omega) (by decide)
end Go.Proofs.YtgojfonnikgboaaDoor
