/- Contracts of corrodyref02: Made. (Written by wip/gen/gendec2.py.) -/
import Derived.Test.YtfceoehfellpgaaGreatDoorRowRel
import Derived.Test.YtfceoehfellpgaaGreatDoorNat
import Derived.Test.YtfceoehfellpgaaGreatDoorDecMath
import Derived.Test.YtfceoehfellpgaaGreatDoorRef17
namespace Go.Proofs.YtfceoehfellpgaaGreatDoor
open Go.RowKit Corr
set_option linter.unusedVariables false
theorem nsmall_in (b : Bool) (A : Option Addr) (n c : Nat) (z : Int) (w : World) (hx : Row w A n c (digs z.natAbs)) (hn : n ≤ 1000) (hb : negB z = b) (hf : -9223372036854775808 ≤ z ∧ z ≤ 9223372036854775807) :
    Calls Tryz.prog 29 #[.agg #[.bool b, .slice A n c]] w fun e w' => e = .returned (.tuple #[.int .i64 z, .bool true]) ∧ Below w.heap.size w w' := by
  have hv := val_neg z
  rw [hb] at hv
  cases b with
  | false => exact nsmall_pos A n c z.natAbs z w hx hn hv hf.2
  | true => exact nsmall_neg A n c z.natAbs z w hx hn hv hf.1
theorem nsmall_out (b : Bool) (A : Option Addr) (n c : Nat) (z : Int) (w : World) (hx : Row w A n c (digs z.natAbs)) (hn : n ≤ 1000) (hb : negB z = b) (hf : ¬ (-9223372036854775808 ≤ z ∧ z ≤ 9223372036854775807)) :
    Calls Tryz.prog 29 #[.agg #[.bool b, .slice A n c]] w fun e w' => e = .returned (.tuple #[.int .i64 0, .bool false]) ∧ Below w.heap.size w w' := by
  have hv := val_neg z
  rw [hb] at hv
  rcases Int.lt_or_le z (-9223372036854775808) with h2 | h2
  · exact nsmall_low b A n c z.natAbs z w hx hn hv h2
  · exact nsmall_high b A n c z.natAbs z w hx hn hv (by omega)

end Go.Proofs.YtfceoehfellpgaaGreatDoor
