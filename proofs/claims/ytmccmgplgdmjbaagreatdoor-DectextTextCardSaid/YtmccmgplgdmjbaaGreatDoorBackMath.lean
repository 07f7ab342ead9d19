/- Contracts of package wide in whole numbers, and the arithmetic that WideBack rests on. -/
import Derived.Test.YtmccmgplgdmjbaaGreatDoorSmall
namespace Go.Proofs.YtmccmgplgdmjbaaGreatDoor
open Go.RowKit Corr
set_option linter.unusedVariables false

theorem div_z (s : Bool) (h l d r : Nat) (z : Int) (w : World) (hh : h < B64) (hl : l < B64) (hd : d < B64) (h0 : 0 < d) (hz : val s (quoN (nat2 h l) d) = z) (hr : remN (nat2 h l) d = r) :
    Calls Tryz.prog 49 #[WV s h l, .int .u64 d] w fun e w' => e = .returned (.tuple #[ZW z, .int .u64 r, .int .i64 0]) ∧ Below w.heap.size w w' := by
  have h := div_ok s h l d w hh hl hd h0
  rw [← ZW_ZV, hz, hr] at h
  exact h
end Go.Proofs.YtmccmgplgdmjbaaGreatDoor
