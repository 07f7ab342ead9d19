/- math/bits.Add64, Sub64 at this program; bits.Div64 at every input that it takes. -/
import Derived.Test.YtmccmgplgdmjbaaGreatDoorDiv64
import Derived.Test.YtmccmgplgdmjbaaGreatDoorWideMath
import Derived.Lib.SmallJoins
namespace Go.Proofs.YtmccmgplgdmjbaaGreatDoor
open Go.RowKit Go.Shelf Corr
set_option linter.unusedVariables false

theorem div64_any (hi lo y : Nat) (w : World) (hl : lo < B64) (hy : y < B64) (hlt : hi < y) :
    Calls Tryz.prog 72 #[.int .u64 hi, .int .u64 lo, .int .u64 y] w fun e w' => e = .returned (.tuple #[.int .u64 ((nat2 hi lo / y : Nat) : Int), .int .u64 ((nat2 hi lo % y : Nat) : Int)]) ∧ ∃ n, w' = w.drewN n := by
  by_cases h0 : hi = 0
  · subst h0
    rw [show nat2 0 lo = lo by unfold nat2; omega]
    exact div64_small lo y w hl hy hlt
  · have b1 : 1 ≤ Lib.bitLen y ∧ Lib.bitLen y ≤ 64 := by
      have hy' : y < 2 ^ 64 := hy
      obtain ⟨b1, _, _⟩ := Lib.bitLenAux_bounds 64 y hy' (by omega)
      exact ⟨b1, Lib.bitLen_le y 64 (by omega) hy'⟩
    exact (div64_big hi lo y (64 - Lib.bitLen y) w hl hy hlt (by omega) (by omega) (by omega)).mono fun e w' ⟨he, hw⟩ => ⟨he, 0, hw.symm⟩
end Go.Proofs.YtmccmgplgdmjbaaGreatDoor
