/- math/bits.Add64, Sub64 at this program; bits.Div64 at every input that it takes. -/
import Derived.Test.YtgkogjlcecbfjaaDiv64
import Derived.Test.YtgkogjlcecbfjaaWideMath
import Derived.Shelf.Spec.BitsCarry
import Derived.Lib.SmallJoins
namespace Go.Proofs.Ytgkogjlcecbfjaa
open Go.RowKit Go.Shelf Corr
set_option linter.unusedVariables false

def renAdd : Ren := ⟨fun | 25 => 57 | n => n, fun | 22 => 22 | n => n, fun | n => n⟩
theorem laysAdd : Lays7.n25 Try.prog renAdd := { mixed := by kernel_rfl, f25 := Try.func57.trans (congrArg some (by kernel_rfl)), t22 := Try.underlying22, a22 := Try.isAgg22, z22 := Try.sizeOf22, v22 := Try.zeroValue22, i22 := by kernel_rfl }
def renSub : Ren := ⟨fun | 26 => 79 | n => n, fun | 22 => 22 | n => n, fun | n => n⟩
theorem laysSub : Lays7.n26 Try.prog renSub := { mixed := by kernel_rfl, f26 := Try.func79.trans (congrArg some (by kernel_rfl)), t22 := Try.underlying22, a22 := Try.isAgg22, z22 := Try.sizeOf22, v22 := Try.zeroValue22, i22 := by kernel_rfl }

theorem add64_run (x y c : Nat) (hc : c ≤ 1) (w : World) :
    (callFunc 57 #[.int .u64 (x : Int), .int .u64 (y : Int), .int .u64 (c : Int)]).run Try.prog w = .ok (.value (.tuple #[.int .u64 (loW (x + y + c)), .int .u64 (hiW (x + y + c))])) w :=
  Any7.bits_Add64 laysAdd x y c hc w
theorem add64_run0 (x y : Nat) (w : World) :
    (callFunc 57 #[.int .u64 (x : Int), .int .u64 (y : Int), .int .u64 0]).run Try.prog w = .ok (.value (.tuple #[.int .u64 (loW (x + y)), .int .u64 (hiW (x + y))])) w :=
  add64_run x y 0 (by omega) w
theorem sub64_run (x y b : Nat) (hb : b ≤ 1) (w : World) :
    (callFunc 79 #[.int .u64 (x : Int), .int .u64 (y : Int), .int .u64 (b : Int)]).run Try.prog w = .ok (.value (.tuple #[.int .u64 (subLo x y b), .int .u64 (subBo x y b)])) w :=
  Any7.bits_Sub64 laysSub x y b hb w
theorem sub64_run0 (x y : Nat) (w : World) :
    (callFunc 79 #[.int .u64 (x : Int), .int .u64 (y : Int), .int .u64 0]).run Try.prog w = .ok (.value (.tuple #[.int .u64 (subLo x y 0), .int .u64 (subBo x y 0)])) w :=
  sub64_run x y 0 (by omega) w

theorem div64_any (hi lo y : Nat) (w : World) (hl : lo < B64) (hy : y < B64) (hlt : hi < y) :
    Calls Try.prog 68 #[.int .u64 hi, .int .u64 lo, .int .u64 y] w fun e w' => e = .returned (.tuple #[.int .u64 ((nat2 hi lo / y : Nat) : Int), .int .u64 ((nat2 hi lo % y : Nat) : Int)]) ∧ ∃ n, w' = w.drewN n := by
  by_cases h0 : hi = 0
  · subst h0
    rw [show nat2 0 lo = lo by unfold nat2; omega]
    exact div64_small lo y w hl hy hlt
  · have b1 : 1 ≤ Lib.bitLen y ∧ Lib.bitLen y ≤ 64 := by
      have hy' : y < 2 ^ 64 := hy
      obtain ⟨b1, _, _⟩ := Lib.bitLenAux_bounds 64 y hy' (by omega)
      exact ⟨b1, Lib.bitLen_le y 64 (by omega) hy'⟩
    exact (div64_big hi lo y (64 - Lib.bitLen y) w hl hy hlt (by omega) (by omega) (by omega)).mono fun e w' ⟨he, hw⟩ => ⟨he, 0, hw.symm⟩
end Go.Proofs.Ytgkogjlcecbfjaa
