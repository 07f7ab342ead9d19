/- Package wide's answers by their parts, beside the document's: quotients, Even, Floor, Ten. Package wide's answers by their parts: Mul, Of, Neg, Cmp. -/
import Derived.Test.YtmccmgplgdmjbaaDoorRef11
import Derived.Test.YtmccmgplgdmjbaaDoorBackMath
namespace Go.Proofs.YtmccmgplgdmjbaaDoor
open Go.RowKit Corr
set_option linter.unusedVariables false
theorem div_w (s b1 : Bool) (h l d r h1 l1 : Nat) (z : Int) (w : World) (hh : h < B64) (hl : l < B64) (hd : d < B64) (h0 : 0 < d) (hz : val s (quoN (nat2 h l) d) = z) (hr : remN (nat2 h l) d = r) (e1 : negB z = b1) (e2 : hiW z.natAbs = h1) (e3 : loW z.natAbs = l1) :
    Calls Tryd.prog 60 #[WV s h l, .int .u64 d] w fun e w' => e = .returned (.tuple #[WV b1 h1 l1, .int .u64 r, .int .i64 0]) ∧ Below w.heap.size w w' := by
  subst e1 e2 e3; exact div_z s h l d r z w hh hl hd h0 hz hr
end Go.Proofs.YtmccmgplgdmjbaaDoor
namespace Go.Proofs.YtmccmgplgdmjbaaDoor
open Go.RowKit Corr
set_option linter.unusedVariables false
theorem of_w (b : Bool) (h l : Nat) (x : Int) (w : World) (a1 : -9223372036854775808 ≤ x) (a2 : x ≤ 9223372036854775807) (e1 : negB x = b) (e2 : hiW x.natAbs = h) (e3 : loW x.natAbs = l) :
    Calls Tryd.prog 42 #[.int .i64 x] w fun e w' => e = .returned (.agg #[.bool b, .int .u64 (h : Int), .int .u64 (l : Int)]) ∧ Below w.heap.size w w' := by
  subst e1 e2 e3; exact of_any x w a1 a2
theorem abs128 {a : Int} (a1 : -9223372036854775808 ≤ a) (a2 : a ≤ 9223372036854775807) : a.natAbs < B128 :=
  Nat.lt_of_le_of_lt (show a.natAbs ≤ 9223372036854775808 by omega) (by decide)
end Go.Proofs.YtmccmgplgdmjbaaDoor
