/- Frames: how arguments are read and left. -/
import Derived.Test.YtonfjjmgjgmanaaGreatRows
import Derived.Test.YtonfjjmgjgmanaaGreatBase
import Derived.WalkKit
import Derived.ProofKit
import Derived.OpenShut
import Derived.ShutString
import Derived.ChangeOld
import Derived.Below
import Derived.Lib.SmallJoins
namespace Go.Proofs.YtonfjjmgjgmanaaGreat
open Go.ChangeShapes Go.WideShapes Go.ChangeAt Go.RowKit Go.Joins Corr
set_option linter.unusedVariables false

theorem own : ownKnob Tryz.prog.godebug = none := by kernel_rfl
end Go.Proofs.YtonfjjmgjgmanaaGreat
