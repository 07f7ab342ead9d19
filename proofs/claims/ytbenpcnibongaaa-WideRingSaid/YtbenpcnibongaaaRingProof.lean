/- Proved: corrodylaw01.WideRing answers true at every two Wides x, y, every two int64 a, b and every uint64 n, and leaves them as they were. Conditions: none beside the row's own. -/
import Derived.Test.YtbenpcnibongaaaFrameRing
import Derived.Test.YtbenpcnibongaaaRing
namespace Go.Proofs.Ytbenpcnibongaaa
open Corr
theorem wideRing_holds : Rows.WideRingSaid := ring_row fun s s' h l h' l' n a b w h1 h2 h3 h4 h5 h6 h7 h8 h9 => ring_walk s s' h l h' l' n a b w h1 h2 h3 h4 h5 h6 h7 h8 h9
#print axioms wideRing_holds
end Go.Proofs.Ytbenpcnibongaaa
