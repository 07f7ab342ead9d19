/- Proved: corrodylaw01.WideBack answers true at every two Wides x, y and every uint64 d, and leaves them as they were. Conditions: none beside the row's own. -/
import Derived.Test.YtbenpcnibongaaaFrameBack
import Derived.Test.YtbenpcnibongaaaBack
namespace Go.Proofs.Ytbenpcnibongaaa
theorem wideBack_holds : Rows.WideBackSaid := back_row fun s s' h l h' l' d w a b c e f => back_walk s s' h l h' l' d w a b c e f
#print axioms wideBack_holds
end Go.Proofs.Ytbenpcnibongaaa
