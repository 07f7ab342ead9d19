/- The law ItreeNone. -/
import Derived.Test.YtolmkagedlcjiaaItK
import Derived.Test.YtolmkagedlcjiaaRowRel
namespace Go.Proofs.Ytolmkagedlcjiaa
open Go.RowKit Corr
set_option linter.unusedVariables false
set_option linter.unusedSimpArgs false
/-- What package itree does with a tree that is not there, or was not made. -/
structure ItN (NilT : World → Value → Prop) : Prop where
  keep : ∀ {w w' p}, NilT w p → Below w.heap.size w w' → NilT w' p
  nil : ∀ w : World, NilT w (.pointer none)
  zero : ∀ w : World, NilT (w.alloc (.cells #[.pointer none] 50)) (.pointer (some ⟨w.heap.size, 0, none⟩))
  first : ∀ (w : World) (p : Value) (day : Int), NilT w p → Calls Try.prog 9 #[p, .int .i64 day] w fun e w' => e = .returned (.tuple #[.agg #[.int .i64 0, .int .i64 0, .int .i64 0], .bool false]) ∧ Below w.heap.size w w'
  last : ∀ (w : World) (p : Value) (day : Int), NilT w p → Calls Try.prog 10 #[p, .int .i64 day] w fun e w' => e = .returned (.tuple #[.agg #[.int .i64 0, .int .i64 0, .int .i64 0], .bool false]) ∧ Below w.heap.size w w'
  stab : ∀ (w : World) (p : Value) (day : Int), NilT w p → Calls Try.prog 14 #[p, .int .i64 day] w (RetItm 30 w [])
  over : ∀ (w : World) (p : Value) (a b : Int), NilT w p → Calls Try.prog 16 #[p, .agg #[.int .i64 a, .int .i64 b]] w (RetItm 30 w [])
end Go.Proofs.Ytolmkagedlcjiaa
