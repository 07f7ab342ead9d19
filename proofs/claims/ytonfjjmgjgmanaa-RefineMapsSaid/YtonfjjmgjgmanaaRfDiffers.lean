/- The law RefineDiffers. (Written by wip/gen/genrfd.py.) -/
import Derived.Test.YtonfjjmgjgmanaaRfKnown
import Derived.Test.YtonfjjmgjgmanaaRowRel
namespace Corr
open Go Go.RowKit
set_option linter.unusedVariables false
end Corr
namespace Go.Proofs.Ytonfjjmgjgmanaa
open Go.RowKit Corr
set_option linter.unusedVariables false
set_option linter.unusedSimpArgs false
theorem sep_moved {Rep : RepL} {w0 w : World} {ts : List Thing} {p : Value} {N i : Nat} {f : Int → Int} (K : RfK Rep) (S : Sep w0 ts w) (hi : ts[i]? = some (tlT K.toTlOk p N f)) (hN : N ≤ 149) (k : Int) (h1 : -9223372036854775808 ≤ k) (h2 : k ≤ 9223372036854775807) : Calls Try.prog 18 #[p, .int .i64 k] w fun e w' => ∃ q : Addr, e = .returned (.pointer (some q)) ∧ Sep w0 (ts ++ [tlT K.toTlOk (.pointer (some q)) (2 * N + 1) (mvF f k)]) w' := by
  obtain ⟨F, hp, _⟩ := S.get hi
  refine (K.moved w p F N f k hp hN h1 h2).mono fun e w' hq => ?_
  obtain ⟨q, F', he, hr, hb, hF⟩ := hq
  exact ⟨q, he, S.add hb (t := tlT K.toTlOk (.pointer (some q)) (2 * N + 1) (mvF f k)) hr hF⟩
end Go.Proofs.Ytonfjjmgjgmanaa
