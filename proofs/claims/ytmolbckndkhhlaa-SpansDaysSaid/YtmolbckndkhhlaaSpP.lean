/- What the laws of package spans ask of it: proved of the code. -/
import Derived.Test.YtmolbckndkhhlaaSpP2
import Derived.Test.YtmolbckndkhhlaaSpP3
import Derived.Test.YtmolbckndkhhlaaSpMay
import Derived.Test.YtmolbckndkhhlaaSpWide
import Derived.Test.YtmolbckndkhhlaaSpSort
import Derived.Test.YtmolbckndkhhlaaSpHas
namespace Go.Proofs.Ytmolbckndkhhlaa
open Go.RowKit Corr
theorem spK : SpK where
  may := fun A n c a w R h => pmay_any A n c a w R h
  of := fun A n c a w R h => (of_max sort_any A n c a w R (by have := R.count; omega)).mono fun _ _ h => RetSp.of h
  union := fun A B n c m d a b w Sa Sb h1 h2 => union_any sort_any A B n c m d a b w Sa Sb h1 h2
  meet := fun A B n c m d a b w Sa Sb h1 h2 => meet_any sort_any A B n c m d a b w Sa Sb h1 h2
  less := fun A B n c m d a b w Sa Sb h1 h2 => less_any sort_any A B n c m d a b w Sa Sb h1 h2
  wide := fun A n c a k w R h => pwide_any sort_any A n c a k w R h
  has := fun A n c a d w R h => phas_any A n c a d w R h
  days := fun A n c a w R h => pdays_any sort_any A n c a w R h
  all := fun w => all_any w
end Go.Proofs.Ytmolbckndkhhlaa
