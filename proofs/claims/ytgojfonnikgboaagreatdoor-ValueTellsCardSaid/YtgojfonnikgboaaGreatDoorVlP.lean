/- Package value does what its laws ask of it. -/
import Derived.Test.YtgojfonnikgboaaGreatDoorVlP4
namespace Go.Proofs.YtgojfonnikgboaaGreatDoor
open Go.RowKit Corr
set_option linter.unusedVariables false
theorem vlK : VlK GV where
  keep _ _ g hb := g.keep hb
  may K C S E w _ h1 h2 := may_any K C S E w h1 h2
  text K C S E w _ h1 h2 := vtext_code K C S E w h1 h2
  parse s w g hs := vparse_code s w g hs
  num C S w _ h1 h2 hS := num_some C S w h1 h2 hS
  none C S w _ _ _ h := num_none C S w h
  truth b w _ := truth_any b w
  bad n w _ := bad_any n w
end Go.Proofs.YtgojfonnikgboaaGreatDoor
