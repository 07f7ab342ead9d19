/- Contracts of corrodyref01: Ten. -/
import Derived.Test.YtmccmgplgdmjbaaDoorRef7
import Derived.Deep.RegionWith
namespace Go.Proofs.YtmccmgplgdmjbaaDoor
open Go.RowKit Corr
set_option linter.unusedVariables false

theorem word_ten (w : World) : Calls Tryd.prog 15 #[.int .u64 10] w (RetN w false (digs 10)) := word_any 10 w (by decide)
end Go.Proofs.YtmccmgplgdmjbaaDoor
