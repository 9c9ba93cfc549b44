/- 'impl.StoreAll'. -/
import Derived.Test.YtglllnklcnlcjaaStoreA
namespace Go.Proofs.Ytglllnklcnlcjaa
open Go.RowKit
set_option linter.unusedSimpArgs false
end Go.Proofs.Ytglllnklcnlcjaa
