/- The document's bytes with their check behind. -/
import Derived.Test.YtlncdokeecmnjaaCopyR
import Derived.Test.YtlncdokeecmnjaaCrcRef
import Derived.Test.YtlncdokeecmnjaaSealSpec
set_option maxRecDepth 4000
namespace Go.Proofs.Ytlncdokeecmnjaa
open Go Go.RowKit
attribute [local go_sem] lowb_hd lowb8_hd
end Go.Proofs.Ytlncdokeecmnjaa
