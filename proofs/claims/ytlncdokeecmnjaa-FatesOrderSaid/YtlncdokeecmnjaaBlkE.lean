/- Two sectors compared. -/
import Derived.Test.YtlncdokeecmnjaaBlk
import Derived.Test.YtlncdokeecmnjaaEqI
set_option maxRecDepth 4000
namespace Go.Proofs.Ytlncdokeecmnjaa
open Go Go.RowKit
end Go.Proofs.Ytlncdokeecmnjaa
