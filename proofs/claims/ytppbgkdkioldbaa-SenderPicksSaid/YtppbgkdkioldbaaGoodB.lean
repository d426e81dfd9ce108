/- Which puts may be an op's, plainly. No function of the program is named here. -/
import Derived.KernelRfl
set_option maxRecDepth 4000
namespace Go.Proofs.Ytppbgkdkioldbaa
/- the k-th is of a block that there is, and none ahead of it is of the same -/
def okAt (l : List Int) (k : Nat) : Prop := 0 ≤ l.getD k 0 ∧ l.getD k 0 < 12 ∧ ∀ i < k, l.getD i 0 ≠ l.getD k 0
instance (l : List Int) (k : Nat) : Decidable (okAt l k) := by unfold okAt; infer_instance
def goodB (l : List Int) : Bool := decide (∀ k < l.length, okAt l k) && (decide (1 ≤ l.length) && decide (l.length ≤ 5))
end Go.Proofs.Ytppbgkdkioldbaa
