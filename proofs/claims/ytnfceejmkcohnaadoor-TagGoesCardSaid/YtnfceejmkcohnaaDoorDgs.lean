/- Slices of hashes in a region that is walked by what each operation yields. -/
import Derived.Test.YtnfceejmkcohnaaDoorDigs
import Derived.Test.YtnfceejmkcohnaaDoorDoes
namespace Go.Proofs.YtnfceejmkcohnaaDoor
open Go Go.RowKit
def dgs (ds : List (List (BitVec 8))) : Value → World → Prop := fun v w => Digs w v ds
theorem Keeps.digs {B : Nat} {w w' : World} {v : Value} {ds : List (List (BitVec 8))} (h : Keeps B w w') (hs : Digs w v ds) : Digs w' v ds := by
  obtain ⟨A, c, h1, h3⟩ := hs
  refine ⟨A, c, h1, fun hne => ?_⟩
  obtain ⟨b, o, h4, h5, h6⟩ := h3 hne
  exact ⟨b, o, h4, Nat.lt_of_lt_of_le h5 h.below.size, fun j d hd k v hv => h.cell (h6 j d hd k v hv)⟩
theorem dgs_stays (B : Nat) (ds : List (List (BitVec 8))) : Stays B (dgs ds) := fun _ _ _ h k => k.digs h
end Go.Proofs.YtnfceejmkcohnaaDoor
