/- Merged: Str. -/
import Derived.Laws.BytesArg
import Derived.Laws.IdiomStrings
import Derived.Laws.Concat
import Derived.Laws.Strings3
import Derived.Shelf.Bytes.SlSmallAll
import Derived.Test.YtcdcongeogmfkaaMGen0
/- Texts: a byte of one, a part of one, two joined, compared, turned into bytes, copied. No function of the program is named here. -/
set_option maxRecDepth 4000
namespace Go.Proofs.Ytcdcongeogmfkaa
open Go Go.RowKit
def strB (q : List (BitVec 8)) : ByteArray := strOfNums (q.map bd)
/- a slice of texts -/
def Strs (w : World) (v : Value) (l : List (List (BitVec 8))) : Prop :=
  ∃ A c, v = .slice A l.length c ∧ l.length ≤ c ∧ (A = none → c = 0) ∧ (∀ q ∈ l, q.length ≤ maxLen) ∧ (l ≠ [] → ∃ b o, A = some ⟨b, o, none⟩ ∧ b < w.heap.size ∧ ∀ k q, l[k]? = some q → w.cell? ⟨b, o + k, none⟩ = some (.string (strB q)))
theorem Strs.below {w w' : World} {B : Nat} {v : Value} {l : List (List (BitVec 8))} (h : Strs w v l) (hb : Below B w w') (hB : w.heap.size ≤ B) : Strs w' v l := by
  obtain ⟨A, c, h1, h2, hn, hm, h3⟩ := h
  refine ⟨A, c, h1, h2, hn, hm, fun hne => ?_⟩
  obtain ⟨b, o, h4, h5, h6⟩ := h3 hne
  exact ⟨b, o, h4, Nat.lt_of_lt_of_le h5 hb.size, fun k q hx => (hb.cell (p := ⟨b, o + k, none⟩) (Nat.lt_of_lt_of_le h5 hB)).trans (h6 k q hx)⟩
end Go.Proofs.Ytcdcongeogmfkaa
