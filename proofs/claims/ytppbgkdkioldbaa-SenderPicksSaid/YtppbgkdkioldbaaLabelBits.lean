/- Puts as they lie in memory; the document's bits of puts. -/
import Derived.Test.YtppbgkdkioldbaaLabelRefE
import Derived.Test.YtppbgkdkioldbaaPuts
set_option maxRecDepth 4000
namespace Go.Proofs.Ytppbgkdkioldbaa
open Go Go.RowKit
def bit1 (i : Int) : BitVec 16 := if 0 ≤ i ∧ i < 12 then 1#16 <<< i.toNat else 0#16
def bitsOf (l : List Int) : BitVec 16 := l.foldl (fun v i => v ||| bit1 i) 0#16
theorem bitsOf_take (l : List Int) (k : Nat) (hk : k < l.length) : bitsOf (l.take (k + 1)) = bitsOf (l.take k) ||| bit1 l[k] := by
  unfold bitsOf
  rw [List.take_succ_eq_append_getElem hk, List.foldl_append]; rfl
theorem bit1_eq (i : Int) (h0 : 0 ≤ i) (h1 : i < 12) : IntKind.u16.wrap (2 ^ i.toNat) = hd (bit1 i) := by
  obtain ⟨n, rfl⟩ := Int.eq_ofNat_of_zero_le h0
  have hn : n < 12 := by omega
  have key : ∀ n : Nat, n < 12 → IntKind.u16.wrap ((2 : Int) ^ n) = hd (bit1 (n : Int)) := by decide +kernel
  exact key n hn
attribute [local go_sem] or_hd
end Go.Proofs.Ytppbgkdkioldbaa
