/- What stands in a pad. -/
import Derived.Test.YtnfceejmkcohnaaDoorBy
import Derived.Test.YtnfceejmkcohnaaDoorKeep
namespace Go.Proofs.YtnfceejmkcohnaaDoor
open Go Go.RowKit
/- what stands in a pad -/
theorem lows_get (X : Int) (k i : Nat) (hi : i < k) : (lows X k)[i]? = some (lenByte X (k - 1 - i)) := by
  induction k generalizing i with
  | zero => omega
  | succ k ih =>
    cases i with
    | zero => simp [lows]
    | succ i => rw [lows, List.getElem?_cons_succ, ih i (by omega)]; congr 2; omega
theorem pad_first (n : Nat) : (pad n)[0]? = some 0x80#8 := rfl
theorem pad_mid (n i : Nat) (h0 : 1 ≤ i) (h1 : i < padSize n - 8) : (pad n)[i]? = some 0#8 := by
  have hz := padSize_lo n
  obtain ⟨j, rfl⟩ : ∃ j, i = j + 1 := ⟨i - 1, by omega⟩
  rw [pad, padTo, List.getElem?_cons_succ, List.getElem?_append_left (by simp [zer]; omega), zer, List.getElem?_replicate, if_pos (by omega)]
  rfl
theorem pad_last (n i : Nat) (hi : i < 8) : (pad n)[padSize n - 8 + i]? = some (lenByte (bitLen n) (7 - i)) := by
  have hz := padSize_lo n
  rw [pad, padTo, show padSize n - 8 + i = (padSize n - 9 + i) + 1 by omega, List.getElem?_cons_succ, List.getElem?_append_right (by simp [zer])]
  rw [show padSize n - 9 + i - (zer (padSize n - 9)).length = i by simp [zer], show zer (8 - 8) = [] from rfl, List.nil_append, lows_get _ _ _ hi]
theorem lenByte_val (X : Int) (k : Nat) : bd (lenByte X k) = X / 2 ^ (8 * k) % 256 := by rw [lenByte, ← wrap_u8_bd, IntKind.wrap_u8']
theorem pad_mod (n : Nat) : pad (n % 2305843009213693952) = pad n ∧ padSize (n % 2305843009213693952) = padSize n := by
  have h1 : padSize (n % 2305843009213693952) = padSize n := by unfold padSize; rw [show n % 2305843009213693952 % 64 = n % 64 by omega]
  have h2 : bitLen (n % 2305843009213693952) = bitLen n := by unfold bitLen; omega
  exact ⟨by rw [pad, pad, h1, h2], h1⟩
/- the value of the k higher bytes of X -/
def hi8 (X : Int) (k : Nat) : Int := X / 2 ^ (8 * (8 - k))
theorem hi8_zero (X : Int) (h0 : 0 ≤ X) (h1 : X < 18446744073709551616) : hi8 X 0 = 0 := by
  unfold hi8; exact Int.ediv_eq_zero_of_lt h0 h1
theorem hi8_all (X : Int) : hi8 X 8 = X := by unfold hi8; simp
theorem hi8_succ (X : Int) (k : Nat) (hk : k < 8) : hi8 X k * 256 + bd (lenByte X (7 - k)) = hi8 X (k + 1) := by
  unfold hi8
  rw [lenByte_val, show 8 * (8 - k) = 8 * (8 - (k + 1)) + 8 by omega, show 8 * (7 - k) = 8 * (8 - (k + 1)) by omega, Int.pow_add, ← Int.ediv_ediv_of_nonneg (Int.pow_nonneg (by omega))]
  generalize X / 2 ^ (8 * (8 - (k + 1))) = Y
  omega
theorem hi8_lo (X : Int) (k : Nat) (h0 : 0 ≤ X) : 0 ≤ hi8 X k := Int.ediv_nonneg h0 (Int.pow_nonneg (by omega))
theorem hi8_le (X : Int) (k : Nat) (h0 : 0 ≤ X) : hi8 X k ≤ X := Int.ediv_le_self _ h0

theorem row_slice {w : World} {g c : Nat} {q : List (BitVec 8)} {t : TypeId} (hg : Row w g t (bs q)) (hc : q.length ≤ c) : Slice w (.slice (some ⟨g, 0, none⟩) q.length c) q := bytes_slice hg hc
theorem u64_id (n : Int) (h0 : 0 ≤ n) (h1 : n < 18446744073709551616) : IntKind.u64.wrap n = n := by rw [u64_wrap]; omega
end Go.Proofs.YtnfceejmkcohnaaDoor
