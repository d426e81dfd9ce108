/- A hash's bytes, the pad, a message's hash, as plain functions on lists of bit vectors. -/
import Derived.Test.YtnfceejmkcohnaaDoorSpec
namespace Go.Proofs.YtnfceejmkcohnaaDoor

/- a word's four bytes, the higher first; a hash's bytes -/
def four (x : BitVec 32) : List (BitVec 8) := [(x >>> 24).setWidth 8, (x >>> 16).setWidth 8, (x >>> 8).setWidth 8, x.setWidth 8]
def dig (h : List (BitVec 32)) : List (BitVec 8) := h.flatMap four
def zer (n : Nat) : List (BitVec 8) := List.replicate n 0
theorem length_dig (h : List (BitVec 32)) : (dig h).length = 4 * h.length := by
  induction h with
  | nil => rfl
  | cons x r ih => simp [dig, four] at ih ⊢; omega
def digTo (h : List (BitVec 32)) (k : Nat) : List (BitVec 8) := dig (h.take k) ++ zer (32 - 4 * k)
theorem digTo_zero (h : List (BitVec 32)) : digTo h 0 = zer 32 := by simp [digTo, dig]
theorem digTo_all (h : List (BitVec 32)) (hl : h.length = 8) : digTo h 8 = dig h := by
  simp [digTo, zer, List.take_of_length_le (show h.length ≤ 8 by omega)]
theorem length_digTo (h : List (BitVec 32)) (k : Nat) (hl : h.length = 8) (hk : k ≤ 8) : (digTo h k).length = 32 := by
  simp [digTo, length_dig, zer, hl]; omega
theorem digTo_set (h : List (BitVec 32)) (k : Nat) (hl : h.length = 8) (hk : k < 8) :
    ((((digTo h k).set (4 * k) ((h.getD k 0 >>> 24).setWidth 8)).set (4 * k + 1) ((h.getD k 0 >>> 16).setWidth 8)).set (4 * k + 2) ((h.getD k 0 >>> 8).setWidth 8)).set (4 * k + 3) ((h.getD k 0).setWidth 8) = digTo h (k + 1) := by
  have h1 : (dig (h.take k)).length = 4 * k := by rw [length_dig]; simp [hl]; omega
  have hz : zer (32 - 4 * k) = 0 :: 0 :: 0 :: 0 :: zer (32 - 4 * (k + 1)) := by
    rw [show 32 - 4 * k = (32 - 4 * (k + 1)) + 4 by omega]; simp [zer, List.replicate_succ]
  have ht : dig (h.take (k + 1)) = dig (h.take k) ++ four (h.getD k 0) := by
    have e : h.getD k 0 = h[k]'(by omega) := by simp [List.getElem?_eq_getElem (show k < h.length by omega)]
    rw [List.take_succ_eq_append_getElem (by omega), e]; unfold dig; rw [List.flatMap_append]; simp only [List.flatMap_cons, List.flatMap_nil, List.append_nil]
  unfold digTo
  rw [hz, ht]
  generalize dig (h.take k) = L at *
  generalize h.getD k 0 = x
  subst_vars
  rw [← h1]
  simp [four]

/- the pad behind a message of n bytes: 80, bytes 00, the length in bits in eight bytes, the higher first -/
def padSize (n : Nat) : Nat := if 64 - n % 64 < 9 then 64 - n % 64 + 64 else 64 - n % 64
def lenByte (X : Int) (k : Nat) : BitVec 8 := BitVec.ofInt 8 (X / 2 ^ (8 * k))
def lows (X : Int) : Nat → List (BitVec 8)
  | 0 => []
  | k + 1 => lenByte X k :: lows X k
def padTo (z : Nat) (X : Int) (k : Nat) : List (BitVec 8) := 0x80#8 :: (zer (z - 9) ++ (zer (8 - k) ++ lows X k))
def bitLen (n : Nat) : Int := ((n * 8 % 18446744073709551616 : Nat) : Int)
def pad (n : Nat) : List (BitVec 8) := padTo (padSize n) (bitLen n) 8
theorem padSize_lo (n : Nat) : 9 ≤ padSize n := by unfold padSize; split <;> omega
theorem padSize_hi (n : Nat) : padSize n ≤ 72 := by unfold padSize; split <;> omega
theorem padSize_whole (n : Nat) : (n + padSize n) % 64 = 0 := by unfold padSize; split <;> omega
theorem length_lows (X : Int) (k : Nat) : (lows X k).length = k := by
  induction k with
  | zero => rfl
  | succ k ih => simp [lows, ih]
theorem length_padTo (z : Nat) (X : Int) (k : Nat) (hz : 9 ≤ z) (hk : k ≤ 8) : (padTo z X k).length = z := by
  simp [padTo, zer, length_lows]; omega
theorem length_pad (n : Nat) : (pad n).length = padSize n := length_padTo _ _ _ (padSize_lo n) (Nat.le_refl _)
theorem padTo_zero (z : Nat) (X : Int) (hz : 9 ≤ z) : (zer z).set 0 0x80#8 = padTo z X 0 := by
  obtain ⟨m, rfl⟩ : ∃ m, z = m + 9 := ⟨z - 9, by omega⟩
  simp only [padTo, zer, lows, List.append_nil, Nat.add_sub_cancel, List.replicate_append_replicate, Nat.sub_zero]
  rw [show m + 9 = (m + 8) + 1 by omega, List.replicate_succ, List.set_cons_zero]
theorem padTo_set (z : Nat) (X : Int) (k : Nat) (hz : 9 ≤ z) (hk : k < 8) : (padTo z X k).set (z - 1 - k) (lenByte X k) = padTo z X (k + 1) := by
  have h8 : zer (8 - k) = zer (8 - (k + 1)) ++ [0] := by
    rw [show 8 - k = (8 - (k + 1)) + 1 by omega]; simp [zer, List.replicate_succ']
  unfold padTo
  rw [h8]
  have e : z - 1 - k = ((z - 9) + (8 - (k + 1))) + 1 := by omega
  rw [e, List.set_cons_succ, List.set_append_right _ _ (by simp [zer]), List.append_assoc, List.set_append_right _ _ (by simp [zer])]
  have e2 : (z - 9 + (8 - (k + 1)) - (zer (z - 9)).length - (zer (8 - (k + 1))).length) = 0 := by simp [zer]
  rw [e2]
  simp [lows]
end Go.Proofs.YtnfceejmkcohnaaDoor
