/- A sector with a mark and a check as plain functions on lists of bytes. No program is named here. -/
import Derived.Test.YtppbgkdkioldbaaCrcSpec
set_option maxRecDepth 4000
namespace Go.Proofs.Ytppbgkdkioldbaa
def pad30 (m : BitVec 8) (q : List (BitVec 8)) : List (BitVec 8) := m :: (q ++ List.replicate (29 - q.length) 0#8)
def crcTail (b : List (BitVec 8)) : List (BitVec 8) := [(crcOf b).setWidth 8, ((crcOf b) >>> 8).setWidth 8]
def sealedB (m : BitVec 8) (q : List (BitVec 8)) : List (BitVec 8) := pad30 m q ++ crcTail (pad30 m q)
def encBad (m : BitVec 8) (q : List (BitVec 8)) : Bool := decide (m = 0#8) || decide (29 < q.length)
def encB (m : BitVec 8) (q : List (BitVec 8)) : List (BitVec 8) := if encBad m q then List.replicate 32 0#8 else sealedB m q
def encE (m : BitVec 8) (q : List (BitVec 8)) : Int := if encBad m q then 1 else 0
def bodyOf (b : List (BitVec 8)) : List (BitVec 8) := (b.drop 1).take 29
def markOf (b : List (BitVec 8)) : BitVec 8 := b.getD 0 0#8
def decOk (b : List (BitVec 8)) : Bool := decide (markOf b ≠ 0#8) && decide (sealedB (markOf b) (bodyOf b) = b)
def decR (b : List (BitVec 8)) : List (BitVec 8) := if decOk b then b.take 30 else List.replicate 30 0#8
def decE (b : List (BitVec 8)) : Int := if decOk b then 0 else 11
theorem length_pad30 {m : BitVec 8} {q : List (BitVec 8)} (h : q.length ≤ 29) : (pad30 m q).length = 30 := by simp [pad30]; omega
theorem length_crcTail (b : List (BitVec 8)) : (crcTail b).length = 2 := rfl
theorem length_sealedB {m : BitVec 8} {q : List (BitVec 8)} (h : q.length ≤ 29) : (sealedB m q).length = 32 := by simp [sealedB, length_pad30 h, length_crcTail]
theorem encBad_le {m : BitVec 8} {q : List (BitVec 8)} (h : encBad m q = false) : m ≠ 0#8 ∧ q.length ≤ 29 := by
  unfold encBad at h
  simp only [Bool.or_eq_false_iff, decide_eq_false_iff_not] at h
  exact ⟨h.1, by omega⟩
theorem length_encB (m : BitVec 8) (q : List (BitVec 8)) : (encB m q).length = 32 := by
  unfold encB
  cases h : encBad m q with
  | true => simp
  | false => exact length_sealedB (encBad_le h).2
theorem length_bodyOf {b : List (BitVec 8)} (h : b.length = 32) : (bodyOf b).length = 29 := by simp [bodyOf, h]
theorem length_decR {b : List (BitVec 8)} (h : b.length = 32) : (decR b).length = 30 := by
  unfold decR; split <;> simp [h]
theorem pad30_full {m : BitVec 8} {q : List (BitVec 8)} (h : q.length = 29) : pad30 m q = m :: q := by simp [pad30, h]
theorem take30 {b : List (BitVec 8)} (h : b.length = 32) : pad30 (markOf b) (bodyOf b) = b.take 30 := by
  rw [pad30_full (length_bodyOf h)]
  cases b with
  | nil => simp at h
  | cons x b => simp [markOf, bodyOf]
/- a sector is one just if its mark is none of 0 and its check is right -/
theorem decOk_eq {b : List (BitVec 8)} (h : b.length = 32) : decOk b = (decide (markOf b ≠ 0#8) && decide (crcTail (b.take 30) = b.drop 30)) := by
  unfold decOk
  congr 1
  have e : b = b.take 30 ++ b.drop 30 := (List.take_append_drop 30 b).symm
  apply decide_eq_decide.2
  unfold sealedB
  rw [take30 h]
  constructor
  · intro h1
    have h2 : b.take 30 ++ crcTail (b.take 30) = b.take 30 ++ b.drop 30 := h1.trans e
    exact List.append_cancel_left h2
  · intro h1
    rw [h1]; exact e.symm
theorem crc_full (b : List (BitVec 8)) : crcMore 0xffff#16 (b ++ crcTail b) = 0xf0b8#16 := by
  rw [crcMore_append]
  exact crc_rest (crcMore 0xffff#16 b)
theorem decOk_crc {b : List (BitVec 8)} (h : b.length = 32) (hd : decOk b = true) : crcMore 0xffff#16 b = 0xf0b8#16 := by
  rw [decOk_eq h] at hd
  simp only [Bool.and_eq_true, decide_eq_true_eq] at hd
  have e : b = b.take 30 ++ crcTail (b.take 30) := by rw [hd.2]; exact (List.take_append_drop 30 b).symm
  rw [e]; exact crc_full _
theorem sealedB_take {m : BitVec 8} {q : List (BitVec 8)} (h : q.length ≤ 29) : (sealedB m q).take 30 = pad30 m q := by
  unfold sealedB
  rw [List.take_append_of_le_length (by rw [length_pad30 h]; exact Nat.le_refl _), List.take_of_length_le (by rw [length_pad30 h]; exact Nat.le_refl _)]
theorem sealedB_drop {m : BitVec 8} {q : List (BitVec 8)} (h : q.length ≤ 29) : (sealedB m q).drop 30 = crcTail (pad30 m q) := by
  unfold sealedB
  rw [List.drop_append, List.drop_of_length_le (by rw [length_pad30 h]; exact Nat.le_refl _), length_pad30 h]
  rfl
theorem markOf_sealedB (m : BitVec 8) (q : List (BitVec 8)) : markOf (sealedB m q) = m := rfl
theorem decOk_sealedB {m : BitVec 8} {q : List (BitVec 8)} (hm : m ≠ 0#8) (h : q.length ≤ 29) : decOk (sealedB m q) = true := by
  rw [decOk_eq (length_sealedB h), markOf_sealedB, sealedB_take h, sealedB_drop h]
  simp [hm]
/- two neighboring bytes turned -/
def turnedAt (b : List (BitVec 8)) (k : Nat) (u v : BitVec 8) : List (BitVec 8) := (b.set k (b.getD k 0#8 ^^^ u)).set (k + 1) (b.getD (k + 1) 0#8 ^^^ v)
theorem length_turnedAt (b : List (BitVec 8)) (k : Nat) (u v : BitVec 8) : (turnedAt b k u v).length = b.length := by simp [turnedAt]
theorem split_at (q : List (BitVec 8)) (m : Nat) (hm : m + 1 < q.length) : q = q.take m ++ q.getD m 0#8 :: q.getD (m + 1) 0#8 :: q.drop (m + 2) := by
  have h1 : m < q.length := by omega
  conv => lhs; rw [← List.take_append_drop m q]
  congr 1
  rw [List.drop_eq_getElem_cons h1, List.drop_eq_getElem_cons hm]
  simp [List.getD_eq_getElem?_getD, h1, hm]
theorem turned_split (q : List (BitVec 8)) (m : Nat) (hm : m + 1 < q.length) (u v : BitVec 8) : turnedAt q m u v = q.take m ++ (q.getD m 0#8 ^^^ u) :: (q.getD (m + 1) 0#8 ^^^ v) :: q.drop (m + 2) := by
  have hl : (q.take m).length = m := by rw [List.length_take]; omega
  unfold turnedAt
  generalize q.getD m 0#8 ^^^ u = x
  generalize q.getD (m + 1) 0#8 ^^^ v = y
  conv => lhs; rw [split_at q m hm]
  rw [List.set_append_right _ _ (by omega), hl, Nat.sub_self, List.set_cons_zero, List.set_append_right _ _ (by omega), hl, show m + 1 - m = 1 by omega]
  rfl
theorem turned_id (q : List (BitVec 8)) (m : Nat) (hm : m + 1 < q.length) : turnedAt q m 0#8 0#8 = q := by
  rw [turned_split q m hm, BitVec.xor_zero, BitVec.xor_zero]; exact (split_at q m hm).symm
theorem decOk_turned {b : List (BitVec 8)} (h : b.length = 32) (hd : decOk b = true) {k : Nat} (hk : k < 31) (u v : BitVec 8) : decOk (turnedAt b k u v) = (decide (u = 0#8) && decide (v = 0#8)) := by
  have hlt : k + 1 < b.length := by omega
  by_cases huv : u = 0#8 ∧ v = 0#8
  · obtain ⟨rfl, rfl⟩ := huv
    rw [turned_id b k hlt, hd]; rfl
  · have hne : decOk (turnedAt b k u v) = false := by
      cases hx : decOk (turnedAt b k u v) with
      | false => rfl
      | true =>
        have h1 := decOk_crc (by rw [length_turnedAt]; exact h) hx
        have h2 := decOk_crc h hd
        rw [turned_split b k hlt] at h1
        rw [split_at b k hlt] at h2
        exact absurd ((crc_turned _ _ _ _ _ _ _).1 (h2.trans h1.symm)) huv
    rw [hne]
    by_cases hu : u = 0#8
    · have hv : v ≠ 0#8 := fun e => huv ⟨hu, e⟩
      rw [decide_eq_false hv, Bool.and_false]
    · rw [decide_eq_false hu, Bool.false_and]
/- one seal for each mark and padded body -/
theorem sealedB_inj {m : BitVec 8} {p q : List (BitVec 8)} (hp : p.length ≤ 29) (hq : q.length ≤ 29) : sealedB m p = sealedB m q ↔ pad30 m p = pad30 m q := by
  constructor
  · intro h
    rw [← sealedB_take hp, ← sealedB_take hq, h]
  · intro h
    unfold sealedB
    rw [h]
theorem pad30_get {m : BitVec 8} {q : List (BitVec 8)} (i : Nat) (_ : i < 29) : (pad30 m q).getD (i + 1) 0#8 = q.getD i 0#8 := by
  show (q ++ List.replicate (29 - q.length) 0#8).getD i 0#8 = q.getD i 0#8
  rw [List.getD_eq_getElem?_getD, List.getD_eq_getElem?_getD, List.getElem?_append]
  split
  · rfl
  · rename_i h
    rw [List.getElem?_eq_none (by omega : q.length ≤ i), List.getElem?_replicate]
    split <;> rfl
theorem pad30_eq {m : BitVec 8} {p q : List (BitVec 8)} (hp : p.length ≤ 29) (hq : q.length ≤ 29) : pad30 m p = pad30 m q ↔ ∀ i < 29, p.getD i 0#8 = q.getD i 0#8 := by
  constructor
  · intro h i hi
    rw [← pad30_get (m := m) i hi, h, pad30_get i hi]
  · intro h
    apply List.ext_getElem (by rw [length_pad30 hp, length_pad30 hq])
    intro i h1 h2
    rw [length_pad30 hp] at h1
    cases i with
    | zero => rfl
    | succ i =>
      have e1 := pad30_get (m := m) (q := p) i (by omega)
      have e2 := pad30_get (m := m) (q := q) i (by omega)
      have e3 := h i (by omega)
      rw [List.getD_eq_getElem?_getD, List.getElem?_eq_getElem (by rw [length_pad30 hp]; omega), Option.getD_some] at e1
      rw [List.getD_eq_getElem?_getD, List.getElem?_eq_getElem (by rw [length_pad30 hq]; omega), Option.getD_some] at e2
      rw [e1, e2, e3]
theorem sealedB_get {m : BitVec 8} {q : List (BitVec 8)} (h : q.length ≤ 29) (i : Nat) (hi : i < 29) : (sealedB m q).getD (i + 1) 0#8 = q.getD i 0#8 := by
  unfold sealedB
  rw [List.getD_eq_getElem?_getD, List.getElem?_append_left (by rw [length_pad30 h]; omega), ← List.getD_eq_getElem?_getD, pad30_get i hi]
theorem decR_sealedB {m : BitVec 8} {q : List (BitVec 8)} (hm : m ≠ 0#8) (h : q.length ≤ 29) : decR (sealedB m q) = pad30 m q := by
  unfold decR; rw [decOk_sealedB hm h, if_pos rfl, sealedB_take h]
end Go.Proofs.Ytppbgkdkioldbaa
