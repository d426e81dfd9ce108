/- The key's block and the tag, as plain functions on lists of bytes. No program is named here. -/
import Derived.Test.YtnfceejmkcohnaaDoorSpec3
import Derived.Test.YtnfceejmkcohnaaDoorMem
namespace Go.Proofs.YtnfceejmkcohnaaDoor
open Go Go.RowKit
def blockOf (key : List (BitVec 8)) : List (BitVec 8) := if 64 < key.length then sha key ++ zer 32 else key ++ zer (64 - key.length)
def turnBy (x : BitVec 8) (l : List (BitVec 8)) : List (BitVec 8) := l.map (· ^^^ x)
def tagOf (key M : List (BitVec 8)) : List (BitVec 8) := sha (turnBy 0x5c#8 (blockOf key) ++ sha (turnBy 0x36#8 (blockOf key) ++ M))
theorem length_zer (n : Nat) : (zer n).length = n := by simp [zer]
theorem length_sha (M : List (BitVec 8)) : (sha M).length = 32 := by rw [sha, length_dig, length_hashTo]
theorem length_blockOf (key : List (BitVec 8)) : (blockOf key).length = 64 := by
  unfold blockOf
  split
  · rw [List.length_append, length_sha, length_zer]
  · rw [List.length_append, length_zer]; omega
theorem length_turnBy (x : BitVec 8) (l : List (BitVec 8)) : (turnBy x l).length = l.length := by simp [turnBy]
theorem length_tagOf (key M : List (BitVec 8)) : (tagOf key M).length = 32 := length_sha _
/- a block of which the first k bytes are turned -/
def tpart (x : BitVec 8) (l : List (BitVec 8)) (k : Nat) : List (BitVec 8) := turnBy x (l.take k) ++ l.drop k
theorem length_tpart (x : BitVec 8) (l : List (BitVec 8)) (k : Nat) : (tpart x l k).length = l.length := by
  simp [tpart, turnBy]; omega
theorem tpart_zero (x : BitVec 8) (l : List (BitVec 8)) : tpart x l 0 = l := by simp [tpart, turnBy]
theorem tpart_all (x : BitVec 8) (l : List (BitVec 8)) : tpart x l l.length = turnBy x l := by simp [tpart]
theorem tpart_get (x : BitVec 8) (l : List (BitVec 8)) (k : Nat) (hk : k < l.length) : (tpart x l k).getD k 0 = l.getD k 0 := by
  have e : (turnBy x (l.take k)).length = k := by rw [length_turnBy, List.length_take]; omega
  rw [List.getD_eq_getElem?_getD, tpart, List.getElem?_append_right (by omega), e, Nat.sub_self, List.getElem?_drop, Nat.add_zero, List.getD_eq_getElem?_getD]
theorem tpart_set (x : BitVec 8) (l : List (BitVec 8)) (k : Nat) (hk : k < l.length) : (tpart x l k).set k (l.getD k 0 ^^^ x) = tpart x l (k + 1) := by
  have e : (turnBy x (l.take k)).length = k := by rw [length_turnBy, List.length_take]; omega
  rw [tpart, List.set_append_right _ _ (by omega), e, Nat.sub_self, List.drop_eq_getElem_cons hk, List.set_cons_zero, tpart, List.take_succ_eq_append_getElem hk]
  simp only [turnBy, List.map_append, List.map_cons, List.map_nil, List.append_assoc, List.cons_append, List.nil_append, List.getD_eq_getElem?_getD, List.getElem?_eq_getElem hk, Option.getD_some]
theorem xor_bd (x y : BitVec 8) : bits .xor .u8 (bd x) (bd y) = bd (x ^^^ y) := by
  have e : ∀ z : BitVec 8, BitVec.ofInt 8 (bd z) = z := fun z => by
    apply BitVec.eq_of_toNat_eq; unfold bd; rw [ofInt_u8 _ z.isLt]
  show IntKind.u8.wrap ((BitVec.ofInt 8 (bd x) ^^^ BitVec.ofInt 8 (bd y)).toNat : Int) = _
  rw [e, e]; exact wrap_bd _
/- zeros behind a key change no block -/
theorem blockOf_zer (key : List (BitVec 8)) (n : Nat) (h : key.length + n ≤ 64) : blockOf (key ++ zer n) = blockOf key := by
  unfold blockOf
  rw [if_neg (by rw [List.length_append, length_zer]; omega), if_neg (by omega), List.append_assoc, List.length_append, length_zer]
  congr 1
  simp only [zer, List.replicate_append_replicate]
  congr 1; omega
theorem blockOf_sha (key : List (BitVec 8)) (h : 64 < key.length) : blockOf (sha key) = blockOf key := by
  rw [blockOf, if_neg (by rw [length_sha]; omega), length_sha, blockOf, if_pos h]
theorem tagOf_block {k k' : List (BitVec 8)} (M : List (BitVec 8)) (h : blockOf k = blockOf k') : tagOf k M = tagOf k' M := by rw [tagOf, tagOf, h]
end Go.Proofs.YtnfceejmkcohnaaDoor
