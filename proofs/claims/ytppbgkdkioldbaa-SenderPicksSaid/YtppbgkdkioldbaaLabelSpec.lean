/- A label as plain data: its bytes, what bytes tell, which is later, the bits of numbers. No program is named here. -/
import Derived.Test.YtppbgkdkioldbaaSealSpec
set_option maxRecDepth 4000
namespace Go.Proofs.Ytppbgkdkioldbaa
def le (v : BitVec 32) (n : Nat) : List (BitVec 8) := (List.range n).map fun i => (v >>> (8 * i)).setWidth 8
def num (b : List (BitVec 8)) : BitVec 32 := b.foldr (fun x v => (v <<< 8) + x.setWidth 32) 0#32
structure Lab where
  e : BitVec 32
  s : BitVec 32
  n : BitVec 32
  d : BitVec 16
  l : BitVec 16
deriving DecidableEq
def labBody (L : Lab) : List (BitVec 8) := le L.e 4 ++ le L.s 4 ++ le L.n 4 ++ le (L.d.setWidth 32) 2 ++ le (L.l.setWidth 32) 2
def labB (L : Lab) : List (BitVec 8) := sealedB 0x4c#8 (labBody L)
def labOf (b : List (BitVec 8)) : Lab := ⟨num (b.take 4), num ((b.drop 4).take 4), num ((b.drop 8).take 4), (num ((b.drop 12).take 2)).setWidth 16, (num ((b.drop 14).take 2)).setWidth 16⟩
def lab0 : Lab := ⟨0#32, 0#32, 0#32, 0#16, 0#16⟩
def labIs (b : List (BitVec 8)) : Bool := decOk b && decide (labB (labOf (bodyOf b)) = b)
def decLab (b : List (BitVec 8)) : Lab := if b = List.replicate 32 0#8 then lab0 else if labIs b then labOf (bodyOf b) else lab0
def decLabE (b : List (BitVec 8)) : Int := if b = List.replicate 32 0#8 then 0 else if labIs b then 0 else 11
def laterB (e s t n : BitVec 32) : Bool := decide (t.toNat < e.toNat) || (decide (e = t) && decide (n.toNat < s.toNat))
theorem length_le (v : BitVec 32) (n : Nat) : (le v n).length = n := by simp [le]
theorem le_succ (v : BitVec 32) (n : Nat) : le v (n + 1) = le v n ++ [(v >>> (8 * n)).setWidth 8] := by simp [le, List.range_succ]
theorem length_labBody (L : Lab) : (labBody L).length = 16 := by simp [labBody, length_le]
theorem length_labB (L : Lab) : (labB L).length = 32 := length_sealedB (by rw [length_labBody]; decide)
theorem num4 (a b c d : BitVec 8) : num [a, b, c, d] = (((((d.setWidth 32) <<< 8) + c.setWidth 32) <<< 8) + b.setWidth 32) <<< 8 + a.setWidth 32 := by
  simp [num]
theorem num_le4 (v : BitVec 32) : num (le v 4) = v := by
  have e : le v 4 = [v.setWidth 8, (v >>> 8).setWidth 8, (v >>> 16).setWidth 8, (v >>> 24).setWidth 8] := by simp [le, List.range_succ]
  rw [e, num4]
  apply BitVec.eq_of_toNat_eq
  simp only [BitVec.toNat_add, BitVec.toNat_shiftLeft, BitVec.toNat_setWidth, BitVec.toNat_ushiftRight, Nat.shiftLeft_eq, Nat.shiftRight_eq_div_pow]
  have := v.isLt
  omega
theorem num_le2 (d : BitVec 16) : (num (le (d.setWidth 32) 2)).setWidth 16 = d := by
  have e : le (d.setWidth 32) 2 = [(d.setWidth 32).setWidth 8, (d.setWidth 32 >>> 8).setWidth 8] := by simp [le, List.range_succ]
  rw [e]
  apply BitVec.eq_of_toNat_eq
  simp only [num, List.foldr_cons, List.foldr_nil, BitVec.toNat_add, BitVec.toNat_shiftLeft, BitVec.toNat_setWidth, BitVec.toNat_ushiftRight, Nat.shiftLeft_eq, Nat.shiftRight_eq_div_pow, BitVec.toNat_ofNat]
  have := d.isLt
  omega
theorem labOf_pad (L : Lab) (r : List (BitVec 8)) : labOf (labBody L ++ r) = L := by
  have h4 : ∀ (v : BitVec 32) (x : List (BitVec 8)), (le v 4 ++ x).take 4 = le v 4 := fun v x => by rw [List.take_append_of_le_length (by rw [length_le]; exact Nat.le_refl _), List.take_of_length_le (by rw [length_le]; exact Nat.le_refl _)]
  have h2 : ∀ (v : BitVec 32) (x : List (BitVec 8)), (le v 2 ++ x).take 2 = le v 2 := fun v x => by rw [List.take_append_of_le_length (by rw [length_le]; exact Nat.le_refl _), List.take_of_length_le (by rw [length_le]; exact Nat.le_refl _)]
  have d4 : ∀ (v : BitVec 32) (x : List (BitVec 8)) (k : Nat), (le v 4 ++ x).drop (k + 4) = x.drop k := fun v x k => by rw [List.drop_append, List.drop_of_length_le (by rw [length_le]; omega), length_le, List.nil_append]; congr 1
  have d2 : ∀ (v : BitVec 32) (x : List (BitVec 8)) (k : Nat), (le v 2 ++ x).drop (k + 2) = x.drop k := fun v x k => by rw [List.drop_append, List.drop_of_length_le (by rw [length_le]; omega), length_le, List.nil_append]; congr 1
  unfold labOf labBody
  simp only [List.append_assoc]
  rw [h4, d4 _ _ 0, d4 _ _ 4, d4 _ _ 0, d4 _ _ 8, d4 _ _ 4, d4 _ _ 0, d4 _ _ 10, d4 _ _ 6, d4 _ _ 2, d2 _ _ 0]
  simp only [List.drop_zero]
  rw [h4, h4, h2, h2, num_le4, num_le4, num_le4, num_le2, num_le2]
theorem bodyOf_labB (L : Lab) : bodyOf (labB L) = labBody L ++ List.replicate 13 0#8 := by
  have h := length_labBody L
  show ((labBody L ++ List.replicate (29 - (labBody L).length) 0#8) ++ crcTail _).take 29 = _
  rw [h]
  exact List.take_left' (by rw [List.length_append, h, List.length_replicate])
theorem labOf_labB (L : Lab) : labOf (bodyOf (labB L)) = L := by rw [bodyOf_labB, labOf_pad]
theorem labB_inj {L M : Lab} (h : labB L = labB M) : L = M := by rw [← labOf_labB L, ← labOf_labB M, h]
theorem labIs_labB (L : Lab) : labIs (labB L) = true := by
  unfold labIs
  rw [labOf_labB, decide_eq_true rfl, Bool.and_true]
  exact decOk_sealedB (by decide) (by rw [length_labBody]; decide)
theorem labB_ne (L : Lab) : labB L ≠ List.replicate 32 0#8 := fun h => by
  have := congrArg markOf h
  rw [show markOf (labB L) = 0x4c#8 from rfl] at this
  exact absurd this (by decide)
theorem decLab_labB (L : Lab) : decLab (labB L) = L := by unfold decLab; rw [if_neg (labB_ne L), labIs_labB, if_pos rfl, labOf_labB]
theorem decLabE_labB (L : Lab) : decLabE (labB L) = 0 := by unfold decLabE; rw [if_neg (labB_ne L), labIs_labB, if_pos rfl]
/- a sector that is a label's is that one's, or zeros -/
theorem labB_decLab {b : List (BitVec 8)} (h : decLabE b = 0) : labB (decLab b) = b ∨ (b = List.replicate 32 0#8 ∧ decLab b = lab0) := by
  unfold decLabE at h
  unfold decLab
  by_cases h0 : b = List.replicate 32 0#8
  · exact .inr ⟨h0, by rw [if_pos h0]⟩
  · rw [if_neg h0] at h ⊢
    by_cases h1 : labIs b = true
    · rw [if_pos h1] at h ⊢
      unfold labIs at h1
      simp only [Bool.and_eq_true, decide_eq_true_eq] at h1
      exact .inl h1.2
    · rw [if_neg h1] at h; cases h
end Go.Proofs.Ytppbgkdkioldbaa
