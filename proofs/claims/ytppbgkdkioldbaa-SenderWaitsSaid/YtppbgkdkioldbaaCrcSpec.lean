/- The check of bytes as plain functions on lists of bytes: what a step is, that it is linear and takes no two states to one, and what is left behind a message and its check. No program is named here. -/
import Derived.KernelRfl
set_option maxRecDepth 4000
namespace Go.Proofs.Ytppbgkdkioldbaa
/- one bit, one byte, many bytes -/
def crcBit (c : BitVec 16) : BitVec 16 := if c.getLsbD 0 then (c >>> 1) ^^^ 0x8408#16 else c >>> 1
def crcBits (n : Nat) (c : BitVec 16) : BitVec 16 := Nat.repeat crcBit n c
def crcByte (c : BitVec 16) (x : BitVec 8) : BitVec 16 := crcBits 8 (c ^^^ x.setWidth 16)
def crcMore (c : BitVec 16) (b : List (BitVec 8)) : BitVec 16 := b.foldl crcByte c
def crcOf (b : List (BitVec 8)) : BitVec 16 := ~~~ crcMore 0xffff#16 b
theorem crcMore_append (c : BitVec 16) (a b : List (BitVec 8)) : crcMore c (a ++ b) = crcMore (crcMore c a) b := List.foldl_append
theorem crcMore_cons (c : BitVec 16) (x : BitVec 8) (b : List (BitVec 8)) : crcMore c (x :: b) = crcMore (crcByte c x) b := rfl
/- a bit's step as a sum: linear -/
def poly (b : Bool) : BitVec 16 := if b then 0x8408#16 else 0#16
theorem crcBit_eq (c : BitVec 16) : crcBit c = (c >>> 1) ^^^ poly (c.getLsbD 0) := by
  unfold crcBit poly; split <;> simp
theorem poly_xor (a b : Bool) : poly (a ^^ b) = poly a ^^^ poly b := by cases a <;> cases b <;> decide
theorem crcBit_xor (c d : BitVec 16) : crcBit (c ^^^ d) = crcBit c ^^^ crcBit d := by
  rw [crcBit_eq, crcBit_eq, crcBit_eq, BitVec.getLsbD_xor, poly_xor, BitVec.ushiftRight_xor_distrib]
  ac_rfl
theorem crcBits_xor (n : Nat) (c d : BitVec 16) : crcBits n (c ^^^ d) = crcBits n c ^^^ crcBits n d := by
  induction n with
  | zero => rfl
  | succ n ih => show crcBit (crcBits n (c ^^^ d)) = crcBit (crcBits n c) ^^^ crcBit (crcBits n d); rw [ih, crcBit_xor]
theorem crcBits_zero (n : Nat) : crcBits n 0#16 = 0#16 := by
  induction n with
  | zero => rfl
  | succ n ih => show crcBit (crcBits n 0#16) = 0#16; rw [ih]; decide
/- a bit's step may be taken back -/
theorem crcBit_top (c : BitVec 16) : (crcBit c).getLsbD 15 = c.getLsbD 0 := by
  rw [crcBit_eq, BitVec.getLsbD_xor, BitVec.getLsbD_ushiftRight]
  cases h : c.getLsbD 0 <;> simp [poly]
theorem crcBit_inj {c : BitVec 16} (h : crcBit c = 0#16) : c = 0#16 := by
  have h0 : c.getLsbD 0 = false := by rw [← crcBit_top, h]; simp
  have h1 : c >>> 1 = 0#16 := by
    have e := crcBit_eq c
    rw [h, h0] at e
    have e2 : poly false = 0#16 := rfl
    rw [e2, BitVec.xor_zero] at e
    exact e.symm
  apply BitVec.eq_of_getLsbD_eq
  intro i hi
  cases i with
  | zero => rw [h0]; simp
  | succ i =>
    have h2 : (c >>> 1).getLsbD i = false := by rw [h1]; simp
    rw [BitVec.getLsbD_ushiftRight, Nat.add_comm] at h2
    rw [h2]; simp
theorem crcBits_inj {n : Nat} {c : BitVec 16} (h : crcBits n c = 0#16) : c = 0#16 := by
  induction n with
  | zero => exact h
  | succ n ih => exact ih (crcBit_inj h)
theorem xor_zero_iff {n : Nat} {c d : BitVec n} : c ^^^ d = 0#n ↔ c = d := BitVec.xor_eq_zero_iff
theorem crcByte_xor (c d : BitVec 16) (x y : BitVec 8) : crcByte (c ^^^ d) (x ^^^ y) = crcByte c x ^^^ crcByte d y := by
  unfold crcByte
  rw [BitVec.setWidth_xor, ← crcBits_xor]
  congr 1
  ac_rfl
theorem crcByte_state {c d : BitVec 16} {x : BitVec 8} (h : crcByte c x = crcByte d x) : c = d := by
  have h1 : crcByte (c ^^^ d) (x ^^^ x) = 0#16 := by rw [crcByte_xor, h, BitVec.xor_self]
  unfold crcByte at h1
  have h2 := crcBits_inj h1
  rw [BitVec.xor_self] at h2
  have e : BitVec.setWidth 16 (0#8) = 0#16 := rfl
  rw [e, BitVec.xor_zero] at h2
  exact xor_zero_iff.1 h2
/- from two checks on that differ it stays two through the same bytes -/
theorem crcMore_inj {c d : BitVec 16} (b : List (BitVec 8)) : crcMore c b = crcMore d b ↔ c = d := by
  constructor
  · induction b generalizing c d with
    | nil => exact id
    | cons x b ih => intro h; exact crcByte_state (ih h)
  · rintro rfl; rfl
/- two neighboring bytes turned -/
theorem crc_two (c : BitVec 16) (x y u v : BitVec 8) : crcByte (crcByte c x) y = crcByte (crcByte c (x ^^^ u)) (y ^^^ v) ↔ u = 0#8 ∧ v = 0#8 := by
  constructor
  · intro h
    have e1 : crcByte c (x ^^^ u) = crcByte c x ^^^ crcByte 0#16 u := by rw [← crcByte_xor, BitVec.xor_zero]
    rw [e1, crcByte_xor] at h
    have h0 : crcByte (crcByte 0#16 u) v = 0#16 := by
      have := congrArg (crcByte (crcByte c x) y ^^^ ·) h
      simp only [BitVec.xor_self] at this
      rw [← BitVec.xor_assoc, BitVec.xor_self, BitVec.zero_xor] at this
      exact this.symm
    unfold crcByte at h0
    have h1 := crcBits_inj h0
    rw [BitVec.zero_xor] at h1
    have h2 := xor_zero_iff.1 h1
    revert h2
    have key : ∀ u : BitVec 8, (crcBits 8 (u.setWidth 16)).extractLsb' 8 8 = 0#8 → u = 0#8 := by decide +kernel
    intro h2
    have hu : u = 0#8 := key u (by rw [h2]; apply BitVec.eq_of_getLsbD_eq; intro i hi; simp [BitVec.getLsbD_extractLsb', BitVec.getLsbD_setWidth])
    refine ⟨hu, ?_⟩
    rw [hu] at h2
    have e3 : crcBits 8 (BitVec.setWidth 16 (0#8)) = 0#16 := crcBits_zero 8
    rw [e3] at h2
    have h3 := congrArg (BitVec.setWidth 8) h2
    simpa using h3.symm
  · rintro ⟨rfl, rfl⟩; simp
theorem crc_turned (p q : List (BitVec 8)) (x y u v : BitVec 8) (c : BitVec 16) : crcMore c (p ++ x :: y :: q) = crcMore c (p ++ (x ^^^ u) :: (y ^^^ v) :: q) ↔ u = 0#8 ∧ v = 0#8 := by
  rw [crcMore_append, crcMore_append, crcMore_cons, crcMore_cons, crcMore_cons, crcMore_cons, crcMore_inj]
  exact crc_two _ x y u v
/- three rows of one length, turned by each other -/
theorem crcMore_xor3 (c d e : BitVec 16) : ∀ (x y z : List (BitVec 8)), x.length = y.length → x.length = z.length → crcMore (c ^^^ d ^^^ e) (List.zipWith (· ^^^ ·) (List.zipWith (· ^^^ ·) x y) z) = crcMore c x ^^^ crcMore d y ^^^ crcMore e z
  | [], [], [], _, _ => rfl
  | a :: x, b :: y, k :: z, h1, h2 => by
    simp only [List.zipWith_cons_cons, crcMore_cons]
    rw [crcByte_xor, crcByte_xor]
    exact crcMore_xor3 _ _ _ x y z (by simpa using h1) (by simpa using h2)
  | [], _ :: _, _, h, _ => by simp at h
  | [], [], _ :: _, _, h => by simp at h
  | _ :: _, [], _, h, _ => by simp at h
  | _ :: _, _ :: _, [], _, h => by simp at h
/- what is left behind bytes and their check -/
theorem crc_rest (c : BitVec 16) : crcMore c [(~~~ c).setWidth 8, ((~~~ c) >>> 8).setWidth 8] = 0xf0b8#16 := by
  have h1 : ∀ d : BitVec 16, crcMore d [d.setWidth 8, (d >>> 8).setWidth 8] = 0#16 := by
    intro d
    have e1 : d ^^^ (BitVec.setWidth 8 d).setWidth 16 = (d >>> 8) <<< 8 := by
      apply BitVec.eq_of_getLsbD_eq; intro i hi
      simp only [BitVec.getLsbD_xor, BitVec.getLsbD_setWidth, BitVec.getLsbD_shiftLeft, BitVec.getLsbD_ushiftRight]
      by_cases h8 : i < 8
      · simp [h8, hi]
      · simp [h8, hi, show 8 + (i - 8) = i by omega]
    have key : ∀ t : BitVec 8, crcBits 8 ((t.setWidth 16) <<< 8) = t.setWidth 16 := by decide +kernel
    have e2 : (d >>> 8) <<< 8 = (((d >>> 8).setWidth 8).setWidth 16) <<< 8 := by
      apply BitVec.eq_of_getLsbD_eq; intro i hi
      simp only [BitVec.getLsbD_setWidth, BitVec.getLsbD_shiftLeft, BitVec.getLsbD_ushiftRight]
      by_cases h8 : i < 8
      · simp [h8]
      · simp [h8, hi, show i - 8 < 16 by omega, show i - 8 < 8 by omega]
    show crcByte (crcByte d (d.setWidth 8)) ((d >>> 8).setWidth 8) = 0#16
    have e3 : crcByte d (d.setWidth 8) = ((d >>> 8).setWidth 8).setWidth 16 := by unfold crcByte; rw [e1, e2, key]
    rw [e3]
    unfold crcByte
    rw [BitVec.xor_self]
    exact crcBits_zero 8
  have e0 : c = 0xffff#16 ^^^ ~~~ c := by
    have e : (0xffff#16) = BitVec.allOnes 16 := rfl
    rw [e, BitVec.allOnes_xor, BitVec.not_not]
  have e4 : crcMore c [(~~~ c).setWidth 8, ((~~~ c) >>> 8).setWidth 8] = crcMore (0xffff#16 ^^^ ~~~ c) [0#8 ^^^ (~~~ c).setWidth 8, 0#8 ^^^ ((~~~ c) >>> 8).setWidth 8] := by
    rw [← e0, BitVec.zero_xor, BitVec.zero_xor]
  rw [e4]
  show crcByte (crcByte (0xffff#16 ^^^ ~~~ c) (0#8 ^^^ (~~~ c).setWidth 8)) (0#8 ^^^ ((~~~ c) >>> 8).setWidth 8) = _
  rw [crcByte_xor, crcByte_xor]
  have e5 : crcByte (crcByte (~~~ c) ((~~~ c).setWidth 8)) (((~~~ c) >>> 8).setWidth 8) = 0#16 := h1 (~~~ c)
  rw [e5, BitVec.xor_zero]
  decide +kernel
end Go.Proofs.Ytppbgkdkioldbaa
