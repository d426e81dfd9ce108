/- Merged: CrcSpec SealSpec CrcMore CrcRef SealRef SealRefE SealRefD SealIf SealPrgH SealPrgE SealPrgD. -/
import Derived.KernelRfl
import Derived.Deep.Cut
import Derived.Test.YtobklbfcnbmnmaaDoorMGen0
import Derived.Test.YtobklbfcnbmnmaaDoorMGen1
/- The check of bytes as plain functions on lists of bytes: what a step is, that it is linear and takes no two states to one, and what is left behind a message and its check. No program is named here. -/
set_option maxRecDepth 4000
namespace Go.Proofs.YtobklbfcnbmnmaaDoor
/- one bit, one byte, many bytes -/
def crcBit (c : BitVec 16) : BitVec 16 := if c.getLsbD 0 then (c >>> 1) ^^^ 0x8408#16 else c >>> 1
def crcBits (n : Nat) (c : BitVec 16) : BitVec 16 := Nat.repeat crcBit n c
def crcByte (c : BitVec 16) (x : BitVec 8) : BitVec 16 := crcBits 8 (c ^^^ x.setWidth 16)
def crcMore (c : BitVec 16) (b : List (BitVec 8)) : BitVec 16 := b.foldl crcByte c
def crcOf (b : List (BitVec 8)) : BitVec 16 := ~~~ crcMore 0xffff#16 b
theorem crcMore_append (c : BitVec 16) (a b : List (BitVec 8)) : crcMore c (a ++ b) = crcMore (crcMore c a) b := List.foldl_append
theorem crcMore_cons (c : BitVec 16) (x : BitVec 8) (b : List (BitVec 8)) : crcMore c (x :: b) = crcMore (crcByte c x) b := rfl
/- a bit's step as a sum: linear -/
def poly (b : Bool) : BitVec 16 := if b then 0x8408#16 else 0#16
theorem crcBit_eq (c : BitVec 16) : crcBit c = (c >>> 1) ^^^ poly (c.getLsbD 0) := by
  unfold crcBit poly; split <;> simp
theorem poly_xor (a b : Bool) : poly (a ^^ b) = poly a ^^^ poly b := by cases a <;> cases b <;> decide
theorem crcBit_xor (c d : BitVec 16) : crcBit (c ^^^ d) = crcBit c ^^^ crcBit d := by
  rw [crcBit_eq, crcBit_eq, crcBit_eq, BitVec.getLsbD_xor, poly_xor, BitVec.ushiftRight_xor_distrib]
  ac_rfl
theorem crcBits_xor (n : Nat) (c d : BitVec 16) : crcBits n (c ^^^ d) = crcBits n c ^^^ crcBits n d := by
  induction n with
  | zero => rfl
  | succ n ih => show crcBit (crcBits n (c ^^^ d)) = crcBit (crcBits n c) ^^^ crcBit (crcBits n d); rw [ih, crcBit_xor]
theorem crcBits_zero (n : Nat) : crcBits n 0#16 = 0#16 := by
  induction n with
  | zero => rfl
  | succ n ih => show crcBit (crcBits n 0#16) = 0#16; rw [ih]; decide
/- a bit's step may be taken back -/
theorem crcBit_top (c : BitVec 16) : (crcBit c).getLsbD 15 = c.getLsbD 0 := by
  rw [crcBit_eq, BitVec.getLsbD_xor, BitVec.getLsbD_ushiftRight]
  cases h : c.getLsbD 0 <;> simp [poly]
theorem crcBit_inj {c : BitVec 16} (h : crcBit c = 0#16) : c = 0#16 := by
  have h0 : c.getLsbD 0 = false := by rw [← crcBit_top, h]; simp
  have h1 : c >>> 1 = 0#16 := by
    have e := crcBit_eq c
    rw [h, h0] at e
    have e2 : poly false = 0#16 := rfl
    rw [e2, BitVec.xor_zero] at e
    exact e.symm
  apply BitVec.eq_of_getLsbD_eq
  intro i hi
  cases i with
  | zero => rw [h0]; simp
  | succ i =>
    have h2 : (c >>> 1).getLsbD i = false := by rw [h1]; simp
    rw [BitVec.getLsbD_ushiftRight, Nat.add_comm] at h2
    rw [h2]; simp
theorem crcBits_inj {n : Nat} {c : BitVec 16} (h : crcBits n c = 0#16) : c = 0#16 := by
  induction n with
  | zero => exact h
  | succ n ih => exact ih (crcBit_inj h)
theorem xor_zero_iff {n : Nat} {c d : BitVec n} : c ^^^ d = 0#n ↔ c = d := BitVec.xor_eq_zero_iff
theorem crcByte_xor (c d : BitVec 16) (x y : BitVec 8) : crcByte (c ^^^ d) (x ^^^ y) = crcByte c x ^^^ crcByte d y := by
  unfold crcByte
  rw [BitVec.setWidth_xor, ← crcBits_xor]
  congr 1
  ac_rfl
theorem crcByte_state {c d : BitVec 16} {x : BitVec 8} (h : crcByte c x = crcByte d x) : c = d := by
  have h1 : crcByte (c ^^^ d) (x ^^^ x) = 0#16 := by rw [crcByte_xor, h, BitVec.xor_self]
  unfold crcByte at h1
  have h2 := crcBits_inj h1
  rw [BitVec.xor_self] at h2
  have e : BitVec.setWidth 16 (0#8) = 0#16 := rfl
  rw [e, BitVec.xor_zero] at h2
  exact xor_zero_iff.1 h2
/- from two checks on that differ it stays two through the same bytes -/
theorem crcMore_inj {c d : BitVec 16} (b : List (BitVec 8)) : crcMore c b = crcMore d b ↔ c = d := by
  constructor
  · induction b generalizing c d with
    | nil => exact id
    | cons x b ih => intro h; exact crcByte_state (ih h)
  · rintro rfl; rfl
/- two neighboring bytes turned -/
theorem crc_two (c : BitVec 16) (x y u v : BitVec 8) : crcByte (crcByte c x) y = crcByte (crcByte c (x ^^^ u)) (y ^^^ v) ↔ u = 0#8 ∧ v = 0#8 := by
  constructor
  · intro h
    have e1 : crcByte c (x ^^^ u) = crcByte c x ^^^ crcByte 0#16 u := by rw [← crcByte_xor, BitVec.xor_zero]
    rw [e1, crcByte_xor] at h
    have h0 : crcByte (crcByte 0#16 u) v = 0#16 := by
      have := congrArg (crcByte (crcByte c x) y ^^^ ·) h
      simp only [BitVec.xor_self] at this
      rw [← BitVec.xor_assoc, BitVec.xor_self, BitVec.zero_xor] at this
      exact this.symm
    unfold crcByte at h0
    have h1 := crcBits_inj h0
    rw [BitVec.zero_xor] at h1
    have h2 := xor_zero_iff.1 h1
    revert h2
    have key : ∀ u : BitVec 8, (crcBits 8 (u.setWidth 16)).extractLsb' 8 8 = 0#8 → u = 0#8 := by decide +kernel
    intro h2
    have hu : u = 0#8 := key u (by rw [h2]; apply BitVec.eq_of_getLsbD_eq; intro i hi; simp [BitVec.getLsbD_extractLsb', BitVec.getLsbD_setWidth])
    refine ⟨hu, ?_⟩
    rw [hu] at h2
    have e3 : crcBits 8 (BitVec.setWidth 16 (0#8)) = 0#16 := crcBits_zero 8
    rw [e3] at h2
    have h3 := congrArg (BitVec.setWidth 8) h2
    simpa using h3.symm
  · rintro ⟨rfl, rfl⟩; simp
theorem crc_turned (p q : List (BitVec 8)) (x y u v : BitVec 8) (c : BitVec 16) : crcMore c (p ++ x :: y :: q) = crcMore c (p ++ (x ^^^ u) :: (y ^^^ v) :: q) ↔ u = 0#8 ∧ v = 0#8 := by
  rw [crcMore_append, crcMore_append, crcMore_cons, crcMore_cons, crcMore_cons, crcMore_cons, crcMore_inj]
  exact crc_two _ x y u v
/- three rows of one length, turned by each other -/
theorem crcMore_xor3 (c d e : BitVec 16) : ∀ (x y z : List (BitVec 8)), x.length = y.length → x.length = z.length → crcMore (c ^^^ d ^^^ e) (List.zipWith (· ^^^ ·) (List.zipWith (· ^^^ ·) x y) z) = crcMore c x ^^^ crcMore d y ^^^ crcMore e z
  | [], [], [], _, _ => rfl
  | a :: x, b :: y, k :: z, h1, h2 => by
    simp only [List.zipWith_cons_cons, crcMore_cons]
    rw [crcByte_xor, crcByte_xor]
    exact crcMore_xor3 _ _ _ x y z (by simpa using h1) (by simpa using h2)
  | [], _ :: _, _, h, _ => by simp at h
  | [], [], _ :: _, _, h => by simp at h
  | _ :: _, [], _, h, _ => by simp at h
  | _ :: _, _ :: _, [], _, h => by simp at h
/- what is left behind bytes and their check -/
theorem crc_rest (c : BitVec 16) : crcMore c [(~~~ c).setWidth 8, ((~~~ c) >>> 8).setWidth 8] = 0xf0b8#16 := by
  have h1 : ∀ d : BitVec 16, crcMore d [d.setWidth 8, (d >>> 8).setWidth 8] = 0#16 := by
    intro d
    have e1 : d ^^^ (BitVec.setWidth 8 d).setWidth 16 = (d >>> 8) <<< 8 := by
      apply BitVec.eq_of_getLsbD_eq; intro i hi
      simp only [BitVec.getLsbD_xor, BitVec.getLsbD_setWidth, BitVec.getLsbD_shiftLeft, BitVec.getLsbD_ushiftRight]
      by_cases h8 : i < 8
      · simp [h8, hi]
      · simp [h8, hi, show 8 + (i - 8) = i by omega]
    have key : ∀ t : BitVec 8, crcBits 8 ((t.setWidth 16) <<< 8) = t.setWidth 16 := by decide +kernel
    have e2 : (d >>> 8) <<< 8 = (((d >>> 8).setWidth 8).setWidth 16) <<< 8 := by
      apply BitVec.eq_of_getLsbD_eq; intro i hi
      simp only [BitVec.getLsbD_setWidth, BitVec.getLsbD_shiftLeft, BitVec.getLsbD_ushiftRight]
      by_cases h8 : i < 8
      · simp [h8]
      · simp [h8, hi, show i - 8 < 16 by omega, show i - 8 < 8 by omega]
    show crcByte (crcByte d (d.setWidth 8)) ((d >>> 8).setWidth 8) = 0#16
    have e3 : crcByte d (d.setWidth 8) = ((d >>> 8).setWidth 8).setWidth 16 := by unfold crcByte; rw [e1, e2, key]
    rw [e3]
    unfold crcByte
    rw [BitVec.xor_self]
    exact crcBits_zero 8
  have e0 : c = 0xffff#16 ^^^ ~~~ c := by
    have e : (0xffff#16) = BitVec.allOnes 16 := rfl
    rw [e, BitVec.allOnes_xor, BitVec.not_not]
  have e4 : crcMore c [(~~~ c).setWidth 8, ((~~~ c) >>> 8).setWidth 8] = crcMore (0xffff#16 ^^^ ~~~ c) [0#8 ^^^ (~~~ c).setWidth 8, 0#8 ^^^ ((~~~ c) >>> 8).setWidth 8] := by
    rw [← e0, BitVec.zero_xor, BitVec.zero_xor]
  rw [e4]
  show crcByte (crcByte (0xffff#16 ^^^ ~~~ c) (0#8 ^^^ (~~~ c).setWidth 8)) (0#8 ^^^ ((~~~ c) >>> 8).setWidth 8) = _
  rw [crcByte_xor, crcByte_xor]
  have e5 : crcByte (crcByte (~~~ c) ((~~~ c).setWidth 8)) (((~~~ c) >>> 8).setWidth 8) = 0#16 := h1 (~~~ c)
  rw [e5, BitVec.xor_zero]
  decide +kernel
end Go.Proofs.YtobklbfcnbmnmaaDoor

/- A sector with a mark and a check as plain functions on lists of bytes. No program is named here. -/
set_option maxRecDepth 4000
namespace Go.Proofs.YtobklbfcnbmnmaaDoor
def pad30 (m : BitVec 8) (q : List (BitVec 8)) : List (BitVec 8) := m :: (q ++ List.replicate (29 - q.length) 0#8)
def crcTail (b : List (BitVec 8)) : List (BitVec 8) := [(crcOf b).setWidth 8, ((crcOf b) >>> 8).setWidth 8]
def sealedB (m : BitVec 8) (q : List (BitVec 8)) : List (BitVec 8) := pad30 m q ++ crcTail (pad30 m q)
def encBad (m : BitVec 8) (q : List (BitVec 8)) : Bool := decide (m = 0#8) || decide (29 < q.length)
def encB (m : BitVec 8) (q : List (BitVec 8)) : List (BitVec 8) := if encBad m q then List.replicate 32 0#8 else sealedB m q
def encE (m : BitVec 8) (q : List (BitVec 8)) : Int := if encBad m q then 1 else 0
def bodyOf (b : List (BitVec 8)) : List (BitVec 8) := (b.drop 1).take 29
def markOf (b : List (BitVec 8)) : BitVec 8 := b.getD 0 0#8
def decOk (b : List (BitVec 8)) : Bool := decide (markOf b ≠ 0#8) && decide (sealedB (markOf b) (bodyOf b) = b)
def decR (b : List (BitVec 8)) : List (BitVec 8) := if decOk b then b.take 30 else List.replicate 30 0#8
def decE (b : List (BitVec 8)) : Int := if decOk b then 0 else 11
theorem length_pad30 {m : BitVec 8} {q : List (BitVec 8)} (h : q.length ≤ 29) : (pad30 m q).length = 30 := by simp [pad30]; omega
theorem length_crcTail (b : List (BitVec 8)) : (crcTail b).length = 2 := rfl
theorem length_sealedB {m : BitVec 8} {q : List (BitVec 8)} (h : q.length ≤ 29) : (sealedB m q).length = 32 := by simp [sealedB, length_pad30 h, length_crcTail]
theorem encBad_le {m : BitVec 8} {q : List (BitVec 8)} (h : encBad m q = false) : m ≠ 0#8 ∧ q.length ≤ 29 := by
  unfold encBad at h
  simp only [Bool.or_eq_false_iff, decide_eq_false_iff_not] at h
  exact ⟨h.1, by omega⟩
theorem length_encB (m : BitVec 8) (q : List (BitVec 8)) : (encB m q).length = 32 := by
  unfold encB
  cases h : encBad m q with
  | true => simp
  | false => exact length_sealedB (encBad_le h).2
theorem length_bodyOf {b : List (BitVec 8)} (h : b.length = 32) : (bodyOf b).length = 29 := by simp [bodyOf, h]
theorem length_decR {b : List (BitVec 8)} (h : b.length = 32) : (decR b).length = 30 := by
  unfold decR; split <;> simp [h]
theorem pad30_full {m : BitVec 8} {q : List (BitVec 8)} (h : q.length = 29) : pad30 m q = m :: q := by simp [pad30, h]
theorem take30 {b : List (BitVec 8)} (h : b.length = 32) : pad30 (markOf b) (bodyOf b) = b.take 30 := by
  rw [pad30_full (length_bodyOf h)]
  cases b with
  | nil => simp at h
  | cons x b => simp [markOf, bodyOf]
/- a sector is one just if its mark is none of 0 and its check is right -/
theorem decOk_eq {b : List (BitVec 8)} (h : b.length = 32) : decOk b = (decide (markOf b ≠ 0#8) && decide (crcTail (b.take 30) = b.drop 30)) := by
  unfold decOk
  congr 1
  have e : b = b.take 30 ++ b.drop 30 := (List.take_append_drop 30 b).symm
  apply decide_eq_decide.2
  unfold sealedB
  rw [take30 h]
  constructor
  · intro h1
    have h2 : b.take 30 ++ crcTail (b.take 30) = b.take 30 ++ b.drop 30 := h1.trans e
    exact List.append_cancel_left h2
  · intro h1
    rw [h1]; exact e.symm
theorem crc_full (b : List (BitVec 8)) : crcMore 0xffff#16 (b ++ crcTail b) = 0xf0b8#16 := by
  rw [crcMore_append]
  exact crc_rest (crcMore 0xffff#16 b)
theorem decOk_crc {b : List (BitVec 8)} (h : b.length = 32) (hd : decOk b = true) : crcMore 0xffff#16 b = 0xf0b8#16 := by
  rw [decOk_eq h] at hd
  simp only [Bool.and_eq_true, decide_eq_true_eq] at hd
  have e : b = b.take 30 ++ crcTail (b.take 30) := by rw [hd.2]; exact (List.take_append_drop 30 b).symm
  rw [e]; exact crc_full _
theorem sealedB_take {m : BitVec 8} {q : List (BitVec 8)} (h : q.length ≤ 29) : (sealedB m q).take 30 = pad30 m q := by
  unfold sealedB
  rw [List.take_append_of_le_length (by rw [length_pad30 h]; exact Nat.le_refl _), List.take_of_length_le (by rw [length_pad30 h]; exact Nat.le_refl _)]
theorem sealedB_drop {m : BitVec 8} {q : List (BitVec 8)} (h : q.length ≤ 29) : (sealedB m q).drop 30 = crcTail (pad30 m q) := by
  unfold sealedB
  rw [List.drop_append, List.drop_of_length_le (by rw [length_pad30 h]; exact Nat.le_refl _), length_pad30 h]
  rfl
theorem markOf_sealedB (m : BitVec 8) (q : List (BitVec 8)) : markOf (sealedB m q) = m := rfl
theorem decOk_sealedB {m : BitVec 8} {q : List (BitVec 8)} (hm : m ≠ 0#8) (h : q.length ≤ 29) : decOk (sealedB m q) = true := by
  rw [decOk_eq (length_sealedB h), markOf_sealedB, sealedB_take h, sealedB_drop h]
  simp [hm]
/- two neighboring bytes turned -/
def turnedAt (b : List (BitVec 8)) (k : Nat) (u v : BitVec 8) : List (BitVec 8) := (b.set k (b.getD k 0#8 ^^^ u)).set (k + 1) (b.getD (k + 1) 0#8 ^^^ v)
theorem length_turnedAt (b : List (BitVec 8)) (k : Nat) (u v : BitVec 8) : (turnedAt b k u v).length = b.length := by simp [turnedAt]
theorem split_at (q : List (BitVec 8)) (m : Nat) (hm : m + 1 < q.length) : q = q.take m ++ q.getD m 0#8 :: q.getD (m + 1) 0#8 :: q.drop (m + 2) := by
  have h1 : m < q.length := by omega
  conv => lhs; rw [← List.take_append_drop m q]
  congr 1
  rw [List.drop_eq_getElem_cons h1, List.drop_eq_getElem_cons hm]
  simp [List.getD_eq_getElem?_getD, h1, hm]
theorem turned_split (q : List (BitVec 8)) (m : Nat) (hm : m + 1 < q.length) (u v : BitVec 8) : turnedAt q m u v = q.take m ++ (q.getD m 0#8 ^^^ u) :: (q.getD (m + 1) 0#8 ^^^ v) :: q.drop (m + 2) := by
  have hl : (q.take m).length = m := by rw [List.length_take]; omega
  unfold turnedAt
  generalize q.getD m 0#8 ^^^ u = x
  generalize q.getD (m + 1) 0#8 ^^^ v = y
  conv => lhs; rw [split_at q m hm]
  rw [List.set_append_right _ _ (by omega), hl, Nat.sub_self, List.set_cons_zero, List.set_append_right _ _ (by omega), hl, show m + 1 - m = 1 by omega]
  rfl
theorem turned_id (q : List (BitVec 8)) (m : Nat) (hm : m + 1 < q.length) : turnedAt q m 0#8 0#8 = q := by
  rw [turned_split q m hm, BitVec.xor_zero, BitVec.xor_zero]; exact (split_at q m hm).symm
theorem decOk_turned {b : List (BitVec 8)} (h : b.length = 32) (hd : decOk b = true) {k : Nat} (hk : k < 31) (u v : BitVec 8) : decOk (turnedAt b k u v) = (decide (u = 0#8) && decide (v = 0#8)) := by
  have hlt : k + 1 < b.length := by omega
  by_cases huv : u = 0#8 ∧ v = 0#8
  · obtain ⟨rfl, rfl⟩ := huv
    rw [turned_id b k hlt, hd]; rfl
  · have hne : decOk (turnedAt b k u v) = false := by
      cases hx : decOk (turnedAt b k u v) with
      | false => rfl
      | true =>
        have h1 := decOk_crc (by rw [length_turnedAt]; exact h) hx
        have h2 := decOk_crc h hd
        rw [turned_split b k hlt] at h1
        rw [split_at b k hlt] at h2
        exact absurd ((crc_turned _ _ _ _ _ _ _).1 (h2.trans h1.symm)) huv
    rw [hne]
    by_cases hu : u = 0#8
    · have hv : v ≠ 0#8 := fun e => huv ⟨hu, e⟩
      rw [decide_eq_false hv, Bool.and_false]
    · rw [decide_eq_false hu, Bool.false_and]
/- one seal for each mark and padded body -/
theorem sealedB_inj {m : BitVec 8} {p q : List (BitVec 8)} (hp : p.length ≤ 29) (hq : q.length ≤ 29) : sealedB m p = sealedB m q ↔ pad30 m p = pad30 m q := by
  constructor
  · intro h
    rw [← sealedB_take hp, ← sealedB_take hq, h]
  · intro h
    unfold sealedB
    rw [h]
theorem pad30_get {m : BitVec 8} {q : List (BitVec 8)} (i : Nat) (_ : i < 29) : (pad30 m q).getD (i + 1) 0#8 = q.getD i 0#8 := by
  show (q ++ List.replicate (29 - q.length) 0#8).getD i 0#8 = q.getD i 0#8
  rw [List.getD_eq_getElem?_getD, List.getD_eq_getElem?_getD, List.getElem?_append]
  split
  · rfl
  · rename_i h
    rw [List.getElem?_eq_none (by omega : q.length ≤ i), List.getElem?_replicate]
    split <;> rfl
theorem pad30_eq {m : BitVec 8} {p q : List (BitVec 8)} (hp : p.length ≤ 29) (hq : q.length ≤ 29) : pad30 m p = pad30 m q ↔ ∀ i < 29, p.getD i 0#8 = q.getD i 0#8 := by
  constructor
  · intro h i hi
    rw [← pad30_get (m := m) i hi, h, pad30_get i hi]
  · intro h
    apply List.ext_getElem (by rw [length_pad30 hp, length_pad30 hq])
    intro i h1 h2
    rw [length_pad30 hp] at h1
    cases i with
    | zero => rfl
    | succ i =>
      have e1 := pad30_get (m := m) (q := p) i (by omega)
      have e2 := pad30_get (m := m) (q := q) i (by omega)
      have e3 := h i (by omega)
      rw [List.getD_eq_getElem?_getD, List.getElem?_eq_getElem (by rw [length_pad30 hp]; omega), Option.getD_some] at e1
      rw [List.getD_eq_getElem?_getD, List.getElem?_eq_getElem (by rw [length_pad30 hq]; omega), Option.getD_some] at e2
      rw [e1, e2, e3]
theorem sealedB_get {m : BitVec 8} {q : List (BitVec 8)} (h : q.length ≤ 29) (i : Nat) (hi : i < 29) : (sealedB m q).getD (i + 1) 0#8 = q.getD i 0#8 := by
  unfold sealedB
  rw [List.getD_eq_getElem?_getD, List.getElem?_append_left (by rw [length_pad30 h]; omega), ← List.getD_eq_getElem?_getD, pad30_get i hi]
theorem decR_sealedB {m : BitVec 8} {q : List (BitVec 8)} (hm : m ≠ 0#8) (h : q.length ≤ 29) : decR (sealedB m q) = pad30 m q := by
  unfold decR; rw [decOk_sealedB hm h, if_pos rfl, sealedB_take h]
end Go.Proofs.YtobklbfcnbmnmaaDoor

/- What the program's check and the document's come to: crcMore, crcOf. -/
set_option maxRecDepth 4000
namespace Go.Proofs.YtobklbfcnbmnmaaDoor
open Go Go.RowKit
attribute [local go_sem] xor_hd low_hd convb_hd
theorem crcBits_succ (n : Nat) (c : BitVec 16) : crcBits (n + 1) c = crcBit (crcBits n c) := rfl
set_option maxHeartbeats 400000 in
theorem shifted_any (c : BitVec 16) (w : World) :
    Calls Tryd.prog 37 #[.int .u16 (hd c)] w fun e w' => e = .returned (.int .u16 (hd (crcBits 8 c))) ∧ w = w' := by
  have HS : Hid (∀ n, crcBits (n + 1) c = crcBit (crcBits n c)) := Lib.hid fun _ => rfl
  have H0 : Hid (crcBits 0 c = c) := Lib.hid rfl
  generalize hD : (fun n => crcBits n c) = D at *
  have HD : Hid (∀ n, crcBits n c = D n) := Lib.hid fun n => by rw [← hD]
  clear hD
  rw [HD.out 8]
  go_enter Tryd.func37, Tryd.ntmps37
  go_wp2_with fail
  go_loopw [0, 4] (fun v i wr => ∃ k : Nat, k ≤ 8 ∧ i = .int .i64 k ∧ v = .int .u16 (hd (D k)) ∧ wr = w) (fun _ i _ => 8 - (intOf i).toNat)
  case atStart => exact ⟨0, by omega, rfl, by rw [← HD.out 0, H0.out], rfl⟩
  case round =>
    obtain ⟨k, hk, rfl, rfl, rfl⟩ := hrel
    by_cases hlt : k < 8
    · have hu : D (k + 1) = crcBit (D k) := by rw [← HD.out, ← HD.out, HS.out]
      have HU := Lib.hid hu
      clear hu
      generalize D k = x at *
      rcases lowI_eq x with ⟨hb, hl⟩ | ⟨hb, hl⟩
      · have hn : crcBit x = (x >>> 1) ^^^ 0x8408#16 := by unfold crcBit; rw [if_pos hb]
        have HN := Lib.hid hn
        clear hn hb
        go_wp2_with fail
        exact ⟨⟨k + 1, by omega, by go_num, by rw [HU.out, HN.out, shr1_hd, xorP_hd], trivial⟩, by simp [intOf]; omega⟩
      · have hn : crcBit x = x >>> 1 := by unfold crcBit; rw [hb]; rfl
        have HN := Lib.hid hn
        clear hn hb
        go_wp2_with fail
        exact ⟨⟨k + 1, by omega, by go_num, by rw [HU.out, HN.out, shr1_hd], trivial⟩, by simp [intOf]; omega⟩
    · obtain rfl : k = 8 := by omega
      go_wp2_with fail
      go_ret
      exact ⟨rfl, rfl⟩
theorem crcMore_take (c : BitVec 16) (q : List (BitVec 8)) (k : Nat) (hk : k < q.length) : crcMore c (q.take (k + 1)) = crcByte (crcMore c (q.take k)) q[k] := by
  rw [List.take_succ_eq_append_getElem hk, crcMore_append]; rfl
set_option maxHeartbeats 400000 in
theorem more_any (c : BitVec 16) (q : List (BitVec 8)) (v : Value) (w : World) (hs : Slice w v q) (hn : q.length ≤ maxLen) :
    Calls Tryd.prog 28 #[.int .u16 (hd c), v] w fun e w' => e = .returned (.int .u16 (hd (crcMore c q))) ∧ w = w' := by
  unfold maxLen at hn
  obtain ⟨A, cp, rfl, _, h3⟩ := hs
  have H3 := Lib.hid h3
  clear h3
  go_enter Tryd.func28, Tryd.ntmps28
  go_wp2_with fail
  go_loopw [0, 9] (fun x i wr => ∃ k : Nat, k ≤ q.length ∧ i = .int .i64 k ∧ x = .int .u16 (hd (crcMore c (q.take k))) ∧ wr = w) (fun _ i _ => q.length - (intOf i).toNat)
  case atStart => exact ⟨0, by omega, rfl, rfl, rfl⟩
  case round =>
    obtain ⟨k, hk, rfl, rfl, rfl⟩ := hrel
    by_cases hlt : k < q.length
    · obtain ⟨b, o, rfl, _, h6⟩ := H3.out (by intro e; subst e; simp at hlt)
      have hx := h6 k q[k] (List.getElem?_eq_getElem hlt)
      have HU := Lib.hid (crcMore_take c q k hlt)
      clear h6 H3
      generalize q[k] = x at *
      generalize crcMore c (q.take k) = y at *
      generalize q.length = n at *
      have C1 := Lib.hid (shifted_any (y ^^^ x.setWidth 16) wr)
      go_wp2_with fail
      refine C1.out.mono ?_
      rintro e w1 ⟨rfl, rfl⟩
      go_wp2_with fail
      exact ⟨⟨k + 1, by omega, by go_num, by rw [HU.out]; rfl, trivial⟩, by simp [intOf]; omega⟩
    · obtain rfl : k = q.length := by omega
      rw [List.take_length]
      go_wp2_with fail
      go_ret
      exact ⟨rfl, rfl⟩
theorem flat_more (ps : List (List (BitVec 8))) (k : Nat) (hk : k < ps.length) (c : BitVec 16) : crcMore c (ps.take (k + 1)).flatten = crcMore (crcMore c (ps.take k).flatten) ps[k] := by
  rw [flat_succ ps k hk, crcMore_append]
attribute [local go_sem] not_hd signed_u16
set_option maxHeartbeats 400000 in
theorem check_any (ps : List (List (BitVec 8))) (v : Value) (w : World) (hv : Parts w v ps) (hn : ps.length ≤ maxLen) (hq : ∀ q ∈ ps, q.length ≤ maxLen) :
    Calls Tryd.prog 16 #[v] w fun e w' => e = .returned (.int .u16 (hd (crcOf ps.flatten))) ∧ w = w' := by
  unfold maxLen at hn
  obtain ⟨A, cp, rfl, h3⟩ := hv
  have H3 := Lib.hid h3
  have HQ := Lib.hid hq
  have HE : Hid (crcOf ps.flatten = ~~~ crcMore 0xffff#16 ps.flatten) := Lib.hid rfl
  clear h3 hq
  generalize crcOf ps.flatten = R at *
  go_enter Tryd.func16, Tryd.ntmps16
  go_wp2_with fail
  go_loopw [3, 8] (fun x i wr => ∃ k : Nat, k ≤ ps.length ∧ i = .int .i64 k ∧ x = .int .u16 (hd (crcMore 0xffff#16 (ps.take k).flatten)) ∧ wr = w) (fun _ i _ => ps.length - (intOf i).toNat)
  case atStart => exact ⟨0, by omega, rfl, rfl, rfl⟩
  case round =>
    obtain ⟨k, hk, rfl, rfl, rfl⟩ := hrel
    by_cases hlt : k < ps.length
    · obtain ⟨b, o, rfl, _, h6⟩ := H3.out (by intro e; subst e; simp at hlt)
      obtain ⟨u, hu, hs⟩ := h6 k ps[k] (List.getElem?_eq_getElem hlt)
      have HU := Lib.hid (flat_more ps k hlt 0xffff#16)
      have C1 := Lib.hid (more_any (crcMore 0xffff#16 (ps.take k).flatten) ps[k] u wr hs (HQ.out _ (List.getElem_mem hlt)))
      clear h6 H3 hs
      generalize crcMore 0xffff#16 (ps.take k).flatten = y at *
      generalize ps[k] = pk at *
      generalize ps.length = n at *
      go_wp2_with fail
      refine C1.out.mono ?_
      rintro e w1 ⟨rfl, rfl⟩
      go_wp2_with fail
      exact ⟨⟨k + 1, by omega, by go_num, by rw [HU.out], trivial⟩, by simp [intOf]; omega⟩
    · obtain rfl : k = ps.length := by omega
      rw [List.take_length]
      go_wp2_with fail
      go_ret
      rw [HE.out]
      exact ⟨rfl, rfl⟩
end Go.Proofs.YtobklbfcnbmnmaaDoor

/- What the document's own check comes to: crcMore, crcOf. -/
set_option maxRecDepth 4000
namespace Go.Proofs.YtobklbfcnbmnmaaDoor
open Go Go.RowKit
attribute [local go_sem] xor_hd low_hd convb_hd not_hd signed_u16
set_option maxHeartbeats 800000 in
theorem refmore_any (c : BitVec 16) (q : List (BitVec 8)) (v : Value) (w : World) (hs : Slice w v q) (hn : q.length ≤ maxLen) :
    Calls Tryd.prog 40 #[.int .u16 (hd c), v] w fun e w' => e = .returned (.int .u16 (hd (crcMore c q))) ∧ w = w' := by
  unfold maxLen at hn
  obtain ⟨A, cp, rfl, _, h3⟩ := hs
  have H3 := Lib.hid h3
  clear h3
  go_enter Tryd.func40, Tryd.ntmps40
  go_wp2_with fail
  go_loopw [0, 5] (fun x i wr => ∃ k : Nat, k ≤ q.length ∧ i = .int .i64 k ∧ x = .int .u16 (hd (crcMore c (q.take k))) ∧ wr = w) (fun _ i _ => q.length - (intOf i).toNat)
  case atStart => exact ⟨0, by omega, rfl, rfl, rfl⟩
  case round =>
    obtain ⟨k, hk, rfl, rfl, rfl⟩ := hrel
    by_cases hlt : k < q.length
    · obtain ⟨b, o, rfl, _, h6⟩ := H3.out (by intro e; subst e; simp at hlt)
      have hx := h6 k q[k] (List.getElem?_eq_getElem hlt)
      have HU := Lib.hid (crcMore_take c q k hlt)
      clear h6 H3
      generalize q[k] = x at *
      generalize crcMore c (q.take k) = y at *
      have HS : Hid (∀ n, crcBits (n + 1) (y ^^^ x.setWidth 16) = crcBit (crcBits n (y ^^^ x.setWidth 16))) := Lib.hid fun _ => rfl
      have H0 : Hid (crcBits 0 (y ^^^ x.setWidth 16) = y ^^^ x.setWidth 16) := Lib.hid rfl
      have H8 : Hid (crcByte y x = crcBits 8 (y ^^^ x.setWidth 16)) := Lib.hid rfl
      obtain ⟨D, hD⟩ : ∃ D : Nat → BitVec 16, ∀ n, crcBits n (y ^^^ x.setWidth 16) = D n := ⟨fun n => crcBits n (y ^^^ x.setWidth 16), fun _ => rfl⟩
      have HD := Lib.hid hD
      clear hD
      have H9 : Hid (crcMore c (q.take (k + 1)) = D 8) := Lib.hid (by rw [HU.out, H8.out, HD.out])
      go_wp2_with fail
      go_loopw [0, 6] (fun z j ws => ∃ m : Nat, m ≤ 8 ∧ j = .int .i64 m ∧ z = .int .u16 (hd (D m)) ∧ ws = wr) (fun _ j _ => 8 - (intOf j).toNat)
      case atStart => exact ⟨0, by omega, rfl, by rw [← HD.out 0, H0.out], rfl⟩
      case round =>
        obtain ⟨m, hm, rfl, rfl, rfl⟩ := hrel
        by_cases hlm : m < 8
        · have HV : Hid (D (m + 1) = crcBit (D m)) := Lib.hid (by rw [← HD.out, ← HD.out, HS.out])
          generalize D m = d at *
          rcases lowI_eq d with ⟨hb, hl⟩ | ⟨hb, hl⟩
          · have HN : Hid (crcBit d = (d >>> 1) ^^^ 0x8408#16) := Lib.hid (by unfold crcBit; rw [if_pos hb])
            clear hb
            go_wp2_with fail
            exact ⟨⟨m + 1, by omega, by go_num, by rw [HV.out, HN.out, shr1_hd, xorP_hd], trivial⟩, by simp [intOf]; omega⟩
          · have HN : Hid (crcBit d = d >>> 1) := Lib.hid (by unfold crcBit; rw [hb]; rfl)
            clear hb
            go_wp2_with fail
            exact ⟨⟨m + 1, by omega, by go_num, by rw [HV.out, HN.out, shr1_hd], trivial⟩, by simp [intOf]; omega⟩
        · obtain rfl : m = 8 := by omega
          go_wp2_with fail
          exact ⟨⟨k + 1, by omega, by go_num, by rw [H9.out], trivial⟩, by simp [intOf]; omega⟩
    · obtain rfl : k = q.length := by omega
      rw [List.take_length]
      go_wp2_with fail
      go_ret
      exact ⟨rfl, rfl⟩
set_option maxHeartbeats 400000 in
theorem refcheck_any (ps : List (List (BitVec 8))) (v : Value) (w : World) (hv : Parts w v ps) (hn : ps.length ≤ maxLen) (hq : ∀ q ∈ ps, q.length ≤ maxLen) :
    Calls Tryd.prog 31 #[v] w fun e w' => e = .returned (.int .u16 (hd (crcOf ps.flatten))) ∧ w = w' := by
  unfold maxLen at hn
  obtain ⟨A, cp, rfl, h3⟩ := hv
  have H3 := Lib.hid h3
  have HQ := Lib.hid hq
  have HE : Hid (crcOf ps.flatten = ~~~ crcMore 0xffff#16 ps.flatten) := Lib.hid rfl
  clear h3 hq
  generalize crcOf ps.flatten = R at *
  go_enter Tryd.func31, Tryd.ntmps31
  go_wp2_with fail
  go_loopw [3, 4] (fun x i wr => ∃ k : Nat, k ≤ ps.length ∧ i = .int .i64 k ∧ x = .int .u16 (hd (crcMore 0xffff#16 (ps.take k).flatten)) ∧ wr = w) (fun _ i _ => ps.length - (intOf i).toNat)
  case atStart => exact ⟨0, by omega, rfl, rfl, rfl⟩
  case round =>
    obtain ⟨k, hk, rfl, rfl, rfl⟩ := hrel
    by_cases hlt : k < ps.length
    · obtain ⟨b, o, rfl, _, h6⟩ := H3.out (by intro e; subst e; simp at hlt)
      obtain ⟨u, hu, hs⟩ := h6 k ps[k] (List.getElem?_eq_getElem hlt)
      have HU := Lib.hid (flat_more ps k hlt 0xffff#16)
      have C1 := Lib.hid (refmore_any (crcMore 0xffff#16 (ps.take k).flatten) ps[k] u wr hs (HQ.out _ (List.getElem_mem hlt)))
      clear h6 H3 hs
      generalize crcMore 0xffff#16 (ps.take k).flatten = y at *
      generalize ps[k] = pk at *
      generalize ps.length = n at *
      go_wp2_with fail
      refine C1.out.mono ?_
      rintro e w1 ⟨rfl, rfl⟩
      go_wp2_with fail
      exact ⟨⟨k + 1, by omega, by go_num, by rw [HU.out], trivial⟩, by simp [intOf]; omega⟩
    · obtain rfl : k = ps.length := by omega
      rw [List.take_length]
      go_wp2_with fail
      go_ret
      rw [HE.out]
      exact ⟨rfl, rfl⟩
end Go.Proofs.YtobklbfcnbmnmaaDoor

/- The document's bytes with their check behind. -/
set_option maxRecDepth 4000
namespace Go.Proofs.YtobklbfcnbmnmaaDoor
open Go Go.RowKit
attribute [local go_sem] lowb_hd lowb8_hd
set_option maxHeartbeats 800000 in
theorem refsealed_any (q : List (BitVec 8)) (v : Value) (w : World) (hv : Item w v q) (hq : q.length ≤ 100000) :
    Calls Tryd.prog 22 #[v] w fun e w' => ∃ v', e = .returned v' ∧ w'.ownsRow w.heap.size 5 1 v' (q ++ crcTail q).length (bytesV (q ++ crcTail q)) ∧ Below w.heap.size w w' := by
  obtain ⟨A, c, rfl, hS, hA, hm⟩ := hv
  have HA := Lib.hid hA
  have hb1 := (Below.refl w.heap.size w).alloc (Nat.le_refl _) (.cells #[.slice A q.length c] 32)
  have C1 := refcheck_any [q] _ _ (parts1 hS) (by simp [maxLen]) (by simpa using hm)
  rw [show ([q] : List (List (BitVec 8))).flatten = q by simp] at C1
  have HT : Hid (crcTail q = [(crcOf q).setWidth 8, ((crcOf q) >>> 8).setWidth 8]) := Lib.hid rfl
  obtain ⟨z, hz⟩ : ∃ z, crcOf q = z := ⟨_, rfl⟩
  rw [hz] at C1 HT
  obtain ⟨n, hn⟩ : ∃ n, q.length = n := ⟨_, rfl⟩
  have HN := Lib.hid hn
  have HQ : Hid (n ≤ 100000) := Lib.hid (by rw [← hn]; exact hq)
  rw [hn] at hb1 hS C1 ⊢
  have HS1 := Lib.hid (Slice.below hS hb1 (Nat.le_refl _))
  clear hS hm hA hz hn hq
  go_enter Tryd.func22, Tryd.ntmps22
  go_wp2_with fail
  refine C1.mono ?_
  rintro e w1 ⟨rfl, rfl⟩
  clear C1
  generalize w.alloc (.cells #[.slice A n c] 32) = w1 at *
  have HS2 := Lib.hid (Slice.below HS1.out ((Below.refl w1.heap.size w1).alloc (Nat.le_refl _) (.cells #[] 5)) (Nat.le_refl _))
  go_wp2_with (first | (at_builtin; refine wpList_append_slice rfl (.tmp 7) (.tmp 8) rfl w1.heap.size _ 0 [] rfl (own_empty w1) A n c q rfl HS2.out HA.out (by have := HQ.out; omega) (by simp) ?_; intro v4 w4 own4 hb4; simp only [Nat.zero_add, List.nil_append] at own4; have HO4 := Lib.hid own4; have HB4 := Lib.hid (((Below.refl w1.heap.size w1).alloc (Nat.le_refl _) (.cells #[] 5)).trans hb4); clear own4 hb4; obtain ⟨B2, hB2⟩ : ∃ B2 : List (BitVec 8), B2 = [z.setWidth 8, (z >>> 8).setWidth 8] := ⟨_, rfl⟩; have HB2 := Lib.hid hB2; clear hB2; have HR4 := Lib.hid (row_slice (Row.fresh w4 5 (bs [z.setWidth 8, (z >>> 8).setWidth 8])) (c := 2) (Nat.le_refl _)); have HO5 := Lib.hid (HO4.out.alloc (.cells (bs [z.setWidth 8, (z >>> 8).setWidth 8]) 5)); have HB5 := Lib.hid (HB4.out.alloc HB4.out.size (.cells (bs [z.setWidth 8, (z >>> 8).setWidth 8]) 5))) | (at_builtin; refine wpList_append_slice rfl (.tmp 9) (.tmp 15) rfl w1.heap.size v4 n (bytesV q) rfl HO5.out (some ⟨w4.heap.size, 0, none⟩) 2 2 [z.setWidth 8, (z >>> 8).setWidth 8] rfl HR4.out (fun h => by cases h) (by have := HQ.out; omega) HB5.out.size ?_; intro v6 w6 own6 hb6; have HO6 := Lib.hid own6; have HB6 := Lib.hid (HB5.out.trans hb6); clear own6 hb6))
  go_ret
  refine ⟨v6, rfl, ?_, hb1.trans (HB6.out.mono hb1.size)⟩
  have h6 := own_mono HO6.out hb1.size
  rw [show bytesV q ++ bytesV [z.setWidth 8, (z >>> 8).setWidth 8] = bytesV (q ++ crcTail q) by rw [HT.out]; simp [bytesV]] at h6
  rw [show (q ++ crcTail q).length = n + 2 by rw [List.length_append, HN.out]; rfl]
  exact h6
end Go.Proofs.YtobklbfcnbmnmaaDoor

/- The document's sector of a mark and a body. -/
set_option maxRecDepth 4000
namespace Go.Proofs.YtobklbfcnbmnmaaDoor
open Go Go.RowKit
theorem encB_bad {m : BitVec 8} {q : List (BitVec 8)} (h : encBad m q = true) : encB m q = blk 0#8 := by unfold encB; rw [if_pos h]; rfl
theorem encE_bad {m : BitVec 8} {q : List (BitVec 8)} (h : encBad m q = true) : encE m q = 1 := by unfold encE; rw [if_pos h]
theorem encB_good {m : BitVec 8} {q : List (BitVec 8)} (h : encBad m q = false) : encB m q = sealedB m q := by unfold encB; rw [h]; rfl
theorem encE_good {m : BitVec 8} {q : List (BitVec 8)} (h : encBad m q = false) : encE m q = 0 := by unfold encE; rw [h]; rfl
theorem bd_zero_iff (m : BitVec 8) : (bd m == 0) = decide (m = 0#8) := by
  by_cases h : m = 0#8
  · subst h; rfl
  · rw [decide_eq_false h]
    exact beq_eq_false_iff_ne.2 fun e => h (bd_inj (by rw [e]; rfl))
structure EncAt (w W : World) (g4 g7 : Nat) (v6 : Value) (p : List (BitVec 8)) : Prop where
  r4 : Row W g4 29 (bs (blk 0#8))
  r7 : Row W g7 29 (bs (blk 0#8))
  it : Item W v6 p
  below : Below w.heap.size w W
  lo4 : w.heap.size ≤ g4
  lo7 : w.heap.size ≤ g7
  ne : g4 ≠ g7
theorem encAt_stays {w W W' : World} {g4 g7 : Nat} {v6 : Value} {p : List (BitVec 8)} (h : EncAt w W g4 g7 v6 p) (k : Same W W') : EncAt w W' g4 g7 v6 p :=
  ⟨h.r4.call k, h.r7.call k, h.it.below k (Nat.le_refl _), h.below.trans (k.mono h.below.size), h.lo4, h.lo7, h.ne⟩
structure EncDone (w W : World) (g4 g7 : Nat) (b : List (BitVec 8)) : Prop where
  r4 : Row W g4 29 (bs (blk 0#8))
  r7 : Row W g7 29 (bs b)
  below : Below w.heap.size w W
theorem encDone_stays {w W W' : World} {g4 g7 : Nat} {b : List (BitVec 8)} (h : EncDone w W g4 g7 b) (k : Same W W') : EncDone w W' g4 g7 b :=
  ⟨h.r4.call k, h.r7.call k, h.below.trans (k.mono h.below.size)⟩
theorem spl_all (p b : List (BitVec 8)) (h : p.length = b.length) : spl p 0 b = b := by
  unfold spl
  rw [List.take_zero, List.nil_append, Nat.zero_add, List.drop_of_length_le (by omega), List.append_nil]
theorem own_item {w : World} {base : Nat} {v : Value} {q : List (BitVec 8)} (h : w.ownsRow base 5 1 v q.length (bytesV q)) (hq : q.length ≤ maxLen) : Item w v q := by
  have hS := own_slice h
  obtain ⟨A, c, rfl, h1, h2⟩ := hS
  refine ⟨A, c, rfl, ⟨A, c, rfl, h1, h2⟩, ?_, hq⟩
  rintro rfl
  rcases h.2 with ⟨e, _⟩ | ⟨g, cap, cur, e, _⟩
  · injection e
  · injection e with e; cases e
end Go.Proofs.YtobklbfcnbmnmaaDoor

/- The document's mark and body of a sector. -/
set_option maxRecDepth 4000
namespace Go.Proofs.YtobklbfcnbmnmaaDoor
open Go Go.RowKit
/- the document's answer of a sector -/
def gotCells (r : List (BitVec 8)) (e : Int) : Array Value := (bytesV r ++ [Value.int .i64 e]).toArray
theorem size_gotCells {r : List (BitVec 8)} {e : Int} (h : r.length = 30) : (gotCells r e).size = 31 := by simp [gotCells, len_bytesV, h]
theorem one_gotCells (r : List (BitVec 8)) (e : Int) : (gotCells r e).all (·.oneCell') = true := all_oneCell_toArray fun v hv => by
  rcases List.mem_append.1 hv with h | h
  · exact one_bytesV _ v h
  · rw [List.mem_singleton.1 h]; rfl
theorem zeros_got : (#[.int .u8 0, .int .u8 0, .int .u8 0, .int .u8 0, .int .u8 0, .int .u8 0, .int .u8 0, .int .u8 0, .int .u8 0, .int .u8 0, .int .u8 0, .int .u8 0, .int .u8 0, .int .u8 0, .int .u8 0, .int .u8 0, .int .u8 0, .int .u8 0, .int .u8 0, .int .u8 0, .int .u8 0, .int .u8 0, .int .u8 0, .int .u8 0, .int .u8 0, .int .u8 0, .int .u8 0, .int .u8 0, .int .u8 0, .int .u8 0, .int .i64 0] : Array Value) = gotCells (zer 30) 0 := by rfl
theorem got11 : (#[.int .u8 0, .int .u8 0, .int .u8 0, .int .u8 0, .int .u8 0, .int .u8 0, .int .u8 0, .int .u8 0, .int .u8 0, .int .u8 0, .int .u8 0, .int .u8 0, .int .u8 0, .int .u8 0, .int .u8 0, .int .u8 0, .int .u8 0, .int .u8 0, .int .u8 0, .int .u8 0, .int .u8 0, .int .u8 0, .int .u8 0, .int .u8 0, .int .u8 0, .int .u8 0, .int .u8 0, .int .u8 0, .int .u8 0, .int .u8 0, .int .i64 11] : Array Value) = gotCells (zer 30) 11 := by rfl
theorem gotm (m : BitVec 8) : (#[.int .u8 (bd m), .int .u8 0, .int .u8 0, .int .u8 0, .int .u8 0, .int .u8 0, .int .u8 0, .int .u8 0, .int .u8 0, .int .u8 0, .int .u8 0, .int .u8 0, .int .u8 0, .int .u8 0, .int .u8 0, .int .u8 0, .int .u8 0, .int .u8 0, .int .u8 0, .int .u8 0, .int .u8 0, .int .u8 0, .int .u8 0, .int .u8 0, .int .u8 0, .int .u8 0, .int .u8 0, .int .u8 0, .int .u8 0, .int .u8 0, .int .i64 0] : Array Value) = gotCells (m :: zer 29) 0 := by rfl
theorem spl_got (m : BitVec 8) (q : List (BitVec 8)) (hq : q.length = 29) : (spl (gotCells (m :: zer 29) 0).toList 1 (bytesV q)).toArray = gotCells (m :: q) 0 := by
  unfold spl gotCells
  rw [len_bytesV, hq]
  simp [bytesV, zer]
theorem got_e {w : World} {g : Nat} {t : TypeId} {q : List (BitVec 8)} {e : Int} (h : Row w g t (gotCells q e)) (hq : q.length = 30) : w.cell? ⟨g, 30, none⟩ = some (.int .i64 e) :=
  h.get (by
    unfold gotCells
    rw [List.getElem?_toArray, List.getElem?_append_right (by rw [len_bytesV, hq]; exact Nat.le_refl _), len_bytesV, hq]; rfl)
theorem decR_no {b : List (BitVec 8)} (h : decOk b = false) : decR b = zer 30 := by unfold decR; rw [h]; rfl
theorem decE_no {b : List (BitVec 8)} (h : decOk b = false) : decE b = 11 := by unfold decE; rw [h]; rfl
theorem decR_yes {b : List (BitVec 8)} (hl : b.length = 32) (h : decOk b = true) : decR b = markOf b :: bodyOf b := by
  unfold decR; rw [h, if_pos rfl, ← take30 hl, pad30_full (length_bodyOf hl)]
theorem decE_yes {b : List (BitVec 8)} (h : decOk b = true) : decE b = 0 := by unfold decE; rw [h]; rfl
end Go.Proofs.YtobklbfcnbmnmaaDoor

/- What the statements of seal need to know of the program's seal; bodies compared. -/
set_option maxRecDepth 4000
namespace Go.Proofs.YtobklbfcnbmnmaaDoor
open Go Go.RowKit
theorem item_nil (w : World) : Item w (.slice none 0 0) [] := ⟨none, 0, rfl, slice_nil w, fun _ => rfl, Nat.zero_le _⟩
theorem row_at_bs {w : World} {g : Nat} {t : TypeId} {q : List (BitVec 8)} (h : Row w g t (bs q)) {i : Nat} {x : Int} (hi : i < q.length) (hx : bd (q.getD i 0#8) = x) : w.cell? ⟨g, i, none⟩ = some (.int .u8 x) := by
  rw [← hx]; exact h.get (get_bs q i hi)
theorem row_set_bs {w : World} {g k : Nat} {t : TypeId} {q : List (BitVec 8)} (h : Row w g t (bs q)) (x : BitVec 8) : Row (w.setCell ⟨g, k, none⟩ (.int .u8 (bd x))) g t (bs (q.set k x)) := by
  have := h.put k (.int .u8 (bd x))
  rwa [show (bs q).setIfInBounds k (.int .u8 (bd x)) = bs (q.set k x) by simp [bs, List.map_set]] at this
end Go.Proofs.YtobklbfcnbmnmaaDoor

/- The helpers of the program's seal: the check that a sector ought to have, a sealed sector as bytes, and of bytes. -/
set_option maxRecDepth 4000
namespace Go.Proofs.YtobklbfcnbmnmaaDoor
open Go Go.RowKit
def sld (r : List (BitVec 8)) (c : BitVec 16) : Array Value := (bs r).push (.int .u16 (hd c))
theorem size_sld (r : List (BitVec 8)) (c : BitVec 16) : (sld r c).size = r.length + 1 := by simp [sld, size_bs]
theorem one_sld (r : List (BitVec 8)) (c : BitVec 16) : (sld r c).all (·.oneCell') = true := by
  have h := one_bs r
  rw [Array.all_eq_true_iff_forall_mem] at *
  intro v hv
  unfold sld at hv
  rcases Array.mem_push.1 hv with h1 | rfl
  · exact h v h1
  · rfl
theorem sld_toList (r : List (BitVec 8)) (c : BitVec 16) : (sld r c).toList = bytesV r ++ [.int .u16 (hd c)] := by simp [sld, bs_toList]
theorem sld_low {r : List (BitVec 8)} (c : BitVec 16) {i : Nat} (hi : i < r.length) {x : Int} (hx : bd (r.getD i 0#8) = x) : (sld r c)[i]? = some (.int .u8 x) := by
  have e : (bs r)[i]? = some (.int .u8 (bd (r.getD i 0#8))) := get_bs r i hi
  rw [← hx, ← e]
  unfold sld
  rw [Array.getElem?_push_lt (by rw [size_bs]; exact hi), Array.getElem?_eq_getElem (by rw [size_bs]; exact hi)]
theorem sld_top {r : List (BitVec 8)} (c : BitVec 16) (hr : r.length = 30) : (sld r c)[30]? = some (.int .u16 (hd c)) := by
  have e : (bs r).size = 30 := by rw [size_bs, hr]
  unfold sld
  rw [← e, Array.getElem?_push_size]
theorem sld_take (r : List (BitVec 8)) (c : BitVec 16) : ((sld r c).toList.drop 0).take (bs r).size = (bs r).toList := by
  rw [sld_toList, List.drop_zero, bs_toList, List.take_left' (by rw [len_bytesV, size_bs])]
theorem sld_set {r : List (BitVec 8)} (hr : r.length = 30) (c d : BitVec 16) : (spl (sld r c).toList 30 [.int .u16 (hd d)]).toArray = sld r d := by
  apply Array.ext'
  rw [sld_toList, sld_toList]
  unfold spl
  rw [List.take_left' (by rw [len_bytesV, hr]), List.drop_of_length_le (by simp [len_bytesV, hr]), List.append_nil]
theorem zeros_sld : (#[.int .u8 0, .int .u8 0, .int .u8 0, .int .u8 0, .int .u8 0, .int .u8 0, .int .u8 0, .int .u8 0, .int .u8 0, .int .u8 0, .int .u8 0, .int .u8 0, .int .u8 0, .int .u8 0, .int .u8 0, .int .u8 0, .int .u8 0, .int .u8 0, .int .u8 0, .int .u8 0, .int .u8 0, .int .u8 0, .int .u8 0, .int .u8 0, .int .u8 0, .int .u8 0, .int .u8 0, .int .u8 0, .int .u8 0, .int .u8 0, .int .u16 0] : Array Value) = sld (zer 30) 0#16 := by rfl
theorem sldm (m : BitVec 8) : (#[.int .u8 (bd m), .int .u8 0, .int .u8 0, .int .u8 0, .int .u8 0, .int .u8 0, .int .u8 0, .int .u8 0, .int .u8 0, .int .u8 0, .int .u8 0, .int .u8 0, .int .u8 0, .int .u8 0, .int .u8 0, .int .u8 0, .int .u8 0, .int .u8 0, .int .u8 0, .int .u8 0, .int .u8 0, .int .u8 0, .int .u8 0, .int .u8 0, .int .u8 0, .int .u8 0, .int .u8 0, .int .u8 0, .int .u8 0, .int .u8 0, .int .u16 0] : Array Value) = sld (m :: zer 29) 0#16 := by rfl
theorem sld_body {m : BitVec 8} {q : List (BitVec 8)} (hq : q.length ≤ 29) (c : BitVec 16) : (spl (sld (m :: zer 29) c).toList 1 (bytesV q)).toArray = sld (pad30 m q) c := by
  apply Array.ext'
  rw [sld_toList, sld_toList]
  obtain ⟨n, hn⟩ : ∃ n, 29 = q.length + n := ⟨29 - q.length, by omega⟩
  have hz : zer (q.length + n) = zer q.length ++ zer n := by unfold zer; rw [List.replicate_append_replicate]
  unfold spl pad30
  rw [hn, Nat.add_sub_cancel_left, hz]
  simp only [bytesV, List.map_cons, List.map_append, List.length_map, List.cons_append, List.take_succ_cons, List.take_zero, Nat.add_comm 1, List.drop_succ_cons]
  rw [List.append_assoc (List.map _ (zer q.length)), List.drop_left' (by simp [zer])]
  simp [zer]
theorem sld_tail {w : World} {g : Nat} {t : TypeId} {r : List (BitVec 8)} {c : BitVec 16} (h : Row w g t (sld r c)) (hr : r.length = 30) : Slice w (.slice (some ⟨g, 1, none⟩) 29 29) (r.drop 1) := by
  have hl : (r.drop 1).length = 29 := by rw [List.length_drop, hr]
  refine ⟨some ⟨g, 1, none⟩, 29, by rw [hl], by rw [hl]; exact Nat.le_refl _, fun _ => ⟨g, 1, rfl, h.lt, fun j x hx => h.get ?_⟩⟩
  rw [List.getElem?_drop] at hx
  have hj := (List.getElem?_eq_some_iff.1 hx).1
  exact sld_low c hj (by rw [List.getD_eq_getElem?_getD, hx]; rfl)
theorem size_sld31 {r : List (BitVec 8)} (hr : r.length = 30) (c : BitVec 16) : (sld r c).size = 31 := by rw [size_sld, hr]
/- the check that stands behind a sector -/
def tailC (b : List (BitVec 8)) : BitVec 16 := (b.getD 30 0#8).setWidth 16 ||| ((b.getD 31 0#8).setWidth 16) <<< 8
theorem halves (c : BitVec 16) (x y : BitVec 8) : (c.setWidth 8 = x ∧ (c >>> 8).setWidth 8 = y) ↔ x.setWidth 16 ||| (y.setWidth 16) <<< 8 = c := by
  constructor
  · rintro ⟨rfl, rfl⟩
    apply BitVec.eq_of_getLsbD_eq
    intro i hi
    simp only [BitVec.getLsbD_or, BitVec.getLsbD_setWidth, BitVec.getLsbD_shiftLeft, BitVec.getLsbD_ushiftRight]
    by_cases h : i < 8
    · simp [h, hi]
    · have h2 : i - 8 < 8 := by omega
      simp [h, hi, h2, show 8 + (i - 8) = i by omega, show i - 8 < 16 by omega]
  · rintro rfl
    constructor
    · apply BitVec.eq_of_getLsbD_eq
      intro i hi
      simp only [BitVec.getLsbD_or, BitVec.getLsbD_setWidth, BitVec.getLsbD_shiftLeft]
      simp [hi, show i < 16 by omega]
    · apply BitVec.eq_of_getLsbD_eq
      intro i hi
      simp only [BitVec.getLsbD_or, BitVec.getLsbD_setWidth, BitVec.getLsbD_shiftLeft, BitVec.getLsbD_ushiftRight]
      simp [hi, show 8 + i < 16 by omega, show i < 16 by omega]
theorem drop30 {b : List (BitVec 8)} (h : b.length = 32) : b.drop 30 = [b.getD 30 0#8, b.getD 31 0#8] := by
  rw [List.drop_eq_getElem_cons (by omega), List.drop_eq_getElem_cons (by omega), List.drop_of_length_le (by omega)]
  simp [List.getD_eq_getElem?_getD, h]
theorem decOk_tail {b : List (BitVec 8)} (h : b.length = 32) : decOk b = (decide (markOf b ≠ 0#8) && decide (tailC b = crcOf (b.take 30))) := by
  rw [decOk_eq h]
  congr 1
  apply decide_eq_decide.2
  rw [drop30 h]
  unfold crcTail tailC
  rw [List.cons.injEq, List.cons.injEq]
  constructor
  · rintro ⟨h1, h2, _⟩; exact (halves _ _ _).1 ⟨h1, h2⟩
  · intro h1
    obtain ⟨h2, h3⟩ := (halves _ _ _).2 h1
    exact ⟨h2, h3, rfl⟩
theorem shl8_hd (x : BitVec 16) : IntKind.u16.wrap (hd x * (256 : Int)) = hd (x <<< 8) := by
  rw [IntKind.wrap_u16]; unfold hd; have := x.isLt; rw [BitVec.toNat_shiftLeft, Nat.shiftLeft_eq]; omega
theorem blk_set (m : BitVec 8) : (#[.int .u8 (bd m), .int .u8 0, .int .u8 0, .int .u8 0, .int .u8 0, .int .u8 0, .int .u8 0, .int .u8 0, .int .u8 0, .int .u8 0, .int .u8 0, .int .u8 0, .int .u8 0, .int .u8 0, .int .u8 0, .int .u8 0, .int .u8 0, .int .u8 0, .int .u8 0, .int .u8 0, .int .u8 0, .int .u8 0, .int .u8 0, .int .u8 0, .int .u8 0, .int .u8 0, .int .u8 0, .int .u8 0, .int .u8 0, .int .u8 0, .int .u8 0, .int .u8 0] : Array Value) = bs ((blk 0#8).set 0 m) := by rfl
theorem put_body {r : List (BitVec 8)} (hr : r.length = 30) {m : BitVec 8} (hm : r.getD 0 0#8 = m) : (spl (bs ((blk 0#8).set 0 m)).toList 1 (bytesV (r.drop 1))).toArray = bs (r ++ [0#8, 0#8]) := by
  rw [spl_bs]
  congr 1
  subst hm
  cases r with
  | nil => simp at hr
  | cons x r =>
    have hl : r.length = 29 := by simpa using hr
    unfold spl
    simp only [List.drop_succ_cons, List.drop_zero, hl]
    rfl
theorem put_30 {r : List (BitVec 8)} (hr : r.length = 30) (u x y : BitVec 8) : (bs (r ++ [u, y])).setIfInBounds 30 (.int .u8 (bd x)) = bs (r ++ [x, y]) := by
  rw [set_bs, List.set_append_right _ _ (by omega), hr]; rfl
theorem put_31 {r : List (BitVec 8)} (hr : r.length = 30) (u x y : BitVec 8) : (bs (r ++ [x, u])).setIfInBounds 31 (.int .u8 (bd y)) = bs (r ++ [x, y]) := by
  rw [set_bs, List.set_append_right _ _ (by omega), hr]; rfl
attribute [local go_sem] lowb_hd lowb8_hd
end Go.Proofs.YtobklbfcnbmnmaaDoor

/- A sector's bytes as a sealed sector; the program's sector of a mark and a body. -/
set_option maxRecDepth 4000
namespace Go.Proofs.YtobklbfcnbmnmaaDoor
open Go Go.RowKit
attribute [local go_sem] convb_hd shl8_hd or_hd
theorem both_sld {r p : List (BitVec 8)} (c d : BitVec 16) (h : r.length = 30) (k : p.length = 30) : (sld r c).size = (sld p d).size := by rw [size_sld31 h, size_sld31 k]
theorem sld_put {r : List (BitVec 8)} (hr : r.length = 30) (c d : BitVec 16) : (sld r c).setIfInBounds 30 (.int .u16 (hd d)) = sld r d := by
  rw [← spl_at _ _ _ (by rw [size_sld31 hr]; decide)]; exact sld_set hr c d
end Go.Proofs.YtobklbfcnbmnmaaDoor

/- The program's mark and body of a sector; its contracts together. -/
set_option maxRecDepth 4000
namespace Go.Proofs.YtobklbfcnbmnmaaDoor
open Go Go.RowKit
theorem zeros_sec : (#[.int .u8 0, .int .u8 0, .int .u8 0, .int .u8 0, .int .u8 0, .int .u8 0, .int .u8 0, .int .u8 0, .int .u8 0, .int .u8 0, .int .u8 0, .int .u8 0, .int .u8 0, .int .u8 0, .int .u8 0, .int .u8 0, .int .u8 0, .int .u8 0, .int .u8 0, .int .u8 0, .int .u8 0, .int .u8 0, .int .u8 0, .int .u8 0, .int .u8 0, .int .u8 0, .int .u8 0, .int .u8 0, .int .u8 0, .int .u8 0] : Array Value) = bs (zer 30) := by rfl
theorem hd_ne (x y : BitVec 16) : (hd x != hd y) = !decide (x = y) := by
  by_cases h : x = y
  · subst h; simp
  · rw [decide_eq_false h]; simp; exact fun e => h (hd_inj e)
end Go.Proofs.YtobklbfcnbmnmaaDoor
