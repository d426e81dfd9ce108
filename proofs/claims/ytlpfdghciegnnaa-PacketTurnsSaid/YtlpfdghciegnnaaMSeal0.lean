/- Merged: CrcSpec CrcMore CrcRef SealSpec SealRef SealRefE SealRefD SealIf SealPrgH SealPrgE SealPrgD. -/
import Derived.KernelRfl
import Derived.Deep.Cut
import Derived.Test.YtlpfdghciegnnaaMGen0
/- The check of bytes as plain functions on lists of bytes: what a step is, that it is linear and takes no two states to one, and what is left behind a message and its check. No program is named here. -/
set_option maxRecDepth 4000
namespace Go.Proofs.Ytlpfdghciegnnaa
/- one bit, one byte, many bytes -/
def crcBit (c : BitVec 16) : BitVec 16 := if c.getLsbD 0 then (c >>> 1) ^^^ 0x8408#16 else c >>> 1
def crcBits (n : Nat) (c : BitVec 16) : BitVec 16 := Nat.repeat crcBit n c
def crcByte (c : BitVec 16) (x : BitVec 8) : BitVec 16 := crcBits 8 (c ^^^ x.setWidth 16)
def crcMore (c : BitVec 16) (b : List (BitVec 8)) : BitVec 16 := b.foldl crcByte c
def crcOf (b : List (BitVec 8)) : BitVec 16 := ~~~ crcMore 0xffff#16 b
theorem crcMore_append (c : BitVec 16) (a b : List (BitVec 8)) : crcMore c (a ++ b) = crcMore (crcMore c a) b := List.foldl_append
theorem crcMore_cons (c : BitVec 16) (x : BitVec 8) (b : List (BitVec 8)) : crcMore c (x :: b) = crcMore (crcByte c x) b := rfl
/- a bit's step as a sum: linear -/
def poly (b : Bool) : BitVec 16 := if b then 0x8408#16 else 0#16
theorem crcBit_eq (c : BitVec 16) : crcBit c = (c >>> 1) ^^^ poly (c.getLsbD 0) := by
  unfold crcBit poly; split <;> simp
theorem poly_xor (a b : Bool) : poly (a ^^ b) = poly a ^^^ poly b := by cases a <;> cases b <;> decide
theorem crcBit_xor (c d : BitVec 16) : crcBit (c ^^^ d) = crcBit c ^^^ crcBit d := by
  rw [crcBit_eq, crcBit_eq, crcBit_eq, BitVec.getLsbD_xor, poly_xor, BitVec.ushiftRight_xor_distrib]
  ac_rfl
theorem crcBits_xor (n : Nat) (c d : BitVec 16) : crcBits n (c ^^^ d) = crcBits n c ^^^ crcBits n d := by
  induction n with
  | zero => rfl
  | succ n ih => show crcBit (crcBits n (c ^^^ d)) = crcBit (crcBits n c) ^^^ crcBit (crcBits n d); rw [ih, crcBit_xor]
theorem crcBits_zero (n : Nat) : crcBits n 0#16 = 0#16 := by
  induction n with
  | zero => rfl
  | succ n ih => show crcBit (crcBits n 0#16) = 0#16; rw [ih]; decide
/- a bit's step may be taken back -/
theorem crcBit_top (c : BitVec 16) : (crcBit c).getLsbD 15 = c.getLsbD 0 := by
  rw [crcBit_eq, BitVec.getLsbD_xor, BitVec.getLsbD_ushiftRight]
  cases h : c.getLsbD 0 <;> simp [poly]
theorem crcBit_inj {c : BitVec 16} (h : crcBit c = 0#16) : c = 0#16 := by
  have h0 : c.getLsbD 0 = false := by rw [← crcBit_top, h]; simp
  have h1 : c >>> 1 = 0#16 := by
    have e := crcBit_eq c
    rw [h, h0] at e
    have e2 : poly false = 0#16 := rfl
    rw [e2, BitVec.xor_zero] at e
    exact e.symm
  apply BitVec.eq_of_getLsbD_eq
  intro i hi
  cases i with
  | zero => rw [h0]; simp
  | succ i =>
    have h2 : (c >>> 1).getLsbD i = false := by rw [h1]; simp
    rw [BitVec.getLsbD_ushiftRight, Nat.add_comm] at h2
    rw [h2]; simp
theorem crcBits_inj {n : Nat} {c : BitVec 16} (h : crcBits n c = 0#16) : c = 0#16 := by
  induction n with
  | zero => exact h
  | succ n ih => exact ih (crcBit_inj h)
theorem xor_zero_iff {n : Nat} {c d : BitVec n} : c ^^^ d = 0#n ↔ c = d := BitVec.xor_eq_zero_iff
theorem crcByte_xor (c d : BitVec 16) (x y : BitVec 8) : crcByte (c ^^^ d) (x ^^^ y) = crcByte c x ^^^ crcByte d y := by
  unfold crcByte
  rw [BitVec.setWidth_xor, ← crcBits_xor]
  congr 1
  ac_rfl
theorem crcByte_state {c d : BitVec 16} {x : BitVec 8} (h : crcByte c x = crcByte d x) : c = d := by
  have h1 : crcByte (c ^^^ d) (x ^^^ x) = 0#16 := by rw [crcByte_xor, h, BitVec.xor_self]
  unfold crcByte at h1
  have h2 := crcBits_inj h1
  rw [BitVec.xor_self] at h2
  have e : BitVec.setWidth 16 (0#8) = 0#16 := rfl
  rw [e, BitVec.xor_zero] at h2
  exact xor_zero_iff.1 h2
/- from two checks on that differ it stays two through the same bytes -/
theorem crcMore_inj {c d : BitVec 16} (b : List (BitVec 8)) : crcMore c b = crcMore d b ↔ c = d := by
  constructor
  · induction b generalizing c d with
    | nil => exact id
    | cons x b ih => intro h; exact crcByte_state (ih h)
  · rintro rfl; rfl
/- two neighboring bytes turned -/
theorem crc_two (c : BitVec 16) (x y u v : BitVec 8) : crcByte (crcByte c x) y = crcByte (crcByte c (x ^^^ u)) (y ^^^ v) ↔ u = 0#8 ∧ v = 0#8 := by
  constructor
  · intro h
    have e1 : crcByte c (x ^^^ u) = crcByte c x ^^^ crcByte 0#16 u := by rw [← crcByte_xor, BitVec.xor_zero]
    rw [e1, crcByte_xor] at h
    have h0 : crcByte (crcByte 0#16 u) v = 0#16 := by
      have := congrArg (crcByte (crcByte c x) y ^^^ ·) h
      simp only [BitVec.xor_self] at this
      rw [← BitVec.xor_assoc, BitVec.xor_self, BitVec.zero_xor] at this
      exact this.symm
    unfold crcByte at h0
    have h1 := crcBits_inj h0
    rw [BitVec.zero_xor] at h1
    have h2 := xor_zero_iff.1 h1
    revert h2
    have key : ∀ u : BitVec 8, (crcBits 8 (u.setWidth 16)).extractLsb' 8 8 = 0#8 → u = 0#8 := by decide +kernel
    intro h2
    have hu : u = 0#8 := key u (by rw [h2]; apply BitVec.eq_of_getLsbD_eq; intro i hi; simp [BitVec.getLsbD_extractLsb', BitVec.getLsbD_setWidth])
    refine ⟨hu, ?_⟩
    rw [hu] at h2
    have e3 : crcBits 8 (BitVec.setWidth 16 (0#8)) = 0#16 := crcBits_zero 8
    rw [e3] at h2
    have h3 := congrArg (BitVec.setWidth 8) h2
    simpa using h3.symm
  · rintro ⟨rfl, rfl⟩; simp
theorem crc_turned (p q : List (BitVec 8)) (x y u v : BitVec 8) (c : BitVec 16) : crcMore c (p ++ x :: y :: q) = crcMore c (p ++ (x ^^^ u) :: (y ^^^ v) :: q) ↔ u = 0#8 ∧ v = 0#8 := by
  rw [crcMore_append, crcMore_append, crcMore_cons, crcMore_cons, crcMore_cons, crcMore_cons, crcMore_inj]
  exact crc_two _ x y u v
/- what is left behind bytes and their check -/
theorem crc_rest (c : BitVec 16) : crcMore c [(~~~ c).setWidth 8, ((~~~ c) >>> 8).setWidth 8] = 0xf0b8#16 := by
  have h1 : ∀ d : BitVec 16, crcMore d [d.setWidth 8, (d >>> 8).setWidth 8] = 0#16 := by
    intro d
    have e1 : d ^^^ (BitVec.setWidth 8 d).setWidth 16 = (d >>> 8) <<< 8 := by
      apply BitVec.eq_of_getLsbD_eq; intro i hi
      simp only [BitVec.getLsbD_xor, BitVec.getLsbD_setWidth, BitVec.getLsbD_shiftLeft, BitVec.getLsbD_ushiftRight]
      by_cases h8 : i < 8
      · simp [h8, hi]
      · simp [h8, hi, show 8 + (i - 8) = i by omega]
    have key : ∀ t : BitVec 8, crcBits 8 ((t.setWidth 16) <<< 8) = t.setWidth 16 := by decide +kernel
    have e2 : (d >>> 8) <<< 8 = (((d >>> 8).setWidth 8).setWidth 16) <<< 8 := by
      apply BitVec.eq_of_getLsbD_eq; intro i hi
      simp only [BitVec.getLsbD_setWidth, BitVec.getLsbD_shiftLeft, BitVec.getLsbD_ushiftRight]
      by_cases h8 : i < 8
      · simp [h8]
      · simp [h8, hi, show i - 8 < 16 by omega, show i - 8 < 8 by omega]
    show crcByte (crcByte d (d.setWidth 8)) ((d >>> 8).setWidth 8) = 0#16
    have e3 : crcByte d (d.setWidth 8) = ((d >>> 8).setWidth 8).setWidth 16 := by unfold crcByte; rw [e1, e2, key]
    rw [e3]
    unfold crcByte
    rw [BitVec.xor_self]
    exact crcBits_zero 8
  have e0 : c = 0xffff#16 ^^^ ~~~ c := by
    have e : (0xffff#16) = BitVec.allOnes 16 := rfl
    rw [e, BitVec.allOnes_xor, BitVec.not_not]
  have e4 : crcMore c [(~~~ c).setWidth 8, ((~~~ c) >>> 8).setWidth 8] = crcMore (0xffff#16 ^^^ ~~~ c) [0#8 ^^^ (~~~ c).setWidth 8, 0#8 ^^^ ((~~~ c) >>> 8).setWidth 8] := by
    rw [← e0, BitVec.zero_xor, BitVec.zero_xor]
  rw [e4]
  show crcByte (crcByte (0xffff#16 ^^^ ~~~ c) (0#8 ^^^ (~~~ c).setWidth 8)) (0#8 ^^^ ((~~~ c) >>> 8).setWidth 8) = _
  rw [crcByte_xor, crcByte_xor]
  have e5 : crcByte (crcByte (~~~ c) ((~~~ c).setWidth 8)) (((~~~ c) >>> 8).setWidth 8) = 0#16 := h1 (~~~ c)
  rw [e5, BitVec.xor_zero]
  decide +kernel
end Go.Proofs.Ytlpfdghciegnnaa

/- What the program's check and the document's come to: crcMore, crcOf. -/
set_option maxRecDepth 4000
namespace Go.Proofs.Ytlpfdghciegnnaa
open Go Go.RowKit
attribute [local go_sem] xor_hd low_hd convb_hd
set_option maxHeartbeats 400000 in
theorem shifted_any (c : BitVec 16) (w : World) :
    Calls Try.prog 38 #[.int .u16 (hd c)] w fun e w' => e = .returned (.int .u16 (hd (crcBits 8 c))) ∧ w = w' := by
  have HS : Hid (∀ n, crcBits (n + 1) c = crcBit (crcBits n c)) := Lib.hid fun _ => rfl
  have H0 : Hid (crcBits 0 c = c) := Lib.hid rfl
  generalize hD : (fun n => crcBits n c) = D at *
  have HD : Hid (∀ n, crcBits n c = D n) := Lib.hid fun n => by rw [← hD]
  clear hD
  rw [HD.out 8]
  go_enter Try.func38, Try.ntmps38
  go_wp2_with fail
  go_loopw [0, 4] (fun v i wr => ∃ k : Nat, k ≤ 8 ∧ i = .int .i64 k ∧ v = .int .u16 (hd (D k)) ∧ wr = w) (fun _ i _ => 8 - (intOf i).toNat)
  case atStart => exact ⟨0, by omega, rfl, by rw [← HD.out 0, H0.out], rfl⟩
  case round =>
    obtain ⟨k, hk, rfl, rfl, rfl⟩ := hrel
    by_cases hlt : k < 8
    · have hu : D (k + 1) = crcBit (D k) := by rw [← HD.out, ← HD.out, HS.out]
      have HU := Lib.hid hu
      clear hu
      generalize D k = x at *
      rcases lowI_eq x with ⟨hb, hl⟩ | ⟨hb, hl⟩
      · have hn : crcBit x = (x >>> 1) ^^^ 0x8408#16 := by unfold crcBit; rw [if_pos hb]
        have HN := Lib.hid hn
        clear hn hb
        go_wp2_with fail
        exact ⟨⟨k + 1, by omega, by go_num, by rw [HU.out, HN.out, shr1_hd, xorP_hd], trivial⟩, by simp [intOf]; omega⟩
      · have hn : crcBit x = x >>> 1 := by unfold crcBit; rw [hb]; rfl
        have HN := Lib.hid hn
        clear hn hb
        go_wp2_with fail
        exact ⟨⟨k + 1, by omega, by go_num, by rw [HU.out, HN.out, shr1_hd], trivial⟩, by simp [intOf]; omega⟩
    · obtain rfl : k = 8 := by omega
      go_wp2_with fail
      go_ret
      exact ⟨rfl, rfl⟩
theorem crcMore_take (c : BitVec 16) (q : List (BitVec 8)) (k : Nat) (hk : k < q.length) : crcMore c (q.take (k + 1)) = crcByte (crcMore c (q.take k)) q[k] := by
  rw [List.take_succ_eq_append_getElem hk, crcMore_append]; rfl
set_option maxHeartbeats 400000 in
theorem more_any (c : BitVec 16) (q : List (BitVec 8)) (v : Value) (w : World) (hs : Slice w v q) (hn : q.length ≤ maxLen) :
    Calls Try.prog 31 #[.int .u16 (hd c), v] w fun e w' => e = .returned (.int .u16 (hd (crcMore c q))) ∧ w = w' := by
  unfold maxLen at hn
  obtain ⟨A, cp, rfl, _, h3⟩ := hs
  have H3 := Lib.hid h3
  clear h3
  go_enter Try.func31, Try.ntmps31
  go_wp2_with fail
  go_loopw [0, 9] (fun x i wr => ∃ k : Nat, k ≤ q.length ∧ i = .int .i64 k ∧ x = .int .u16 (hd (crcMore c (q.take k))) ∧ wr = w) (fun _ i _ => q.length - (intOf i).toNat)
  case atStart => exact ⟨0, by omega, rfl, rfl, rfl⟩
  case round =>
    obtain ⟨k, hk, rfl, rfl, rfl⟩ := hrel
    by_cases hlt : k < q.length
    · obtain ⟨b, o, rfl, _, h6⟩ := H3.out (by intro e; subst e; simp at hlt)
      have hx := h6 k q[k] (List.getElem?_eq_getElem hlt)
      have HU := Lib.hid (crcMore_take c q k hlt)
      clear h6 H3
      generalize q[k] = x at *
      generalize crcMore c (q.take k) = y at *
      generalize q.length = n at *
      have C1 := Lib.hid (shifted_any (y ^^^ x.setWidth 16) wr)
      go_wp2_with fail
      refine C1.out.mono ?_
      rintro e w1 ⟨rfl, rfl⟩
      go_wp2_with fail
      exact ⟨⟨k + 1, by omega, by go_num, by rw [HU.out]; rfl, trivial⟩, by simp [intOf]; omega⟩
    · obtain rfl : k = q.length := by omega
      rw [List.take_length]
      go_wp2_with fail
      go_ret
      exact ⟨rfl, rfl⟩
theorem flat_more (ps : List (List (BitVec 8))) (k : Nat) (hk : k < ps.length) (c : BitVec 16) : crcMore c (ps.take (k + 1)).flatten = crcMore (crcMore c (ps.take k).flatten) ps[k] := by
  rw [flat_succ ps k hk, crcMore_append]
attribute [local go_sem] not_hd signed_u16
set_option maxHeartbeats 400000 in
theorem check_any (ps : List (List (BitVec 8))) (v : Value) (w : World) (hv : Parts w v ps) (hn : ps.length ≤ maxLen) (hq : ∀ q ∈ ps, q.length ≤ maxLen) :
    Calls Try.prog 16 #[v] w fun e w' => e = .returned (.int .u16 (hd (crcOf ps.flatten))) ∧ w = w' := by
  unfold maxLen at hn
  obtain ⟨A, cp, rfl, h3⟩ := hv
  have H3 := Lib.hid h3
  have HQ := Lib.hid hq
  have HE : Hid (crcOf ps.flatten = ~~~ crcMore 0xffff#16 ps.flatten) := Lib.hid rfl
  clear h3 hq
  generalize crcOf ps.flatten = R at *
  go_enter Try.func16, Try.ntmps16
  go_wp2_with fail
  go_loopw [3, 8] (fun x i wr => ∃ k : Nat, k ≤ ps.length ∧ i = .int .i64 k ∧ x = .int .u16 (hd (crcMore 0xffff#16 (ps.take k).flatten)) ∧ wr = w) (fun _ i _ => ps.length - (intOf i).toNat)
  case atStart => exact ⟨0, by omega, rfl, rfl, rfl⟩
  case round =>
    obtain ⟨k, hk, rfl, rfl, rfl⟩ := hrel
    by_cases hlt : k < ps.length
    · obtain ⟨b, o, rfl, _, h6⟩ := H3.out (by intro e; subst e; simp at hlt)
      obtain ⟨u, hu, hs⟩ := h6 k ps[k] (List.getElem?_eq_getElem hlt)
      have HU := Lib.hid (flat_more ps k hlt 0xffff#16)
      have C1 := Lib.hid (more_any (crcMore 0xffff#16 (ps.take k).flatten) ps[k] u wr hs (HQ.out _ (List.getElem_mem hlt)))
      clear h6 H3 hs
      generalize crcMore 0xffff#16 (ps.take k).flatten = y at *
      generalize ps[k] = pk at *
      generalize ps.length = n at *
      go_wp2_with fail
      refine C1.out.mono ?_
      rintro e w1 ⟨rfl, rfl⟩
      go_wp2_with fail
      exact ⟨⟨k + 1, by omega, by go_num, by rw [HU.out], trivial⟩, by simp [intOf]; omega⟩
    · obtain rfl : k = ps.length := by omega
      rw [List.take_length]
      go_wp2_with fail
      go_ret
      rw [HE.out]
      exact ⟨rfl, rfl⟩
end Go.Proofs.Ytlpfdghciegnnaa

/- What the document's own check comes to: crcMore, crcOf. -/
set_option maxRecDepth 4000
namespace Go.Proofs.Ytlpfdghciegnnaa
open Go Go.RowKit
attribute [local go_sem] xor_hd low_hd convb_hd not_hd signed_u16
end Go.Proofs.Ytlpfdghciegnnaa

/- A sector with a mark and a check as plain functions on lists of bytes. No program is named here. -/
set_option maxRecDepth 4000
namespace Go.Proofs.Ytlpfdghciegnnaa
def crcTail (b : List (BitVec 8)) : List (BitVec 8) := [(crcOf b).setWidth 8, ((crcOf b) >>> 8).setWidth 8]
theorem crc_full (b : List (BitVec 8)) : crcMore 0xffff#16 (b ++ crcTail b) = 0xf0b8#16 := by
  rw [crcMore_append]
  exact crc_rest (crcMore 0xffff#16 b)
/- two neighboring bytes turned -/
def turnedAt (b : List (BitVec 8)) (k : Nat) (u v : BitVec 8) : List (BitVec 8) := (b.set k (b.getD k 0#8 ^^^ u)).set (k + 1) (b.getD (k + 1) 0#8 ^^^ v)
theorem split_at (q : List (BitVec 8)) (m : Nat) (hm : m + 1 < q.length) : q = q.take m ++ q.getD m 0#8 :: q.getD (m + 1) 0#8 :: q.drop (m + 2) := by
  have h1 : m < q.length := by omega
  conv => lhs; rw [← List.take_append_drop m q]
  congr 1
  rw [List.drop_eq_getElem_cons h1, List.drop_eq_getElem_cons hm]
  simp [List.getD_eq_getElem?_getD, h1, hm]
theorem turned_split (q : List (BitVec 8)) (m : Nat) (hm : m + 1 < q.length) (u v : BitVec 8) : turnedAt q m u v = q.take m ++ (q.getD m 0#8 ^^^ u) :: (q.getD (m + 1) 0#8 ^^^ v) :: q.drop (m + 2) := by
  have hl : (q.take m).length = m := by rw [List.length_take]; omega
  unfold turnedAt
  generalize q.getD m 0#8 ^^^ u = x
  generalize q.getD (m + 1) 0#8 ^^^ v = y
  conv => lhs; rw [split_at q m hm]
  rw [List.set_append_right _ _ (by omega), hl, Nat.sub_self, List.set_cons_zero, List.set_append_right _ _ (by omega), hl, show m + 1 - m = 1 by omega]
  rfl
theorem turned_id (q : List (BitVec 8)) (m : Nat) (hm : m + 1 < q.length) : turnedAt q m 0#8 0#8 = q := by
  rw [turned_split q m hm, BitVec.xor_zero, BitVec.xor_zero]; exact (split_at q m hm).symm
end Go.Proofs.Ytlpfdghciegnnaa

/- The document's bytes with their check behind. -/
set_option maxRecDepth 4000
namespace Go.Proofs.Ytlpfdghciegnnaa
open Go Go.RowKit
attribute [local go_sem] lowb_hd lowb8_hd
end Go.Proofs.Ytlpfdghciegnnaa

/- The document's sector of a mark and a body. -/
set_option maxRecDepth 4000
namespace Go.Proofs.Ytlpfdghciegnnaa
open Go Go.RowKit
end Go.Proofs.Ytlpfdghciegnnaa

/- The document's mark and body of a sector. -/
set_option maxRecDepth 4000
namespace Go.Proofs.Ytlpfdghciegnnaa
open Go Go.RowKit
end Go.Proofs.Ytlpfdghciegnnaa

/- What the statements of seal need to know of the program's seal; bodies compared. -/
set_option maxRecDepth 4000
namespace Go.Proofs.Ytlpfdghciegnnaa
open Go Go.RowKit
end Go.Proofs.Ytlpfdghciegnnaa

/- The helpers of the program's seal: the check that a sector ought to have, a sealed sector as bytes, and of bytes. -/
set_option maxRecDepth 4000
namespace Go.Proofs.Ytlpfdghciegnnaa
open Go Go.RowKit
theorem halves (c : BitVec 16) (x y : BitVec 8) : (c.setWidth 8 = x ∧ (c >>> 8).setWidth 8 = y) ↔ x.setWidth 16 ||| (y.setWidth 16) <<< 8 = c := by
  constructor
  · rintro ⟨rfl, rfl⟩
    apply BitVec.eq_of_getLsbD_eq
    intro i hi
    simp only [BitVec.getLsbD_or, BitVec.getLsbD_setWidth, BitVec.getLsbD_shiftLeft, BitVec.getLsbD_ushiftRight]
    by_cases h : i < 8
    · simp [h, hi]
    · have h2 : i - 8 < 8 := by omega
      simp [h, hi, h2, show 8 + (i - 8) = i by omega, show i - 8 < 16 by omega]
  · rintro rfl
    constructor
    · apply BitVec.eq_of_getLsbD_eq
      intro i hi
      simp only [BitVec.getLsbD_or, BitVec.getLsbD_setWidth, BitVec.getLsbD_shiftLeft]
      simp [hi, show i < 16 by omega]
    · apply BitVec.eq_of_getLsbD_eq
      intro i hi
      simp only [BitVec.getLsbD_or, BitVec.getLsbD_setWidth, BitVec.getLsbD_shiftLeft, BitVec.getLsbD_ushiftRight]
      simp [hi, show 8 + i < 16 by omega, show i < 16 by omega]
theorem shl8_hd (x : BitVec 16) : IntKind.u16.wrap (hd x * (256 : Int)) = hd (x <<< 8) := by
  rw [IntKind.wrap_u16]; unfold hd; have := x.isLt; rw [BitVec.toNat_shiftLeft, Nat.shiftLeft_eq]; omega
attribute [local go_sem] lowb_hd lowb8_hd
end Go.Proofs.Ytlpfdghciegnnaa

/- A sector's bytes as a sealed sector; the program's sector of a mark and a body. -/
set_option maxRecDepth 4000
namespace Go.Proofs.Ytlpfdghciegnnaa
open Go Go.RowKit
attribute [local go_sem] convb_hd shl8_hd or_hd
end Go.Proofs.Ytlpfdghciegnnaa

/- The program's mark and body of a sector; its contracts together. -/
set_option maxRecDepth 4000
namespace Go.Proofs.Ytlpfdghciegnnaa
open Go Go.RowKit
end Go.Proofs.Ytlpfdghciegnnaa
