/- Words of 16 bits, kept shut: what the operations of Go on uint16 come to. No condition. -/
import Derived.Test.YtppbgkdkioldbaaWords
set_option maxRecDepth 4000
namespace Go.Proofs.Ytppbgkdkioldbaa
open Go Go.RowKit
def hd (x : BitVec 16) : Int := (x.toNat : Int)
theorem hd_lo (x : BitVec 16) : 0 ≤ hd x := by unfold hd; omega
theorem hd_hi (x : BitVec 16) : hd x < 65536 := by unfold hd; have := x.isLt; omega
theorem hd_inj {x y : BitVec 16} (h : hd x = hd y) : x = y := by unfold hd at h; exact BitVec.eq_of_toNat_eq (by omega)
theorem hd_of (n : Int) (h0 : 0 ≤ n) (h1 : n < 65536) : n = hd (BitVec.ofInt 16 n) := by
  unfold hd; obtain ⟨m, rfl⟩ := Int.eq_ofNat_of_zero_le h0
  rw [ofInt_u16 m (by omega)]
theorem ofInt_hd (x : BitVec 16) : BitVec.ofInt 16 (hd x) = x := by
  apply BitVec.eq_of_toNat_eq; unfold hd; rw [ofInt_u16 _ x.isLt]
theorem wrap_hd (x : BitVec 16) : IntKind.u16.wrap (hd x) = hd x := by
  rw [IntKind.wrap_u16]; have := hd_lo x; have := hd_hi x; omega
theorem xor_hd (x y : BitVec 16) : bits .xor .u16 (hd x) (hd y) = hd (x ^^^ y) := by
  show IntKind.u16.wrap ((BitVec.ofInt 16 (hd x) ^^^ BitVec.ofInt 16 (hd y)).toNat : Int) = _
  rw [ofInt_hd, ofInt_hd]; exact wrap_hd _
theorem and_hd (x y : BitVec 16) : bits .and .u16 (hd x) (hd y) = hd (x &&& y) := by
  show IntKind.u16.wrap ((BitVec.ofInt 16 (hd x) &&& BitVec.ofInt 16 (hd y)).toNat : Int) = _
  rw [ofInt_hd, ofInt_hd]; exact wrap_hd _
theorem xorP_hd (x : BitVec 16) : bits .xor .u16 (hd x) 33800 = hd (x ^^^ 0x8408#16) := xor_hd x 0x8408#16
theorem not_hd (x : BitVec 16) : bits .xor .u16 IntKind.u16.max (hd x) = hd (~~~x) := by
  have e : IntKind.u16.max = hd (BitVec.allOnes 16) := by decide +kernel
  rw [e, xor_hd, BitVec.allOnes_xor]
theorem signed_u16 : (IntKind.u16.signed = true) = False := by simp [IntKind.signed]
def lowI (x : BitVec 16) : Int := if x.getLsbD 0 then 1 else 0
theorem low_hd (x : BitVec 16) : bits .and .u16 (hd x) 1 = lowI x := by
  rw [show (1 : Int) = hd 1#16 from rfl, and_hd]
  have e : x &&& 1#16 = if x.getLsbD 0 then 1#16 else 0#16 := by
    apply BitVec.eq_of_getLsbD_eq; intro i hi
    cases i with
    | zero => rw [BitVec.getLsbD_and]; cases h : x.getLsbD 0 <;> rfl
    | succ i => cases h : x.getLsbD 0 <;> simp
  rw [e]; unfold lowI; cases h : x.getLsbD 0 <;> rfl
theorem lowI_eq (x : BitVec 16) : (x.getLsbD 0 = true ∧ lowI x = 1) ∨ (x.getLsbD 0 = false ∧ lowI x = 0) := by
  unfold lowI; cases h : x.getLsbD 0 <;> simp
theorem shr1_hd (x : BitVec 16) : hd x / (2 : Int) = hd (x >>> 1) := by
  unfold hd; rw [BitVec.toNat_ushiftRight, Nat.shiftRight_eq_div_pow]; norm_cast
theorem convb_hd (x : BitVec 8) : IntKind.u16.wrap (bd x) = hd (x.setWidth 16) := by
  rw [IntKind.wrap_u16]; unfold bd hd; have := x.isLt; rw [BitVec.toNat_setWidth]; omega
theorem lowb_hd (x : BitVec 16) : IntKind.u8.wrap (hd x) = bd (x.setWidth 8) := by
  rw [IntKind.wrap_u8']; unfold bd hd; rw [BitVec.toNat_setWidth]; omega
theorem lowb8_hd (x : BitVec 16) : IntKind.u8.wrap (hd x / (256 : Int)) = bd ((x >>> 8).setWidth 8) := by
  rw [IntKind.wrap_u8']; unfold bd hd; rw [BitVec.toNat_setWidth, BitVec.toNat_ushiftRight, Nat.shiftRight_eq_div_pow]; omega
theorem or_hd (x y : BitVec 16) : bits .or .u16 (hd x) (hd y) = hd (x ||| y) := by
  show IntKind.u16.wrap ((BitVec.ofInt 16 (hd x) ||| BitVec.ofInt 16 (hd y)).toNat : Int) = _
  rw [ofInt_hd, ofInt_hd]; exact wrap_hd _
end Go.Proofs.Ytppbgkdkioldbaa
