/- Plain facts on machine words as bit vectors, in the walk's own spelling: what the operations of Go on uint8, uint32 and uint64 come to. No condition. -/
import Derived.WalkKit
import Derived.Laws.BitsAllLaws
import Derived.Laws.BitsLemmas
import Derived.Laws.Rows
import Derived.Laws.OwnMore
import Derived.Below
import Derived.Deep.Draws
set_option maxRecDepth 4000
namespace Go.Proofs.Ytppbgkdkioldbaa
open Go Go.RowKit

/- a word's number, kept shut: the walk does not look into it -/
def wd (x : BitVec 32) : Int := (x.toNat : Int)
def bd (x : BitVec 8) : Int := (x.toNat : Int)

theorem wd_lo (x : BitVec 32) : 0 ≤ wd x := by unfold wd; omega
theorem wd_hi (x : BitVec 32) : wd x < 4294967296 := by unfold wd; have := x.isLt; omega
theorem bd_lo (x : BitVec 8) : 0 ≤ bd x := by unfold bd; omega
theorem bd_hi (x : BitVec 8) : bd x < 256 := by unfold bd; have := x.isLt; omega
theorem wd_inj {x y : BitVec 32} (h : wd x = wd y) : x = y := by unfold wd at h; exact BitVec.eq_of_toNat_eq (by omega)
theorem bd_inj {x y : BitVec 8} (h : bd x = bd y) : x = y := by unfold bd at h; exact BitVec.eq_of_toNat_eq (by omega)
theorem wd_of (n : Int) (h0 : 0 ≤ n) (h1 : n < 4294967296) : n = wd (BitVec.ofInt 32 n) := by
  unfold wd; obtain ⟨m, rfl⟩ := Int.eq_ofNat_of_zero_le h0
  rw [ofInt_u32 m (by omega)]
theorem bd_of (n : Int) (h0 : 0 ≤ n) (h1 : n < 256) : n = bd (BitVec.ofInt 8 n) := by
  unfold bd; obtain ⟨m, rfl⟩ := Int.eq_ofNat_of_zero_le h0
  rw [ofInt_u8 m (by omega)]

theorem ofInt_wd (x : BitVec 32) : BitVec.ofInt 32 (wd x) = x := by
  apply BitVec.eq_of_toNat_eq; unfold wd; rw [ofInt_u32 _ x.isLt]
theorem wrap_wd (x : BitVec 32) : IntKind.u32.wrap (wd x) = wd x := by
  rw [IntKind.wrap_u32']; have := wd_lo x; have := wd_hi x; omega
theorem wrap_bd (x : BitVec 8) : IntKind.u8.wrap (bd x) = bd x := by
  rw [IntKind.wrap_u8']; have := bd_lo x; have := bd_hi x; omega

theorem xor_wd (x y : BitVec 32) : bits .xor .u32 (wd x) (wd y) = wd (x ^^^ y) := by
  show IntKind.u32.wrap ((BitVec.ofInt 32 (wd x) ^^^ BitVec.ofInt 32 (wd y)).toNat : Int) = _
  rw [ofInt_wd, ofInt_wd]; exact wrap_wd _
theorem and_wd (x y : BitVec 32) : bits .and .u32 (wd x) (wd y) = wd (x &&& y) := by
  show IntKind.u32.wrap ((BitVec.ofInt 32 (wd x) &&& BitVec.ofInt 32 (wd y)).toNat : Int) = _
  rw [ofInt_wd, ofInt_wd]; exact wrap_wd _
theorem or_wd (x y : BitVec 32) : bits .or .u32 (wd x) (wd y) = wd (x ||| y) := by
  show IntKind.u32.wrap ((BitVec.ofInt 32 (wd x) ||| BitVec.ofInt 32 (wd y)).toNat : Int) = _
  rw [ofInt_wd, ofInt_wd]; exact wrap_wd _
theorem add_wd (x y : BitVec 32) : IntKind.u32.wrap (wd x + wd y) = wd (x + y) := by
  rw [IntKind.wrap_u32']; unfold wd; rw [BitVec.toNat_add]; omega
theorem signed_u32 : (IntKind.u32.signed = true) = False := by simp [IntKind.signed]
theorem not_wd (x : BitVec 32) : bits .xor .u32 IntKind.u32.max (wd x) = wd (~~~x) := by
  have e : IntKind.u32.max = wd (BitVec.allOnes 32) := by decide +kernel
  rw [e, xor_wd, BitVec.allOnes_xor]
theorem shr_wd (x : BitVec 32) (n : Nat) : wd x / 2 ^ n = wd (x >>> n) := by
  unfold wd; rw [BitVec.toNat_ushiftRight, Nat.shiftRight_eq_div_pow]; norm_cast
theorem shl_wd (x : BitVec 32) (n : Nat) : IntKind.u32.wrap (wd x * 2 ^ n) = wd (x <<< n) := by
  rw [IntKind.wrap_u32']; unfold wd; rw [BitVec.toNat_shiftLeft, Nat.shiftLeft_eq]
  have e : (2 : Int) ^ n = ((2 ^ n : Nat) : Int) := by norm_cast
  rw [e, ← Int.natCast_mul]
  generalize x.toNat * 2 ^ n = m
  show (m : Int) % 4294967296 = ((m % 4294967296 : Nat) : Int)
  omega
theorem conv_bd (x : BitVec 8) : IntKind.u32.wrap (bd x) = wd (x.setWidth 32) := by
  rw [IntKind.wrap_u32']; unfold bd wd; have := x.isLt; rw [BitVec.toNat_setWidth]; omega
theorem shl24_wd (x : BitVec 32) : IntKind.u32.wrap (wd x * (16777216 : Int)) = wd (x <<< 24) := shl_wd x 24
theorem shl16_wd (x : BitVec 32) : IntKind.u32.wrap (wd x * (65536 : Int)) = wd (x <<< 16) := shl_wd x 16
theorem shl8_wd (x : BitVec 32) : IntKind.u32.wrap (wd x * (256 : Int)) = wd (x <<< 8) := shl_wd x 8
theorem low_wd (x : BitVec 32) : IntKind.u8.wrap (wd x) = bd (x.setWidth 8) := by
  rw [IntKind.wrap_u8']; unfold bd wd; rw [BitVec.toNat_setWidth]; omega
theorem low24_wd (x : BitVec 32) : IntKind.u8.wrap (wd x / (16777216 : Int)) = bd ((x >>> 24).setWidth 8) := by rw [show wd x / (16777216 : Int) = wd (x >>> 24) from shr_wd x 24, low_wd]
theorem low16_wd (x : BitVec 32) : IntKind.u8.wrap (wd x / (65536 : Int)) = bd ((x >>> 16).setWidth 8) := by rw [show wd x / (65536 : Int) = wd (x >>> 16) from shr_wd x 16, low_wd]
theorem low8_wd (x : BitVec 32) : IntKind.u8.wrap (wd x / (256 : Int)) = bd ((x >>> 8).setWidth 8) := by rw [show wd x / (256 : Int) = wd (x >>> 8) from shr_wd x 8, low_wd]
theorem wrap_u8_bd (z : Int) : IntKind.u8.wrap z = bd (BitVec.ofInt 8 z) := by
  rw [IntKind.wrap_u8']; unfold bd; rw [BitVec.toNat_ofInt]; omega
theorem xor_bd (x y : BitVec 8) : bits .xor .u8 (bd x) (bd y) = bd (x ^^^ y) := by
  have e : ∀ z : BitVec 8, BitVec.ofInt 8 (bd z) = z := fun z => by
    apply BitVec.eq_of_toNat_eq; unfold bd; rw [ofInt_u8 _ z.isLt]
  show IntKind.u8.wrap ((BitVec.ofInt 8 (bd x) ^^^ BitVec.ofInt 8 (bd y)).toNat : Int) = _
  rw [e, e]; exact wrap_bd _
def zer (n : Nat) : List (BitVec 8) := List.replicate n 0
theorem length_zer (n : Nat) : (zer n).length = n := by simp [zer]
end Go.Proofs.Ytppbgkdkioldbaa
