/- Desks and labels as plain data. No function of the program is named here. -/
import Derived.Test.YtpnndkobaikhfaaHalf
set_option maxRecDepth 4000
namespace Go.Proofs.Ytpnndkobaikhfaa
open Go Go.RowKit
structure DLab where
  e : BitVec 32
  s : BitVec 32
  n : BitVec 32
  d : BitVec 16
  l : BitVec 16
deriving DecidableEq
structure Dsk where
  p : Int
  e : BitVec 32
  s : Bool
deriving DecidableEq
def dskC (D : Dsk) : Array Value := #[.int .i64 D.p, .int .u32 (wd D.e), .bool D.s]
def dlabC (L : DLab) : Array Value := #[.int .u32 (wd L.e), .int .u32 (wd L.s), .int .u32 (wd L.n), .int .u16 (hd L.d), .int .u16 (hd L.l)]
def heirC (D : Dsk) (L : DLab) : Array Value := #[.int .i64 D.p, .int .u32 (wd D.e), .bool D.s, .int .u32 (wd L.e), .int .u32 (wd L.s), .int .u32 (wd L.n), .int .u16 (hd L.d), .int .u16 (hd L.l)]
def otherD (D : Dsk) : Int := if D.p = 0 then 1 else 0
def mayD (D : Dsk) (n : Int) (up force : Bool) : Int := if (n ≠ 0 ∧ n ≠ 1) ∨ n = D.p then 1 else if up = false then 20 else if D.s = false ∧ force = false then 22 else 0
def lackD (D : Dsk) (L : DLab) : BitVec 16 := if D.s then L.d ||| L.l else 4095#16
def freshD (D : Dsk) (L : DLab) : DLab := ⟨D.e + 1#32, 0#32, 1#32, lackD D L, 0#16⟩
def turnD (D : Dsk) (n : Int) (dirty : BitVec 16) : Dsk := ⟨n, D.e + 1#32, decide (dirty = 0#16)⟩
def newD : Dsk := ⟨0, 1#32, true⟩
theorem wd_succ (x : BitVec 32) : IntKind.u32.wrap (wd x + 1) = wd (x + 1#32) := by
  rw [IntKind.wrap_u32']; unfold wd; rw [BitVec.toNat_add]; simp
theorem hd_zero (x : BitVec 16) : (hd x == 0) = decide (x = 0#16) := by
  by_cases h : x = 0#16
  · subst h; rfl
  · rw [decide_eq_false h]; exact beq_eq_false_iff_ne.2 fun e => h (hd_inj (by rw [e]; rfl))
end Go.Proofs.Ytpnndkobaikhfaa
