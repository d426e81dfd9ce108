import Derived.Test.YtnfceejmkcohnaaDoorProg
import Derived.Test.YtnfceejmkcohnaaDoorSpec
import Derived.WalkKit
import Derived.WalkSpells
import Derived.WalkLawsBesides
import Derived.Deep.QuietTactic
import Derived.BigQuiet
namespace Go.Proofs.YtnfceejmkcohnaaDoor
open Go Go.RowKit
theorem shr3_wd (x : BitVec 32) : wd x / (8 : Int) = wd (x >>> 3) := shr_wd x 3
theorem shr10_wd (x : BitVec 32) : wd x / (1024 : Int) = wd (x >>> 10) := shr_wd x 10
theorem ret_int {k : IntKind} {a b : Int} (h : a = b) : Ending.returned (.int k a) = .returned (.int k b) := by rw [h]
theorem xor_shr3 (y x : BitVec 32) : bits .xor .u32 (wd y) (wd x / (8 : Int)) = wd (y ^^^ x >>> 3) := by rw [shr3_wd, xor_wd]
theorem xor_shr10 (y x : BitVec 32) : bits .xor .u32 (wd y) (wd x / (1024 : Int)) = wd (y ^^^ x >>> 10) := by rw [shr10_wd, xor_wd]
attribute [local go_sem] xor_wd and_wd or_wd add_wd shr_wd

theorem and31 (n : Nat) (h : 0 < n) (h2 : n < 32) : bits .and .u64 (IntKind.u64.wrap (-(n : Int))) 31 = ((32 - n : Nat) : Int) := by
  have hw : IntKind.u64.wrap (-(n : Int)) = ((18446744073709551616 - n : Nat) : Int) := by
    rw [show IntKind.u64.wrap (-(n : Int)) = (-(n : Int)) % 18446744073709551616 from by simp [IntKind.wrap, IntKind.bits, IntKind.signed]]
    omega
  have e : bits .and .u64 ((18446744073709551616 - n : Nat) : Int) ((31 : Nat) : Int) = _ := u64_and_nat (18446744073709551616 - n) 31 (by omega) (by omega)
  rw [hw]; refine e.trans ?_; rw [nat_mask5]
  omega
theorem rot_any (x : BitVec 32) (n : Nat) (w : World) (h : 0 < n) (h2 : n < 32) :
    Calls Tryd.prog 37 #[.int .u32 (wd x), .int .i64 (-(n : Int))] w fun e w' => e = .returned (.int .u32 (wd (x <<< (32 - n) ||| x >>> n))) ∧ w = w' := by
  have e1 := and31 n h h2
  have e2 : Op.shift .shl .u32 (wd x) .u64 ((32 - n : Nat) : Int) = pure (.int .u32 (wd (x <<< (32 - n)))) := by
    rw [shift_shl _ _ _ _ (by omega) (by simp [IntKind.bits]; omega), Int.toNat_natCast, shl_wd]
  have e3 : IntKind.u64.wrap (32 - ((32 - n : Nat) : Int)) = (n : Int) := by
    rw [show IntKind.u64.wrap (32 - ((32 - n : Nat) : Int)) = (32 - ((32 - n : Nat) : Int)) % 18446744073709551616 from by simp [IntKind.wrap, IntKind.bits, IntKind.signed]]
    omega
  generalize 32 - n = m at *
  go_enter Tryd.func37, Tryd.ntmps37
  go_wp2
  go_ret
  exact ⟨rfl, rfl⟩

theorem right_any (x : BitVec 32) (n : Nat) (w : World) (h : 0 < n) (h2 : n < 32) :
    Calls Tryd.prog 36 #[.int .u32 (wd x), .int .i64 (n : Int)] w fun e w' => e = .returned (.int .u32 (wd (x <<< (32 - n) ||| x >>> n))) ∧ w = w' := by
  go_enter Tryd.func36, Tryd.ntmps36
  go_wp2_with fail
  refine (rot_any _ _ _ h h2).mono ?_
  rintro e w' ⟨rfl, rfl⟩
  go_wp2
  go_ret
  exact ⟨rfl, rfl⟩

theorem right_lit (x : BitVec 32) (k : Int) (n : Nat) (w : World) (hk : k = (n : Int)) (h : 0 < n) (h2 : n < 32) :
    Calls Tryd.prog 36 #[.int .u32 (wd x), .int .i64 k] w fun e w' => e = .returned (.int .u32 (wd (rr x n))) ∧ w = w' := by
  subst hk; exact right_any x n w h h2

theorem ss1_any (x : BitVec 32) (w : World) :
    Calls Tryd.prog 32 #[.int .u32 (wd x)] w fun e w' => e = .returned (.int .u32 (wd (ss1 x))) ∧ w = w' := by
  go_enter Tryd.func32, Tryd.ntmps32
  go_wp2_with fail
  refine (right_lit _ 17 17 _ rfl (by omega) (by omega)).mono ?_; rintro e w' ⟨rfl, rfl⟩
  go_wp2_with fail
  refine (right_lit _ 19 19 _ rfl (by omega) (by omega)).mono ?_; rintro e w' ⟨rfl, rfl⟩
  go_wp2
  go_ret
  exact ⟨ret_int (xor_shr10 _ _), rfl⟩
theorem ss0_any (x : BitVec 32) (w : World) :
    Calls Tryd.prog 33 #[.int .u32 (wd x)] w fun e w' => e = .returned (.int .u32 (wd (ss0 x))) ∧ w = w' := by
  go_enter Tryd.func33, Tryd.ntmps33
  go_wp2_with fail
  refine (right_lit _ 7 7 _ rfl (by omega) (by omega)).mono ?_; rintro e w' ⟨rfl, rfl⟩
  go_wp2_with fail
  refine (right_lit _ 18 18 _ rfl (by omega) (by omega)).mono ?_; rintro e w' ⟨rfl, rfl⟩
  go_wp2
  go_ret
  exact ⟨ret_int (xor_shr3 _ _), rfl⟩
theorem bs1_any (x : BitVec 32) (w : World) :
    Calls Tryd.prog 34 #[.int .u32 (wd x)] w fun e w' => e = .returned (.int .u32 (wd (bs1 x))) ∧ w = w' := by
  go_enter Tryd.func34, Tryd.ntmps34
  go_wp2_with fail
  refine (right_lit _ 6 6 _ rfl (by omega) (by omega)).mono ?_; rintro e w' ⟨rfl, rfl⟩
  go_wp2_with fail
  refine (right_lit _ 11 11 _ rfl (by omega) (by omega)).mono ?_; rintro e w' ⟨rfl, rfl⟩
  go_wp2_with fail
  refine (right_lit _ 25 25 _ rfl (by omega) (by omega)).mono ?_; rintro e w' ⟨rfl, rfl⟩
  go_wp2
  go_ret
  exact ⟨rfl, rfl⟩
theorem bs0_any (x : BitVec 32) (w : World) :
    Calls Tryd.prog 35 #[.int .u32 (wd x)] w fun e w' => e = .returned (.int .u32 (wd (bs0 x))) ∧ w = w' := by
  go_enter Tryd.func35, Tryd.ntmps35
  go_wp2_with fail
  refine (right_lit _ 2 2 _ rfl (by omega) (by omega)).mono ?_; rintro e w' ⟨rfl, rfl⟩
  go_wp2_with fail
  refine (right_lit _ 13 13 _ rfl (by omega) (by omega)).mono ?_; rintro e w' ⟨rfl, rfl⟩
  go_wp2_with fail
  refine (right_lit _ 22 22 _ rfl (by omega) (by omega)).mono ?_; rintro e w' ⟨rfl, rfl⟩
  go_wp2
  go_ret
  exact ⟨rfl, rfl⟩
end Go.Proofs.YtnfceejmkcohnaaDoor
