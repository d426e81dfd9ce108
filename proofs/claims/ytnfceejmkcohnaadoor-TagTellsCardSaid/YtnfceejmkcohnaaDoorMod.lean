import Derived.Test.YtnfceejmkcohnaaDoorEq
namespace Go.Proofs.YtnfceejmkcohnaaDoor
open Go Go.RowKit
def modK (k : Int) (n : Nat) : Nat := ((k.tmod n + n) % n).toNat
theorem modK_lt (k : Int) (n : Nat) (h : 0 < n) : modK k n < n := by
  unfold modK
  have h1 := Int.emod_nonneg (k.tmod n + n) (show (n : Int) ≠ 0 by omega)
  have h2 := Int.emod_lt_of_pos (k.tmod n + n) (show (0 : Int) < n by omega)
  omega
theorem mod_any (k : Int) (n : Nat) (w : World) (h0 : 0 < n) (h1 : n < 100000) :
    Calls Tryd.prog 16 #[.int .i64 k, .int .i64 (n : Int)] w fun e w' => e = .returned (.int .i64 (modK k n : Int)) ∧ w = w' := by
  have t1 : k.tmod n < n := Int.tmod_lt_of_pos _ (by omega)
  have t2 : -(n : Int) < k.tmod n := by
    have := Int.lt_tmod_of_pos k (show (0 : Int) < n by omega); omega
  have e : ((modK k n : Nat) : Int) = (k.tmod n + n) % n := by
    unfold modK; rw [Int.toNat_of_nonneg (Int.emod_nonneg _ (by omega))]
  have HE := Lib.hid e
  clear e
  go_enter Tryd.func16, Tryd.ntmps16
  go_wp2
  go_ret
  exact ⟨ret_int HE.out.symm, rfl⟩
theorem mod_at (k m : Int) (n : Nat) (w : World) (hm : m = (n : Int)) (h0 : 0 < n) (h1 : n < 100000) :
    Calls Tryd.prog 16 #[.int .i64 k, .int .i64 m] w fun e w' => e = .returned (.int .i64 (modK k n : Int)) ∧ w = w' := by
  subst hm; exact mod_any k n w h0 h1
end Go.Proofs.YtnfceejmkcohnaaDoor
