import Derived.Test.YtamofhjnpahamaaSl
set_option maxRecDepth 4000
namespace Go.Proofs.Ytamofhjnpahamaa
open Go Go.RowKit
theorem mod_any (k : Int) (n : Nat) (w : World) (h0 : 0 < n) (h1 : n < 100000) :
    Calls Try.prog 18 #[.int .i64 k, .int .i64 (n : Int)] w fun e w' => e = .returned (.int .i64 (modK k n : Int)) ∧ w = w' := by
  have t1 : k.tmod n < n := Int.tmod_lt_of_pos _ (by omega)
  have t2 : -(n : Int) < k.tmod n := by
    have := Int.lt_tmod_of_pos k (show (0 : Int) < n by omega); omega
  have e : ((modK k n : Nat) : Int) = (k.tmod n + n) % n := by
    unfold modK; rw [Int.toNat_of_nonneg (Int.emod_nonneg _ (by omega))]
  have HE := Lib.hid e
  clear e
  go_enter Try.func18, Try.ntmps18
  go_wp2
  go_ret
  exact ⟨ret_int HE.out.symm, rfl⟩
theorem mod_at (k m : Int) (n : Nat) (w : World) (hm : m = (n : Int)) (h0 : 0 < n) (h1 : n < 100000) :
    Calls Try.prog 18 #[.int .i64 k, .int .i64 m] w fun e w' => e = .returned (.int .i64 (modK k n : Int)) ∧ w = w' := by
  subst hm; exact mod_any k n w h0 h1
end Go.Proofs.Ytamofhjnpahamaa
