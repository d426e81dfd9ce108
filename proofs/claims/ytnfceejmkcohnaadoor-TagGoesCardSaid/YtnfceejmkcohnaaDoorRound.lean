import Derived.Test.YtnfceejmkcohnaaDoorSig
import Derived.Test.YtnfceejmkcohnaaDoorMem
import Derived.Deep.QuietTactic
import Derived.BigQuiet
import Derived.WalkSmall
namespace Go.Proofs.YtnfceejmkcohnaaDoor
open Go Go.RowKit
attribute [local go_sem] xor_wd and_wd or_wd add_wd shr_wd not_wd signed_u32
theorem round_any (a b c d e f g h kw : BitVec 32) (w : World) :
    Calls Tryd.prog 31 #[.agg #[.int .u32 (wd a), .int .u32 (wd b), .int .u32 (wd c), .int .u32 (wd d), .int .u32 (wd e), .int .u32 (wd f), .int .u32 (wd g), .int .u32 (wd h)], .int .u32 (wd kw)] w fun x w' =>
      x = .returned (.agg #[.int .u32 (wd (rnd1 e f g h kw + rnd2 a b c)), .int .u32 (wd a), .int .u32 (wd b), .int .u32 (wd c), .int .u32 (wd (d + rnd1 e f g h kw)), .int .u32 (wd e), .int .u32 (wd f), .int .u32 (wd g)]) ∧ Below w.heap.size w w' := by
  go_enter Tryd.func31, Tryd.ntmps31
  go_wp2
  go_quiet (fail)
  go_wp2_with (first | (go_at_call 34; refine (bs1_any _ _).mono ?_; rintro e w' ⟨rfl, rfl⟩) | (go_at_call 35; refine (bs0_any _ _).mono ?_; rintro e w' ⟨rfl, rfl⟩))
  refine bodyPost_ret (v := .agg #[.int .u32 (wd (rnd1 e f g h kw + rnd2 a b c)), .int .u32 (wd a), .int .u32 (wd b), .int .u32 (wd c), .int .u32 (wd (d + rnd1 e f g h kw)), .int .u32 (wd e), .int .u32 (wd f), .int .u32 (wd g)]) ?_ rfl ⟨rfl, ?_⟩
  · simp [results, Tryd.results31, go_sem, rnd1, rnd2]
  · repeat (with_reducible refine Below.setCell ?_ (by simp) _)
    refine below_drewN ?_ _
    exact ((Below.refl _ _).alloc (Nat.le_refl _) _).alloc (by simp) _
end Go.Proofs.YtnfceejmkcohnaaDoor
