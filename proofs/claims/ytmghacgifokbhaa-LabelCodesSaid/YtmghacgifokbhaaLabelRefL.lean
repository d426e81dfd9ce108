/- The document's comparison of two labels' numbers. -/
import Derived.Test.YtmghacgifokbhaaLabelRefD
set_option maxRecDepth 4000
namespace Go.Proofs.Ytmghacgifokbhaa
open Go Go.RowKit
set_option maxHeartbeats 400000 in
theorem reflater_any (e s t n : BitVec 32) (w : World) :
    Calls Try.prog 14 #[.int .u32 (wd e), .int .u32 (wd s), .int .u32 (wd t), .int .u32 (wd n)] w fun r w' => r = .returned (.bool (laterB e s t n)) ∧ Below w.heap.size w w' := by
  have h1 : decide (t.toNat < e.toNat) = decide (wd t < wd e) := by simp [wd]
  have h2 : decide (e = t) = (wd e == wd t) := by
    by_cases h : e = t
    · subst h; simp
    · have : wd e ≠ wd t := fun h' => h (wd_inj h')
      simp [h, this]
  have h3 : decide (n.toNat < s.toNat) = decide (wd n < wd s) := by simp [wd]
  unfold laterB
  rw [h1, h2, h3]
  clear h1 h2 h3
  generalize wd e = a
  generalize wd s = b
  generalize wd t = c
  generalize wd n = d
  go_enter Try.func14, Try.ntmps14
  by_cases h1 : c < a
  · go_wp2_with fail
    go_ret
    refine ⟨?_, Below.refl _ _⟩
    rw [decide_eq_true h1]
    rfl
  · by_cases h2 : a = c
    · subst h2
      go_wp2_with fail
      go_ret
      refine ⟨?_, Below.refl _ _⟩
      simp
    · go_wp2_with fail
      go_ret
      refine ⟨?_, Below.refl _ _⟩
      simp [h1, h2]
end Go.Proofs.Ytmghacgifokbhaa
