/- Strings of bytes compared. -/
import Derived.Test.YtamofhjnpahamaaLit
import Derived.Test.YtamofhjnpahamaaKeep
set_option maxRecDepth 4000
namespace Go.Proofs.Ytamofhjnpahamaa
open Go Go.RowKit
theorem str_inj {p q : List (BitVec 8)} (h1 : (str p).data.toList = (str q).data.toList) : p = q := by
  unfold str at h1
  rw [strOfNums_data, strOfNums_data, List.map_map, List.map_map] at h1
  refine (List.map_inj_right ?_).1 h1
  intro x y hxy
  simp only [Function.comp] at hxy
  have hx := bd_lo x; have hx' := bd_hi x; have hy := bd_lo y; have hy' := bd_hi y
  apply bd_inj
  have h2 := congrArg UInt8.toNat hxy
  simp only [UInt8.toNat_ofNat'] at h2
  omega
theorem keepb_any (a b : Value) (p q : List (BitVec 8)) (w : World) (ha : Slice w a p) (hb : Slice w b q) :
    Calls Try.prog 12 #[a, b] w fun e w' => e = .returned (.bool (decide (p = q))) ∧ w = w' := by
  have e1 := keep_conv ha
  have e2 := keep_conv hb
  have HE : Hid (((str p).toList == (str q).toList) = decide (p = q)) := Lib.hid (by
    rw [ByteArray.toList_eq, ByteArray.toList_eq]
    by_cases h : p = q
    · subst h; rw [decide_eq_true rfl]; exact beq_self_eq_true _
    · rw [decide_eq_false h]
      exact beq_eq_false_iff_ne.2 fun e => h (str_inj e))
  clear ha hb
  generalize str p = s at *
  generalize str q = t at *
  go_enter Try.func12, Try.ntmps12
  go_wp2
  go_ret
  exact ⟨congrArg (fun b => Ending.returned (.bool b)) HE.out, rfl⟩
end Go.Proofs.Ytamofhjnpahamaa
