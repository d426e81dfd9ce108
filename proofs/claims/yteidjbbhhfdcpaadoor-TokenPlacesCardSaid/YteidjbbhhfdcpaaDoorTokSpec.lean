/- Tokens: what they are, their bytes, plainly. No function of the program is named here. -/
import Derived.Test.YteidjbbhhfdcpaaDoorNamesSpec
import Derived.Test.YteidjbbhhfdcpaaDoorLabelSpec
import Derived.Test.YteidjbbhhfdcpaaDoorStr
set_option maxRecDepth 4000
namespace Go.Proofs.YteidjbbhhfdcpaaDoor
open Go Go.RowKit
structure Clm where
  p : Int
  n : List (BitVec 8)
  r : Int
  u : BitVec 32
  g : BitVec 32
  deriving DecidableEq
def mayC (c : Clm) : Bool := decide (0 ≤ c.p) && decide (c.p < 4) && (decide (c.n = []) || goodN c.n) && decide (1 ≤ c.r) && decide (c.r ≤ 3)
def byteI (z : Int) : BitVec 8 := BitVec.ofInt 8 z
def clmB (c : Clm) : List (BitVec 8) := byteI c.p :: (padN c.n ++ byteI c.r :: (le c.u 4 ++ le c.g 4))
theorem len_le4 (v : BitVec 32) : (le v 4).length = 4 := by simp [le]
theorem length_clmB (c : Clm) : (clmB c).length = 14 := by unfold clmB; simp [length_padN, len_le4]
def clmCells (c : Clm) : Array Value := #[.int .i64 c.p, .string (strB c.n), .int .i64 c.r, .int .u32 (wd c.u), .int .u32 (wd c.g)]
def tokCells (c : Clm) (q : List (BitVec 8)) : Array Value := clmCells c ++ bs q
def clm0 : Clm := ⟨0, [], 0, 0#32, 0#32⟩
theorem may_true {c : Clm} (h0 : 0 ≤ c.p) (h1 : c.p < 4) (hn : c.n = [] ∨ goodN c.n = true) (h2 : 1 ≤ c.r) (h3 : c.r ≤ 3) : mayC c = true := by
  unfold mayC; rw [decide_eq_true h0, decide_eq_true h1, decide_eq_true h2, decide_eq_true h3]
  rcases hn with h | h
  · rw [decide_eq_true h]; rfl
  · rw [h, Bool.or_true]; rfl
theorem may_p {c : Clm} (h : ¬ (0 ≤ c.p ∧ c.p < 4)) : mayC c = false := by
  unfold mayC
  by_cases h0 : 0 ≤ c.p
  · rw [decide_eq_false (show ¬ c.p < 4 from fun k => h ⟨h0, k⟩)]; simp
  · rw [decide_eq_false h0]; simp
theorem may_n {c : Clm} (h : ¬ c.n = []) (k : goodN c.n = false) : mayC c = false := by
  unfold mayC; rw [decide_eq_false h, k]; simp
theorem may_r {c : Clm} (h : ¬ (1 ≤ c.r ∧ c.r ≤ 3)) : mayC c = false := by
  unfold mayC
  by_cases h0 : 1 ≤ c.r
  · rw [decide_eq_false (show ¬ c.r ≤ 3 from fun k => h ⟨h0, k⟩)]; simp
  · rw [decide_eq_false h0]; simp
end Go.Proofs.YteidjbbhhfdcpaaDoor
