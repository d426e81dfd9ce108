/- The document's sector of a mark and a body. -/
import Derived.Test.YtkfccdjeohbngaaSealRef
import Derived.Test.YtkfccdjeohbngaaZerosB
import Derived.Test.YtkfccdjeohbngaaPhs
import Derived.Test.YtkfccdjeohbngaaBlk
import Derived.Deep.Cut
set_option maxRecDepth 4000
namespace Go.Proofs.Ytkfccdjeohbngaa
open Go Go.RowKit
theorem encB_bad {m : BitVec 8} {q : List (BitVec 8)} (h : encBad m q = true) : encB m q = blk 0#8 := by unfold encB; rw [if_pos h]; rfl
theorem encE_bad {m : BitVec 8} {q : List (BitVec 8)} (h : encBad m q = true) : encE m q = 1 := by unfold encE; rw [if_pos h]
theorem encB_good {m : BitVec 8} {q : List (BitVec 8)} (h : encBad m q = false) : encB m q = sealedB m q := by unfold encB; rw [h]; rfl
theorem encE_good {m : BitVec 8} {q : List (BitVec 8)} (h : encBad m q = false) : encE m q = 0 := by unfold encE; rw [h]; rfl
theorem bd_zero_iff (m : BitVec 8) : (bd m == 0) = decide (m = 0#8) := by
  by_cases h : m = 0#8
  · subst h; rfl
  · rw [decide_eq_false h]
    exact beq_eq_false_iff_ne.2 fun e => h (bd_inj (by rw [e]; rfl))
theorem spl_all (p b : List (BitVec 8)) (h : p.length = b.length) : spl p 0 b = b := by
  unfold spl
  rw [List.take_zero, List.nil_append, Nat.zero_add, List.drop_of_length_le (by omega), List.append_nil]
theorem own_item {w : World} {base : Nat} {v : Value} {q : List (BitVec 8)} (h : w.ownsRow base 5 1 v q.length (bytesV q)) (hq : q.length ≤ maxLen) : Item w v q := by
  have hS := own_slice h
  obtain ⟨A, c, rfl, h1, h2⟩ := hS
  refine ⟨A, c, rfl, ⟨A, c, rfl, h1, h2⟩, ?_, hq⟩
  rintro rfl
  rcases h.2 with ⟨e, _⟩ | ⟨g, cap, cur, e, _⟩
  · injection e
  · injection e with e; cases e
end Go.Proofs.Ytkfccdjeohbngaa
