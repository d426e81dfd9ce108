/- The document's sector of a mark and a body. -/
import Derived.Test.YtppbgkdkioldbaaSealRef
import Derived.Test.YtppbgkdkioldbaaZerosB
import Derived.Test.YtppbgkdkioldbaaPhs
import Derived.Test.YtppbgkdkioldbaaBlk
import Derived.Deep.Cut
set_option maxRecDepth 4000
namespace Go.Proofs.Ytppbgkdkioldbaa
open Go Go.RowKit
theorem encB_bad {m : BitVec 8} {q : List (BitVec 8)} (h : encBad m q = true) : encB m q = blk 0#8 := by unfold encB; rw [if_pos h]; rfl
theorem encE_bad {m : BitVec 8} {q : List (BitVec 8)} (h : encBad m q = true) : encE m q = 1 := by unfold encE; rw [if_pos h]
theorem encB_good {m : BitVec 8} {q : List (BitVec 8)} (h : encBad m q = false) : encB m q = sealedB m q := by unfold encB; rw [h]; rfl
theorem encE_good {m : BitVec 8} {q : List (BitVec 8)} (h : encBad m q = false) : encE m q = 0 := by unfold encE; rw [h]; rfl
theorem bd_zero_iff (m : BitVec 8) : (bd m == 0) = decide (m = 0#8) := by
  by_cases h : m = 0#8
  · subst h; rfl
  · rw [decide_eq_false h]
    exact beq_eq_false_iff_ne.2 fun e => h (bd_inj (by rw [e]; rfl))
structure EncAt (w W : World) (g4 g7 : Nat) (v6 : Value) (p : List (BitVec 8)) : Prop where
  r4 : Row W g4 59 (bs (blk 0#8))
  r7 : Row W g7 59 (bs (blk 0#8))
  it : Item W v6 p
  below : Below w.heap.size w W
  lo4 : w.heap.size ≤ g4
  lo7 : w.heap.size ≤ g7
  ne : g4 ≠ g7
theorem encAt_stays {w W W' : World} {g4 g7 : Nat} {v6 : Value} {p : List (BitVec 8)} (h : EncAt w W g4 g7 v6 p) (k : Same W W') : EncAt w W' g4 g7 v6 p :=
  ⟨h.r4.call k, h.r7.call k, h.it.below k (Nat.le_refl _), h.below.trans (k.mono h.below.size), h.lo4, h.lo7, h.ne⟩
structure EncDone (w W : World) (g4 g7 : Nat) (b : List (BitVec 8)) : Prop where
  r4 : Row W g4 59 (bs (blk 0#8))
  r7 : Row W g7 59 (bs b)
  below : Below w.heap.size w W
theorem encDone_stays {w W W' : World} {g4 g7 : Nat} {b : List (BitVec 8)} (h : EncDone w W g4 g7 b) (k : Same W W') : EncDone w W' g4 g7 b :=
  ⟨h.r4.call k, h.r7.call k, h.below.trans (k.mono h.below.size)⟩
theorem spl_all (p b : List (BitVec 8)) (h : p.length = b.length) : spl p 0 b = b := by
  unfold spl
  rw [List.take_zero, List.nil_append, Nat.zero_add, List.drop_of_length_le (by omega), List.append_nil]
theorem own_item {w : World} {base : Nat} {v : Value} {q : List (BitVec 8)} (h : w.ownsRow base 5 1 v q.length (bytesV q)) (hq : q.length ≤ maxLen) : Item w v q := by
  have hS := own_slice h
  obtain ⟨A, c, rfl, h1, h2⟩ := hS
  refine ⟨A, c, rfl, ⟨A, c, rfl, h1, h2⟩, ?_, hq⟩
  rintro rfl
  rcases h.2 with ⟨e, _⟩ | ⟨g, cap, cur, e, _⟩
  · injection e
  · injection e with e; cases e
end Go.Proofs.Ytppbgkdkioldbaa
