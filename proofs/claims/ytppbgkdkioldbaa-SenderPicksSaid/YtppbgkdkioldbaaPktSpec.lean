/- Packets: what they are, their bytes, plainly. No function of the program is named here. -/
import Derived.Test.YtppbgkdkioldbaaGoodB
import Derived.Test.YtppbgkdkioldbaaPuts
import Derived.Test.YtppbgkdkioldbaaLow
import Derived.Test.YtppbgkdkioldbaaCrcMore
set_option maxRecDepth 4000
namespace Go.Proofs.Ytppbgkdkioldbaa
open Go Go.RowKit
abbrev Pt := Int × List (BitVec 8)
structure Pkt where
  k : Int
  e : BitVec 32
  s : BitVec 32
  l : List Pt
  deriving DecidableEq
def pkt0 : Pkt := ⟨0, 0#32, 0#32, []⟩
def mayP (p : Pkt) : Bool := if p.k = 1 ∨ p.k = 2 then goodB (p.l.map (·.1)) else if p.k = 3 ∨ p.k = 4 then decide (p.l.length = 0) else false
def pktA (k : Int) (e s : BitVec 32) (v : Value) : Array Value := #[.int .i64 k, .int .u32 (wd e), .int .u32 (wd s), v]
def byteP (z : Int) : BitVec 8 := BitVec.ofInt 8 z
def putB (x : Pt) : List (BitVec 8) := byteP x.1 :: x.2
def hdB (k : Int) (e s : BitVec 32) (n : Nat) : List (BitVec 8) := [byteP k] ++ four e ++ four s ++ [byteP n]
def bodyP (p : Pkt) : List (BitVec 8) := hdB p.k p.e p.s p.l.length ++ (p.l.map putB).flatten
def encP (p : Pkt) : List (BitVec 8) := bodyP p ++ two (crcOf (bodyP p))
theorem length_hdB (k : Int) (e s : BitVec 32) (n : Nat) : (hdB k e s n).length = 10 := by simp [hdB, four, two]
theorem length_putsB {l : List Pt} (h : ∀ x ∈ l, x.2.length = 32) : ((l.map putB).flatten).length = 33 * l.length := by
  induction l with
  | nil => rfl
  | cons x l ih =>
    rw [List.map_cons, List.flatten_cons, List.length_append, ih (fun y hy => h y (List.mem_cons_of_mem _ hy)), List.length_cons]
    have := h x (List.mem_cons_self ..)
    simp only [putB, List.length_cons, this]; omega
theorem length_bodyP {p : Pkt} (h : ∀ x ∈ p.l, x.2.length = 32) : (bodyP p).length = 10 + 33 * p.l.length := by unfold bodyP; rw [List.length_append, length_hdB, length_putsB h]
theorem length_encP {p : Pkt} (h : ∀ x ∈ p.l, x.2.length = 32) : (encP p).length = 12 + 33 * p.l.length := by unfold encP; rw [List.length_append, length_bodyP h]; simp [two]; omega
theorem mayP_len {p : Pkt} (h : mayP p = true) : p.l.length ≤ 5 := by
  unfold mayP at h
  split at h
  · unfold goodB at h
    simp only [Bool.and_eq_true, decide_eq_true_eq, List.length_map] at h
    exact h.2.2
  · split at h
    · have := of_decide_eq_true h; omega
    · cases h
end Go.Proofs.Ytppbgkdkioldbaa
