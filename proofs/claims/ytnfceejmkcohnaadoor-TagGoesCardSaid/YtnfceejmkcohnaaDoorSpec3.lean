/- A message's hash, block by block, and what a part that is added makes of it. Plain functions on lists. -/
import Derived.Test.YtnfceejmkcohnaaDoorSpec2
namespace Go.Proofs.YtnfceejmkcohnaaDoor
def h0 : List (BitVec 32) := [0x6a09e667#32, 0xbb67ae85#32, 0x3c6ef372#32, 0xa54ff53a#32, 0x510e527f#32, 0x9b05688c#32, 0x1f83d9ab#32, 0x5be0cd19#32]
/- H behind the first k blocks -/
def turns (msg : List (BitVec 8)) : Nat → List (BitVec 32)
  | 0 => h0
  | k + 1 => turn (turns msg k) ((msg.drop (64 * k)).take 64)
def hashTo (msg : List (BitVec 8)) : List (BitVec 32) := turns msg (msg.length / 64)
/- the hash of a message -/
def sha (msg : List (BitVec 8)) : List (BitVec 8) := dig (hashTo (msg ++ pad msg.length))
theorem length_turns (msg : List (BitVec 8)) (k : Nat) : (turns msg k).length = 8 := by
  induction k with
  | zero => rfl
  | succ k ih => rw [turns, length_turn, ih]
theorem length_hashTo (msg : List (BitVec 8)) : (hashTo msg).length = 8 := length_turns _ _
theorem turns_append (msg x : List (BitVec 8)) (k : Nat) (hk : 64 * k ≤ msg.length) : turns (msg ++ x) k = turns msg k := by
  induction k with
  | zero => rfl
  | succ k ih =>
    rw [turns, turns, ih (by omega), List.drop_append_of_le_length (by omega), List.take_append_of_le_length (by rw [List.length_drop]; omega)]
/- the block that is being filled -/
def fill (b q : List (BitVec 8)) (r : Nat) : List (BitVec 8) := b.take r ++ (q ++ b.drop (r + q.length))
theorem length_fill (b q : List (BitVec 8)) (r : Nat) (hb : b.length = 64) (h : r + q.length ≤ 64) : (fill b q r).length = 64 := by
  simp [fill, hb]; omega
/- what a message in the making keeps: a block whose first bytes are the message's last -/
def Tail (msg b : List (BitVec 8)) : Prop := b.length = 64 ∧ b.take (msg.length % 64) = msg.drop (msg.length - msg.length % 64)
theorem tail_more (msg b q : List (BitVec 8)) (h : Tail msg b) (hq : msg.length % 64 + q.length < 64) :
    Tail (msg ++ q) (fill b q (msg.length % 64)) ∧ hashTo (msg ++ q) = hashTo msg ∧ (msg.length + q.length) % 64 ≠ 0 ∨ q = [] := by
  by_cases h0 : q = []
  · exact .inr h0
  have hpos : 0 < q.length := List.length_pos_iff.2 h0
  refine .inl ⟨⟨length_fill b q _ h.1 (by omega), ?_⟩, ?_, by omega⟩
  · have e : (msg ++ q).length % 64 = msg.length % 64 + q.length := by rw [List.length_append]; omega
    have hl : (b.take (msg.length % 64)).length = msg.length % 64 := by rw [List.length_take, h.1]; omega
    rw [e, List.length_append, show msg.length + q.length - (msg.length % 64 + q.length) = msg.length - msg.length % 64 by omega, List.drop_append_of_le_length (by omega), ← h.2, fill, ← List.append_assoc]
    rw [List.take_append_of_le_length (by simp [hl]), List.take_of_length_le (by simp [hl])]
  · unfold hashTo
    rw [List.length_append, show (msg.length + q.length) / 64 = msg.length / 64 by omega, turns_append _ _ _ (by omega)]
theorem tail_full (msg b q : List (BitVec 8)) (h : Tail msg b) (hq : msg.length % 64 + q.length = 64) (c : List (BitVec 8)) (hc : c.length = 64) :
    Tail (msg ++ q) c ∧ hashTo (msg ++ q) = turn (hashTo msg) (fill b q (msg.length % 64)) := by
  have e : (msg ++ q).length % 64 = 0 := by rw [List.length_append]; omega
  refine ⟨⟨hc, ?_⟩, ?_⟩
  · rw [e]; simp
  · unfold hashTo
    have e2 : (msg ++ q).length / 64 = msg.length / 64 + 1 := by rw [List.length_append]; omega
    rw [e2, turns, turns_append _ _ _ (by omega)]
    have hf : fill b q (msg.length % 64) = msg.drop (msg.length - msg.length % 64) ++ q := by
      have hd : b.drop (msg.length % 64 + q.length) = [] := List.drop_of_length_le (by rw [h.1]; omega)
      rw [fill, h.2, hd, List.append_nil]
    rw [hf, show 64 * (msg.length / 64) = msg.length - msg.length % 64 by omega, List.drop_append_of_le_length (by omega), List.take_of_length_le (by simp; omega)]
end Go.Proofs.YtnfceejmkcohnaaDoor
