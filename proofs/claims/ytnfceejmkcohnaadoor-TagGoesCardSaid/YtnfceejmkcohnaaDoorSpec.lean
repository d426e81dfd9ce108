/- SHA-256 as plain functions on lists of bit vectors: the words of a block, the rounds, a block's turn, the pad, a message's hash. No program is named here. -/
import Derived.Test.YtnfceejmkcohnaaDoorWords
namespace Go.Proofs.YtnfceejmkcohnaaDoor
def rr (x : BitVec 32) (n : Nat) : BitVec 32 := x <<< (32 - n) ||| x >>> n
def ss0 (x : BitVec 32) : BitVec 32 := rr x 7 ^^^ rr x 18 ^^^ x >>> 3
def ss1 (x : BitVec 32) : BitVec 32 := rr x 17 ^^^ rr x 19 ^^^ x >>> 10
def bs0 (x : BitVec 32) : BitVec 32 := rr x 2 ^^^ rr x 13 ^^^ rr x 22
def bs1 (x : BitVec 32) : BitVec 32 := rr x 6 ^^^ rr x 11 ^^^ rr x 25
def rnd1 (e f g h kw : BitVec 32) : BitVec 32 := h + bs1 e + (e &&& f ^^^ ~~~e &&& g) + kw
def rnd2 (a b c : BitVec 32) : BitVec 32 := bs0 a + (a &&& b ^^^ a &&& c ^^^ b &&& c)

/- four bytes as a word, the higher first -/
def word (a b c d : BitVec 8) : BitVec 32 := (a.setWidth 32 <<< 24 ||| b.setWidth 32 <<< 16) ||| c.setWidth 32 <<< 8 ||| d.setWidth 32
def wordAt (l : List (BitVec 8)) (t : Nat) : BitVec 32 := word (l.getD (4 * t) 0) (l.getD (4 * t + 1) 0) (l.getD (4 * t + 2) 0) (l.getD (4 * t + 3) 0)
def next (l : List (BitVec 32)) (t : Nat) : BitVec 32 := ss1 (l.getD (t - 2) 0) + l.getD (t - 7) 0 + ss0 (l.getD (t - 15) 0) + l.getD (t - 16) 0
def zeros (n : Nat) : List (BitVec 32) := List.replicate n 0
/- the words of a block as they stand behind k steps -/
def sched (b : List (BitVec 8)) : Nat → List (BitVec 32)
  | 0 => zeros 64
  | t + 1 => (sched b t).set t (if t < 16 then wordAt b t else next (sched b t) t)
theorem length_sched (b : List (BitVec 8)) (k : Nat) : (sched b k).length = 64 := by
  induction k with
  | zero => simp [sched, zeros]
  | succ k ih => simp [sched, ih]

/- the document's K -/
def kk : List (BitVec 32) := [0x428a2f98#32, 0x71374491#32, 0xb5c0fbcf#32, 0xe9b5dba5#32, 0x3956c25b#32, 0x59f111f1#32, 0x923f82a4#32, 0xab1c5ed5#32, 0xd807aa98#32, 0x12835b01#32, 0x243185be#32, 0x550c7dc3#32, 0x72be5d74#32, 0x80deb1fe#32, 0x9bdc06a7#32, 0xc19bf174#32, 0xe49b69c1#32, 0xefbe4786#32, 0x0fc19dc6#32, 0x240ca1cc#32, 0x2de92c6f#32, 0x4a7484aa#32, 0x5cb0a9dc#32, 0x76f988da#32, 0x983e5152#32, 0xa831c66d#32, 0xb00327c8#32, 0xbf597fc7#32, 0xc6e00bf3#32, 0xd5a79147#32, 0x06ca6351#32, 0x14292967#32, 0x27b70a85#32, 0x2e1b2138#32, 0x4d2c6dfc#32, 0x53380d13#32, 0x650a7354#32, 0x766a0abb#32, 0x81c2c92e#32, 0x92722c85#32, 0xa2bfe8a1#32, 0xa81a664b#32, 0xc24b8b70#32, 0xc76c51a3#32, 0xd192e819#32, 0xd6990624#32, 0xf40e3585#32, 0x106aa070#32, 0x19a4c116#32, 0x1e376c08#32, 0x2748774c#32, 0x34b0bcb5#32, 0x391c0cb3#32, 0x4ed8aa4a#32, 0x5b9cca4f#32, 0x682e6ff3#32, 0x748f82ee#32, 0x78a5636f#32, 0x84c87814#32, 0x8cc70208#32, 0x90befffa#32, 0xa4506ceb#32, 0xbef9a3f7#32, 0xc67178f2#32]
def rnd (s : List (BitVec 32)) (kw : BitVec 32) : List (BitVec 32) :=
  match s with
  | [a, b, c, d, e, f, g, h] => [rnd1 e f g h kw + rnd2 a b c, a, b, c, d + rnd1 e f g h kw, e, f, g]
  | _ => s
def rounds (h w : List (BitVec 32)) : Nat → List (BitVec 32)
  | 0 => h
  | t + 1 => rnd (rounds h w t) (kk.getD t 0 + w.getD t 0)
def plus (h s : List (BitVec 32)) : List (BitVec 32) := List.zipWith (· + ·) h s
/- H behind one more block -/
def turn (h : List (BitVec 32)) (b : List (BitVec 8)) : List (BitVec 32) := plus h (rounds h (sched b 64) 64)
theorem length_kk : kk.length = 64 := rfl
theorem length_rnd (s : List (BitVec 32)) (kw : BitVec 32) : (rnd s kw).length = s.length := by
  unfold rnd; split <;> rfl
theorem length_rounds (h w : List (BitVec 32)) (t : Nat) : (rounds h w t).length = h.length := by
  induction t with
  | zero => rfl
  | succ t ih => rw [rounds, length_rnd, ih]
theorem length_turn (h : List (BitVec 32)) (b : List (BitVec 8)) : (turn h b).length = h.length := by
  simp [turn, plus, length_rounds]
theorem list8 {α : Type} (l : List α) (h : l.length = 8) : ∃ a b c d e f g i, l = [a, b, c, d, e, f, g, i] := by
  match l, h with
  | [a, b, c, d, e, f, g, i], _ => exact ⟨a, b, c, d, e, f, g, i, rfl⟩
theorem length_plus (h s : List (BitVec 32)) (hl : h.length = 8) (hs : s.length = 8) : (plus h s).length = 8 := by simp [plus, hl, hs]
/- h, its first k words increased by those of s -/
def part (h s : List (BitVec 32)) (k : Nat) : List (BitVec 32) := (plus h s).take k ++ h.drop k
theorem part_zero (h s : List (BitVec 32)) : part h s 0 = h := by simp [part]
theorem part_all (h s : List (BitVec 32)) (hl : h.length = 8) (hs : s.length = 8) : part h s 8 = plus h s := by
  have : (plus h s).length = 8 := by simp [plus, hl, hs]
  rw [part, List.take_of_length_le (by omega), List.drop_of_length_le (by omega), List.append_nil]
theorem length_part (h s : List (BitVec 32)) (k : Nat) (hl : h.length = 8) (hs : s.length = 8) (hk : k ≤ 8) : (part h s k).length = 8 := by
  simp [part, plus, hl, hs]; omega
theorem part_get (h s : List (BitVec 32)) (k : Nat) (hl : h.length = 8) (hs : s.length = 8) (hk : k < 8) : (part h s k).getD k 0 = h.getD k 0 := by
  have h1 : ((plus h s).take k).length = k := by simp [plus, hl, hs]; omega
  rw [part, List.getD_eq_getElem?_getD, List.getElem?_append_right (by omega), h1, List.getElem?_drop]
  simp
theorem part_set (h s : List (BitVec 32)) (k : Nat) (hl : h.length = 8) (hs : s.length = 8) (hk : k < 8) : (part h s k).set k (h.getD k 0 + s.getD k 0) = part h s (k + 1) := by
  have h1 : ((plus h s).take k).length = k := by simp [plus, hl, hs]; omega
  have h2 : (plus h s).length = 8 := by simp [plus, hl, hs]
  have e : (plus h s)[k]'(by omega) = h.getD k 0 + s.getD k 0 := by
    simp [plus, List.getElem?_eq_getElem (show k < h.length by omega), List.getElem?_eq_getElem (show k < s.length by omega)]
  rw [part, part, List.set_append_right _ _ (by omega), h1, Nat.sub_self, List.take_succ_eq_append_getElem (by omega), e, List.append_assoc]
  rw [List.drop_eq_getElem_cons (show k < h.length by omega), List.set_cons_zero]
  rfl
end Go.Proofs.YtnfceejmkcohnaaDoor
