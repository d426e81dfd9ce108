/- What names may be, as plain functions of bytes; the document's way and the program's way to a name of four bytes. No function of the program is named here. -/
import Derived.Test.YteidjbbhhfdcpaaDoorWords
set_option maxRecDepth 4000
namespace Go.Proofs.YteidjbbhhfdcpaaDoor
open Go
def letter (x : BitVec 8) : Bool := decide (97 ≤ bd x) && decide (bd x ≤ 122)
def goodN (q : List (BitVec 8)) : Bool := decide (1 ≤ q.length) && decide (q.length ≤ 4) && q.all letter
def goodNs (l : List (List (BitVec 8))) : Bool := l.all goodN
def padN (q : List (BitVec 8)) : List (BitVec 8) := (q ++ zer 4).take 4
theorem length_padN (q : List (BitVec 8)) : (padN q).length = 4 := by unfold padN; rw [List.length_take, List.length_append, length_zer]; omega
def trimN (q : List (BitVec 8)) : List (BitVec 8) := (q.reverse.dropWhile (fun x => decide (x = 0#8))).reverse
def firstZ (q : List (BitVec 8)) : List (BitVec 8) := q.takeWhile (fun x => decide (x ≠ 0#8))
def okTrim (b : List (BitVec 8)) : Bool := decide (trimN b = []) || goodN (trimN b)
def cutN (b : List (BitVec 8)) : List (BitVec 8) × Bool := if okTrim b then (trimN b, true) else ([], false)
def okFirst (b : List (BitVec 8)) : Bool := decide (padN (firstZ b) = b) && (decide (firstZ b = []) || goodN (firstZ b))
def cutR (b : List (BitVec 8)) : List (BitVec 8) × Bool := if okFirst b then (firstZ b, true) else ([], false)
theorem trim_nil : trimN [] = [] := rfl
theorem trim_zero (q : List (BitVec 8)) : trimN (q ++ [0#8]) = trimN q := by simp [trimN]
theorem trim_more (q : List (BitVec 8)) (x : BitVec 8) (h : ¬ x = 0#8) : trimN (q ++ [x]) = q ++ [x] := by simp [trimN, h]
theorem letter_nz {x : BitVec 8} (h : letter x = true) : ¬ x = 0#8 := by rintro rfl; exact absurd h (by decide)
theorem list4 {b : List (BitVec 8)} (h : b.length = 4) : ∃ x y z t, b = [x, y, z, t] := by
  match b, h with
  | [x, y, z, t], _ => exact ⟨x, y, z, t, rfl⟩
theorem cut_eq {b : List (BitVec 8)} (h : b.length = 4) : cutR b = cutN b := by
  obtain ⟨x, y, z, t, rfl⟩ := list4 h
  unfold cutR cutN okFirst okTrim
  have hz : letter 0#8 = false := by decide
  by_cases hx : x = 0#8 <;> by_cases hy : y = 0#8 <;> by_cases hw : z = 0#8 <;> by_cases ht : t = 0#8 <;> simp [firstZ, trimN, padN, goodN, zer, hx, hy, hw, ht, hz, List.takeWhile, List.dropWhile, List.replicate] <;> grind
/- what of names the statements say -/
theorem good_nil : goodN [] = false := by decide
theorem good_len {q : List (BitVec 8)} (h : goodN q = true) : 1 ≤ q.length ∧ q.length ≤ 4 ∧ ∀ x ∈ q, letter x = true := by
  unfold goodN at h
  simp only [Bool.and_eq_true, decide_eq_true_eq, List.all_eq_true] at h
  exact ⟨h.1.1, h.1.2, h.2⟩
theorem trim_nz {q : List (BitVec 8)} (h : ∀ x ∈ q, ¬ x = 0#8) (n : Nat) : trimN (q ++ zer n) = q := by
  unfold trimN zer
  rw [List.reverse_append, List.reverse_replicate]
  rw [List.dropWhile_append_of_pos (by intro a ha; obtain rfl := List.eq_of_mem_replicate ha; rfl)]
  cases hq : q.reverse with
  | nil => have := congrArg List.reverse hq; simpa using this.symm
  | cons a r =>
    have hm : a ∈ q.reverse := by rw [hq]; exact List.mem_cons_self
    have ha : ¬ a = 0#8 := h a (List.mem_reverse.1 hm)
    rw [List.dropWhile_cons_of_neg (by simpa using ha), ← hq, List.reverse_reverse]
theorem cut_pad {q : List (BitVec 8)} (h : goodN q = true) : cutN (padN q) = (q, true) := by
  obtain ⟨h1, h4, hl⟩ := good_len h
  have e : padN q = q ++ zer (4 - q.length) := by
    unfold padN zer
    rw [List.take_append, List.take_of_length_le h4, List.take_replicate, Nat.min_eq_left (by omega)]
  have ht : trimN (padN q) = q := by rw [e]; exact trim_nz (fun x hx => letter_nz (hl x hx)) _
  unfold cutN okTrim
  rw [ht, h, Bool.or_true]; rfl
theorem cut_ok {b : List (BitVec 8)} (hb : b.length = 4) (h : (cutN b).2 = true) : padN (cutN b).1 = b ∧ ((cutN b).1 = [] ∨ goodN (cutN b).1 = true) := by
  rw [← cut_eq hb] at h ⊢
  unfold cutR at h ⊢
  cases ho : okFirst b with
  | false => rw [ho] at h; cases h
  | true =>
    unfold okFirst at ho
    simp only [Bool.and_eq_true, Bool.or_eq_true, decide_eq_true_eq] at ho
    exact ho
theorem cut_no {b : List (BitVec 8)} (h : (cutN b).2 = false) : (cutN b).1 = [] := by
  unfold cutN at h ⊢
  split
  · rename_i h'; rw [if_pos h'] at h; cases h
  · rfl
theorem cut_len {b : List (BitVec 8)} (hb : b.length = 4) : (cutN b).1.length ≤ 4 := by
  cases h : (cutN b).2 with
  | false => rw [cut_no h]; simp
  | true =>
    rcases (cut_ok hb h).2 with h' | h'
    · rw [h']; simp
    · exact (good_len h').2.1
end Go.Proofs.YteidjbbhhfdcpaaDoor
