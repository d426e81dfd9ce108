/- Pieces for the statement LabelBits: puts cut in two, one put alone, their bits. -/
import Derived.Test.YtmghacgifokbhaaLabelWakes
set_option maxRecDepth 4000
namespace Go.Proofs.Ytmghacgifokbhaa
open Go Go.RowKit
theorem bitsOf_nil : bitsOf [] = 0#16 := rfl
theorem bitsOf_one (i : Int) : bitsOf [i] = bit1 i := by unfold bitsOf; simp
theorem foldl_bits (l : List Int) (v : BitVec 16) : l.foldl (fun v i => v ||| bit1 i) v = v ||| bitsOf l := by
  induction l generalizing v with
  | nil => simp [bitsOf]
  | cons x l ih =>
    unfold bitsOf at *
    simp only [List.foldl_cons]
    rw [ih, ih (0#16 ||| bit1 x), BitVec.zero_or, BitVec.or_assoc]
theorem bitsOf_append (l m : List Int) : bitsOf (l ++ m) = bitsOf l ||| bitsOf m := by
  show (l ++ m).foldl _ _ = _
  rw [List.foldl_append, foldl_bits]; rfl
theorem bitsOf_cut (l : List Int) (k : Nat) : bitsOf (l.take k) ||| bitsOf (l.drop k) = bitsOf l := by
  rw [← bitsOf_append, List.take_append_drop]
theorem bit1_out (i : Int) (h : ¬ (0 ≤ i ∧ i < 12)) : bit1 i = 0#16 := by unfold bit1; rw [if_neg h]
theorem bit1_in (i : Int) (h0 : 0 ≤ i) (h1 : i < 12) : hd (bit1 i) ≠ 0 := by
  obtain ⟨n, rfl⟩ := Int.eq_ofNat_of_zero_le h0
  have hn : n < 12 := by omega
  have key : ∀ n : Nat, n < 12 → hd (bit1 (n : Int)) ≠ 0 := by decide +kernel
  exact key n hn
theorem puts_take {w : World} {A : Option Addr} {n c : Nat} {l : List (Int × List (BitVec 8))} (h : PutsAt w (.slice A n c) l) (k : Nat) (hk : k ≤ l.length) : PutsAt w (.slice A k c) (l.take k) := by
  obtain ⟨A', c', h1, h2, h3, h4⟩ := h
  cases h1
  refine ⟨A, c, by rw [List.length_take, Nat.min_eq_left hk], by rw [List.length_take]; omega, fun x hx => h3 x (List.mem_of_mem_take hx), fun hne => ?_⟩
  obtain ⟨b, o, h5, h6, h7⟩ := h4 (fun e => hne (by rw [e]; simp))
  exact ⟨b, o, h5, h6, fun j x hx => h7 j x (by
    rw [List.getElem?_take] at hx
    split at hx
    · exact hx
    · cases hx)⟩
theorem puts_drop {w : World} {A B : Option Addr} {n c d : Nat} {l : List (Int × List (BitVec 8))} (h : PutsAt w (.slice A n c) l) (k : Nat) (hd : l.length - k ≤ d)
    (hB : ∀ b o, A = some ⟨b, o, none⟩ → k < l.length → B = some ⟨b, o + k * 33, none⟩) : PutsAt w (.slice B (l.length - k) d) (l.drop k) := by
  obtain ⟨A', c', h1, h2, h3, h4⟩ := h
  cases h1
  refine ⟨B, d, by rw [List.length_drop], by rw [List.length_drop]; exact hd, fun x hx => h3 x (List.mem_of_mem_drop hx), fun hne => ?_⟩
  have hk : k < l.length := by
    apply Nat.lt_of_not_le
    intro hle
    exact hne (List.drop_eq_nil_of_le hle)
  obtain ⟨b, o, h5, h6, h7⟩ := h4 (fun e => hne (by rw [e]; simp))
  exact ⟨b, o + k * 33, hB b o h5 hk, h6, fun j x hx => by
    rw [List.getElem?_drop] at hx
    have := h7 (k + j) x hx
    rw [Nat.add_mul, ← Nat.add_assoc] at this
    exact this⟩
theorem puts_nil (w : World) (A : Option Addr) (c : Nat) : PutsAt w (.slice A 0 c) [] := ⟨A, c, rfl, Nat.zero_le _, fun _ h => by (cases h), fun h => absurd rfl h⟩
/- one put in new memory -/
theorem puts_one {w : World} {g : Nat} {t : TypeId} {x : Int × List (BitVec 8)} (h : Row w g t (pcell x).toArray) (hx : x.2.length = 32 ∧ -9223372036854775808 ≤ x.1 ∧ x.1 < 9223372036854775808) : PutsAt w (.slice (some ⟨g, 0, none⟩) 1 1) [x] :=
  puts_row (l := [x]) (by simpa using h) (Nat.le_refl 1) (fun y hy => by rw [List.mem_singleton.1 hy]; exact hx)
end Go.Proofs.Ytmghacgifokbhaa
