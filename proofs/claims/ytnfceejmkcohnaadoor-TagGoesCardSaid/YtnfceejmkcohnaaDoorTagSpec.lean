/- Tags chained, and bytes compared, as plain functions on lists. No program is named here. -/
import Derived.Test.YtnfceejmkcohnaaDoorMacSpec
namespace Go.Proofs.YtnfceejmkcohnaaDoor
open Go Go.RowKit
theorem ofInt_bd (x : BitVec 8) : BitVec.ofInt 8 (bd x) = x := by
  apply BitVec.eq_of_toNat_eq; unfold bd; rw [ofInt_u8 _ x.isLt]
theorem or_bd (x y : BitVec 8) : bits .or .u8 (bd x) (bd y) = bd (x ||| y) := by
  show IntKind.u8.wrap ((BitVec.ofInt 8 (bd x) ||| BitVec.ofInt 8 (bd y)).toNat : Int) = _
  rw [ofInt_bd, ofInt_bd]; exact wrap_bd _
/- what differs in the first k places -/
def dif (p q : List (BitVec 8)) : Nat → BitVec 8
  | 0 => if p.length = q.length then 0 else 1
  | k + 1 => dif p q k ||| (p.getD k 0 ^^^ q.getD k 0)
theorem or_zero8 (x y : BitVec 8) : x ||| y = 0 ↔ x = 0 ∧ y = 0 := by
  constructor
  · intro h
    have hx : ∀ i : Nat, (x.getLsbD i || y.getLsbD i) = false := fun i => by rw [← BitVec.getLsbD_or, h]; simp
    constructor
    · apply BitVec.eq_of_getLsbD_eq; intro i _; have := hx i; simp at this; simp [this.1]
    · apply BitVec.eq_of_getLsbD_eq; intro i _; have := hx i; simp at this; simp [this.2]
  · rintro ⟨rfl, rfl⟩; rfl
theorem dif_zero (p q : List (BitVec 8)) (k : Nat) : dif p q k = 0 ↔ p.length = q.length ∧ ∀ j, j < k → p.getD j 0 = q.getD j 0 := by
  induction k with
  | zero => unfold dif; split <;> simp_all
  | succ k ih =>
    unfold dif
    rw [or_zero8, ih]
    constructor
    · rintro ⟨⟨h1, h2⟩, h3⟩
      refine ⟨h1, fun j hj => ?_⟩
      by_cases hjk : j < k
      · exact h2 j hjk
      · obtain rfl : j = k := by omega
        exact BitVec.xor_eq_zero_iff.1 h3
    · rintro ⟨h1, h2⟩
      exact ⟨⟨h1, fun j hj => h2 j (by omega)⟩, BitVec.xor_eq_zero_iff.2 (h2 k (by omega))⟩
theorem dif_eq (p q : List (BitVec 8)) (n : Nat) (hn : p.length ≤ n) : dif p q n = 0 ↔ p = q := by
  rw [dif_zero]
  constructor
  · rintro ⟨h1, h2⟩
    apply List.ext_getElem h1
    intro j hj hj'
    have := h2 j (by omega)
    simpa [List.getD_eq_getElem?_getD, hj, hj'] using this
  · rintro rfl; exact ⟨rfl, fun _ _ => rfl⟩
theorem dif_bool (p q : List (BitVec 8)) (n : Nat) (hn : p.length ≤ n) : decide (bd (dif p q n) = 0) = decide (p = q) := by
  have h := dif_eq p q n hn
  have e : bd (dif p q n) = 0 ↔ dif p q n = 0 := ⟨fun h => bd_inj h, fun h => by rw [h]; rfl⟩
  rw [decide_eq_decide, e, h]
/- the link behind k records, and all links -/
def linkAt (h : List (BitVec 8)) (rs : List (List (BitVec 8))) : Nat → List (BitVec 8)
  | 0 => h
  | k + 1 => sha (linkAt h rs k ++ rs.getD k [])
def chainOf (h : List (BitVec 8)) (rs : List (List (BitVec 8))) (n : Nat) : List (List (BitVec 8)) := (List.range n).map fun k => linkAt h rs (k + 1)
theorem length_chainOf (h : List (BitVec 8)) (rs : List (List (BitVec 8))) (n : Nat) : (chainOf h rs n).length = n := by simp [chainOf]
theorem length_linkAt (h : List (BitVec 8)) (rs : List (List (BitVec 8))) (hh : h.length = 32) : ∀ k, (linkAt h rs k).length = 32
  | 0 => hh
  | _ + 1 => length_sha _
theorem chainOf_succ (h : List (BitVec 8)) (rs : List (List (BitVec 8))) (n : Nat) : chainOf h rs (n + 1) = chainOf h rs n ++ [linkAt h rs (n + 1)] := by
  simp [chainOf, List.range_succ]
theorem chainOf_get (h : List (BitVec 8)) (rs : List (List (BitVec 8))) (n i : Nat) (hi : i < n) : (chainOf h rs n)[i]? = some (linkAt h rs (i + 1)) := by
  simp [chainOf, hi]
theorem linkAt_take (h : List (BitVec 8)) (rs : List (List (BitVec 8))) (k : Nat) : ∀ i, i ≤ k → linkAt h (rs.take k) i = linkAt h rs i
  | 0, _ => rfl
  | i + 1, hi => by
    rw [linkAt, linkAt, linkAt_take h rs k i (by omega)]
    congr 2
    simp only [List.getD_eq_getElem?_getD, List.getElem?_take, if_pos (show i < k by omega)]
theorem linkAt_drop (h : List (BitVec 8)) (rs : List (List (BitVec 8))) (k : Nat) : ∀ i, linkAt (linkAt h rs k) (rs.drop k) i = linkAt h rs (k + i)
  | 0 => rfl
  | i + 1 => by
    rw [linkAt, linkAt_drop h rs k i, show k + (i + 1) = (k + i) + 1 by omega, linkAt]
    congr 2
    simp only [List.getD_eq_getElem?_getD, List.getElem?_drop]
/- the cells of several hashes -/
def digsV (ds : List (List (BitVec 8))) : List Value := ds.flatMap fun d => (bs d).toList
theorem length_digsV (ds : List (List (BitVec 8))) (h : ∀ d ∈ ds, d.length = 32) : (digsV ds).length = ds.length * 32 := by
  induction ds with
  | nil => rfl
  | cons d r ih =>
    have e : digsV (d :: r) = (bs d).toList ++ digsV r := by simp [digsV]
    rw [e, List.length_append, ih (fun x hx => h x (by simp [hx]))]
    have : (bs d).toList.length = 32 := by simp [bs, h d (by simp)]
    rw [this, List.length_cons]; omega
theorem digsV_get (ds : List (List (BitVec 8))) (h : ∀ d ∈ ds, d.length = 32) (i : Nat) (d : List (BitVec 8)) (hd : ds[i]? = some d) (j : Nat) (v : Value) (hv : (bs d).toList[j]? = some v) : (digsV ds)[i * 32 + j]? = some v := by
  induction ds generalizing i with
  | nil => simp at hd
  | cons c r ih =>
    have e : digsV (c :: r) = (bs c).toList ++ digsV r := by simp [digsV]
    have hc : (bs c).toList.length = 32 := by simp [bs, h c (by simp)]
    rw [e]
    cases i with
    | zero =>
      obtain rfl : c = d := by simpa using hd
      have hj := (List.getElem?_eq_some_iff.1 hv).1
      rw [Nat.zero_mul, Nat.zero_add, List.getElem?_append_left hj]; exact hv
    | succ i =>
      rw [List.getElem?_append_right (by rw [hc]; omega), hc, show (i + 1) * 32 + j - 32 = i * 32 + j by omega]
      exact ih (fun x hx => h x (by simp [hx])) i (by simpa using hd)
end Go.Proofs.YtnfceejmkcohnaaDoor
