/- A reply's bytes with one byte turned, or one fewer. No function of the program is named here. -/
import Derived.Test.YtamofhjnpahamaaRepPure
import Derived.Test.YtamofhjnpahamaaSealSpec
set_option maxRecDepth 4000
namespace Go.Proofs.Ytamofhjnpahamaa
open Go Go.RowKit
theorem rp_crc {q : List (BitVec 8)} (h : rpOk q = true) : crcMore 0xffff#16 q = 0xf0b8#16 := by
  obtain ⟨_, _, e⟩ := rp_of h
  rw [← e]
  exact crc_full (repH (rpI q) (rpE q) (rpD q))
theorem crc_at (q : List (BitVec 8)) (k : Nat) (hk : k + 1 < q.length) (u v : BitVec 8) (c : BitVec 16) : crcMore c q = crcMore c (turnedAt q k u v) ↔ u = 0#8 ∧ v = 0#8 := by
  rw [turned_split q k hk u v]
  conv => lhs; lhs; rw [split_at q k hk]
  exact crc_turned _ _ _ _ u v c
theorem rp_turn2 {q : List (BitVec 8)} (h : rpOk q = true) (k : Nat) (hk : k + 1 < q.length) (u v : BitVec 8) : rpOk (turnedAt q k u v) = decide (u = 0#8 ∧ v = 0#8) := by
  by_cases hz : u = 0#8 ∧ v = 0#8
  · rw [decide_eq_true hz]
    obtain ⟨rfl, rfl⟩ := hz
    rw [turned_id q k hk]; exact h
  · rw [decide_eq_false hz]
    cases ho : rpOk (turnedAt q k u v) with
    | false => rfl
    | true => exact (hz ((crc_at q k hk u v _).1 ((rp_crc h).trans (rp_crc ho).symm))).elim
theorem rp_turn {q : List (BitVec 8)} (h : rpOk q = true) (k : Nat) (hk : k < q.length) (y : BitVec 8) : rpOk (q.set k (q.getD k 0#8 ^^^ y)) = decide (y = 0#8) := by
  have h8 := (rp_of h).1
  by_cases h1 : k + 1 < q.length
  · have e : q.set k (q.getD k 0#8 ^^^ y) = turnedAt q k y 0#8 := by
      rw [turned_split q k h1]
      conv => lhs; rw [List.set_eq_take_append_cons_drop, if_pos hk]
      rw [BitVec.xor_zero]
      congr 1
      congr 1
      rw [List.drop_eq_getElem_cons h1, List.getD_eq_getElem?_getD, List.getElem?_eq_getElem h1]
      rfl
    rw [e, rp_turn2 h k h1]
    by_cases hy : y = 0#8 <;> simp [hy]
  · obtain ⟨j, rfl⟩ : ∃ j, k = j + 1 := ⟨k - 1, by omega⟩
    have e : q.set (j + 1) (q.getD (j + 1) 0#8 ^^^ y) = turnedAt q j 0#8 y := by
      rw [turned_split q j hk]
      conv => lhs; rw [List.set_eq_take_append_cons_drop, if_pos hk]
      rw [BitVec.xor_zero, show j + 1 + 1 = j + 2 from rfl, List.take_succ_eq_append_getElem (by omega : j < q.length), List.append_assoc]
      congr 1
      rw [show q.getD j 0#8 = q[j] by rw [List.getD_eq_getElem?_getD, List.getElem?_eq_getElem (by omega : j < q.length)]; rfl]
      rfl
    rw [e, rp_turn2 h j hk]
    by_cases hy : y = 0#8 <;> simp [hy]
theorem rp_len {q : List (BitVec 8)} (h : rpOk q = true) : (q.length : Int) = 8 + bd (q.getD 5 0#8) := by
  obtain ⟨h8, hm, e⟩ := rp_of h
  have hn := (mayR_of hm).2.2.2.2
  have e5 : q.getD 5 0#8 = byteZ ((rpD q).length : Int) := by
    conv => lhs; rw [← e]
    rfl
  rw [e5, length_rpD, bd_byteZ (by omega) (by omega)]
  omega
theorem rp_short {q : List (BitVec 8)} (h : rpOk q = true) : rpOk (q.take (q.length - 1)) = false := by
  cases ho : rpOk (q.take (q.length - 1)) with
  | false => rfl
  | true =>
    have h8 := (rp_of h).1
    have a := rp_len h
    have b := rp_len ho
    rw [List.length_take, show (q.take (q.length - 1)).getD 5 0#8 = q.getD 5 0#8 by rw [List.getD_eq_getElem?_getD, List.getElem?_take_of_lt (by omega), ← List.getD_eq_getElem?_getD]] at b
    omega
end Go.Proofs.Ytamofhjnpahamaa
