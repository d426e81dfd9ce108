/- The program's Pick. -/
import Derived.Test.YtppbgkdkioldbaaHalf
import Derived.Test.YtppbgkdkioldbaaSt
import Derived.Deep.Cut
set_option maxRecDepth 4000
namespace Go.Proofs.Ytppbgkdkioldbaa
open Go Go.RowKit
def pickK (u : BitVec 16) : Nat := ((List.range 12).find? (fun i => decide (i ≠ 0) && u.getLsbD i)).getD 0
def pickB (u : BitVec 16) : Bool := decide (pickK u ≠ 0) || u.getLsbD 0
theorem find_first {p : Nat → Bool} (n k : Nat) (hk : k < n) (h1 : p k = true) (h2 : ∀ j < k, p j = false) : (List.range n).find? p = some k := by
  rw [List.find?_eq_some_iff_getElem]
  exact ⟨h1, k, by simpa using hk, by simp, fun j hj => by simp [h2 j hj]⟩
theorem pick_hit {u : BitVec 16} {k : Nat} (h1 : 1 ≤ k) (h12 : k < 12) (hk : u.getLsbD k = true) (h : ∀ j, 1 ≤ j → j < k → u.getLsbD j = false) : pickK u = k := by
  unfold pickK
  rw [find_first 12 k h12 (by rw [hk, decide_eq_true (by omega : k ≠ 0)]; rfl) (fun j hj => by
    by_cases h0 : j = 0
    · rw [h0]; rfl
    · rw [h j (by omega) hj, Bool.and_false])]
  rfl
theorem pick_no {u : BitVec 16} (h : ∀ j, 1 ≤ j → j < 12 → u.getLsbD j = false) : pickK u = 0 := by
  unfold pickK
  rw [List.find?_eq_none.2 (fun j hj => by
    have hj := List.mem_range.1 hj
    by_cases h0 : j = 0
    · rw [h0]; simp
    · rw [h j (by omega) hj]; simp)]
  rfl
theorem bit_shrP (u : BitVec 16) (b : Nat) : bits .and .u16 (hd u / (2 : Int) ^ b) 1 = if u.getLsbD b then 1 else 0 := by
  have e : hd u / (2 : Int) ^ b = hd (u >>> b) := by unfold hd; rw [BitVec.toNat_ushiftRight, Nat.shiftRight_eq_div_pow]; exact_mod_cast rfl
  rw [e, show (1 : Int) = hd 1#16 from rfl, and_hd]
  have : u >>> b &&& 1#16 = if u.getLsbD b then 1#16 else 0#16 := by
    apply BitVec.eq_of_getLsbD_eq
    intro i hi
    rw [BitVec.getLsbD_and, BitVec.getLsbD_ushiftRight, BitVec.getLsbD_one]
    by_cases h0 : i = 0
    · subst h0; cases h : u.getLsbD b <;> simp
    · cases h : u.getLsbD b <;> simp [h0]
  rw [this]; split <;> rfl
set_option maxHeartbeats 800000 in
theorem pick_any (u : BitVec 16) (w : World) : Calls Try.prog 24 #[.int .u16 (hd u)] w fun x w' => x = .returned (.tuple #[.int .i64 (pickK u : Nat), .bool (pickB u)]) ∧ w = w' := by
  go_enter Try.func24, Try.ntmps24
  go_wp2_with fail
  go_loopw [4] (fun i wr => ∃ k : Nat, 1 ≤ k ∧ k ≤ 12 ∧ i = .int .i64 k ∧ Hid (∀ j, 1 ≤ j → j < k → u.getLsbD j = false) ∧ w = wr) (fun i _ => 12 - (intOf i).toNat)
  case atStart => exact ⟨1, by omega, by omega, rfl, Lib.hid (fun j _ _ => by omega), rfl⟩
  case round =>
    obtain ⟨k, hk1, hk, rfl, HE, rfl⟩ := hrel
    by_cases hlt : k < 12
    · have hdd : decide ((k : Int) < 12) = true := decide_eq_true (by omega)
      have hsh := bit_shrP u k
      obtain ⟨q, hq⟩ : ∃ q, u.getLsbD k = q := ⟨_, rfl⟩
      rw [hq] at hsh
      have HQ := Lib.hid hq
      clear hq
      cases q with
      | true =>
        have hsh : bits .and .u16 (hd u / (2 : Int) ^ k) 1 = 1 := hsh
        have hP := pick_hit hk1 hlt HQ.out HE.out
        have hB : pickB u = true := by unfold pickB; rw [hP, decide_eq_true (by omega : k ≠ 0)]; rfl
        have HP := Lib.hid hP
        have HB := Lib.hid hB
        clear hP hB
        go_wp2_with fail
        go_ret2
        exact ⟨by rw [HP.out, HB.out]; rfl, rfl⟩
      | false =>
        have hsh : bits .and .u16 (hd u / (2 : Int) ^ k) 1 = 0 := hsh
        go_wp2_with fail
        refine ⟨⟨k + 1, by omega, by omega, by go_num, Lib.hid (fun j h1 hj => ?_), by first | rfl | trivial⟩, by simp [intOf]; omega⟩
        rcases Nat.lt_or_eq_of_le (Nat.le_of_lt_succ hj) with h | rfl
        · exact HE.out j h1 h
        · exact HQ.out
    · obtain rfl : k = 12 := by omega
      have hdd : decide (((12 : Nat) : Int) < 12) = false := by decide
      have hP := pick_no HE.out
      have hB : pickB u = u.getLsbD 0 := by unfold pickB; rw [hP]; rfl
      have HP := Lib.hid hP
      have HB := Lib.hid hB
      have hsh := bit_shrP u 0
      rw [Int.pow_zero, Int.ediv_one] at hsh
      obtain ⟨q, hq⟩ : ∃ q, u.getLsbD 0 = q := ⟨_, rfl⟩
      rw [hq] at hsh HB
      clear hP hB hq
      cases q with
      | true =>
        have hsh : bits .and .u16 (hd u) 1 = 1 := hsh
        go_wp2_with fail
        go_ret2
        exact ⟨by rw [HP.out, HB.out]; rfl, rfl⟩
      | false =>
        have hsh : bits .and .u16 (hd u) 1 = 0 := hsh
        go_wp2_with fail
        go_ret2
        exact ⟨by rw [HP.out, HB.out]; rfl, rfl⟩
end Go.Proofs.Ytppbgkdkioldbaa
