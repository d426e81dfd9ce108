/- The program's names: allLetters, Good, Pad. -/
import Derived.Test.YteidjbbhhfdcpaaDoorStr
import Derived.Test.YteidjbbhhfdcpaaDoorNamesSpec
import Derived.Test.YteidjbbhhfdcpaaDoorObj
import Derived.Deep.Cut
set_option maxRecDepth 4000
namespace Go.Proofs.YteidjbbhhfdcpaaDoor
open Go Go.RowKit
theorem all_of {q : List (BitVec 8)} (h : ∀ j < q.length, letter (q.getD j 0#8) = true) : q.all letter = true := by
  rw [List.all_eq_true]
  intro x hx
  obtain ⟨j, hj, rfl⟩ := List.getElem_of_mem hx
  have := h j hj
  rwa [List.getD_eq_getElem?_getD, List.getElem?_eq_getElem hj] at this
theorem all_no {q : List (BitVec 8)} {j : Nat} (hj : j < q.length) (h : letter (q.getD j 0#8) = false) : q.all letter = false := by
  rw [List.all_eq_false]
  rw [List.getD_eq_getElem?_getD, List.getElem?_eq_getElem hj] at h
  exact ⟨q[j], List.getElem_mem hj, by rw [show letter q[j] = false from h]; decide⟩
set_option maxHeartbeats 800000 in
theorem letters_any (q : List (BitVec 8)) (w : World) (hm : q.length ≤ maxLen) :
    Calls Tryd.prog 29 #[.string (strB q)] w fun e w' => e = .returned (.bool (q.all letter)) ∧ Below w.heap.size w w' := by
  obtain ⟨cap, W, hcv, hb, hlt, hcell⟩ := conv_str w q 9 Tryd.underlying9
  obtain ⟨n, hn⟩ : ∃ n, q.length = n := ⟨_, rfl⟩
  have HN := Lib.hid hn
  rw [hn] at hcv hcell hm
  unfold maxLen at hm
  have HB := Lib.hid hb
  have HC := Lib.hid hcell
  obtain ⟨G, hG⟩ : ∃ G, q.all letter = G := ⟨_, rfl⟩
  have HY : Hid ((∀ j < n, letter (q.getD j 0#8) = true) → G = true) := Lib.hid fun h => by rw [← hG]; exact all_of (by rw [hn]; exact h)
  have HNO : Hid (∀ j < n, letter (q.getD j 0#8) = false → G = false) := Lib.hid fun j hj h => by rw [← hG]; exact all_no (by rw [hn]; exact hj) h
  rw [hG]
  clear hb hcell hn hG hlt
  go_enter Tryd.func29, Tryd.ntmps29
  go_wp2_with fail
  clear hcv
  go_loopw [8] (fun i wr => ∃ k : Nat, k ≤ n ∧ i = .int .i64 k ∧ (∀ j < k, letter (q.getD j 0#8) = true) ∧ wr = W) (fun i _ => n - (intOf i).toNat)
  case atStart => exact ⟨0, by omega, rfl, fun j hj => by omega, rfl⟩
  case round =>
    obtain ⟨k, hk, rfl, hok, rfl⟩ := hrel
    have HOK := Lib.hid hok
    clear hok
    by_cases hlt : k < n
    · have hc := HC.out k hlt
      have hk1 : decide ((k : Int) < (n : Int)) = true := decide_eq_true (by omega)
      have hk2 : (k : Int) < (n : Int) := by omega
      have hk3 : (0 : Int) ≤ (k : Int) := by omega
      obtain ⟨x, hx⟩ : ∃ x, q.getD k 0#8 = x := ⟨_, rfl⟩
      have HX := Lib.hid hx
      rw [hx] at hc
      clear hx
      by_cases h97 : bd x < 97
      · have hd1 : decide (bd x < 97) = true := decide_eq_true h97
        have hG : G = false := HNO.out k hlt (by rw [HX.out]; unfold letter; rw [decide_eq_false (by omega)]; rfl)
        go_wp2_with fail
        go_ret
        first | exact ⟨rfl, HB.out⟩ | (rw [hG]; exact ⟨rfl, HB.out⟩)
      have hd1 : decide (bd x < 97) = false := decide_eq_false h97
      by_cases h122 : 122 < bd x
      · have hd2 : decide (122 < bd x) = true := decide_eq_true h122
        have hG : G = false := HNO.out k hlt (by rw [HX.out]; unfold letter; rw [decide_eq_false (show ¬ bd x ≤ 122 by omega), Bool.and_false])
        go_wp2_with fail
        go_ret
        first | exact ⟨rfl, HB.out⟩ | (rw [hG]; exact ⟨rfl, HB.out⟩)
      have hd2 : decide (122 < bd x) = false := decide_eq_false h122
      have hw : IntKind.i64.wrap ((k : Int) + 1) = ((k + 1 : Nat) : Int) := by rw [i64_id _ (by omega) (by omega)]; omega
      go_wp2_with fail
      refine ⟨⟨k + 1, by omega, by go_num, fun j hj => ?_, trivial⟩, by simp [intOf]; omega⟩
      rcases Nat.lt_succ_iff_lt_or_eq.1 hj with h | h
      · exact HOK.out j h
      · subst h; rw [HX.out]; unfold letter; rw [decide_eq_true (by omega), decide_eq_true (by omega)]; rfl
    · have hk1 : decide ((k : Int) < (n : Int)) = false := decide_eq_false (by omega)
      have hG : G = true := HY.out fun j hj => HOK.out j (by omega)
      go_wp2_with fail
      go_ret
      first | exact ⟨rfl, HB.out⟩ | (rw [hG]; exact ⟨rfl, HB.out⟩)
end Go.Proofs.YteidjbbhhfdcpaaDoor
