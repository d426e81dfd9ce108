/- Whether steps are not too many, nor too long. -/
import Derived.Test.YteehpdeeaebliaaDiskStep
namespace Go.Proofs.Yteehpdeeaebliaa
open Go Go.RowKit
def FairD (w : World) (l : List StepD) : Ending → World → Prop := fun e w' => ∃ b, e = .returned (.bool b) ∧ (b = true → l.length ≤ 200 ∧ ∀ x ∈ l, x.keep.length ≤ 300) ∧ w = w'
set_option maxHeartbeats 800000 in
theorem fairD_any (w : World) (A : Option Addr) (n c : Nat) (l : List StepD) (h : rdSl 4 rdStep w [.slice A n c] l) : Calls Try.prog 8 #[.slice A n c] w (FairD w l) := by
  have H := Lib.hid h
  obtain ⟨A', c', h1, _, _, hm, _⟩ := h
  injection h1 with h1 _
  injection h1 with h2 h1 h3
  clear h2 h3
  have HN : Hid (l.length = n) := Lib.hid h1.symm
  rw [← h1] at hm
  unfold maxLen at hm
  clear h1
  go_enter Try.func8, Try.ntmps8
  go_wp2_with fail
  go_loopw [3] (fun i wr => ∃ k : Nat, k ≤ n ∧ i = .int .i64 k ∧ (∀ x ∈ l.take k, x.keep.length ≤ 300) ∧ wr = w) (fun i _ => n - (intOf i).toNat)
  case atStart => exact ⟨0, by omega, rfl, by simp, rfl⟩
  case round =>
    obtain ⟨k, hk, rfl, hall, rfl⟩ := hrel
    have HA := Lib.hid hall
    clear hall
    by_cases hlt : k < n
    · have hkl : k < l.length := by rw [HN.out]; exact hlt
      obtain ⟨b, o, rfl, _, hs⟩ := steps_at H.out (List.getElem?_eq_getElem hkl)
      obtain ⟨u, hu, Ai, ci, rfl, _, _, hmi⟩ := hs.keep
      unfold maxLen at hmi
      have HT : Hid (l.take (k + 1) = l.take k ++ [l[k]]) := Lib.hid (List.take_succ_eq_append_getElem hkl)
      have hk0 : (0 : Int) ≤ (k : Int) := by omega
      have hk1 : (k : Int) < (n : Int) := by omega
      clear hs
      obtain ⟨m, hmm⟩ : ∃ m, l[k].keep.length = m := ⟨_, rfl⟩
      have HK := Lib.hid hmm
      rw [hmm] at hu hmi
      clear hmm
      by_cases hbig : 300 < m
      · have hd : decide ((300 : Int) < (m : Int)) = true := decide_eq_true (by omega)
        go_wp2_with fail
        go_ret
        exact ⟨false, rfl, (fun h => by cases h), rfl⟩
      · have hd : decide ((300 : Int) < (m : Int)) = false := decide_eq_false (by omega)
        go_wp2_with fail
        exact ⟨⟨k + 1, by omega, by go_num, by rw [HT.out]; intro x hx; rcases List.mem_append.1 hx with h | h; exact HA.out x h; rw [List.mem_singleton.1 h, HK.out]; omega, trivial⟩, by simp [intOf]; omega⟩
    · obtain rfl : k = n := by omega
      go_wp2_with fail
      go_ret
      refine ⟨_, rfl, fun h => ⟨?_, ?_⟩, rfl⟩
      · have h' := of_decide_eq_true h
        rw [HN.out]; omega
      · have := HA.out
        rwa [← HN.out, List.take_length] at this
end Go.Proofs.Yteehpdeeaebliaa
