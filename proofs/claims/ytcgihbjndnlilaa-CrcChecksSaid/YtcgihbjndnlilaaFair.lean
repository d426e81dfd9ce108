/- The slices of bytes as they are handed in; and whether they are few and short enough. -/
import Derived.Test.YtcgihbjndnlilaaSl
namespace Go.Proofs.Ytcgihbjndnlilaa
open Go Go.RowKit
def FairPost (w : World) (ps : List (List (BitVec 8))) (e : Ending) (w' : World) : Prop := ∃ b, e = .returned (.bool b) ∧ (b = true → ps.length ≤ 60 ∧ ps.flatten.length ≤ 3000) ∧ w' = w
set_option maxHeartbeats 800000 in
theorem fair_any (ps : List (List (BitVec 8))) (v : Value) (w : World) (hv : Hand w v ps) (hn : ps.length ≤ maxLen) :
    Calls Try.prog 8 #[v] w (FairPost w ps) := by
  unfold maxLen at hn
  obtain ⟨A, c, rfl, hp⟩ := hv
  have HP := Lib.hid hp
  clear hp
  go_enter Try.func8, Try.ntmps8
  go_wp2_with fail
  go_loopw [3, 4] (fun n i wr => ∃ k : Nat, k ≤ ps.length ∧ i = .int .i64 k ∧ n = .int .i64 ((ps.take k).flatten.length : Int) ∧ (ps.take k).flatten.length ≤ 3000 ∧ wr = w) (fun _ i _ => ps.length - (intOf i).toNat)
  case atStart => exact ⟨0, by omega, rfl, rfl, by simp, rfl⟩
  case round =>
    obtain ⟨k, hk, rfl, rfl, hs, rfl⟩ := hrel
    by_cases hlt : k < ps.length
    · obtain ⟨b, o, rfl, hbl, hc⟩ := HP.out (by intro h; subst h; simp at hlt)
      obtain ⟨u, hu, Ai, ci, rfl, _, _, hm⟩ := hc k ps[k] (List.getElem?_eq_getElem hlt)
      unfold maxLen at hm
      have hfl := flat_len ps k hlt
      generalize (ps.take k).flatten.length = N at *
      generalize hq : ps[k].length = m at *
      clear hc HP
      by_cases hbig : 3000 < N + m
      · go_wp2_with fail
        all_goals (go_ret; exact ⟨false, rfl, (fun h => by cases h), rfl⟩)
      · go_wp2_with fail
        have hi : ¬ (3001 : Int) < (m : Int) := by omega
        rw [if_neg hi]
        exact ⟨⟨k + 1, by omega, by go_num, by rw [hfl]; go_num, by omega, trivial⟩, by simp [intOf]; omega⟩
    · obtain rfl : k = ps.length := by omega
      rw [List.take_length] at hs
      go_wp2_with fail
      go_ret
      refine ⟨_, rfl, fun h => ⟨?_, hs⟩, rfl⟩
      have h' := of_decide_eq_true h
      omega
end Go.Proofs.Ytcgihbjndnlilaa
