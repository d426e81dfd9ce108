/- The slices of bytes as they are handed in; and whether they are few and short enough. -/
import Derived.Test.YtnfceejmkcohnaaDoorApp
import Derived.Test.YtnfceejmkcohnaaDoorPadG
namespace Go.Proofs.YtnfceejmkcohnaaDoor
open Go Go.RowKit
/- a slice of bytes that may be appended: nil has no room -/
def Item (w : World) (u : Value) (q : List (BitVec 8)) : Prop := ∃ A c, u = .slice A q.length c ∧ Slice w (.slice A q.length c) q ∧ (A = none → c = 0) ∧ q.length ≤ maxLen
def Hand (w : World) (v : Value) (ps : List (List (BitVec 8))) : Prop :=
  ∃ A c, v = .slice A ps.length c ∧ (ps ≠ [] → ∃ b o, A = some ⟨b, o, none⟩ ∧ b < w.heap.size ∧ ∀ k q, ps[k]? = some q → ∃ u, w.cell? ⟨b, o + k, none⟩ = some u ∧ Item w u q)
theorem Item.below {w w' : World} {B : Nat} {u : Value} {q : List (BitVec 8)} (h : Item w u q) (hb : Below B w w') (hB : w.heap.size ≤ B) : Item w' u q := by
  obtain ⟨A, c, h1, h2, h3⟩ := h
  exact ⟨A, c, h1, h2.below hb hB, h3⟩
theorem Item.slice {w : World} {u : Value} {q : List (BitVec 8)} (h : Item w u q) : Slice w u q := by
  obtain ⟨A, c, rfl, h2, h3⟩ := h
  exact h2
theorem Hand.below {w w' : World} {B : Nat} {v : Value} {ps : List (List (BitVec 8))} (h : Hand w v ps) (hb : Below B w w') (hB : w.heap.size ≤ B) : Hand w' v ps := by
  obtain ⟨A, c, h1, h3⟩ := h
  refine ⟨A, c, h1, fun hne => ?_⟩
  obtain ⟨b, o, h4, h5, h6⟩ := h3 hne
  refine ⟨b, o, h4, Nat.lt_of_lt_of_le h5 hb.size, fun k q hq => ?_⟩
  obtain ⟨u, h7, h8⟩ := h6 k q hq
  exact ⟨u, (hb.cell (p := ⟨b, o + k, none⟩) (Nat.lt_of_lt_of_le h5 hB)).trans h7, h8.below hb hB⟩
theorem flat_len (ps : List (List (BitVec 8))) (k : Nat) (hk : k < ps.length) : (ps.take (k + 1)).flatten.length = (ps.take k).flatten.length + ps[k].length := by
  rw [flat_succ ps k hk, List.length_append]
def FairPost (w : World) (ps : List (List (BitVec 8))) (e : Ending) (w' : World) : Prop := ∃ b, e = .returned (.bool b) ∧ (b = true → ps.length ≤ 60 ∧ ps.flatten.length ≤ 3000) ∧ w' = w
set_option maxHeartbeats 800000 in
theorem fair_any (ps : List (List (BitVec 8))) (v : Value) (w : World) (hv : Hand w v ps) (hn : ps.length ≤ maxLen) :
    Calls Tryd.prog 7 #[v] w (FairPost w ps) := by
  unfold maxLen at hn
  obtain ⟨A, c, rfl, hp⟩ := hv
  have HP := Lib.hid hp
  clear hp
  go_enter Tryd.func7, Tryd.ntmps7
  go_wp2_with fail
  go_loopw [3, 4] (fun n i wr => ∃ k : Nat, k ≤ ps.length ∧ i = .int .i64 k ∧ n = .int .i64 ((ps.take k).flatten.length : Int) ∧ (ps.take k).flatten.length ≤ 3000 ∧ wr = w) (fun _ i _ => ps.length - (intOf i).toNat)
  case atStart => exact ⟨0, by omega, rfl, rfl, by simp, rfl⟩
  case round =>
    obtain ⟨k, hk, rfl, rfl, hs, rfl⟩ := hrel
    by_cases hlt : k < ps.length
    · obtain ⟨b, o, rfl, hbl, hc⟩ := HP.out (by intro h; subst h; simp at hlt)
      obtain ⟨u, hu, Ai, ci, rfl, _, _, hm⟩ := hc k ps[k] (List.getElem?_eq_getElem hlt)
      unfold maxLen at hm
      have hfl := flat_len ps k hlt
      generalize (ps.take k).flatten.length = N at *
      generalize hq : ps[k].length = m at *
      clear hc HP
      by_cases hbig : 3000 < N + m
      · go_wp2_with fail
        all_goals (go_ret; exact ⟨false, rfl, (fun h => by cases h), rfl⟩)
      · go_wp2_with fail
        have hi : ¬ (3001 : Int) < (m : Int) := by omega
        rw [if_neg hi]
        exact ⟨⟨k + 1, by omega, by go_num, by rw [hfl]; go_num, by omega, trivial⟩, by simp [intOf]; omega⟩
    · obtain rfl : k = ps.length := by omega
      rw [List.take_length] at hs
      go_wp2_with fail
      go_ret
      refine ⟨_, rfl, fun h => ⟨?_, hs⟩, rfl⟩
      have h' := of_decide_eq_true h
      omega
end Go.Proofs.YtnfceejmkcohnaaDoor
