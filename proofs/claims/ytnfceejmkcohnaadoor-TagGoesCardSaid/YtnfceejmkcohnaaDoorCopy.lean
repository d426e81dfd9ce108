/- Copies of the slices of bytes, in memory of the call's own. -/
import Derived.Test.YtnfceejmkcohnaaDoorFair
namespace Go.Proofs.YtnfceejmkcohnaaDoor
open Go Go.RowKit
theorem info_sl : (Tryd.prog.info? 22).map (fun i => (i.zero, i.size, i.bytes)) = some (some (.slice none 0 0), 1, 24) := by kernel_rfl
/- slices of the call's own, in a slice of the call's own -/
def Owns (w wr : World) (v : Value) (ps : List (List (BitVec 8))) : Prop :=
  ∃ vs : List Value, wr.ownsRow w.heap.size 22 1 v ps.length vs ∧ Below w.heap.size w wr ∧ ∀ (j : Nat) (q : List (BitVec 8)), ps[j]? = some q → ∃ u, vs[j]? = some u ∧ wr.ownsRow w.heap.size 5 1 u q.length (bytesV q)
theorem own_mono {w : World} {base base' e size n : Nat} {v : Value} {xs : List Value} (h : w.ownsRow base e size v n xs) (hb : base' ≤ base) : w.ownsRow base' e size v n xs := by
  refine ⟨h.1, ?_⟩
  rcases h.2 with hn | ⟨g, cap, cur, h1, h2, h3⟩
  · exact .inl hn
  · exact .inr ⟨g, cap, cur, h1, Nat.le_trans hb h2, h3⟩
theorem own_ne {w : World} {b b' n m : Nat} {v u : Value} {xs ys : List Value} (h : w.ownsRow b 22 1 v n xs) (h' : w.ownsRow b' 5 1 u m ys) : u.ownBlock = none ∨ u.ownBlock ≠ v.ownBlock := by
  rcases h'.2 with ⟨rfl, _⟩ | ⟨g', cap', cur', rfl, _, h3', _⟩
  · exact .inl rfl
  · refine .inr fun e => ?_
    rcases h.2 with ⟨rfl, _⟩ | ⟨g, cap, cur, rfl, _, h3, _⟩
    · cases e
    · injection e with e
      change g' = g at e
      subst e
      rw [h3] at h3'
      injection h3' with h3'
      injection h3' with _ h3'
      cases h3'
theorem own_form {w : World} {b e n : Nat} {v : Value} {xs : List Value} (h : w.ownsRow b e 1 v n xs) : ∃ A c, v = .slice A n c := by
  rcases h.2 with ⟨rfl, rfl⟩ | ⟨g, cap, cur, rfl, _⟩
  · exact ⟨none, 0, rfl⟩
  · exact ⟨_, cap, rfl⟩
theorem own_slice {w : World} {base : Nat} {v : Value} {q : List (BitVec 8)} (h : w.ownsRow base 5 1 v q.length (bytesV q)) : Slice w v q := by
  by_cases hq : q = []
  · subst hq
    rcases h.2 with ⟨rfl, _⟩ | ⟨g, cap, cur, rfl, _⟩
    · exact ⟨none, 0, rfl, by simp, fun h => absurd rfl h⟩
    · exact ⟨_, cap, rfl, by simp, fun h => absurd rfl h⟩
  · obtain ⟨g, cap, rfl, _, h3, h4, h5⟩ := owns_form h (List.length_pos_iff.2 hq)
    exact ⟨_, cap, rfl, h4, fun _ => ⟨g, 0, rfl, h3, fun j x hx => by rw [Nat.zero_add]; exact h5 j x hx⟩⟩
theorem Owns.parts {w wr : World} {v : Value} {ps : List (List (BitVec 8))} (h : Owns w wr v ps) : Parts wr v ps := by
  obtain ⟨vs, h1, _, h3⟩ := h
  rcases h1.2 with ⟨rfl, h0⟩ | ⟨g, cap, cur, rfl, hg, hh, hc, _⟩
  · obtain rfl : ps = [] := List.length_eq_zero_iff.1 h0
    exact ⟨none, 0, rfl, fun h => absurd rfl h⟩
  · refine ⟨_, cap, rfl, fun _ => ⟨g, 0, rfl, (h1.lt g rfl).2, fun k q hq => ?_⟩⟩
    obtain ⟨u, hu, ho⟩ := h3 k q hq
    have hk := (List.getElem?_eq_some_iff.1 hq).1
    exact ⟨u, by rw [Nat.zero_add, h1.cellAt k (by omega), hu], own_slice ho⟩
theorem Owns.step {w wr w4 w6 : World} {v v1 v2 : Value} {ps : List (List (BitVec 8))} {k : Nat} {vs : List Value} (hk : k < ps.length)
    (h1 : wr.ownsRow w.heap.size 22 1 v k vs) (hb : Below w.heap.size w wr) (h3 : ∀ (j : Nat) (q : List (BitVec 8)), (ps.take k)[j]? = some q → ∃ u, vs[j]? = some u ∧ wr.ownsRow w.heap.size 5 1 u q.length (bytesV q))
    (own1 : w4.ownsRow wr.heap.size 5 1 v1 ps[k].length (bytesV ps[k])) (hb4 : Below wr.heap.size (wr.alloc (.cells #[] 5)) w4)
    (own2 : w6.ownsRow w.heap.size 22 1 v2 (k + 1) (vs ++ [v1])) (hg : (w4.alloc (.cells #[v1] 22)).grownBy w6 v.ownBlock) : Owns w w6 v2 (ps.take (k + 1)) := by
  have hb5 : Below wr.heap.size wr (w4.alloc (.cells #[v1] 22)) := (((Below.refl wr.heap.size wr).alloc (Nat.le_refl _) _).trans hb4).alloc (Nat.le_trans (by simp) hb4.size) _
  have o5 := owns_call h1 hb5
  have hl : vs.length = k := by simpa using h1.1
  refine ⟨vs ++ [v1], by rw [List.length_take, Nat.min_eq_left (by omega)]; exact own2, ?_, fun j q hq => ?_⟩
  · refine (hb.trans (hb5.mono hb.size)).trans (below_of_grown hg (fun g e => (o5.lt g e).1) (Nat.le_trans hb.size hb5.size))
  · have hj := (List.getElem?_eq_some_iff.1 hq).1
    rw [List.length_take] at hj
    by_cases hjk : j < k
    · obtain ⟨u, hu, ho⟩ := h3 j q (by rw [List.getElem?_take, if_pos (by omega)] at hq; rw [List.getElem?_take, if_pos hjk]; exact hq)
      have ho5 := owns_call ho hb5
      exact ⟨u, by rw [List.getElem?_append_left (by omega)]; exact hu, ho5.kept hg (own_ne o5 ho5)⟩
    · obtain rfl : j = k := by omega
      obtain rfl : ps[j] = q := by rw [List.getElem?_take, if_pos (by omega), List.getElem?_eq_getElem hk] at hq; injection hq
      have ho5 := (own_mono own1 hb.size).alloc (.cells #[v1] 22)
      exact ⟨v1, by rw [List.getElem?_append_right (by omega), hl]; simp, ho5.kept hg (own_ne o5 ho5)⟩
def CopyPost (w : World) (ps : List (List (BitVec 8))) (e : Ending) (w' : World) : Prop := ∃ v, e = .returned v ∧ Owns w w' v ps
set_option maxHeartbeats 800000 in
theorem copy_any (ps : List (List (BitVec 8))) (v : Value) (w : World) (hv : Hand w v ps) (hn : ps.length ≤ 60) (hq : ∀ q ∈ ps, q.length ≤ 3000) :
    Calls Tryd.prog 10 #[v] w (CopyPost w ps) := by
  obtain ⟨i1, hi1, hz10, hz11, hz12⟩ := info_parts info_sl
  obtain ⟨A, c, rfl, hp⟩ := hv
  have HP := Lib.hid hp
  have HQ := Lib.hid hq
  clear hp hq
  go_enter Tryd.func10, Tryd.ntmps10
  go_wp2_with fail
  go_loopw [3, 4] (fun v i wr => ∃ k : Nat, k ≤ ps.length ∧ i = .int .i64 k ∧ Owns w wr v (ps.take k)) (fun _ i _ => ps.length - (intOf i).toNat)
  case atStart => exact ⟨0, by omega, rfl, [], by simpa using World.ownsRow_nil _ _ _ _, Below.refl _ _, fun j q h => by simp at h⟩
  case round =>
    obtain ⟨k, hk, rfl, hO⟩ := hrel
    by_cases hlt : k < ps.length
    · obtain ⟨b, o, rfl, hbl, hc⟩ := HP.out (by intro h; subst h; simp at hlt)
      obtain ⟨vs, h1, hb, h3⟩ := hO
      obtain ⟨u, hu, hI⟩ := hc k ps[k] (List.getElem?_eq_getElem hlt)
      obtain ⟨Ai, ci, rfl, hS, hA, _⟩ := hI.below hb (Nat.le_refl _)
      have hq := HQ.out ps[k] (List.getElem_mem hlt)
      have hu2 := (World.cell?_alloc_lt wr (.cells #[] 5) ⟨b, o + k, none⟩ (Nat.lt_of_lt_of_le hbl hb.size)).trans ((hb.cell (p := ⟨b, o + k, none⟩) hbl).trans hu)
      have hS' := hS.below ((Below.refl wr.heap.size wr).alloc (Nat.le_refl _) (.cells #[] 5)) (Nat.le_refl _)
      rw [List.length_take, Nat.min_eq_left hk] at h1
      have H3 := Lib.hid h3
      clear hc hu hI hS h3
      have ho5 : ∀ (w4 : World) (ob : Obj), Below wr.heap.size (wr.alloc (.cells #[] 5)) w4 → (w4.alloc ob).ownsRow w.heap.size 22 1 u3 k vs := fun w4 ob hb4 => (owns_call h1 (((Below.refl wr.heap.size wr).alloc (Nat.le_refl _) _).trans hb4)).alloc ob
      have hs5 : ∀ (w4 : World) (ob : Obj), Below wr.heap.size (wr.alloc (.cells #[] 5)) w4 → w.heap.size ≤ (w4.alloc ob).heap.size := fun w4 ob hb4 => by
        have h2 := hb4.size
        have h3 := hb.size
        simp at h2 ⊢; omega
      go_wp2_with (first | (at_builtin; refine wpList_append_slice rfl (.tmp 12) (.tmp 16) rfl wr.heap.size _ 0 [] rfl (own_empty wr) Ai ps[k].length ci ps[k] rfl hS' hA (by omega) (by simp) ?_; intro v1 w4 own1 hb4; simp only [Nat.zero_add, List.nil_append] at own1; obtain ⟨A1, c1, rfl⟩ := own_form own1; have own5 := ho5 w4 (.cells #[.slice A1 ps[k].length c1] 22) hb4; have sz5 := hs5 w4 (.cells #[.slice A1 ps[k].length c1] 22) hb4; clear hS' hu2) | (at_builtin; refine wpList_append_own _ rfl (.tmp 11) (.tmp 18) 25 rfl w.heap.size 22 i1 (.slice none 0 0) 1 24 Tryd.underlying25 hi1 hz10 hz11 hz12 rfl (by decide) _ k vs rfl own5 ⟨w4.heap.size, 0, none⟩ 1 1 [.slice A1 ps[k].length c1] rfl rfl (cell_one_new _ _ _) (fun x hx => by simp at hx; subst hx; rfl) (by unfold maxLen; omega) (by omega) sz5 ?_; intro v2 w6 own2 hg6 _; clear own5))
      refine ⟨⟨k + 1, by omega, by go_num, Owns.step hlt h1 hb H3.out own1 hb4 own2 hg6⟩, by simp [intOf]; omega⟩
    · obtain rfl : k = ps.length := by omega
      rw [List.take_length] at hO
      go_wp2_with fail
      go_ret
      exact ⟨_, rfl, hO⟩
end Go.Proofs.YtnfceejmkcohnaaDoor
