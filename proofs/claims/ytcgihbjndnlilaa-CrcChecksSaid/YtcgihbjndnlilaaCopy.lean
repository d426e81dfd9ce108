/- Copies of the slices of bytes, in memory of the call's own. -/
import Derived.Test.YtcgihbjndnlilaaFair
namespace Go.Proofs.Ytcgihbjndnlilaa
open Go Go.RowKit
def CopyPost (w : World) (ps : List (List (BitVec 8))) (e : Ending) (w' : World) : Prop := ∃ v, e = .returned v ∧ Owns w w' v ps
set_option maxHeartbeats 800000 in
theorem copy_any (ps : List (List (BitVec 8))) (v : Value) (w : World) (hv : Hand w v ps) (hn : ps.length ≤ 60) (hq : ∀ q ∈ ps, q.length ≤ 3000) :
    Calls Try.prog 11 #[v] w (CopyPost w ps) := by
  obtain ⟨i1, hi1, hz10, hz11, hz12⟩ := info_parts info_sl
  obtain ⟨A, c, rfl, hp⟩ := hv
  have HP := Lib.hid hp
  have HQ := Lib.hid hq
  clear hp hq
  go_enter Try.func11, Try.ntmps11
  go_wp2_with fail
  go_loopw [3, 4] (fun v i wr => ∃ k : Nat, k ≤ ps.length ∧ i = .int .i64 k ∧ Owns w wr v (ps.take k)) (fun _ i _ => ps.length - (intOf i).toNat)
  case atStart => exact ⟨0, by omega, rfl, [], by simpa using World.ownsRow_nil _ _ _ _, Below.refl _ _, fun j q h => by simp at h⟩
  case round =>
    obtain ⟨k, hk, rfl, hO⟩ := hrel
    by_cases hlt : k < ps.length
    · obtain ⟨b, o, rfl, hbl, hc⟩ := HP.out (by intro h; subst h; simp at hlt)
      obtain ⟨vs, h1, hb, h3⟩ := hO
      obtain ⟨u, hu, hI⟩ := hc k ps[k] (List.getElem?_eq_getElem hlt)
      obtain ⟨Ai, ci, rfl, hS, hA, _⟩ := hI.below hb (Nat.le_refl _)
      have hq := HQ.out ps[k] (List.getElem_mem hlt)
      have hu2 := (World.cell?_alloc_lt wr (.cells #[] 5) ⟨b, o + k, none⟩ (Nat.lt_of_lt_of_le hbl hb.size)).trans ((hb.cell (p := ⟨b, o + k, none⟩) hbl).trans hu)
      have hS' := hS.below ((Below.refl wr.heap.size wr).alloc (Nat.le_refl _) (.cells #[] 5)) (Nat.le_refl _)
      rw [List.length_take, Nat.min_eq_left hk] at h1
      have H3 := Lib.hid h3
      clear hc hu hI hS h3
      have ho5 : ∀ (w4 : World) (ob : Obj), Below wr.heap.size (wr.alloc (.cells #[] 5)) w4 → (w4.alloc ob).ownsRow w.heap.size 26 1 u3 k vs := fun w4 ob hb4 => (owns_call h1 (((Below.refl wr.heap.size wr).alloc (Nat.le_refl _) _).trans hb4)).alloc ob
      have hs5 : ∀ (w4 : World) (ob : Obj), Below wr.heap.size (wr.alloc (.cells #[] 5)) w4 → w.heap.size ≤ (w4.alloc ob).heap.size := fun w4 ob hb4 => by
        have h2 := hb4.size
        have h3 := hb.size
        simp at h2 ⊢; omega
      go_wp2_with (first | (at_builtin; refine wpList_append_slice rfl (.tmp 12) (.tmp 16) rfl wr.heap.size _ 0 [] rfl (own_empty wr) Ai ps[k].length ci ps[k] rfl hS' hA (by omega) (by simp) ?_; intro v1 w4 own1 hb4; simp only [Nat.zero_add, List.nil_append] at own1; obtain ⟨A1, c1, rfl⟩ := own_form own1; have own5 := ho5 w4 (.cells #[.slice A1 ps[k].length c1] 26) hb4; have sz5 := hs5 w4 (.cells #[.slice A1 ps[k].length c1] 26) hb4; clear hS' hu2) | (at_builtin; refine wpList_append_own _ rfl (.tmp 11) (.tmp 18) 22 rfl w.heap.size 26 i1 (.slice none 0 0) 1 24 Try.underlying22 hi1 hz10 hz11 hz12 rfl (by decide) _ k vs rfl own5 ⟨w4.heap.size, 0, none⟩ 1 1 [.slice A1 ps[k].length c1] rfl rfl (cell_one_new _ _ _) (fun x hx => by simp at hx; subst hx; rfl) (by unfold maxLen; omega) (by omega) sz5 ?_; intro v2 w6 own2 hg6 _; clear own5))
      refine ⟨⟨k + 1, by omega, by go_num, Owns.step hlt h1 hb H3.out own1 hb4 own2 hg6⟩, by simp [intOf]; omega⟩
    · obtain rfl : k = ps.length := by omega
      rw [List.take_length] at hO
      go_wp2_with fail
      go_ret
      exact ⟨_, rfl, hO⟩
end Go.Proofs.Ytcgihbjndnlilaa
