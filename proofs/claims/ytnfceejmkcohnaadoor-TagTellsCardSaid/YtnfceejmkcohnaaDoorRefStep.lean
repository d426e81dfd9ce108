/- The document's step: the hash of a hash and parts. -/
import Derived.Test.YtnfceejmkcohnaaDoorPartL
import Derived.Test.YtnfceejmkcohnaaDoorTagSpec
namespace Go.Proofs.YtnfceejmkcohnaaDoor
open Go Go.RowKit
set_option maxHeartbeats 1600000 in
theorem refstep_any (l : List (BitVec 8)) (ps : List (List (BitVec 8))) (v : Value) (w : World) (hl : l.length = 32) (hv : Hand w v ps) (hnil : ∀ n c, v = .slice none n c → c = 0) (hn : ps.length ≤ 900) (hlen : ps.flatten.length ≤ 90000) :
    Calls Tryd.prog 15 #[.agg (bs l), v] w fun e w' => e = .returned (.agg (bs (sha (l ++ ps.flatten)))) ∧ Below w.heap.size w w' := by
  obtain ⟨A, c, us, rfl, hul, huc, hun, huo, hus⟩ := hv.list
  have HL := Lib.hid hl
  have HUC := Lib.hid huc
  have HUS := Lib.hid hus
  have HUN : Hid (A = none → ps.length = 0 ∧ c = 0) := Lib.hid fun h => ⟨by rw [hun h]; rfl, hnil _ _ (by rw [h])⟩
  have HUO := Lib.hid huo
  have HF : Hid (sha (l :: ps).flatten = sha (l ++ ps.flatten)) := Lib.hid (by rw [List.flatten_cons])
  have HFL : Hid ((l :: ps).flatten.length ≤ 100000) := Lib.hid (by rw [List.flatten_cons, List.length_append, hl]; omega)
  have HD : Hid ((sha (l ++ ps.flatten)).length = 32) := Lib.hid (length_sha _)
  clear hl huc hus hun hnil hv huo hlen
  have r0 : Row (((w.alloc (.cells (bs l) 24)).alloc (.cells (bs (zer 32)) 24)).alloc (.cells #[] 5)) w.heap.size 24 (bs l) := row3a _ _ _ _ _
  have r1 : Row (((w.alloc (.cells (bs l) 24)).alloc (.cells (bs (zer 32)) 24)).alloc (.cells #[] 5)) (w.heap.size + 1) 24 (bs (zer 32)) := row3b _ _ _ _ _
  have hb1 := below3 w (.cells (bs l) 24) (.cells (bs (zer 32)) 24) (.cells #[] 5)
  have own1 := own_empty ((w.alloc (.cells (bs l) 24)).alloc (.cells (bs (zer 32)) 24))
  have hs1 : ((w.alloc (.cells (bs l) 24)).alloc (.cells (bs (zer 32)) 24)).heap.size = w.heap.size + 1 + 1 := by simp
  rw [hs1] at own1
  have sl1 : Slice (((w.alloc (.cells (bs l) 24)).alloc (.cells (bs (zer 32)) 24)).alloc (.cells #[] 5)) (.slice (some ⟨w.heap.size, 0, none⟩) 32 32) l := by
    have h := row_slice r0 (c := 32) (by rw [HL.out]; exact Nat.le_refl _)
    rw [HL.out] at h; exact h
  have hz1 : w.heap.size + 1 + 1 ≤ (((w.alloc (.cells (bs l) 24)).alloc (.cells (bs (zer 32)) 24)).alloc (.cells #[] 5)).heap.size := by simp
  generalize sha (l ++ ps.flatten) = D at *
  go_enter Tryd.func15, Tryd.ntmps15
  go_wp2_with (first
    | (at_builtin; refine wpList_append_slice rfl (.tmp 5) (.tmp 6) rfl (w.heap.size + 1 + 1) _ 0 [] rfl own1 _ 32 32 l rfl sl1 (fun h => by cases h) (by omega) hz1 ?_; intro v2 w2 own2 hb2; simp only [Nat.zero_add, List.nil_append] at own2; obtain ⟨A2, c2, rfl⟩ := own_form own2; have r12 := r1.below hb2 (by omega); have hb02 := hb1.trans (hb2.mono (by omega)); have hz2 := Nat.le_trans hz1 hb2.size; have own3 := own_lit1 w2 (.slice A2 32 c2); have hb03 := hb02.alloc hb02.size (.cells #[.slice A2 32 c2] 22); have HC3 : Hid (∀ ad, A = some ad → ∀ (j : Nat) (u : Value), us[j]? = some u → (w2.alloc (.cells #[.slice A2 32 c2] 22)).cell? (ad.add j) = some u) := Lib.hid (fun ad e j u hu => (hb03.cell (World.block_lt_of_cell? w _ (HUC.out ad e j u hu))).trans (HUC.out ad e j u hu)); clear own1 sl1 r0 r1 hb1 hb2 hz1 hs1)
    | (at_builtin; refine wpList_append_parts rfl (.tmp 8) (.tmp 9) rfl w2.heap.size _ 1 [.slice A2 32 c2] rfl own3 A ps.length c us rfl hul HC3.out HUN.out HUO.out (by omega) (by simp) ?_; intro v4 w4 own4 hb4; obtain ⟨A4, c4, rfl⟩ := own_form own4; clear own3))
  have hq4 : Below w2.heap.size w2 w4 := ((Below.refl w2.heap.size w2).alloc (Nat.le_refl _) _).trans hb4
  have hb04 := hb02.trans (hq4.mono hb02.size)
  have own24 := owns_call own2 hq4
  rw [← HL.out] at own24
  have it4 : Item w4 (.slice A2 32 c2) l := by
    have h := own_slice own24
    rw [HL.out] at h
    refine ⟨A2, c2, by rw [HL.out], by rw [HL.out]; exact h, fun e => own_nil own2 _ _ (by rw [e]), by rw [HL.out]; unfold maxLen; omega⟩
  obtain ⟨g4, rfl⟩ : ∃ g4, A4 = some ⟨g4, 0, none⟩ := by
    rcases own4.2 with ⟨h, h0⟩ | ⟨g2, cap, cur, h, _⟩
    · exact absurd h0 (by omega)
    · injection h with h _ _; exact ⟨g2, h⟩
  have hH := hand_own own4 (ps := ps) (by omega) it4 (fun k q hq => by
    obtain ⟨u, h1, h2⟩ := HUS.out k q hq
    exact ⟨u, h1, h2.below hb04 (Nat.le_refl _)⟩)
  have r14 := r12.call hq4
  clear own2 own4 own24 it4 hb02 hb03 hb4 hq4 r12 hz2 HC3
  refine (refsum_any (l :: ps) _ w4 hH (by simp; omega) HFL.out).mono ?_
  rintro e w5 ⟨rfl, hb5⟩
  rw [HF.out]
  have r15 := r14.call hb5
  have hb05 := hb04.trans (hb5.mono hb04.size)
  have HS : Hid ((Tryd.prog.info? 24).map (·.size) = some (bs D).size) := Lib.hid (by rw [size_bs, HD.out]; exact size_d)
  clear hH r14 hb04 hb5
  go_wp2_with (first | (refine wpList_store_row rfl 24 _ _ rfl (w.heap.size + 1) (bs D) rfl rfl 24 _ r15 HS.out (by rw [size_bs, size_bs, HD.out]; rfl) (one_bs _) ?_))
  exact bodyPost_ret (v := .agg (bs D)) (results_cell_row Tryd.results15 _ _ (w.heap.size + 1) 24 (bs D) (0, 0) _ rfl (r15.setRow _) Tryd.underlying24 rfl HS.out) rfl ⟨rfl, below_setRow hb05 (by omega) _⟩
end Go.Proofs.YtnfceejmkcohnaaDoor
