/- The step of a chain: the hash of a hash and parts. -/
import Derived.Test.YtnfceejmkcohnaaDoorPartL
import Derived.Test.YtnfceejmkcohnaaDoorTagSpec
namespace Go.Proofs.YtnfceejmkcohnaaDoor
open Go Go.RowKit
set_option maxHeartbeats 1600000 in
theorem step_any (l : List (BitVec 8)) (ps : List (List (BitVec 8))) (v : Value) (w : World) (hT : Tab w) (hl : l.length = 32) (hv : Parts w v ps) (hnil : ∀ n c, v = .slice none n c → c = 0) (hn : ps.length ≤ 1000000) (hlen : ps.flatten.length ≤ 1000000000) :
    Calls Tryd.prog 14 #[.agg (bs l), v] w fun e w' => e = .returned (.agg (bs (sha (l ++ ps.flatten)))) ∧ Below w.heap.size w w' := by
  obtain ⟨i1, hi1, hz10, hz11, hz12⟩ := info_parts info_sl
  obtain ⟨A, c, us, rfl, hul, huc, hun, huo, hus⟩ := hv.list
  have HT := Lib.hid hT
  have HL := Lib.hid hl
  have HUC := Lib.hid huc
  have HUS := Lib.hid hus
  have HUN : Hid (A = none → ps.length = 0 ∧ c = 0) := Lib.hid fun h => ⟨by rw [hun h]; rfl, hnil _ _ (by rw [h])⟩
  have HUO := Lib.hid huo
  have HF : Hid (sha (l :: ps).flatten = sha (l ++ ps.flatten)) := Lib.hid (by rw [List.flatten_cons])
  have HFL : Hid ((l :: ps).flatten.length < 2147483648) := Lib.hid (by rw [List.flatten_cons, List.length_append, hl]; omega)
  have HD : Hid ((sha (l ++ ps.flatten)).length = 32) := Lib.hid (length_sha _)
  clear hT hl huc hus hun hnil hv huo hlen
  have r0 : Row ((w.alloc (.cells (bs l) 24)).alloc (.cells (bs (zer 32)) 24)) w.heap.size 24 (bs l) := (Row.fresh _ _ _).alloc _
  have r1 : Row ((w.alloc (.cells (bs l) 24)).alloc (.cells (bs (zer 32)) 24)) (w.heap.size + 1) 24 (bs (zer 32)) := row2b _ _ _ _
  have hb1 : Below w.heap.size w ((w.alloc (.cells (bs l) 24)).alloc (.cells (bs (zer 32)) 24)) := ((Below.refl _ _).alloc (Nat.le_refl _) _).alloc (by simp) _
  have hs1 : ((w.alloc (.cells (bs l) 24)).alloc (.cells (bs (zer 32)) 24)).heap.size = w.heap.size + 1 + 1 := by simp
  generalize sha (l ++ ps.flatten) = D at *
  go_enter Tryd.func14, Tryd.ntmps14
  go_wp2_with (first
    | (at_make; refine wpList_make_own ((w.alloc (.cells (bs l) 24)).alloc (.cells (bs (zer 32)) 24)) rfl _ _ 25 rfl (w.heap.size + 1 + 1) 22 i1 (.slice none 0 0) 1 Tryd.underlying25 hi1 hz10 hz11 .i64 .i64 _ (1 + ps.length) rfl rfl (by omega) (by rw [hz12]; omega) (by unfold maxLen; omega) (by rw [hs1]; exact Nat.le_refl _) ?_; intro w2 own2 hg2; rw [hs1] at own2; have hq2 := below_of_grown (base := w.heap.size + 1 + 1) hg2 (fun g e => by cases e) (by rw [hs1]; exact Nat.le_refl _); have r02 := r0.below hq2 (by omega); have r12 := r1.below hq2 (by omega); have hb2 := hb1.trans (hq2.mono (by omega)); have hs2 := Nat.le_trans (Nat.le_of_eq hs1.symm) hg2.size; clear r0 r1 hb1 hg2 hq2)
    | (at_builtin; refine wpList_append_fits _ rfl (.tmp 10) (.tmp 12) 25 rfl (w.heap.size + 1 + 1) 22 i1 1 Tryd.underlying25 hi1 hz11 (w.heap.size + 1 + 1) 0 (1 + ps.length) [] rfl (own2.alloc _) ⟨w2.heap.size, 0, none⟩ 1 1 [.slice (some ⟨w.heap.size, 0, none⟩) 32 32] rfl rfl (cell_one_new _ _ _) (fun x hx => by simp at hx; subst hx; rfl) (by omega) ?_; intro w3 own3 hg3; simp only [Nat.zero_add, List.nil_append] at own3; have r03 := (r02.alloc _).only hg3 (by omega); have r13 := (r12.alloc _).only hg3 (by omega); have hb3 := (hb2.alloc hb2.size _).trans (below_only hg3 (by omega) (Nat.le_trans hb2.size (by simp))); have HC3 : Hid (∀ ad, A = some ad → ∀ (j : Nat) (u : Value), us[j]? = some u → w3.cell? (ad.add j) = some u) := Lib.hid (fun ad e j u hu => (hb3.cell (World.block_lt_of_cell? w _ (HUC.out ad e j u hu))).trans (HUC.out ad e j u hu)); clear own2 r02 r12 hb2 hg3 hs2)
    | (at_builtin; refine wpList_append_fits_any _ rfl (.tmp 14) (.tmp 15) 25 rfl (w.heap.size + 1 + 1) 22 i1 1 Tryd.underlying25 hi1 hz11 (w.heap.size + 1 + 1) 1 (1 + ps.length) [.slice (some ⟨w.heap.size, 0, none⟩) 32 32] rfl own3 A ps.length c us rfl (by omega) HUN.out HC3.out HUO.out (by omega) ?_; intro w4 own4 hg4; have r04 := r03.only hg4 (by omega); have r14 := r13.only hg4 (by omega); have hb4 := hb3.trans (below_only hg4 (by omega) hb3.size); clear own3 r03 r13 hb3 hg4 HC3))
  have hs32 : Slice w4 (.slice (some ⟨w.heap.size, 0, none⟩) 32 32) l := by
    have h := row_slice r04 (c := 32) (by rw [HL.out]; exact Nat.le_refl _)
    rw [HL.out] at h; exact h
  have hP := parts_own own4 (ps := ps) (by omega) hs32 (fun k q hq => by
    obtain ⟨u, h1, h2⟩ := HUS.out k q hq
    exact ⟨u, h1, h2.below hb4 (Nat.le_refl _)⟩)
  refine (sum_any (l :: ps) _ w4 (HT.out.below hb4 HT.out.pos) hP (by simp; omega) HFL.out).mono ?_
  rintro e w5 ⟨rfl, hb5⟩
  rw [HF.out]
  have r15 := r14.call hb5
  have hb05 := hb4.trans (hb5.mono hb4.size)
  have HS : Hid ((Tryd.prog.info? 24).map (·.size) = some (bs D).size) := Lib.hid (by rw [size_bs, HD.out]; exact size_d)
  clear hs32 hP r04 r14 hb4 hb5 own4
  go_wp2_with (first | (refine wpList_store_row rfl 24 _ _ rfl (w.heap.size + 1) (bs D) rfl rfl 24 _ r15 HS.out (by rw [size_bs, size_bs, HD.out]; rfl) (one_bs _) ?_))
  exact bodyPost_ret (v := .agg (bs D)) (results_cell_row Tryd.results14 _ _ (w.heap.size + 1) 24 (bs D) (0, 0) _ rfl (r15.setRow _) Tryd.underlying24 rfl HS.out) rfl ⟨rfl, below_setRow hb05 (by omega) _⟩
end Go.Proofs.YtnfceejmkcohnaaDoor
