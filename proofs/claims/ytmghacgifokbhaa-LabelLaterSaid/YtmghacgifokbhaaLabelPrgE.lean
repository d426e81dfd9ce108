/- The program's label of a sector's body; a label's sector. -/
import Derived.Test.YtmghacgifokbhaaLabelPrgB
set_option maxRecDepth 4000
namespace Go.Proofs.Ytmghacgifokbhaa
open Go Go.RowKit
theorem lab_lv (R : List (BitVec 8)) (h : R.length = 30) : (⟨lv 1 R, lv 5 R, lv 9 R, sv 13 R, sv 15 R⟩ : Lab) = labOf (R.drop 1) := by
  unfold labOf
  rw [lv_num R 1 (by omega), lv_num R 5 (by omega), lv_num R 9 (by omega), sv_num R 13 (by omega), sv_num R 15 (by omega), List.drop_drop, List.drop_drop, List.drop_drop, List.drop_drop]
set_option maxRecDepth 20000 in
set_option maxHeartbeats 800000 in
theorem frombody_any (g : Nat) (R : List (BitVec 8)) (w : World) (hR : Row w g 54 (bs R)) (hl : R.length = 30) :
    Calls Try.prog 18 #[.slice (some ⟨g, 1, none⟩) 29 29] w fun e w' => e = .returned (.agg (labCells (labOf (R.drop 1)))) ∧ Below w.heap.size w w' := by
  have HRL := Lib.hid hl
  have HLV := Lib.hid (lab_lv R hl)
  have HR := Lib.hid hR
  have hz := zeros_lab
  have HS := St.nil w noF
  clear hR hl
  go_enter Try.func18, Try.ntmps18
  go_upto_region 1 with (first | ((with_reducible refine wpList_plain ?_ ?_); exact rfl; intro KK hKK; refine wp_st_alloc HS 25 (labCells lab0) rfl (.agg (labCells lab0)) (by kernel_rfl) (rfl) (fun g2 W1 HSx => hKK _ _ ?_); clear hKK KK HS; have HS : St w noF [⟨g2, 25, labCells lab0⟩] W1 := HSx; clear HSx))
  clear hz
  have hF0 : Wl [fun W => St w noF [⟨g2, 25, labCells lab0⟩] W ∧ Row W g 54 (bs R), fun W => St w noF [⟨g2, 25, labCells (labOf (R.drop 1))⟩] W] 0 W1.drew := ⟨HS.drew, (HR.out.call HS.below).drew⟩
  clear HS
  refine wp_region_phs [is (.slice (some ⟨g, 1, none⟩) 29 29), is (.slice (some ⟨g, 1, none⟩) 29 29), is (.int .u32 (wd (lv 1 R))), is (.slice (some ⟨g, 1, none⟩) 29 29), is (.slice (some ⟨g, 5, none⟩) 25 25), is (.int .u32 (wd (lv 5 R))), is (.slice (some ⟨g, 1, none⟩) 29 29), is (.slice (some ⟨g, 9, none⟩) 21 21), is (.int .u32 (wd (lv 9 R))), is (.slice (some ⟨g, 1, none⟩) 29 29), is (.slice (some ⟨g, 13, none⟩) 17 17), is (.int .u16 (hd (sv 13 R))), is (.slice (some ⟨g, 1, none⟩) 29 29), is (.slice (some ⟨g, 15, none⟩) 15 15), is (.int .u16 (hd (sv 15 R))), is (.agg (labCells (labOf (R.drop 1)))), anyV] [true, true, true, true, true, true, true, true, true, true, true, true, true, true, true, true, true] [(fun W => St w noF [⟨g2, 25, labCells lab0⟩] W ∧ Row W g 54 (bs R)), (fun W => St w noF [⟨g2, 25, labCells (labOf (R.drop 1))⟩] W)] [false, false, false, false, false, false, false, false, false, false, false, false, false, false, false, false, true] [some 0, some 0, some 0, some 0, some 0, some 0, some 0, some 0, some 0, some 0, some 0, some 0, some 0, some 0, some 0, some 0, some 0] [some 3, some 4, some 5, some 6, some 7, some 8, some 9, some 10, some 11, some 12, some 13, some 14, some 15, some 16, some 17, some 18, none] 17 1 (fun _ => true) rfl rfl (by kernel_rfl) (by kernel_rfl) (by kernel_rfl) (by kernel_rfl) ?_ ?_ ?_ ?_ ?_ ?_
  · repeat first | exact wok_nil | refine wok_cons (by first | exact fun _ _ h k => ⟨h.1.same k, h.2.call k⟩ | exact fun _ _ h k => h.same k) ?_
  · repeat first | exact vok_nil | refine vok_rig (by first | exact fun _ _ _ h => h) ?_ | refine vok_soft (by first | exact fun _ _ _ h _ => h) ?_
  · exact hF0
  · repeat first | exact all_end (by decide) | refine all_cons (by first | exact rfl | exact ⟨rfl, fun _ _ h => Or.inl h⟩ | exact ⟨rfl, fun _ _ h => Or.inr ⟨h, rfl⟩⟩) ?_
  · refine allp_mild 0 rfl rfl rfl (fun a x W hout hin hP => ?_) ?_
    · have e0 : a.tmps[0]? = some (.slice (some ⟨g, 1, none⟩) 29 29) := (hout 0 (by kernel_rfl)).trans rfl
      exact does_move rfl e0 ⟨Same.refl _, rfl⟩
    refine allp_mild 0 rfl rfl rfl (fun a x W hout hin hP => ?_) ?_
    · have e3 := hin.is 0 3 (by kernel_rfl) (by decide) (by kernel_rfl) (by kernel_rfl) _ rfl
      clear hin hout
      intro K Q hK
      go_simp
      exact hK _ _ ⟨Same.refl _, rfl⟩
    refine allp_mild 0 rfl rfl rfl (fun a x W hout hin hP => ?_) ?_
    · have e4 := hin.is 1 4 (by kernel_rfl) (by decide) (by kernel_rfl) (by kernel_rfl) _ rfl
      have C := long_any g 1 29 29 54 R W hP.2 (by rw [HRL.out]; decide) (by decide) (Nat.le_refl _)
      clear hP
      clear hin hout
      intro K Q hK
      go_simp
      refine C.mono ?_
      rintro e W' ⟨rfl, hb⟩
      exact hK _ _ ⟨hb, rfl⟩
    refine allp_mild 0 rfl rfl rfl (fun a x W hout hin hP => ?_) ?_
    · have e0 : a.tmps[0]? = some (.slice (some ⟨g, 1, none⟩) 29 29) := (hout 0 (by kernel_rfl)).trans rfl
      exact does_move rfl e0 ⟨Same.refl _, rfl⟩
    refine allp_mild 0 rfl rfl rfl (fun a x W hout hin hP => ?_) ?_
    · have e6 := hin.is 3 6 (by kernel_rfl) (by decide) (by kernel_rfl) (by kernel_rfl) _ rfl
      clear hin hout
      intro K Q hK
      go_simp
      exact hK _ _ ⟨Same.refl _, rfl⟩
    refine allp_mild 0 rfl rfl rfl (fun a x W hout hin hP => ?_) ?_
    · have e7 := hin.is 4 7 (by kernel_rfl) (by decide) (by kernel_rfl) (by kernel_rfl) _ rfl
      have C := long_any g 5 25 25 54 R W hP.2 (by rw [HRL.out]; decide) (by decide) (Nat.le_refl _)
      clear hP
      clear hin hout
      intro K Q hK
      go_simp
      refine C.mono ?_
      rintro e W' ⟨rfl, hb⟩
      exact hK _ _ ⟨hb, rfl⟩
    refine allp_mild 0 rfl rfl rfl (fun a x W hout hin hP => ?_) ?_
    · have e0 : a.tmps[0]? = some (.slice (some ⟨g, 1, none⟩) 29 29) := (hout 0 (by kernel_rfl)).trans rfl
      exact does_move rfl e0 ⟨Same.refl _, rfl⟩
    refine allp_mild 0 rfl rfl rfl (fun a x W hout hin hP => ?_) ?_
    · have e9 := hin.is 6 9 (by kernel_rfl) (by decide) (by kernel_rfl) (by kernel_rfl) _ rfl
      clear hin hout
      intro K Q hK
      go_simp
      exact hK _ _ ⟨Same.refl _, rfl⟩
    refine allp_mild 0 rfl rfl rfl (fun a x W hout hin hP => ?_) ?_
    · have e10 := hin.is 7 10 (by kernel_rfl) (by decide) (by kernel_rfl) (by kernel_rfl) _ rfl
      have C := long_any g 9 21 21 54 R W hP.2 (by rw [HRL.out]; decide) (by decide) (Nat.le_refl _)
      clear hP
      clear hin hout
      intro K Q hK
      go_simp
      refine C.mono ?_
      rintro e W' ⟨rfl, hb⟩
      exact hK _ _ ⟨hb, rfl⟩
    refine allp_mild 0 rfl rfl rfl (fun a x W hout hin hP => ?_) ?_
    · have e0 : a.tmps[0]? = some (.slice (some ⟨g, 1, none⟩) 29 29) := (hout 0 (by kernel_rfl)).trans rfl
      exact does_move rfl e0 ⟨Same.refl _, rfl⟩
    refine allp_mild 0 rfl rfl rfl (fun a x W hout hin hP => ?_) ?_
    · have e12 := hin.is 9 12 (by kernel_rfl) (by decide) (by kernel_rfl) (by kernel_rfl) _ rfl
      clear hin hout
      intro K Q hK
      go_simp
      exact hK _ _ ⟨Same.refl _, rfl⟩
    refine allp_mild 0 rfl rfl rfl (fun a x W hout hin hP => ?_) ?_
    · have e13 := hin.is 10 13 (by kernel_rfl) (by decide) (by kernel_rfl) (by kernel_rfl) _ rfl
      have C := short_any g 13 17 17 54 R W hP.2 (by rw [HRL.out]; decide) (by decide)
      clear hP
      clear hin hout
      intro K Q hK
      go_simp
      refine C.mono ?_
      rintro e W' ⟨rfl, hb⟩
      exact hK _ _ ⟨hb, rfl⟩
    refine allp_mild 0 rfl rfl rfl (fun a x W hout hin hP => ?_) ?_
    · have e0 : a.tmps[0]? = some (.slice (some ⟨g, 1, none⟩) 29 29) := (hout 0 (by kernel_rfl)).trans rfl
      exact does_move rfl e0 ⟨Same.refl _, rfl⟩
    refine allp_mild 0 rfl rfl rfl (fun a x W hout hin hP => ?_) ?_
    · have e15 := hin.is 12 15 (by kernel_rfl) (by decide) (by kernel_rfl) (by kernel_rfl) _ rfl
      clear hin hout
      intro K Q hK
      go_simp
      exact hK _ _ ⟨Same.refl _, rfl⟩
    refine allp_mild 0 rfl rfl rfl (fun a x W hout hin hP => ?_) ?_
    · have e16 := hin.is 13 16 (by kernel_rfl) (by decide) (by kernel_rfl) (by kernel_rfl) _ rfl
      have C := short_any g 15 15 15 54 R W hP.2 (by rw [HRL.out]; decide) (by decide)
      clear hP
      clear hin hout
      intro K Q hK
      go_simp
      refine C.mono ?_
      rintro e W' ⟨rfl, hb⟩
      exact hK _ _ ⟨hb, rfl⟩
    refine allp_mild 0 rfl rfl rfl (fun a x W hout hin hP => ?_) ?_
    · have e5 := hin.is 2 5 (by kernel_rfl) (by decide) (by kernel_rfl) (by kernel_rfl) _ rfl
      have e8 := hin.is 5 8 (by kernel_rfl) (by decide) (by kernel_rfl) (by kernel_rfl) _ rfl
      have e11 := hin.is 8 11 (by kernel_rfl) (by decide) (by kernel_rfl) (by kernel_rfl) _ rfl
      have e14 := hin.is 11 14 (by kernel_rfl) (by decide) (by kernel_rfl) (by kernel_rfl) _ rfl
      have e17 := hin.is 14 17 (by kernel_rfl) (by decide) (by kernel_rfl) (by kernel_rfl) _ rfl
      rw [← HLV.out]
      generalize lv 1 R = x1 at *
      generalize lv 5 R = x2 at *
      generalize lv 9 R = x3 at *
      generalize sv 13 R = x4 at *
      generalize sv 15 R = x5 at *
      clear hP
      clear hin hout
      intro K Q hK
      go_simp
      exact hK _ _ ⟨Same.refl _, rfl⟩
    refine allp_wild 0 rfl rfl rfl (fun a x W hout hin hP => ?_) ?_
    · have e2 : a.tmps[2]? = some (.pointer (some ⟨g2, 0, none⟩)) := (hout 2 (by kernel_rfl)).trans rfl
      have e18 := hin.is 15 18 (by kernel_rfl) (by decide) (by kernel_rfl) (by kernel_rfl) _ rfl
      clear hin hout
      intro K Q hK
      exact wp_st_store hP.1 0 0 25 (.tmp 2) (.tmp 18) rfl rfl (eval_of_get e2) (.agg (labCells (labOf (R.drop 1)))) (eval_of_get e18) (by exact size_lab) (by exact Nat.le_refl 5) (by exact one_lab _) (labCells (labOf (R.drop 1))) (spl_agg _ _ _ rfl rfl) (fun W' HSx => hK _ _ ⟨HSx, trivial⟩)
    exact all_end (by decide)
  · intro x W hP hV
    have HS : St w noF [⟨g2, 25, labCells (labOf (R.drop 1))⟩] W := hP
    clear hP hV
    simp only [putL, Act.put, List.setIfInBounds_toArray, List.set_cons_succ, List.set_cons_zero]
    refine wpAnyH_done (by kernel_rfl) ?_ _
    go_wp2_with fail
    exact bodyPost_ret (v := .agg (labCells (labOf (R.drop 1)))) (results_cell_row Try.results18 _ _ g2 25 (labCells (labOf (R.drop 1))) (0, 0) _ rfl (HS.row 0 rfl) Try.underlying25 rfl (by exact size_lab)) rfl ⟨rfl, HS.below⟩
set_option maxHeartbeats 800000 in
theorem labenc_any (L : Lab) (w : World) : Calls Try.prog 11 #[.agg (labCells L)] w fun e w' => e = .returned (.agg (bs (labB L))) ∧ Below w.heap.size w w' := by
  have hz := zeros_blk
  obtain ⟨B, hB⟩ : ∃ B, labB L = B := ⟨_, rfl⟩
  have HBL : Hid (B.length = 32) := Lib.hid (by rw [← hB]; exact length_labB L)
  have HEN : Hid (∀ (v : Value) (W : World), Item W v (labBody L) → Calls Try.prog 21 #[.int .u8 76, v] W fun e w' => e = .returned (.tuple #[.agg (bs B), .int .i64 0]) ∧ Below W.heap.size W w') := Lib.hid (fun v W hi => by
    have := sealOps.enc 0x4c#8 (labBody L) v W hi
    have hb : encBad 0x4c#8 (labBody L) = false := by unfold encBad; rw [length_labBody]; rfl
    rw [encB_good hb, encE_good hb, show sealedB 0x4c#8 (labBody L) = B from hB] at this
    exact this)
  rw [hB]
  clear hB
  have HS := St.nil w noF
  go_enter Try.func11, Try.ntmps11
  go_wp2_with (first | ((with_reducible refine wpList_plain ?_ ?_); exact rfl; intro KK hKK; refine wp_st_box HS 25 (.tmp 0) rfl _ rfl (labCells L) (rfl) (fun g1 W1 HSx => hKK _ _ ?_); clear hKK KK HS; have HS : St w noF [⟨g1, 25, labCells L⟩] W1 := HSx; clear HSx) | ((with_reducible refine wpList_plain ?_ ?_); exact rfl; intro KK hKK; refine wp_st_alloc HS 27 (bs (blk 0#8)) rfl (.agg (bs (blk 0#8))) (by kernel_rfl) (rfl) (fun g2 W2 HSx => hKK _ _ ?_); clear hKK KK HS; have HS : St w noF [⟨g1, 25, labCells L⟩, ⟨g2, 27, bs (blk 0#8)⟩] W2 := HSx; clear HSx) | ((with_reducible refine wpList_plain ?_ ?_); exact rfl; intro KK hKK; refine wp_st_load HS 0 0 25 (.tmp 1) rfl rfl rfl (labCells L) (slab_whole _) _ Try.underlying25 rfl (by exact size_lab) (hKK _ _ ?_); clear hKK KK))
  refine (bodyof_any L _).mono ?_
  rintro e w1 ⟨v, rfl, hI, hb1⟩
  have HSx := HS.same hb1
  clear HS hb1
  have HS := HSx
  clear HSx
  have C := HEN.out v w1 hI
  clear hI
  go_wp2_with fail
  refine C.mono ?_
  rintro e w2 ⟨rfl, hb2⟩
  have HSx := HS.same hb2
  clear HS hb2 C
  have HS := HSx
  clear HSx
  go_wp2_with (first | ((with_reducible refine wpList_plain ?_ ?_); exact rfl; intro KK hKK; refine wp_st_alloc HS 27 (bs (blk 0#8)) rfl (.agg (bs (blk 0#8))) (by kernel_rfl) (rfl) (fun g3 W11 HSx => hKK _ _ ?_); clear hKK KK HS; have HS : St w noF [⟨g1, 25, labCells L⟩, ⟨g2, 27, bs (blk 0#8)⟩, ⟨g3, 27, bs (blk 0#8)⟩] W11 := HSx; clear HSx) | ((with_reducible refine wpList_plain ?_ ?_); exact rfl; intro KK hKK; refine wp_st_store HS 2 0 27 (.tmp 3) (.tmp 9) rfl rfl rfl (.agg (bs B)) rfl (by exact by rw [show Value.cells (.agg (bs B)) = bs B from rfl, size_bs, HBL.out]; exact size_blk) (by rw [Nat.zero_add]; exact Nat.le_of_eq (Eq.symm (show (bs (blk 0#8)).size = (bs B).size by rw [size_bs, size_bs, HBL.out, length_blk]))) (by first | exact one_bs _ | exact one_lab _) (bs B) (spl_agg _ _ _ rfl (show (bs (blk 0#8)).size = (bs B).size by rw [size_bs, size_bs, HBL.out, length_blk])) (fun W12 HSx => hKK _ _ ?_); clear hKK KK HS; have HS : St w noF [⟨g1, 25, labCells L⟩, ⟨g2, 27, bs (blk 0#8)⟩, ⟨g3, 27, bs B⟩] W12 := HSx; clear HSx) | ((with_reducible refine wpList_plain ?_ ?_); exact rfl; intro KK hKK; refine wp_st_load HS 2 0 27 (.tmp 3) rfl rfl rfl (bs B) (slab_whole _) _ Try.underlying27 rfl (by rw [size_bs, HBL.out]; exact size_blk) (hKK _ _ ?_); clear hKK KK) | ((with_reducible refine wpList_plain ?_ ?_); exact rfl; intro KK hKK; refine wp_st_store HS 1 0 27 (.tmp 2) (.tmp 11) rfl rfl rfl (.agg (bs B)) rfl (by exact by rw [show Value.cells (.agg (bs B)) = bs B from rfl, size_bs, HBL.out]; exact size_blk) (by rw [Nat.zero_add]; exact Nat.le_of_eq (Eq.symm (show (bs (blk 0#8)).size = (bs B).size by rw [size_bs, size_bs, HBL.out, length_blk]))) (by first | exact one_bs _ | exact one_lab _) (bs B) (spl_agg _ _ _ rfl (show (bs (blk 0#8)).size = (bs B).size by rw [size_bs, size_bs, HBL.out, length_blk])) (fun W13 HSx => hKK _ _ ?_); clear hKK KK HS; have HS : St w noF [⟨g1, 25, labCells L⟩, ⟨g2, 27, bs B⟩, ⟨g3, 27, bs B⟩] W13 := HSx; clear HSx))
  exact bodyPost_ret (v := .agg (bs B)) (results_cell_row Try.results11 _ _ g2 27 (bs B) (0, 0) _ rfl (HS.row 1 rfl) Try.underlying27 rfl (by rw [size_bs, HBL.out]; exact size_blk)) rfl ⟨rfl, HS.below⟩
end Go.Proofs.Ytmghacgifokbhaa
