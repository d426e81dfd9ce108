/- The program's label of a body's bytes; a label's sector. -/
import Derived.Test.YtnmnokipbbibiaaLabelPrgB
namespace Go.Proofs.Ytnmnokipbbibiaa
open Go Go.RowKit
set_option maxRecDepth 20000 in
set_option maxHeartbeats 800000 in
theorem frombody_any (q : List (BitVec 8)) (w : World) (hq : q.length = 29) :
    Calls Try.prog 18 #[.agg (bs q)] w fun e w' => e = .returned (.agg (labCells (labOf q))) ∧ Below w.heap.size w w' := by
  have HQL := Lib.hid hq
  rw [← lab_body q hq]
  obtain ⟨M, hM⟩ : ∃ M, (⟨lv 0 q, lv 4 q, lv 8 q, sv 12 q, sv 14 q⟩ : Lab) = M := ⟨_, rfl⟩
  have HM : Hid (labCells M = #[.int .u32 (wd (lv 0 q)), .int .u32 (wd (lv 4 q)), .int .u32 (wd (lv 8 q)), .int .u16 (hd (sv 12 q)), .int .u16 (hd (sv 14 q))]) := Lib.hid (by rw [← hM]; rfl)
  rw [hM]
  clear hM hq
  have HS := St.nil w noF
  go_enter Try.func18, Try.ntmps18
  go_upto_region 1 with (first | ((with_reducible refine wpList_plain ?_ ?_); exact rfl; intro KK hKK; refine wp_st_box HS 52 (.tmp 0) rfl _ rfl (bs q) (rfl) (fun g1 W1 HSx => hKK _ _ ?_); clear hKK KK HS; have HS : St w noF [⟨g1, 52, bs q⟩] W1 := HSx; clear HSx) | ((with_reducible refine wpList_plain ?_ ?_); exact rfl; intro KK hKK; refine wp_st_alloc HS 25 (labCells lab0) rfl (.agg (labCells lab0)) (by kernel_rfl) (rfl) (fun g2 W2 HSx => hKK _ _ ?_); clear hKK KK HS; have HS : St w noF [⟨g1, 52, bs q⟩, ⟨g2, 25, labCells lab0⟩] W2 := HSx; clear HSx))
  have hF0 : Wl [fun W => St w noF [⟨g1, 52, bs q⟩, ⟨g2, 25, labCells lab0⟩] W, fun W => St w noF [⟨g1, 52, bs q⟩, ⟨g2, 25, labCells M⟩] W] 0 W2.drew := HS.drew
  clear HS
  refine wp_region_phs [is (.slice (some ⟨g1, 0, none⟩) 29 29), is (.int .u32 (wd (lv 0 q))), is (.slice (some ⟨g1, 4, none⟩) 25 25), is (.int .u32 (wd (lv 4 q))), is (.slice (some ⟨g1, 8, none⟩) 21 21), is (.int .u32 (wd (lv 8 q))), is (.slice (some ⟨g1, 12, none⟩) 17 17), is (.int .u16 (hd (sv 12 q))), is (.slice (some ⟨g1, 14, none⟩) 15 15), is (.int .u16 (hd (sv 14 q))), is (.agg (labCells M)), anyV] [true, true, true, true, true, true, true, true, true, true, true, true] [(fun W => St w noF [⟨g1, 52, bs q⟩, ⟨g2, 25, labCells lab0⟩] W), (fun W => St w noF [⟨g1, 52, bs q⟩, ⟨g2, 25, labCells M⟩] W)] [false, false, false, false, false, false, false, false, false, false, false, true] [some 0, some 0, some 0, some 0, some 0, some 0, some 0, some 0, some 0, some 0, some 0, some 0] [some 3, some 4, some 5, some 6, some 7, some 8, some 9, some 10, some 11, some 12, some 13, none] 12 1 (fun _ => true) rfl rfl (by kernel_rfl) (by kernel_rfl) (by kernel_rfl) (by kernel_rfl) ?_ ?_ ?_ ?_ ?_ ?_
  · repeat first | exact wok_nil | refine wok_cons (by first | exact fun _ _ h k => h.same k) ?_
  · repeat first | exact vok_nil | refine vok_rig (by first | exact fun _ _ _ h => h) ?_ | refine vok_soft (by first | exact fun _ _ _ h _ => h) ?_
  · exact hF0
  · repeat first | exact all_end (by decide) | refine all_cons (by first | exact rfl | exact ⟨rfl, fun _ _ h => Or.inl h⟩ | exact ⟨rfl, fun _ _ h => Or.inr ⟨h, rfl⟩⟩) ?_
  · refine allp_mild 0 rfl rfl rfl (fun a x W hout hin hP => ?_) ?_
    · have e1 : a.tmps[1]? = some (.pointer (some ⟨g1, 0, none⟩)) := (hout 1 (by kernel_rfl)).trans rfl
      clear hin hout
      intro K Q hK
      go_simp
      exact hK _ _ ⟨Same.refl _, rfl⟩
    refine allp_mild 0 rfl rfl rfl (fun a x W hout hin hP => ?_) ?_
    · have e3 := hin.is 0 3 (by kernel_rfl) (by decide) (by kernel_rfl) (by kernel_rfl) _ rfl
      have C := long_any g1 0 29 29 52 q W (hP.row 0 rfl) (by rw [HQL.out]; decide) (by decide) (Nat.le_refl _)
      clear hP
      clear hin hout
      intro K Q hK
      go_simp
      refine C.mono ?_
      rintro e W' ⟨rfl, hb⟩
      exact hK _ _ ⟨hb, rfl⟩
    refine allp_mild 0 rfl rfl rfl (fun a x W hout hin hP => ?_) ?_
    · have e1 : a.tmps[1]? = some (.pointer (some ⟨g1, 0, none⟩)) := (hout 1 (by kernel_rfl)).trans rfl
      clear hin hout
      intro K Q hK
      go_simp
      exact hK _ _ ⟨Same.refl _, rfl⟩
    refine allp_mild 0 rfl rfl rfl (fun a x W hout hin hP => ?_) ?_
    · have e5 := hin.is 2 5 (by kernel_rfl) (by decide) (by kernel_rfl) (by kernel_rfl) _ rfl
      have C := long_any g1 4 25 25 52 q W (hP.row 0 rfl) (by rw [HQL.out]; decide) (by decide) (Nat.le_refl _)
      clear hP
      clear hin hout
      intro K Q hK
      go_simp
      refine C.mono ?_
      rintro e W' ⟨rfl, hb⟩
      exact hK _ _ ⟨hb, rfl⟩
    refine allp_mild 0 rfl rfl rfl (fun a x W hout hin hP => ?_) ?_
    · have e1 : a.tmps[1]? = some (.pointer (some ⟨g1, 0, none⟩)) := (hout 1 (by kernel_rfl)).trans rfl
      clear hin hout
      intro K Q hK
      go_simp
      exact hK _ _ ⟨Same.refl _, rfl⟩
    refine allp_mild 0 rfl rfl rfl (fun a x W hout hin hP => ?_) ?_
    · have e7 := hin.is 4 7 (by kernel_rfl) (by decide) (by kernel_rfl) (by kernel_rfl) _ rfl
      have C := long_any g1 8 21 21 52 q W (hP.row 0 rfl) (by rw [HQL.out]; decide) (by decide) (Nat.le_refl _)
      clear hP
      clear hin hout
      intro K Q hK
      go_simp
      refine C.mono ?_
      rintro e W' ⟨rfl, hb⟩
      exact hK _ _ ⟨hb, rfl⟩
    refine allp_mild 0 rfl rfl rfl (fun a x W hout hin hP => ?_) ?_
    · have e1 : a.tmps[1]? = some (.pointer (some ⟨g1, 0, none⟩)) := (hout 1 (by kernel_rfl)).trans rfl
      clear hin hout
      intro K Q hK
      go_simp
      exact hK _ _ ⟨Same.refl _, rfl⟩
    refine allp_mild 0 rfl rfl rfl (fun a x W hout hin hP => ?_) ?_
    · have e9 := hin.is 6 9 (by kernel_rfl) (by decide) (by kernel_rfl) (by kernel_rfl) _ rfl
      have C := short_any g1 12 17 17 52 q W (hP.row 0 rfl) (by rw [HQL.out]; decide) (by decide)
      clear hP
      clear hin hout
      intro K Q hK
      go_simp
      refine C.mono ?_
      rintro e W' ⟨rfl, hb⟩
      exact hK _ _ ⟨hb, rfl⟩
    refine allp_mild 0 rfl rfl rfl (fun a x W hout hin hP => ?_) ?_
    · have e1 : a.tmps[1]? = some (.pointer (some ⟨g1, 0, none⟩)) := (hout 1 (by kernel_rfl)).trans rfl
      clear hin hout
      intro K Q hK
      go_simp
      exact hK _ _ ⟨Same.refl _, rfl⟩
    refine allp_mild 0 rfl rfl rfl (fun a x W hout hin hP => ?_) ?_
    · have e11 := hin.is 8 11 (by kernel_rfl) (by decide) (by kernel_rfl) (by kernel_rfl) _ rfl
      have C := short_any g1 14 15 15 52 q W (hP.row 0 rfl) (by rw [HQL.out]; decide) (by decide)
      clear hP
      clear hin hout
      intro K Q hK
      go_simp
      refine C.mono ?_
      rintro e W' ⟨rfl, hb⟩
      exact hK _ _ ⟨hb, rfl⟩
    refine allp_mild 0 rfl rfl rfl (fun a x W hout hin hP => ?_) ?_
    · have e4 := hin.is 1 4 (by kernel_rfl) (by decide) (by kernel_rfl) (by kernel_rfl) _ rfl
      have e6 := hin.is 3 6 (by kernel_rfl) (by decide) (by kernel_rfl) (by kernel_rfl) _ rfl
      have e8 := hin.is 5 8 (by kernel_rfl) (by decide) (by kernel_rfl) (by kernel_rfl) _ rfl
      have e10 := hin.is 7 10 (by kernel_rfl) (by decide) (by kernel_rfl) (by kernel_rfl) _ rfl
      have e12 := hin.is 9 12 (by kernel_rfl) (by decide) (by kernel_rfl) (by kernel_rfl) _ rfl
      clear hin hout
      intro K Q hK
      refine wp_buildStruct 25 _ rfl places_lab [.int .u32 (wd (lv 0 q)), .int .u32 (wd (lv 4 q)), .int .u32 (wd (lv 8 q)), .int .u16 (hd (sv 12 q)), .int .u16 (hd (sv 14 q))] ?_ rfl rfl ?_
      · simp only [List.map_toArray, List.map_cons, List.map_nil, eval_of_get e4, eval_of_get e6, eval_of_get e8, eval_of_get e10, eval_of_get e12]; rfl
      · exact hK _ _ ⟨Same.refl _, (congrArg Value.agg HM.out).symm⟩
    refine allp_wild 0 rfl rfl rfl (fun a x W hout hin hP => ?_) ?_
    · have e2 : a.tmps[2]? = some (.pointer (some ⟨g2, 0, none⟩)) := (hout 2 (by kernel_rfl)).trans rfl
      have e13 := hin.is 10 13 (by kernel_rfl) (by decide) (by kernel_rfl) (by kernel_rfl) _ rfl
      clear hin hout
      intro K Q hK
      exact wp_st_store hP 1 0 25 (.tmp 2) (.tmp 13) rfl rfl (eval_of_get e2) (.agg (labCells M)) (eval_of_get e13) size_lab (Nat.le_refl _) (one_lab _) (labCells M) (spl_agg _ _ _ rfl rfl) (fun W9 h9 => hK undef _ ⟨h9, trivial⟩)
    exact all_end (by decide)
  · intro x V hP hV
    clear hV hF0
    have HS : St w noF [⟨g1, 52, bs q⟩, ⟨g2, 25, labCells M⟩] V := hP
    clear hP
    simp only [putL, Act.put, List.setIfInBounds_toArray, List.set_cons_succ, List.set_cons_zero]
    refine wpAnyH_done (by kernel_rfl) ?_ _
    go_wp2_with fail
    exact bodyPost_ret (v := .agg (labCells M)) (results_cell_row Try.results18 _ _ g2 25 (labCells M) (0, 0) _ rfl (HS.row 1 rfl) Try.underlying25 rfl size_lab) rfl ⟨rfl, HS.below⟩
set_option maxRecDepth 20000 in
set_option maxHeartbeats 800000 in
theorem labenc_any (L : Lab) (w : World) :
    Calls Try.prog 11 #[.agg (labCells L)] w fun e w' => e = .returned (.agg (bs (labB L))) ∧ Below w.heap.size w w' := by
  have C1 := fun W => bodyof_any L W
  have hE := enc_body L
  have hBB := length_labB L
  obtain ⟨B, hB⟩ : ∃ B, labB L = B := ⟨_, rfl⟩
  rw [hB] at hE hBB ⊢
  have HBB := Lib.hid hBB
  clear hB hBB
  obtain ⟨q, hq⟩ : ∃ q, body29 L = q := ⟨_, rfl⟩
  have HQ : Hid (q.length = 29) := Lib.hid (by rw [← hq]; exact length_body29 L)
  rw [hq] at C1 hE
  obtain ⟨ee, hee⟩ : ∃ ee, encE 0x4c#8 q = ee := ⟨_, rfl⟩
  have HC : Hid (∀ (v : Value) (W : World), Item W v q → Calls Try.prog 22 #[.int .u8 76, v] W fun e w' => e = .returned (.tuple #[.agg (bs B), .int .i64 ee]) ∧ Below W.heap.size W w') := Lib.hid (fun v W hv => by
    have := sealOps.enc 0x4c#8 q v W hv
    rw [hE, hee] at this
    exact this)
  have HC1 := Lib.hid C1
  have hz := zeros_blk
  clear C1 hE hq hee
  have HS := St.nil w noF
  go_enter Try.func11, Try.ntmps11
  go_wp2_with (first | ((with_reducible refine wpList_plain ?_ ?_); exact rfl; intro KK hKK; refine wp_st_box HS 25 (.tmp 0) rfl _ rfl (labCells L) (rfl) (fun g1 W1 HSx => hKK _ _ ?_); clear hKK KK HS; have HS : St w noF [⟨g1, 25, labCells L⟩] W1 := HSx; clear HSx) | ((with_reducible refine wpList_plain ?_ ?_); exact rfl; intro KK hKK; refine wp_st_alloc HS 27 (bs (blk 0#8)) rfl (.agg (bs (blk 0#8))) (by kernel_rfl) (rfl) (fun g2 W2 HSx => hKK _ _ ?_); clear hKK KK HS; have HS : St w noF [⟨g1, 25, labCells L⟩, ⟨g2, 27, bs (blk 0#8)⟩] W2 := HSx; clear HSx) | ((with_reducible refine wpList_plain ?_ ?_); exact rfl; intro KK hKK; refine wp_st_load HS 0 0 25 (.tmp 1) rfl rfl rfl (labCells L) (slab_whole _) _ Try.underlying25 rfl (size_lab) (hKK _ _ ?_); clear hKK KK))
  refine (HC1.out _).mono ?_
  rintro e W3 ⟨rfl, hb⟩
  have HSx : St w noF [⟨g1, 25, labCells L⟩, ⟨g2, 27, bs (blk 0#8)⟩] W3 := HS.same hb
  clear HS hb HC1; have HS := HSx; clear HSx
  go_upto_region 2 with (first | ((with_reducible refine wpList_plain ?_ ?_); exact rfl; intro KK hKK; refine wp_st_alloc HS 52 (bs (zer 29)) rfl (.agg (bs (zer 29))) (by kernel_rfl) (rfl) (fun g3 W4 HSx => hKK _ _ ?_); clear hKK KK HS; have HS : St w noF [⟨g1, 25, labCells L⟩, ⟨g2, 27, bs (blk 0#8)⟩, ⟨g3, 52, bs (zer 29)⟩] W4 := HSx; clear HSx) | ((with_reducible refine wpList_plain ?_ ?_); exact rfl; intro KK hKK; refine wp_st_store HS 2 0 52 (.tmp 3) (.tmp 7) rfl rfl rfl (.agg (bs q)) rfl (by exact by rw [show Value.cells (.agg (bs q)) = bs q from rfl, size_bs, HQ.out]; exact size_29) (by rw [Nat.zero_add]; exact Nat.le_of_eq (Eq.symm (show (bs (zer 29)).size = (bs q).size by rw [size_bs, size_bs, HQ.out, length_zer]))) (by first | exact one_bs _ | exact one_lab _) (bs q) (spl_agg _ _ _ rfl (show (bs (zer 29)).size = (bs q).size by rw [size_bs, size_bs, HQ.out, length_zer])) (fun W5 HSx => hKK _ _ ?_); clear hKK KK HS; have HS : St w noF [⟨g1, 25, labCells L⟩, ⟨g2, 27, bs (blk 0#8)⟩, ⟨g3, 52, bs q⟩] W5 := HSx; clear HSx))
  have HI : Item W5 (.slice (some ⟨g3, 0, none⟩) 29 29) q := by
    have := item_row (c := 29) (HS.row 2 rfl) (Nat.le_of_eq HQ.out) (by rw [HQ.out]; decide)
    rwa [HQ.out] at this
  have C := HC.out _ W5 HI
  clear HC HI
  go_wp2_with fail
  refine C.mono ?_
  rintro e W6 ⟨rfl, hb⟩
  have HSx : St w noF [⟨g1, 25, labCells L⟩, ⟨g2, 27, bs (blk 0#8)⟩, ⟨g3, 52, bs q⟩] W6 := HS.same hb
  clear HS hb C; have HS := HSx; clear HSx
  go_wp2_with (first | ((with_reducible refine wpList_plain ?_ ?_); exact rfl; intro KK hKK; refine wp_st_alloc HS 27 (bs (blk 0#8)) rfl (.agg (bs (blk 0#8))) (by kernel_rfl) (rfl) (fun g4 W7 HSx => hKK _ _ ?_); clear hKK KK HS; have HS : St w noF [⟨g1, 25, labCells L⟩, ⟨g2, 27, bs (blk 0#8)⟩, ⟨g3, 52, bs q⟩, ⟨g4, 27, bs (blk 0#8)⟩] W7 := HSx; clear HSx) | ((with_reducible refine wpList_plain ?_ ?_); exact rfl; intro KK hKK; refine wp_st_store HS 3 0 27 (.tmp 4) (.tmp 11) rfl rfl rfl (.agg (bs B)) rfl (by exact by rw [show Value.cells (.agg (bs B)) = bs B from rfl, size_bs, HBB.out]; exact size_blk) (by rw [Nat.zero_add]; exact Nat.le_of_eq (Eq.symm (show (bs (blk 0#8)).size = (bs B).size by rw [size_bs, size_bs, HBB.out, length_blk]))) (by first | exact one_bs _ | exact one_lab _) (bs B) (spl_agg _ _ _ rfl (show (bs (blk 0#8)).size = (bs B).size by rw [size_bs, size_bs, HBB.out, length_blk])) (fun W8 HSx => hKK _ _ ?_); clear hKK KK HS; have HS : St w noF [⟨g1, 25, labCells L⟩, ⟨g2, 27, bs (blk 0#8)⟩, ⟨g3, 52, bs q⟩, ⟨g4, 27, bs B⟩] W8 := HSx; clear HSx) | ((with_reducible refine wpList_plain ?_ ?_); exact rfl; intro KK hKK; refine wp_st_load HS 3 0 27 (.tmp 4) rfl rfl rfl (bs B) (slab_whole _) _ Try.underlying27 rfl (by rw [size_bs, HBB.out]; exact size_blk) (hKK _ _ ?_); clear hKK KK) | ((with_reducible refine wpList_plain ?_ ?_); exact rfl; intro KK hKK; refine wp_st_store HS 1 0 27 (.tmp 2) (.tmp 13) rfl rfl rfl (.agg (bs B)) rfl (by exact by rw [show Value.cells (.agg (bs B)) = bs B from rfl, size_bs, HBB.out]; exact size_blk) (by rw [Nat.zero_add]; exact Nat.le_of_eq (Eq.symm (show (bs (blk 0#8)).size = (bs B).size by rw [size_bs, size_bs, HBB.out, length_blk]))) (by first | exact one_bs _ | exact one_lab _) (bs B) (spl_agg _ _ _ rfl (show (bs (blk 0#8)).size = (bs B).size by rw [size_bs, size_bs, HBB.out, length_blk])) (fun W9 HSx => hKK _ _ ?_); clear hKK KK HS; have HS : St w noF [⟨g1, 25, labCells L⟩, ⟨g2, 27, bs B⟩, ⟨g3, 52, bs q⟩, ⟨g4, 27, bs B⟩] W9 := HSx; clear HSx))
  exact bodyPost_ret (v := .agg (bs B)) (results_cell_row Try.results11 _ _ g2 27 (bs B) (0, 0) _ rfl (HS.row 1 rfl) Try.underlying27 rfl (by rw [size_bs, HBB.out]; exact size_blk)) rfl ⟨rfl, HS.below⟩
end Go.Proofs.Ytnmnokipbbibiaa
