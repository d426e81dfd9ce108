/- The program's label of a sector, or that it is none. -/
import Derived.Test.YtmghacgifokbhaaLabelPrgE
import Derived.Test.YtmghacgifokbhaaBlkE
set_option maxRecDepth 4000
namespace Go.Proofs.Ytmghacgifokbhaa
open Go Go.RowKit
theorem lab_zero {b : List (BitVec 8)} (h : b = blk 0#8) : Ending.returned (Value.tuple #[.agg (labCells lab0), .int .i64 0]) = .returned (.tuple #[.agg (labCells (decLab b)), .int .i64 (decLabE b)]) := by
  have h : b = List.replicate 32 0#8 := h
  unfold decLab decLabE; rw [if_pos h, if_pos h]
theorem lab_bad {b : List (BitVec 8)} (h : ¬ b = blk 0#8) (k : labIs b = false) : Ending.returned (Value.tuple #[.agg (labCells lab0), .int .i64 11]) = .returned (.tuple #[.agg (labCells (decLab b)), .int .i64 (decLabE b)]) := by
  have h : ¬ b = List.replicate 32 0#8 := h
  unfold decLab decLabE; rw [if_neg h, if_neg h, k]; rfl
theorem lab_good {b : List (BitVec 8)} (h : ¬ b = blk 0#8) (k : labIs b = true) : Ending.returned (Value.tuple #[.agg (labCells (labOf (bodyOf b))), .int .i64 0]) = .returned (.tuple #[.agg (labCells (decLab b)), .int .i64 (decLabE b)]) := by
  have h : ¬ b = List.replicate 32 0#8 := h
  unfold decLab decLabE; rw [if_neg h, if_neg h, k]; rfl
theorem drop1_30 (b : List (BitVec 8)) : (b.take 30).drop 1 = bodyOf b := by
  unfold bodyOf
  rw [List.drop_take]
attribute [local go_sem high] eql_blk
set_option maxRecDepth 20000 in
set_option maxHeartbeats 1200000 in
theorem labdec_any (b : List (BitVec 8)) (w : World) (hb : b.length = 32) :
    Calls Try.prog 9 #[.agg (bs b)] w fun e w' => e = .returned (.tuple #[.agg (labCells (decLab b)), .int .i64 (decLabE b)]) ∧ Below w.heap.size w w' := by
  have HBL := Lib.hid hb
  have hz := zeros_blk
  have hzl := zeros_lab
  have q0 := eql_blk b (blk 0#8) hb (length_blk _)
  have HS := St.nil w noF
  by_cases h0 : b = blk 0#8
  · have HRES := Lib.hid (lab_zero h0)
    rw [decide_eq_true h0] at q0
    clear h0 hb
    go_enter Try.func9, Try.ntmps9
    go_upto_region 1 with (first | ((with_reducible refine wpList_plain ?_ ?_); exact rfl; intro KK hKK; refine wp_st_box HS 27 (.tmp 0) rfl _ rfl (bs b) (rfl) (fun g1 W1 HSx => hKK _ _ ?_); clear hKK KK HS; have HS : St w noF [⟨g1, 27, bs b⟩] W1 := HSx; clear HSx) | ((with_reducible refine wpList_plain ?_ ?_); exact rfl; intro KK hKK; refine wp_st_alloc HS 25 (labCells lab0) rfl (.agg (labCells lab0)) (by kernel_rfl) (rfl) (fun g2 W2 HSx => hKK _ _ ?_); clear hKK KK HS; have HS : St w noF [⟨g1, 27, bs b⟩, ⟨g2, 25, labCells lab0⟩] W2 := HSx; clear HSx))
    have qz := q0 W2
    clear q0
    go_wp2_with (first | (first | ((with_reducible refine wpList_plain ?_ ?_); exact rfl; intro KK hKK; refine wp_st_load HS 0 0 27 (.tmp 1) rfl rfl rfl (bs b) (slab_whole _) _ Try.underlying27 rfl (by rw [size_bs, HBL.out]; exact size_blk) (hKK _ _ ?_); clear hKK KK) | ((with_reducible refine wpList_plain ?_ ?_); exact rfl; intro KK hKK; refine wp_st_store HS 1 0 25 (.tmp 2) (.tmp 10) rfl rfl rfl (.agg #[.int .u32 0, .int .u32 0, .int .u32 0, .int .u16 0, .int .u16 0]) rfl (by exact size_lab) (by exact Nat.le_refl 5) (by exact one_lab lab0) (labCells lab0) (spl_agg _ _ _ zeros_lab rfl) (fun W3 HSx => hKK _ _ ?_); clear hKK KK HS; have HS : St w noF [⟨g1, 27, bs b⟩, ⟨g2, 25, labCells lab0⟩] W3 := HSx; clear HSx)))
    exact bodyPost_ret (v := .tuple #[.agg (labCells lab0), .int .i64 0]) (results_cell_tmp Try.results9 _ _ g2 25 (labCells lab0) (0, 0) _ rfl (HS.row 1 rfl) Try.underlying25 rfl (by exact size_lab)) rfl ⟨HRES.out, HS.below⟩
  rw [decide_eq_false h0] at q0
  cases hk : decOk b with
  | false =>
    have HRES := Lib.hid (lab_bad h0 (by unfold labIs; rw [hk]; rfl))
    obtain ⟨R, hRR⟩ : ∃ R, zer 30 = R := ⟨_, rfl⟩
    have HRL : Hid (R.length = 30) := Lib.hid (by rw [← hRR]; exact length_zer 30)
    have HC : Hid (∀ W, Calls Try.prog 17 #[.agg (bs b)] W fun e w' => e = .returned (.tuple #[.agg (bs R), .int .i64 11]) ∧ Below W.heap.size W w') := Lib.hid (fun W => by
      have := sealOps.dec b W hb
      rw [show decR b = R by rw [← hRR]; unfold decR; rw [hk]; rfl, show decE b = 11 by unfold decE; rw [hk]; rfl] at this
      exact this)
    obtain ⟨M, hM⟩ : ∃ M, labOf (R.drop 1) = M := ⟨_, rfl⟩
    have HMR := Lib.hid hM
    clear hk h0 hb hRR hM
    go_enter Try.func9, Try.ntmps9
    go_upto_region 1 with (first | ((with_reducible refine wpList_plain ?_ ?_); exact rfl; intro KK hKK; refine wp_st_box HS 27 (.tmp 0) rfl _ rfl (bs b) (rfl) (fun g1 W1 HSx => hKK _ _ ?_); clear hKK KK HS; have HS : St w noF [⟨g1, 27, bs b⟩] W1 := HSx; clear HSx) | ((with_reducible refine wpList_plain ?_ ?_); exact rfl; intro KK hKK; refine wp_st_alloc HS 25 (labCells lab0) rfl (.agg (labCells lab0)) (by kernel_rfl) (rfl) (fun g2 W2 HSx => hKK _ _ ?_); clear hKK KK HS; have HS : St w noF [⟨g1, 27, bs b⟩, ⟨g2, 25, labCells lab0⟩] W2 := HSx; clear HSx))
    have qz := q0 W2
    clear q0
    go_upto_region 3 with (first | ((with_reducible refine wpList_plain ?_ ?_); exact rfl; intro KK hKK; refine wp_st_load HS 0 0 27 (.tmp 1) rfl rfl rfl (bs b) (slab_whole _) _ Try.underlying27 rfl (by rw [size_bs, HBL.out]; exact size_blk) (hKK _ _ ?_); clear hKK KK))
    clear qz
    go_wp2_with (first | ((with_reducible refine wpList_plain ?_ ?_); exact rfl; intro KK hKK; refine wp_st_load HS 0 0 27 (.tmp 1) rfl rfl rfl (bs b) (slab_whole _) _ Try.underlying27 rfl (by rw [size_bs, HBL.out]; exact size_blk) (hKK _ _ ?_); clear hKK KK))
    refine (HC.out _).mono ?_
    rintro e w1 ⟨rfl, hb1⟩
    have HSx := HS.same hb1
    clear HS hb1
    have HS := HSx
    clear HSx
    go_upto_region 4 with (first | ((with_reducible refine wpList_plain ?_ ?_); exact rfl; intro KK hKK; refine wp_st_alloc HS 54 (bs (zer 30)) rfl (.agg (bs (zer 30))) (by kernel_rfl) (rfl) (fun g4 W11 HSx => hKK _ _ ?_); clear hKK KK HS; have HS : St w noF [⟨g1, 27, bs b⟩, ⟨g2, 25, labCells lab0⟩, ⟨g4, 54, bs (zer 30)⟩] W11 := HSx; clear HSx) | ((with_reducible refine wpList_plain ?_ ?_); exact rfl; intro KK hKK; refine wp_st_store HS 2 0 54 (.tmp 4) (.tmp 14) rfl rfl rfl (.agg (bs R)) rfl (by exact by rw [show Value.cells (.agg (bs R)) = bs R from rfl, size_bs, HRL.out]; exact size_sec) (by rw [Nat.zero_add]; exact Nat.le_of_eq (Eq.symm (show (bs (zer 30)).size = (bs R).size by rw [size_bs, size_bs, HRL.out, length_zer]))) (by first | exact one_bs _ | exact one_lab _) (bs R) (spl_agg _ _ _ rfl (show (bs (zer 30)).size = (bs R).size by rw [size_bs, size_bs, HRL.out, length_zer])) (fun W12 HSx => hKK _ _ ?_); clear hKK KK HS; have HS : St w noF [⟨g1, 27, bs b⟩, ⟨g2, 25, labCells lab0⟩, ⟨g4, 54, bs R⟩] W12 := HSx; clear HSx))
    have CF := frombody_any g4 R _ (HS.row 2 rfl) HRL.out
    rw [HMR.out] at CF
    go_wp2_with fail
    refine CF.mono ?_
    rintro e w3 ⟨rfl, hb3⟩
    have HSx := HS.same hb3
    clear HS hb3 CF
    have HS := HSx
    clear HSx
    go_upto_region 5 with (first | ((with_reducible refine wpList_plain ?_ ?_); exact rfl; intro KK hKK; refine wp_st_alloc HS 25 (labCells lab0) rfl (.agg (labCells lab0)) (by kernel_rfl) (rfl) (fun g6 W21 HSx => hKK _ _ ?_); clear hKK KK HS; have HS : St w noF [⟨g1, 27, bs b⟩, ⟨g2, 25, labCells lab0⟩, ⟨g4, 54, bs R⟩, ⟨g6, 25, labCells lab0⟩] W21 := HSx; clear HSx) | ((with_reducible refine wpList_plain ?_ ?_); exact rfl; intro KK hKK; refine wp_st_store HS 3 0 25 (.tmp 6) (.tmp 18) rfl rfl rfl (.agg (labCells M)) rfl (by exact size_lab) (by rw [Nat.zero_add]; exact Nat.le_of_eq (Eq.symm (rfl))) (by first | exact one_bs _ | exact one_lab _) (labCells M) (spl_agg _ _ _ rfl (rfl)) (fun W22 HSx => hKK _ _ ?_); clear hKK KK HS; have HS : St w noF [⟨g1, 27, bs b⟩, ⟨g2, 25, labCells lab0⟩, ⟨g4, 54, bs R⟩, ⟨g6, 25, labCells M⟩] W22 := HSx; clear HSx))
    have hF0 : Wl [fun W => St w noF [⟨g1, 27, bs b⟩, ⟨g2, 25, labCells lab0⟩, ⟨g4, 54, bs R⟩, ⟨g6, 25, labCells M⟩] W] 0 W22.drew := HS.drew
    clear HS
    refine wp_region_phs [is (.int .i64 11), is (.bool true), is (.bool true), is undef, is undef, is undef, is undef, is (.bool true)] [true, true, true, true, true, true, true, true] [(fun W => St w noF [⟨g1, 27, bs b⟩, ⟨g2, 25, labCells lab0⟩, ⟨g4, 54, bs R⟩, ⟨g6, 25, labCells M⟩] W)] [false, false, false, false, false, false, false, false] [some 0, some 0, some 0, some 0, some 0, some 0, some 0, some 0] [some 19, some 20, some 21, some 22, some 23, some 24, some 25, some 26] 8 0 (fun i => !([3, 4, 5, 6] : List Nat).contains i) rfl rfl (by kernel_rfl) (by kernel_rfl) (by kernel_rfl) (by kernel_rfl) ?_ ?_ ?_ ?_ ?_ ?_
    · repeat first | exact wok_nil | refine wok_cons (by first | exact fun _ _ h k => h.same k) ?_
    · repeat first | exact vok_nil | refine vok_rig (by first | exact fun _ _ _ h => h) ?_ | refine vok_soft (by first | exact fun _ _ _ h _ => h) ?_
    · exact hF0
    · repeat first | exact all_end (by decide) | refine all_cons (by first | exact rfl | exact ⟨rfl, fun _ _ h => Or.inl h⟩ | exact ⟨rfl, fun _ _ h => Or.inr ⟨h, rfl⟩⟩) ?_
    · refine allp_mild 0 rfl rfl rfl (fun a x W hout hin hP => ?_) ?_
      · have e5 : a.tmps[5]? = some (.int .i64 11) := (hout 5 (by kernel_rfl)).trans rfl
        exact does_move rfl e5 ⟨Same.refl _, rfl⟩
      refine allp_mild 0 rfl rfl rfl (fun a x W hout hin hP => ?_) ?_
      · have e19 := hin.is 0 19 (by kernel_rfl) (by decide) (by kernel_rfl) (by kernel_rfl) _ rfl
        clear hin hout
        intro K Q hK
        go_simp
        exact hK _ _ ⟨Same.refl _, rfl⟩
      refine allp_mild 0 rfl rfl rfl (fun a x W hout hin hP => ?_) ?_
      · have e20 := hin.is 1 20 (by kernel_rfl) (by decide) (by kernel_rfl) (by kernel_rfl) _ rfl
        exact does_move rfl e20 ⟨Same.refl _, rfl⟩
      refine allp_skip rfl rfl (fun _ => rfl) ?_
      refine allp_skip rfl rfl (fun _ => rfl) ?_
      refine allp_skip rfl rfl (fun _ => rfl) ?_
      refine allp_skip rfl rfl (fun _ => rfl) ?_
      refine allp_mild 0 rfl rfl rfl (fun a x W hout hin hP => ?_) ?_
      · have e21 := hin.is 2 21 (by kernel_rfl) (by decide) (by kernel_rfl) (by kernel_rfl) _ rfl
        have e25 := hin.is 6 25 (by kernel_rfl) (by decide) (by kernel_rfl) (by kernel_rfl) _ rfl
        exact does_pick rfl e21 ⟨Same.refl _, rfl⟩
      exact all_end (by decide)
    · intro x V hP hV
      have HS : St w noF [⟨g1, 27, bs b⟩, ⟨g2, 25, labCells lab0⟩, ⟨g4, 54, bs R⟩, ⟨g6, 25, labCells M⟩] V := hP
      have h7 : x 7 = .bool true := hV 7 (by decide) (.inl (by kernel_rfl))
      clear hP hV
      simp only [putL, Act.put, List.setIfInBounds_toArray, List.set_cons_succ, List.set_cons_zero, h7]
      refine wpAnyH_done (by kernel_rfl) ?_ _
      clear h7
      go_wp2_with (first | ((with_reducible refine wpList_plain ?_ ?_); exact rfl; intro KK hKK; refine wp_st_store HS 1 0 25 (.tmp 2) (.tmp 27) rfl rfl rfl (.agg #[.int .u32 0, .int .u32 0, .int .u32 0, .int .u16 0, .int .u16 0]) rfl (by exact size_lab) (by exact Nat.le_refl 5) (by exact one_lab lab0) (labCells lab0) (spl_agg _ _ _ zeros_lab rfl) (fun W41 HSx => hKK _ _ ?_); clear hKK KK HS; have HS : St w noF [⟨g1, 27, bs b⟩, ⟨g2, 25, labCells lab0⟩, ⟨g4, 54, bs R⟩, ⟨g6, 25, labCells M⟩] W41 := HSx; clear HSx))
      exact bodyPost_ret (v := .tuple #[.agg (labCells lab0), .int .i64 11]) (results_cell_tmp Try.results9 _ _ g2 25 (labCells lab0) (0, 0) _ rfl (HS.row 1 rfl) Try.underlying25 rfl (by exact size_lab)) rfl ⟨HRES.out, HS.below⟩
  | true =>
    obtain ⟨R, hRR⟩ : ∃ R, b.take 30 = R := ⟨_, rfl⟩
    have HRL : Hid (R.length = 30) := Lib.hid (by rw [← hRR]; simp [hb])
    have HC : Hid (∀ W, Calls Try.prog 17 #[.agg (bs b)] W fun e w' => e = .returned (.tuple #[.agg (bs R), .int .i64 0]) ∧ Below W.heap.size W w') := Lib.hid (fun W => by
      have := sealOps.dec b W hb
      rw [show decR b = R by rw [← hRR]; unfold decR; rw [if_pos hk], show decE b = 0 by unfold decE; rw [if_pos hk]] at this
      exact this)
    obtain ⟨M, hM⟩ : ∃ M, labOf (R.drop 1) = M := ⟨_, rfl⟩
    have HMR := Lib.hid hM
    have hMb : labOf (bodyOf b) = M := by rw [← hM, ← hRR, drop1_30]
    obtain ⟨B, hB⟩ : ∃ B, labB M = B := ⟨_, rfl⟩
    have HCE : Hid (∀ W, Calls Try.prog 11 #[.agg (labCells M)] W fun e w' => e = .returned (.agg (bs B)) ∧ Below W.heap.size W w') := Lib.hid (fun W => by rw [← hB]; exact labenc_any M W)
    have HQE := Lib.hid (fun W => eql_blk B b (by rw [← hB]; exact length_labB M) hb W)
    have hI : labIs b = decide (B = b) := by unfold labIs; rw [hk, Bool.true_and, hMb, hB]
    by_cases he : B = b
    case neg =>
      have HRES := Lib.hid (lab_bad h0 (by rw [hI, decide_eq_false he]))
      rw [decide_eq_false he] at HQE
      clear hk h0 hb hRR hM hMb hB hI he
      go_enter Try.func9, Try.ntmps9
      go_upto_region 1 with (first | ((with_reducible refine wpList_plain ?_ ?_); exact rfl; intro KK hKK; refine wp_st_box HS 27 (.tmp 0) rfl _ rfl (bs b) (rfl) (fun g1 W1 HSx => hKK _ _ ?_); clear hKK KK HS; have HS : St w noF [⟨g1, 27, bs b⟩] W1 := HSx; clear HSx) | ((with_reducible refine wpList_plain ?_ ?_); exact rfl; intro KK hKK; refine wp_st_alloc HS 25 (labCells lab0) rfl (.agg (labCells lab0)) (by kernel_rfl) (rfl) (fun g2 W2 HSx => hKK _ _ ?_); clear hKK KK HS; have HS : St w noF [⟨g1, 27, bs b⟩, ⟨g2, 25, labCells lab0⟩] W2 := HSx; clear HSx))
      have qz := q0 W2
      clear q0
      go_upto_region 3 with (first | ((with_reducible refine wpList_plain ?_ ?_); exact rfl; intro KK hKK; refine wp_st_load HS 0 0 27 (.tmp 1) rfl rfl rfl (bs b) (slab_whole _) _ Try.underlying27 rfl (by rw [size_bs, HBL.out]; exact size_blk) (hKK _ _ ?_); clear hKK KK))
      clear qz
      go_wp2_with (first | ((with_reducible refine wpList_plain ?_ ?_); exact rfl; intro KK hKK; refine wp_st_load HS 0 0 27 (.tmp 1) rfl rfl rfl (bs b) (slab_whole _) _ Try.underlying27 rfl (by rw [size_bs, HBL.out]; exact size_blk) (hKK _ _ ?_); clear hKK KK))
      refine (HC.out _).mono ?_
      rintro e w1 ⟨rfl, hb1⟩
      have HSx := HS.same hb1
      clear HS hb1
      have HS := HSx
      clear HSx
      go_upto_region 4 with (first | ((with_reducible refine wpList_plain ?_ ?_); exact rfl; intro KK hKK; refine wp_st_alloc HS 54 (bs (zer 30)) rfl (.agg (bs (zer 30))) (by kernel_rfl) (rfl) (fun g4 W11 HSx => hKK _ _ ?_); clear hKK KK HS; have HS : St w noF [⟨g1, 27, bs b⟩, ⟨g2, 25, labCells lab0⟩, ⟨g4, 54, bs (zer 30)⟩] W11 := HSx; clear HSx) | ((with_reducible refine wpList_plain ?_ ?_); exact rfl; intro KK hKK; refine wp_st_store HS 2 0 54 (.tmp 4) (.tmp 14) rfl rfl rfl (.agg (bs R)) rfl (by exact by rw [show Value.cells (.agg (bs R)) = bs R from rfl, size_bs, HRL.out]; exact size_sec) (by rw [Nat.zero_add]; exact Nat.le_of_eq (Eq.symm (show (bs (zer 30)).size = (bs R).size by rw [size_bs, size_bs, HRL.out, length_zer]))) (by first | exact one_bs _ | exact one_lab _) (bs R) (spl_agg _ _ _ rfl (show (bs (zer 30)).size = (bs R).size by rw [size_bs, size_bs, HRL.out, length_zer])) (fun W12 HSx => hKK _ _ ?_); clear hKK KK HS; have HS : St w noF [⟨g1, 27, bs b⟩, ⟨g2, 25, labCells lab0⟩, ⟨g4, 54, bs R⟩] W12 := HSx; clear HSx))
      have CF := frombody_any g4 R _ (HS.row 2 rfl) HRL.out
      rw [HMR.out] at CF
      go_wp2_with fail
      refine CF.mono ?_
      rintro e w3 ⟨rfl, hb3⟩
      have HSx := HS.same hb3
      clear HS hb3 CF
      have HS := HSx
      clear HSx
      go_upto_region 5 with (first | ((with_reducible refine wpList_plain ?_ ?_); exact rfl; intro KK hKK; refine wp_st_alloc HS 25 (labCells lab0) rfl (.agg (labCells lab0)) (by kernel_rfl) (rfl) (fun g6 W21 HSx => hKK _ _ ?_); clear hKK KK HS; have HS : St w noF [⟨g1, 27, bs b⟩, ⟨g2, 25, labCells lab0⟩, ⟨g4, 54, bs R⟩, ⟨g6, 25, labCells lab0⟩] W21 := HSx; clear HSx) | ((with_reducible refine wpList_plain ?_ ?_); exact rfl; intro KK hKK; refine wp_st_store HS 3 0 25 (.tmp 6) (.tmp 18) rfl rfl rfl (.agg (labCells M)) rfl (by exact size_lab) (by rw [Nat.zero_add]; exact Nat.le_of_eq (Eq.symm (rfl))) (by first | exact one_bs _ | exact one_lab _) (labCells M) (spl_agg _ _ _ rfl (rfl)) (fun W22 HSx => hKK _ _ ?_); clear hKK KK HS; have HS : St w noF [⟨g1, 27, bs b⟩, ⟨g2, 25, labCells lab0⟩, ⟨g4, 54, bs R⟩, ⟨g6, 25, labCells M⟩] W22 := HSx; clear HSx))
      have hF0 : Wl [fun W => St w noF [⟨g1, 27, bs b⟩, ⟨g2, 25, labCells lab0⟩, ⟨g4, 54, bs R⟩, ⟨g6, 25, labCells M⟩] W] 0 W22.drew := HS.drew
      clear HS
      refine wp_region_phs [is (.int .i64 0), is (.bool false), is (.bool false), is (.agg (labCells M)), is (.agg (bs B)), is (.agg (bs b)), is (.bool true), is (.bool true)] [true, true, true, true, true, true, true, true] [(fun W => St w noF [⟨g1, 27, bs b⟩, ⟨g2, 25, labCells lab0⟩, ⟨g4, 54, bs R⟩, ⟨g6, 25, labCells M⟩] W)] [false, false, false, false, false, false, false, false] [some 0, some 0, some 0, some 0, some 0, some 0, some 0, some 0] [some 19, some 20, some 21, some 22, some 23, some 24, some 25, some 26] 8 0 (fun _ => true) rfl rfl (by kernel_rfl) (by kernel_rfl) (by kernel_rfl) (by kernel_rfl) ?_ ?_ ?_ ?_ ?_ ?_
      · repeat first | exact wok_nil | refine wok_cons (by first | exact fun _ _ h k => h.same k) ?_
      · repeat first | exact vok_nil | refine vok_rig (by first | exact fun _ _ _ h => h) ?_ | refine vok_soft (by first | exact fun _ _ _ h _ => h) ?_
      · exact hF0
      · repeat first | exact all_end (by decide) | refine all_cons (by first | exact rfl | exact ⟨rfl, fun _ _ h => Or.inl h⟩ | exact ⟨rfl, fun _ _ h => Or.inr ⟨h, rfl⟩⟩) ?_
      · refine allp_mild 0 rfl rfl rfl (fun a x W hout hin hP => ?_) ?_
        · have e5 : a.tmps[5]? = some (.int .i64 0) := (hout 5 (by kernel_rfl)).trans rfl
          exact does_move rfl e5 ⟨Same.refl _, rfl⟩
        refine allp_mild 0 rfl rfl rfl (fun a x W hout hin hP => ?_) ?_
        · have e19 := hin.is 0 19 (by kernel_rfl) (by decide) (by kernel_rfl) (by kernel_rfl) _ rfl
          clear hin hout
          intro K Q hK
          go_simp
          exact hK _ _ ⟨Same.refl _, rfl⟩
        refine allp_mild 0 rfl rfl rfl (fun a x W hout hin hP => ?_) ?_
        · have e20 := hin.is 1 20 (by kernel_rfl) (by decide) (by kernel_rfl) (by kernel_rfl) _ rfl
          exact does_move rfl e20 ⟨Same.refl _, rfl⟩
        refine allp_mild 0 rfl rfl rfl (fun a x W hout hin hP => ?_) ?_
        · have e6 : a.tmps[6]? = some (.pointer (some ⟨g6, 0, none⟩)) := (hout 6 (by kernel_rfl)).trans rfl
          clear hin hout
          intro K Q hK
          exact wp_st_load hP 3 0 25 (.tmp 6) rfl rfl (eval_of_get e6) (labCells M) (slab_whole _) _ Try.underlying25 rfl (by exact size_lab) (hK _ _ ⟨Same.refl _, rfl⟩)
        refine allp_mild 0 rfl rfl rfl (fun a x W hout hin hP => ?_) ?_
        · have e22 := hin.is 3 22 (by kernel_rfl) (by decide) (by kernel_rfl) (by kernel_rfl) _ rfl
          have C := HCE.out W
          clear hP
          clear hin hout
          intro K Q hK
          go_simp
          refine C.mono ?_
          rintro e W' ⟨rfl, hb⟩
          exact hK _ _ ⟨hb, rfl⟩
        refine allp_mild 0 rfl rfl rfl (fun a x W hout hin hP => ?_) ?_
        · have e1 : a.tmps[1]? = some (.pointer (some ⟨g1, 0, none⟩)) := (hout 1 (by kernel_rfl)).trans rfl
          clear hin hout
          intro K Q hK
          exact wp_st_load hP 0 0 27 (.tmp 1) rfl rfl (eval_of_get e1) (bs b) (slab_whole _) _ Try.underlying27 rfl (by rw [size_bs, HBL.out]; exact size_blk) (hK _ _ ⟨Same.refl _, rfl⟩)
        refine allp_mild 0 rfl rfl rfl (fun a x W hout hin hP => ?_) ?_
        · have e23 := hin.is 4 23 (by kernel_rfl) (by decide) (by kernel_rfl) (by kernel_rfl) _ rfl
          have e24 := hin.is 5 24 (by kernel_rfl) (by decide) (by kernel_rfl) (by kernel_rfl) _ rfl
          have qq := HQE.out W
          clear hP
          clear hin hout
          intro K Q hK
          go_simp
          exact hK _ _ ⟨Same.refl _, rfl⟩
        refine allp_mild 0 rfl rfl rfl (fun a x W hout hin hP => ?_) ?_
        · have e21 := hin.is 2 21 (by kernel_rfl) (by decide) (by kernel_rfl) (by kernel_rfl) _ rfl
          have e25 := hin.is 6 25 (by kernel_rfl) (by decide) (by kernel_rfl) (by kernel_rfl) _ rfl
          exact does_pick rfl e21 ⟨Same.refl _, eval_of_get e25⟩
        exact all_end (by decide)
      · intro x V hP hV
        have HS : St w noF [⟨g1, 27, bs b⟩, ⟨g2, 25, labCells lab0⟩, ⟨g4, 54, bs R⟩, ⟨g6, 25, labCells M⟩] V := hP
        have h7 : x 7 = .bool true := hV 7 (by decide) (.inl (by kernel_rfl))
        clear hP hV
        simp only [putL, Act.put, List.setIfInBounds_toArray, List.set_cons_succ, List.set_cons_zero, h7]
        refine wpAnyH_done (by kernel_rfl) ?_ _
        clear h7
        go_wp2_with (first | ((with_reducible refine wpList_plain ?_ ?_); exact rfl; intro KK hKK; refine wp_st_store HS 1 0 25 (.tmp 2) (.tmp 27) rfl rfl rfl (.agg #[.int .u32 0, .int .u32 0, .int .u32 0, .int .u16 0, .int .u16 0]) rfl (by exact size_lab) (by exact Nat.le_refl 5) (by exact one_lab lab0) (labCells lab0) (spl_agg _ _ _ zeros_lab rfl) (fun W41 HSx => hKK _ _ ?_); clear hKK KK HS; have HS : St w noF [⟨g1, 27, bs b⟩, ⟨g2, 25, labCells lab0⟩, ⟨g4, 54, bs R⟩, ⟨g6, 25, labCells M⟩] W41 := HSx; clear HSx))
        exact bodyPost_ret (v := .tuple #[.agg (labCells lab0), .int .i64 11]) (results_cell_tmp Try.results9 _ _ g2 25 (labCells lab0) (0, 0) _ rfl (HS.row 1 rfl) Try.underlying25 rfl (by exact size_lab)) rfl ⟨HRES.out, HS.below⟩
    case pos =>
      have HRES := Lib.hid (lab_good h0 (by rw [hI, decide_eq_true he]))
      rw [hMb] at HRES
      rw [decide_eq_true he] at HQE
      clear hk h0 hb hRR hM hMb hB hI he
      go_enter Try.func9, Try.ntmps9
      go_upto_region 1 with (first | ((with_reducible refine wpList_plain ?_ ?_); exact rfl; intro KK hKK; refine wp_st_box HS 27 (.tmp 0) rfl _ rfl (bs b) (rfl) (fun g1 W1 HSx => hKK _ _ ?_); clear hKK KK HS; have HS : St w noF [⟨g1, 27, bs b⟩] W1 := HSx; clear HSx) | ((with_reducible refine wpList_plain ?_ ?_); exact rfl; intro KK hKK; refine wp_st_alloc HS 25 (labCells lab0) rfl (.agg (labCells lab0)) (by kernel_rfl) (rfl) (fun g2 W2 HSx => hKK _ _ ?_); clear hKK KK HS; have HS : St w noF [⟨g1, 27, bs b⟩, ⟨g2, 25, labCells lab0⟩] W2 := HSx; clear HSx))
      have qz := q0 W2
      clear q0
      go_upto_region 3 with (first | ((with_reducible refine wpList_plain ?_ ?_); exact rfl; intro KK hKK; refine wp_st_load HS 0 0 27 (.tmp 1) rfl rfl rfl (bs b) (slab_whole _) _ Try.underlying27 rfl (by rw [size_bs, HBL.out]; exact size_blk) (hKK _ _ ?_); clear hKK KK))
      clear qz
      go_wp2_with (first | ((with_reducible refine wpList_plain ?_ ?_); exact rfl; intro KK hKK; refine wp_st_load HS 0 0 27 (.tmp 1) rfl rfl rfl (bs b) (slab_whole _) _ Try.underlying27 rfl (by rw [size_bs, HBL.out]; exact size_blk) (hKK _ _ ?_); clear hKK KK))
      refine (HC.out _).mono ?_
      rintro e w1 ⟨rfl, hb1⟩
      have HSx := HS.same hb1
      clear HS hb1
      have HS := HSx
      clear HSx
      go_upto_region 4 with (first | ((with_reducible refine wpList_plain ?_ ?_); exact rfl; intro KK hKK; refine wp_st_alloc HS 54 (bs (zer 30)) rfl (.agg (bs (zer 30))) (by kernel_rfl) (rfl) (fun g4 W11 HSx => hKK _ _ ?_); clear hKK KK HS; have HS : St w noF [⟨g1, 27, bs b⟩, ⟨g2, 25, labCells lab0⟩, ⟨g4, 54, bs (zer 30)⟩] W11 := HSx; clear HSx) | ((with_reducible refine wpList_plain ?_ ?_); exact rfl; intro KK hKK; refine wp_st_store HS 2 0 54 (.tmp 4) (.tmp 14) rfl rfl rfl (.agg (bs R)) rfl (by exact by rw [show Value.cells (.agg (bs R)) = bs R from rfl, size_bs, HRL.out]; exact size_sec) (by rw [Nat.zero_add]; exact Nat.le_of_eq (Eq.symm (show (bs (zer 30)).size = (bs R).size by rw [size_bs, size_bs, HRL.out, length_zer]))) (by first | exact one_bs _ | exact one_lab _) (bs R) (spl_agg _ _ _ rfl (show (bs (zer 30)).size = (bs R).size by rw [size_bs, size_bs, HRL.out, length_zer])) (fun W12 HSx => hKK _ _ ?_); clear hKK KK HS; have HS : St w noF [⟨g1, 27, bs b⟩, ⟨g2, 25, labCells lab0⟩, ⟨g4, 54, bs R⟩] W12 := HSx; clear HSx))
      have CF := frombody_any g4 R _ (HS.row 2 rfl) HRL.out
      rw [HMR.out] at CF
      go_wp2_with fail
      refine CF.mono ?_
      rintro e w3 ⟨rfl, hb3⟩
      have HSx := HS.same hb3
      clear HS hb3 CF
      have HS := HSx
      clear HSx
      go_upto_region 5 with (first | ((with_reducible refine wpList_plain ?_ ?_); exact rfl; intro KK hKK; refine wp_st_alloc HS 25 (labCells lab0) rfl (.agg (labCells lab0)) (by kernel_rfl) (rfl) (fun g6 W21 HSx => hKK _ _ ?_); clear hKK KK HS; have HS : St w noF [⟨g1, 27, bs b⟩, ⟨g2, 25, labCells lab0⟩, ⟨g4, 54, bs R⟩, ⟨g6, 25, labCells lab0⟩] W21 := HSx; clear HSx) | ((with_reducible refine wpList_plain ?_ ?_); exact rfl; intro KK hKK; refine wp_st_store HS 3 0 25 (.tmp 6) (.tmp 18) rfl rfl rfl (.agg (labCells M)) rfl (by exact size_lab) (by rw [Nat.zero_add]; exact Nat.le_of_eq (Eq.symm (rfl))) (by first | exact one_bs _ | exact one_lab _) (labCells M) (spl_agg _ _ _ rfl (rfl)) (fun W22 HSx => hKK _ _ ?_); clear hKK KK HS; have HS : St w noF [⟨g1, 27, bs b⟩, ⟨g2, 25, labCells lab0⟩, ⟨g4, 54, bs R⟩, ⟨g6, 25, labCells M⟩] W22 := HSx; clear HSx))
      have hF0 : Wl [fun W => St w noF [⟨g1, 27, bs b⟩, ⟨g2, 25, labCells lab0⟩, ⟨g4, 54, bs R⟩, ⟨g6, 25, labCells M⟩] W] 0 W22.drew := HS.drew
      clear HS
      refine wp_region_phs [is (.int .i64 0), is (.bool false), is (.bool false), is (.agg (labCells M)), is (.agg (bs B)), is (.agg (bs b)), is (.bool false), is (.bool false)] [true, true, true, true, true, true, true, true] [(fun W => St w noF [⟨g1, 27, bs b⟩, ⟨g2, 25, labCells lab0⟩, ⟨g4, 54, bs R⟩, ⟨g6, 25, labCells M⟩] W)] [false, false, false, false, false, false, false, false] [some 0, some 0, some 0, some 0, some 0, some 0, some 0, some 0] [some 19, some 20, some 21, some 22, some 23, some 24, some 25, some 26] 8 0 (fun _ => true) rfl rfl (by kernel_rfl) (by kernel_rfl) (by kernel_rfl) (by kernel_rfl) ?_ ?_ ?_ ?_ ?_ ?_
      · repeat first | exact wok_nil | refine wok_cons (by first | exact fun _ _ h k => h.same k) ?_
      · repeat first | exact vok_nil | refine vok_rig (by first | exact fun _ _ _ h => h) ?_ | refine vok_soft (by first | exact fun _ _ _ h _ => h) ?_
      · exact hF0
      · repeat first | exact all_end (by decide) | refine all_cons (by first | exact rfl | exact ⟨rfl, fun _ _ h => Or.inl h⟩ | exact ⟨rfl, fun _ _ h => Or.inr ⟨h, rfl⟩⟩) ?_
      · refine allp_mild 0 rfl rfl rfl (fun a x W hout hin hP => ?_) ?_
        · have e5 : a.tmps[5]? = some (.int .i64 0) := (hout 5 (by kernel_rfl)).trans rfl
          exact does_move rfl e5 ⟨Same.refl _, rfl⟩
        refine allp_mild 0 rfl rfl rfl (fun a x W hout hin hP => ?_) ?_
        · have e19 := hin.is 0 19 (by kernel_rfl) (by decide) (by kernel_rfl) (by kernel_rfl) _ rfl
          clear hin hout
          intro K Q hK
          go_simp
          exact hK _ _ ⟨Same.refl _, rfl⟩
        refine allp_mild 0 rfl rfl rfl (fun a x W hout hin hP => ?_) ?_
        · have e20 := hin.is 1 20 (by kernel_rfl) (by decide) (by kernel_rfl) (by kernel_rfl) _ rfl
          exact does_move rfl e20 ⟨Same.refl _, rfl⟩
        refine allp_mild 0 rfl rfl rfl (fun a x W hout hin hP => ?_) ?_
        · have e6 : a.tmps[6]? = some (.pointer (some ⟨g6, 0, none⟩)) := (hout 6 (by kernel_rfl)).trans rfl
          clear hin hout
          intro K Q hK
          exact wp_st_load hP 3 0 25 (.tmp 6) rfl rfl (eval_of_get e6) (labCells M) (slab_whole _) _ Try.underlying25 rfl (by exact size_lab) (hK _ _ ⟨Same.refl _, rfl⟩)
        refine allp_mild 0 rfl rfl rfl (fun a x W hout hin hP => ?_) ?_
        · have e22 := hin.is 3 22 (by kernel_rfl) (by decide) (by kernel_rfl) (by kernel_rfl) _ rfl
          have C := HCE.out W
          clear hP
          clear hin hout
          intro K Q hK
          go_simp
          refine C.mono ?_
          rintro e W' ⟨rfl, hb⟩
          exact hK _ _ ⟨hb, rfl⟩
        refine allp_mild 0 rfl rfl rfl (fun a x W hout hin hP => ?_) ?_
        · have e1 : a.tmps[1]? = some (.pointer (some ⟨g1, 0, none⟩)) := (hout 1 (by kernel_rfl)).trans rfl
          clear hin hout
          intro K Q hK
          exact wp_st_load hP 0 0 27 (.tmp 1) rfl rfl (eval_of_get e1) (bs b) (slab_whole _) _ Try.underlying27 rfl (by rw [size_bs, HBL.out]; exact size_blk) (hK _ _ ⟨Same.refl _, rfl⟩)
        refine allp_mild 0 rfl rfl rfl (fun a x W hout hin hP => ?_) ?_
        · have e23 := hin.is 4 23 (by kernel_rfl) (by decide) (by kernel_rfl) (by kernel_rfl) _ rfl
          have e24 := hin.is 5 24 (by kernel_rfl) (by decide) (by kernel_rfl) (by kernel_rfl) _ rfl
          have qq := HQE.out W
          clear hP
          clear hin hout
          intro K Q hK
          go_simp
          exact hK _ _ ⟨Same.refl _, rfl⟩
        refine allp_mild 0 rfl rfl rfl (fun a x W hout hin hP => ?_) ?_
        · have e21 := hin.is 2 21 (by kernel_rfl) (by decide) (by kernel_rfl) (by kernel_rfl) _ rfl
          have e25 := hin.is 6 25 (by kernel_rfl) (by decide) (by kernel_rfl) (by kernel_rfl) _ rfl
          exact does_pick rfl e21 ⟨Same.refl _, eval_of_get e25⟩
        exact all_end (by decide)
      · intro x V hP hV
        have HS : St w noF [⟨g1, 27, bs b⟩, ⟨g2, 25, labCells lab0⟩, ⟨g4, 54, bs R⟩, ⟨g6, 25, labCells M⟩] V := hP
        have h7 : x 7 = .bool false := hV 7 (by decide) (.inl (by kernel_rfl))
        clear hP hV
        simp only [putL, Act.put, List.setIfInBounds_toArray, List.set_cons_succ, List.set_cons_zero, h7]
        refine wpAnyH_done (by kernel_rfl) ?_ _
        clear h7
        go_wp2_with (first | ((with_reducible refine wpList_plain ?_ ?_); exact rfl; intro KK hKK; refine wp_st_load HS 3 0 25 (.tmp 6) rfl rfl rfl (labCells M) (slab_whole _) _ Try.underlying25 rfl (by exact size_lab) (hKK _ _ ?_); clear hKK KK) | ((with_reducible refine wpList_plain ?_ ?_); exact rfl; intro KK hKK; refine wp_st_store HS 1 0 25 (.tmp 2) (.tmp 28) rfl rfl rfl (.agg (labCells M)) rfl (by exact size_lab) (by rw [Nat.zero_add]; exact Nat.le_of_eq (Eq.symm (rfl))) (by first | exact one_bs _ | exact one_lab _) (labCells M) (spl_agg _ _ _ rfl (rfl)) (fun W41 HSx => hKK _ _ ?_); clear hKK KK HS; have HS : St w noF [⟨g1, 27, bs b⟩, ⟨g2, 25, labCells M⟩, ⟨g4, 54, bs R⟩, ⟨g6, 25, labCells M⟩] W41 := HSx; clear HSx))
        exact bodyPost_ret (v := .tuple #[.agg (labCells M), .int .i64 0]) (results_cell_tmp Try.results9 _ _ g2 25 (labCells M) (0, 0) _ rfl (HS.row 1 rfl) Try.underlying25 rfl (by exact size_lab)) rfl ⟨HRES.out, HS.below⟩
end Go.Proofs.Ytmghacgifokbhaa
