/- The program's label of a sector. -/
import Derived.Test.YtnmnokipbbibiaaLabelPrgE
namespace Go.Proofs.Ytnmnokipbbibiaa
open Go Go.RowKit
def labOk (b : List (BitVec 8)) : Bool := decOk b && (decide (markOf b = 0x4c#8) && decide (body29 (labOf (bodyOf b)) = bodyOf b))
theorem lab_zero {b : List (BitVec 8)} (h : b = blk 0#8) : Ending.returned (Value.tuple #[.agg (labCells lab0), .int .i64 0]) = .returned (.tuple #[.agg (labCells (decLab b)), .int .i64 (decLabE b)]) := by
  have h : b = List.replicate 32 0#8 := h
  unfold decLab decLabE; rw [if_pos h, if_pos h]
theorem lab_bad {b : List (BitVec 8)} (h : ¬ b = blk 0#8) (k : labOk b = false) : Ending.returned (Value.tuple #[.agg (labCells lab0), .int .i64 11]) = .returned (.tuple #[.agg (labCells (decLab b)), .int .i64 (decLabE b)]) := by
  have h : ¬ b = List.replicate 32 0#8 := h
  unfold decLab decLabE; rw [if_neg h, if_neg h, labIs_iff, show (decOk b && (decide (markOf b = 0x4c#8) && decide (body29 (labOf (bodyOf b)) = bodyOf b))) = false from k]; rfl
theorem lab_good {b : List (BitVec 8)} (h : ¬ b = blk 0#8) (k : labOk b = true) : Ending.returned (Value.tuple #[.agg (labCells (labOf (bodyOf b))), .int .i64 0]) = .returned (.tuple #[.agg (labCells (decLab b)), .int .i64 (decLabE b)]) := by
  have h : ¬ b = List.replicate 32 0#8 := h
  unfold decLab decLabE; rw [if_neg h, if_neg h, labIs_iff, show (decOk b && (decide (markOf b = 0x4c#8) && decide (body29 (labOf (bodyOf b)) = bodyOf b))) = true from k]; rfl
theorem drop1_30 (b : List (BitVec 8)) : (b.take 30).drop 1 = bodyOf b := by
  unfold bodyOf
  rw [List.drop_take]
set_option maxRecDepth 20000 in
set_option maxHeartbeats 800000 in
theorem labdec_any (b : List (BitVec 8)) (w : World) (hb : b.length = 32) :
    Calls Try.prog 9 #[.agg (bs b)] w fun e w' => e = .returned (.tuple #[.agg (labCells (decLab b)), .int .i64 (decLabE b)]) ∧ Below w.heap.size w w' := by
  have HBL := Lib.hid hb
  have hz := zeros_blk
  have hzl := zeros_lab
  have hzs := zeros_sec
  have q0 := eql_blk b (blk 0#8) hb (length_blk _)
  have HC : Hid (∀ W, Calls Try.prog 17 #[.agg (bs b)] W fun e w' => e = .returned (.tuple #[.agg (bs (decR b)), .int .i64 (decE b)]) ∧ Below W.heap.size W w') := Lib.hid (fun W => sealOps.dec b W hb)
  have HS := St.nil w noF
  by_cases h0 : b = blk 0#8
  · have HRES := Lib.hid (lab_zero h0)
    rw [decide_eq_true h0] at q0
    clear h0 hb HC
    go_enter Try.func9, Try.ntmps9
    go_upto_region 1 with (first | ((with_reducible refine wpList_plain ?_ ?_); exact rfl; intro KK hKK; refine wp_st_box HS 27 (.tmp 0) rfl _ rfl (bs b) (rfl) (fun g1 W1 HSx => hKK _ _ ?_); clear hKK KK HS; have HS : St w noF [⟨g1, 27, bs b⟩] W1 := HSx; clear HSx) | ((with_reducible refine wpList_plain ?_ ?_); exact rfl; intro KK hKK; refine wp_st_alloc HS 25 (labCells lab0) rfl (.agg (labCells lab0)) (by kernel_rfl) (rfl) (fun g2 W2 HSx => hKK _ _ ?_); clear hKK KK HS; have HS : St w noF [⟨g1, 27, bs b⟩, ⟨g2, 25, labCells lab0⟩] W2 := HSx; clear HSx))
    have q := q0 W2
    clear q0
    go_wp2_with (first | (first | ((with_reducible refine wpList_plain ?_ ?_); exact rfl; intro KK hKK; refine wp_st_load HS 0 0 27 (.tmp 1) rfl rfl rfl (bs b) (slab_whole _) _ Try.underlying27 rfl (by rw [size_bs, HBL.out]; exact size_blk) (hKK _ _ ?_); clear hKK KK)) | (first | ((with_reducible refine wpList_plain ?_ ?_); exact rfl; intro KK hKK; refine wp_st_store HS 1 0 25 (.tmp 2) (.tmp 10) rfl rfl rfl (.agg (labCells lab0)) rfl (by exact size_lab) (by rw [Nat.zero_add]; exact Nat.le_of_eq (Eq.symm (rfl))) (by first | exact one_bs _ | exact one_lab _) (labCells lab0) (spl_agg _ _ _ rfl (rfl)) (fun W3 HSx => hKK _ _ ?_); clear hKK KK HS; have HS : St w noF [⟨g1, 27, bs b⟩, ⟨g2, 25, labCells lab0⟩] W3 := HSx; clear HSx)))
    exact bodyPost_ret (v := .tuple #[.agg (labCells lab0), .int .i64 0]) (results_cell_tmp Try.results9 _ _ g2 25 (labCells lab0) (0, 0) _ rfl (HS.row 1 rfl) Try.underlying25 rfl size_lab) rfl ⟨HRES.out, HS.below⟩
  rw [decide_eq_false h0] at q0
  by_cases hk : decOk b = true
  case neg =>
    have hk : decOk b = false := by simpa using hk
    have HRES := Lib.hid (lab_bad h0 (by unfold labOk; rw [hk]; rfl))
    have hR : decR b = zer 30 := decR_no hk
    have hE : decE b = 11 := decE_no hk
    obtain ⟨R, hRR⟩ : ∃ R, zer 30 = R := ⟨_, rfl⟩
    have HRL : Hid (R.length = 30) := Lib.hid (by rw [← hRR]; exact length_zer 30)
    rw [hR, hE, hRR] at HC
    rw [hRR] at hzs
    clear hR hE hk h0 hb hRR
    go_enter Try.func9, Try.ntmps9
    go_upto_region 1 with (first | ((with_reducible refine wpList_plain ?_ ?_); exact rfl; intro KK hKK; refine wp_st_box HS 27 (.tmp 0) rfl _ rfl (bs b) (rfl) (fun g1 W1 HSx => hKK _ _ ?_); clear hKK KK HS; have HS : St w noF [⟨g1, 27, bs b⟩] W1 := HSx; clear HSx) | ((with_reducible refine wpList_plain ?_ ?_); exact rfl; intro KK hKK; refine wp_st_alloc HS 25 (labCells lab0) rfl (.agg (labCells lab0)) (by kernel_rfl) (rfl) (fun g2 W2 HSx => hKK _ _ ?_); clear hKK KK HS; have HS : St w noF [⟨g1, 27, bs b⟩, ⟨g2, 25, labCells lab0⟩] W2 := HSx; clear HSx))
    have q := q0 W2
    clear q0
    go_wp2_with (first | ((with_reducible refine wpList_plain ?_ ?_); exact rfl; intro KK hKK; refine wp_st_load HS 0 0 27 (.tmp 1) rfl rfl rfl (bs b) (slab_whole _) _ Try.underlying27 rfl (by rw [size_bs, HBL.out]; exact size_blk) (hKK _ _ ?_); clear hKK KK))
    refine (HC.out _).mono ?_
    rintro e W4 ⟨rfl, hb⟩
    have HSx : St w noF [⟨g1, 27, bs b⟩, ⟨g2, 25, labCells lab0⟩] W4 := HS.same hb
    clear HS hb HC; have HS := HSx; clear HSx
    go_wp2_with (first | (first | ((with_reducible refine wpList_plain ?_ ?_); exact rfl; intro KK hKK; refine wp_st_alloc HS 54 (bs (zer 30)) rfl (.agg (bs (zer 30))) (by kernel_rfl) (rfl) (fun g4 W5 HSx => hKK _ _ ?_); clear hKK KK HS; have HS : St w noF [⟨g1, 27, bs b⟩, ⟨g2, 25, labCells lab0⟩, ⟨g4, 54, bs (zer 30)⟩] W5 := HSx; clear HSx) | ((with_reducible refine wpList_plain ?_ ?_); exact rfl; intro KK hKK; refine wp_st_store HS 2 0 54 (.tmp 4) (.tmp 14) rfl rfl rfl (.agg (bs R)) rfl (by exact by rw [show Value.cells (.agg (bs R)) = bs R from rfl, size_bs, HRL.out]; exact size_sec) (by rw [Nat.zero_add]; exact Nat.le_of_eq (Eq.symm (show (bs (zer 30)).size = (bs R).size by rw [size_bs, size_bs, HRL.out, length_zer]))) (by first | exact one_bs _ | exact one_lab _) (bs R) (spl_agg _ _ _ rfl (show (bs (zer 30)).size = (bs R).size by rw [size_bs, size_bs, HRL.out, length_zer])) (fun W6 HSx => hKK _ _ ?_); clear hKK KK HS; have HS : St w noF [⟨g1, 27, bs b⟩, ⟨g2, 25, labCells lab0⟩, ⟨g4, 54, bs R⟩] W6 := HSx; clear HSx)) | (first | ((with_reducible refine wpList_plain ?_ ?_); exact rfl; intro KK hKK; refine wp_st_store HS 1 0 25 (.tmp 2) (.tmp 23) rfl rfl rfl (.agg (labCells lab0)) rfl (by exact size_lab) (by rw [Nat.zero_add]; exact Nat.le_of_eq (Eq.symm (rfl))) (by first | exact one_bs _ | exact one_lab _) (labCells lab0) (spl_agg _ _ _ rfl (rfl)) (fun W31 HSx => hKK _ _ ?_); clear hKK KK HS; have HS : St w noF [⟨g1, 27, bs b⟩, ⟨g2, 25, labCells lab0⟩, ⟨g4, 54, bs R⟩] W31 := HSx; clear HSx)))
    exact bodyPost_ret (v := .tuple #[.agg (labCells lab0), .int .i64 11]) (results_cell_tmp Try.results9 _ _ g2 25 (labCells lab0) (0, 0) _ rfl (HS.row 1 rfl) Try.underlying25 rfl size_lab) rfl ⟨HRES.out, HS.below⟩
  have hR : decR b = b.take 30 := by unfold decR; rw [if_pos hk]
  have hE : decE b = 0 := by unfold decE; rw [if_pos hk]
  obtain ⟨R, hRR⟩ : ∃ R, b.take 30 = R := ⟨_, rfl⟩
  have HRL : Hid (R.length = 30) := Lib.hid (by rw [← hRR]; simp [hb])
  have HR0 : Hid ((bs R)[0]? = some (.int .u8 (bd (markOf b)))) := Lib.hid (by
    rw [get_bs R 0 (by rw [HRL.out]; decide), ← hRR]
    cases b with
    | nil => simp at hb
    | cons x b => rfl)
  obtain ⟨B, hB⟩ : ∃ B, bodyOf b = B := ⟨_, rfl⟩
  have HB29 : Hid (B.length = 29) := Lib.hid (by rw [← hB]; exact length_bodyOf hb)
  have HTK : Hid (((bs R).toList.drop 1).take (bs B).size = (bs B).toList) := Lib.hid (by
    have hd1 : R.drop 1 = B := by rw [← hRR, ← hB]; exact drop1_30 b
    rw [bs_toList, bs_toList, size_bs, ← hd1]
    unfold bytesV
    rw [← List.map_drop]
    exact List.take_of_length_le (by simp))
  rw [hR, hE, hRR] at HC
  by_cases hm : markOf b = 0x4c#8
  case neg =>
    have HRES := Lib.hid (lab_bad h0 (by unfold labOk; rw [decide_eq_false hm, Bool.false_and, Bool.and_false]))
    have hm1 : ¬ bd (markOf b) = 76 := fun h => hm (bd_inj (h.trans rfl))
    have hm2 : (bd (markOf b) != 76) = true := by simpa using hm1
    clear hR hE hk h0 hb hRR hB HB29 HTK hm
    go_enter Try.func9, Try.ntmps9
    go_upto_region 1 with (first | ((with_reducible refine wpList_plain ?_ ?_); exact rfl; intro KK hKK; refine wp_st_box HS 27 (.tmp 0) rfl _ rfl (bs b) (rfl) (fun g1 W1 HSx => hKK _ _ ?_); clear hKK KK HS; have HS : St w noF [⟨g1, 27, bs b⟩] W1 := HSx; clear HSx) | ((with_reducible refine wpList_plain ?_ ?_); exact rfl; intro KK hKK; refine wp_st_alloc HS 25 (labCells lab0) rfl (.agg (labCells lab0)) (by kernel_rfl) (rfl) (fun g2 W2 HSx => hKK _ _ ?_); clear hKK KK HS; have HS : St w noF [⟨g1, 27, bs b⟩, ⟨g2, 25, labCells lab0⟩] W2 := HSx; clear HSx))
    have q := q0 W2
    clear q0
    go_wp2_with (first | ((with_reducible refine wpList_plain ?_ ?_); exact rfl; intro KK hKK; refine wp_st_load HS 0 0 27 (.tmp 1) rfl rfl rfl (bs b) (slab_whole _) _ Try.underlying27 rfl (by rw [size_bs, HBL.out]; exact size_blk) (hKK _ _ ?_); clear hKK KK))
    refine (HC.out _).mono ?_
    rintro e W4 ⟨rfl, hb⟩
    have HSx : St w noF [⟨g1, 27, bs b⟩, ⟨g2, 25, labCells lab0⟩] W4 := HS.same hb
    clear HS hb HC; have HS := HSx; clear HSx
    go_upto_region 4 with (first | ((with_reducible refine wpList_plain ?_ ?_); exact rfl; intro KK hKK; refine wp_st_alloc HS 54 (bs (zer 30)) rfl (.agg (bs (zer 30))) (by kernel_rfl) (rfl) (fun g4 W5 HSx => hKK _ _ ?_); clear hKK KK HS; have HS : St w noF [⟨g1, 27, bs b⟩, ⟨g2, 25, labCells lab0⟩, ⟨g4, 54, bs (zer 30)⟩] W5 := HSx; clear HSx) | ((with_reducible refine wpList_plain ?_ ?_); exact rfl; intro KK hKK; refine wp_st_store HS 2 0 54 (.tmp 4) (.tmp 14) rfl rfl rfl (.agg (bs R)) rfl (by exact by rw [show Value.cells (.agg (bs R)) = bs R from rfl, size_bs, HRL.out]; exact size_sec) (by rw [Nat.zero_add]; exact Nat.le_of_eq (Eq.symm (show (bs (zer 30)).size = (bs R).size by rw [size_bs, size_bs, HRL.out, length_zer]))) (by first | exact one_bs _ | exact one_lab _) (bs R) (spl_agg _ _ _ rfl (show (bs (zer 30)).size = (bs R).size by rw [size_bs, size_bs, HRL.out, length_zer])) (fun W6 HSx => hKK _ _ ?_); clear hKK KK HS; have HS : St w noF [⟨g1, 27, bs b⟩, ⟨g2, 25, labCells lab0⟩, ⟨g4, 54, bs R⟩] W6 := HSx; clear HSx))
    have hc := (HS.row 2 rfl).get HR0.out
    go_wp2_with (first | ((with_reducible refine wpList_plain ?_ ?_); exact rfl; intro KK hKK; refine wp_st_store HS 1 0 25 (.tmp 2) (.tmp 23) rfl rfl rfl (.agg (labCells lab0)) rfl (by exact size_lab) (by rw [Nat.zero_add]; exact Nat.le_of_eq (Eq.symm (rfl))) (by first | exact one_bs _ | exact one_lab _) (labCells lab0) (spl_agg _ _ _ rfl (rfl)) (fun W31 HSx => hKK _ _ ?_); clear hKK KK HS; have HS : St w noF [⟨g1, 27, bs b⟩, ⟨g2, 25, labCells lab0⟩, ⟨g4, 54, bs R⟩] W31 := HSx; clear HSx))
    exact bodyPost_ret (v := .tuple #[.agg (labCells lab0), .int .i64 11]) (results_cell_tmp Try.results9 _ _ g2 25 (labCells lab0) (0, 0) _ rfl (HS.row 1 rfl) Try.underlying25 rfl size_lab) rfl ⟨HRES.out, HS.below⟩
  have hm1 : bd (markOf b) = 76 := by rw [hm]; rfl
  have hm2 : (bd (markOf b) != 76) = false := by rw [hm1]; rfl
  have HFB := Lib.hid (fun W => frombody_any B W HB29.out)
  obtain ⟨M, hM⟩ : ∃ M, labOf B = M := ⟨_, rfl⟩
  have HQE := Lib.hid (fun W => eql_29 (body29 M) B (length_body29 M) HB29.out W)
  have hok : labOk b = decide (body29 M = B) := by unfold labOk; rw [hk, decide_eq_true hm, Bool.true_and, Bool.true_and, hB, hM]
  by_cases he : body29 M = B
  case neg =>
    rw [decide_eq_false he] at hok HQE
    have HRES := Lib.hid (lab_bad h0 hok)
    rw [hM] at HFB
    clear hok he hR hE hk h0 hb hRR hB hm hM
    go_enter Try.func9, Try.ntmps9
    go_upto_region 1 with (first | ((with_reducible refine wpList_plain ?_ ?_); exact rfl; intro KK hKK; refine wp_st_box HS 27 (.tmp 0) rfl _ rfl (bs b) (rfl) (fun g1 W1 HSx => hKK _ _ ?_); clear hKK KK HS; have HS : St w noF [⟨g1, 27, bs b⟩] W1 := HSx; clear HSx) | ((with_reducible refine wpList_plain ?_ ?_); exact rfl; intro KK hKK; refine wp_st_alloc HS 25 (labCells lab0) rfl (.agg (labCells lab0)) (by kernel_rfl) (rfl) (fun g2 W2 HSx => hKK _ _ ?_); clear hKK KK HS; have HS : St w noF [⟨g1, 27, bs b⟩, ⟨g2, 25, labCells lab0⟩] W2 := HSx; clear HSx))
    have q := q0 W2
    clear q0
    go_wp2_with (first | ((with_reducible refine wpList_plain ?_ ?_); exact rfl; intro KK hKK; refine wp_st_load HS 0 0 27 (.tmp 1) rfl rfl rfl (bs b) (slab_whole _) _ Try.underlying27 rfl (by rw [size_bs, HBL.out]; exact size_blk) (hKK _ _ ?_); clear hKK KK))
    refine (HC.out _).mono ?_
    rintro e W4 ⟨rfl, hb⟩
    have HSx : St w noF [⟨g1, 27, bs b⟩, ⟨g2, 25, labCells lab0⟩] W4 := HS.same hb
    clear HS hb HC; have HS := HSx; clear HSx
    go_upto_region 4 with (first | ((with_reducible refine wpList_plain ?_ ?_); exact rfl; intro KK hKK; refine wp_st_alloc HS 54 (bs (zer 30)) rfl (.agg (bs (zer 30))) (by kernel_rfl) (rfl) (fun g4 W5 HSx => hKK _ _ ?_); clear hKK KK HS; have HS : St w noF [⟨g1, 27, bs b⟩, ⟨g2, 25, labCells lab0⟩, ⟨g4, 54, bs (zer 30)⟩] W5 := HSx; clear HSx) | ((with_reducible refine wpList_plain ?_ ?_); exact rfl; intro KK hKK; refine wp_st_store HS 2 0 54 (.tmp 4) (.tmp 14) rfl rfl rfl (.agg (bs R)) rfl (by exact by rw [show Value.cells (.agg (bs R)) = bs R from rfl, size_bs, HRL.out]; exact size_sec) (by rw [Nat.zero_add]; exact Nat.le_of_eq (Eq.symm (show (bs (zer 30)).size = (bs R).size by rw [size_bs, size_bs, HRL.out, length_zer]))) (by first | exact one_bs _ | exact one_lab _) (bs R) (spl_agg _ _ _ rfl (show (bs (zer 30)).size = (bs R).size by rw [size_bs, size_bs, HRL.out, length_zer])) (fun W6 HSx => hKK _ _ ?_); clear hKK KK HS; have HS : St w noF [⟨g1, 27, bs b⟩, ⟨g2, 25, labCells lab0⟩, ⟨g4, 54, bs R⟩] W6 := HSx; clear HSx))
    have hc := (HS.row 2 rfl).get HR0.out
    clear HR0
    go_upto_region 6 with fail
    clear hc
    go_wp2_with (first | ((with_reducible refine wpList_plain ?_ ?_); exact rfl; intro KK hKK; refine wp_st_load HS 2 1 52 (.tmp 24) rfl rfl rfl (bs B) (HTK.out) _ Try.underlying52 rfl (by rw [size_bs, HB29.out]; exact size_29) (hKK _ _ ?_); clear hKK KK))
    refine (HFB.out _).mono ?_
    rintro e W7 ⟨rfl, hb⟩
    have HSx : St w noF [⟨g1, 27, bs b⟩, ⟨g2, 25, labCells lab0⟩, ⟨g4, 54, bs R⟩] W7 := HS.same hb
    clear HS hb HFB; have HS := HSx; clear HSx
    go_upto_region 7 with (first | ((with_reducible refine wpList_plain ?_ ?_); exact rfl; intro KK hKK; refine wp_st_alloc HS 25 (labCells lab0) rfl (.agg (labCells lab0)) (by kernel_rfl) (rfl) (fun g6 W8 HSx => hKK _ _ ?_); clear hKK KK HS; have HS : St w noF [⟨g1, 27, bs b⟩, ⟨g2, 25, labCells lab0⟩, ⟨g4, 54, bs R⟩, ⟨g6, 25, labCells lab0⟩] W8 := HSx; clear HSx) | ((with_reducible refine wpList_plain ?_ ?_); exact rfl; intro KK hKK; refine wp_st_store HS 3 0 25 (.tmp 6) (.tmp 26) rfl rfl rfl (.agg (labCells M)) rfl (by exact size_lab) (by rw [Nat.zero_add]; exact Nat.le_of_eq (Eq.symm (rfl))) (by first | exact one_bs _ | exact one_lab _) (labCells M) (spl_agg _ _ _ rfl (rfl)) (fun W9 HSx => hKK _ _ ?_); clear hKK KK HS; have HS : St w noF [⟨g1, 27, bs b⟩, ⟨g2, 25, labCells lab0⟩, ⟨g4, 54, bs R⟩, ⟨g6, 25, labCells M⟩] W9 := HSx; clear HSx))
    have hF0 : Wl [fun W => St w noF [⟨g1, 27, bs b⟩, ⟨g2, 25, labCells lab0⟩, ⟨g4, 54, bs R⟩, ⟨g6, 25, labCells M⟩] W] 0 W9.drew := HS.drew
    clear HS
    refine wp_region_phs [is (.agg (labCells M)), is (.agg (bs (body29 M))), is (.pointer (some ⟨g4, 1, none⟩)), is (.agg (bs B)), is (.bool true)] [true, true, true, true, true] [(fun W => St w noF [⟨g1, 27, bs b⟩, ⟨g2, 25, labCells lab0⟩, ⟨g4, 54, bs R⟩, ⟨g6, 25, labCells M⟩] W)] [false, false, false, false, false] [some 0, some 0, some 0, some 0, some 0] [some 27, some 28, some 29, some 30, some 31] 5 0 (fun _ => true) rfl rfl (by kernel_rfl) (by kernel_rfl) (by kernel_rfl) (by kernel_rfl) ?_ ?_ ?_ ?_ ?_ ?_
    · repeat first | exact wok_nil | refine wok_cons (by first | exact fun _ _ h k => h.same k) ?_
    · repeat first | exact vok_nil | refine vok_rig (by first | exact fun _ _ _ h => h) ?_ | refine vok_soft (by first | exact fun _ _ _ h _ => h) ?_
    · exact hF0
    · repeat first | exact all_end (by decide) | refine all_cons (by first | exact rfl | exact ⟨rfl, fun _ _ h => Or.inl h⟩ | exact ⟨rfl, fun _ _ h => Or.inr ⟨h, rfl⟩⟩) ?_
    · refine allp_mild 0 rfl rfl rfl (fun a x W hout hin hP => ?_) ?_
      · have e6 : a.tmps[6]? = some (.pointer (some ⟨g6, 0, none⟩)) := (hout 6 (by kernel_rfl)).trans rfl
        clear hin hout
        intro K Q hK
        exact wp_st_load hP 3 0 25 (.tmp 6) rfl rfl (eval_of_get e6) (labCells M) (slab_whole _) _ Try.underlying25 rfl size_lab (hK _ _ ⟨Same.refl _, rfl⟩)
      refine allp_mild 0 rfl rfl rfl (fun a x W hout hin hP => ?_) ?_
      · have e27 := hin.is 0 27 (by kernel_rfl) (by decide) (by kernel_rfl) (by kernel_rfl) _ rfl
        have C := bodyof_any M W
        clear hP
        clear hin hout
        intro K Q hK
        go_simp
        refine C.mono ?_
        rintro e W' ⟨rfl, hb⟩
        exact hK _ _ ⟨hb, rfl⟩
      refine allp_mild 0 rfl rfl rfl (fun a x W hout hin hP => ?_) ?_
      · have e4 : a.tmps[4]? = some (.pointer (some ⟨g4, 0, none⟩)) := (hout 4 (by kernel_rfl)).trans rfl
        clear hin hout
        intro K Q hK
        go_simp
        exact hK _ _ ⟨Same.refl _, rfl⟩
      refine allp_mild 0 rfl rfl rfl (fun a x W hout hin hP => ?_) ?_
      · have e29 := hin.is 2 29 (by kernel_rfl) (by decide) (by kernel_rfl) (by kernel_rfl) _ rfl
        clear hin hout
        intro K Q hK
        exact wp_st_load hP 2 1 52 (.tmp 29) rfl rfl (eval_of_get e29) (bs B) HTK.out _ Try.underlying52 rfl (by rw [size_bs, HB29.out]; exact size_29) (hK _ _ ⟨Same.refl _, rfl⟩)
      refine allp_mild 0 rfl rfl rfl (fun a x W hout hin hP => ?_) ?_
      · have e28 := hin.is 1 28 (by kernel_rfl) (by decide) (by kernel_rfl) (by kernel_rfl) _ rfl
        have e30 := hin.is 3 30 (by kernel_rfl) (by decide) (by kernel_rfl) (by kernel_rfl) _ rfl
        have q := HQE.out W
        clear hP
        clear hin hout
        intro K Q hK
        go_simp
        exact hK _ _ ⟨Same.refl _, rfl⟩
      exact all_end (by decide)
    · intro x V hP hV
      have HS : St w noF [⟨g1, 27, bs b⟩, ⟨g2, 25, labCells lab0⟩, ⟨g4, 54, bs R⟩, ⟨g6, 25, labCells M⟩] V := hP
      have h4 : x 4 = .bool true := hV 4 (by decide) (.inl (by kernel_rfl))
      clear hP hV
      simp only [putL, Act.put, List.setIfInBounds_toArray, List.set_cons_succ, List.set_cons_zero, h4]
      refine wpAnyH_done (by kernel_rfl) ?_ _
      clear h4
      go_wp2_with (first | ((with_reducible refine wpList_plain ?_ ?_); exact rfl; intro KK hKK; refine wp_st_store HS 1 0 25 (.tmp 2) (.tmp 32) rfl rfl rfl (.agg (labCells lab0)) rfl (by exact size_lab) (by rw [Nat.zero_add]; exact Nat.le_of_eq (Eq.symm (rfl))) (by first | exact one_bs _ | exact one_lab _) (labCells lab0) (spl_agg _ _ _ rfl (rfl)) (fun W21 HSx => hKK _ _ ?_); clear hKK KK HS; have HS : St w noF [⟨g1, 27, bs b⟩, ⟨g2, 25, labCells lab0⟩, ⟨g4, 54, bs R⟩, ⟨g6, 25, labCells M⟩] W21 := HSx; clear HSx))
      exact bodyPost_ret (v := .tuple #[.agg (labCells lab0), .int .i64 11]) (results_cell_tmp Try.results9 _ _ g2 25 (labCells lab0) (0, 0) _ rfl (HS.row 1 rfl) Try.underlying25 rfl size_lab) rfl ⟨HRES.out, HS.below⟩
  case pos =>
    rw [decide_eq_true he] at hok HQE
    have HRES := Lib.hid (lab_good h0 hok)
    rw [hB, hM] at HRES
    rw [hM] at HFB
    clear hok he hR hE hk h0 hb hRR hB hm hM
    go_enter Try.func9, Try.ntmps9
    go_upto_region 1 with (first | ((with_reducible refine wpList_plain ?_ ?_); exact rfl; intro KK hKK; refine wp_st_box HS 27 (.tmp 0) rfl _ rfl (bs b) (rfl) (fun g1 W1 HSx => hKK _ _ ?_); clear hKK KK HS; have HS : St w noF [⟨g1, 27, bs b⟩] W1 := HSx; clear HSx) | ((with_reducible refine wpList_plain ?_ ?_); exact rfl; intro KK hKK; refine wp_st_alloc HS 25 (labCells lab0) rfl (.agg (labCells lab0)) (by kernel_rfl) (rfl) (fun g2 W2 HSx => hKK _ _ ?_); clear hKK KK HS; have HS : St w noF [⟨g1, 27, bs b⟩, ⟨g2, 25, labCells lab0⟩] W2 := HSx; clear HSx))
    have q := q0 W2
    clear q0
    go_wp2_with (first | ((with_reducible refine wpList_plain ?_ ?_); exact rfl; intro KK hKK; refine wp_st_load HS 0 0 27 (.tmp 1) rfl rfl rfl (bs b) (slab_whole _) _ Try.underlying27 rfl (by rw [size_bs, HBL.out]; exact size_blk) (hKK _ _ ?_); clear hKK KK))
    refine (HC.out _).mono ?_
    rintro e W4 ⟨rfl, hb⟩
    have HSx : St w noF [⟨g1, 27, bs b⟩, ⟨g2, 25, labCells lab0⟩] W4 := HS.same hb
    clear HS hb HC; have HS := HSx; clear HSx
    go_upto_region 4 with (first | ((with_reducible refine wpList_plain ?_ ?_); exact rfl; intro KK hKK; refine wp_st_alloc HS 54 (bs (zer 30)) rfl (.agg (bs (zer 30))) (by kernel_rfl) (rfl) (fun g4 W5 HSx => hKK _ _ ?_); clear hKK KK HS; have HS : St w noF [⟨g1, 27, bs b⟩, ⟨g2, 25, labCells lab0⟩, ⟨g4, 54, bs (zer 30)⟩] W5 := HSx; clear HSx) | ((with_reducible refine wpList_plain ?_ ?_); exact rfl; intro KK hKK; refine wp_st_store HS 2 0 54 (.tmp 4) (.tmp 14) rfl rfl rfl (.agg (bs R)) rfl (by exact by rw [show Value.cells (.agg (bs R)) = bs R from rfl, size_bs, HRL.out]; exact size_sec) (by rw [Nat.zero_add]; exact Nat.le_of_eq (Eq.symm (show (bs (zer 30)).size = (bs R).size by rw [size_bs, size_bs, HRL.out, length_zer]))) (by first | exact one_bs _ | exact one_lab _) (bs R) (spl_agg _ _ _ rfl (show (bs (zer 30)).size = (bs R).size by rw [size_bs, size_bs, HRL.out, length_zer])) (fun W6 HSx => hKK _ _ ?_); clear hKK KK HS; have HS : St w noF [⟨g1, 27, bs b⟩, ⟨g2, 25, labCells lab0⟩, ⟨g4, 54, bs R⟩] W6 := HSx; clear HSx))
    have hc := (HS.row 2 rfl).get HR0.out
    clear HR0
    go_upto_region 6 with fail
    clear hc
    go_wp2_with (first | ((with_reducible refine wpList_plain ?_ ?_); exact rfl; intro KK hKK; refine wp_st_load HS 2 1 52 (.tmp 24) rfl rfl rfl (bs B) (HTK.out) _ Try.underlying52 rfl (by rw [size_bs, HB29.out]; exact size_29) (hKK _ _ ?_); clear hKK KK))
    refine (HFB.out _).mono ?_
    rintro e W7 ⟨rfl, hb⟩
    have HSx : St w noF [⟨g1, 27, bs b⟩, ⟨g2, 25, labCells lab0⟩, ⟨g4, 54, bs R⟩] W7 := HS.same hb
    clear HS hb HFB; have HS := HSx; clear HSx
    go_upto_region 7 with (first | ((with_reducible refine wpList_plain ?_ ?_); exact rfl; intro KK hKK; refine wp_st_alloc HS 25 (labCells lab0) rfl (.agg (labCells lab0)) (by kernel_rfl) (rfl) (fun g6 W8 HSx => hKK _ _ ?_); clear hKK KK HS; have HS : St w noF [⟨g1, 27, bs b⟩, ⟨g2, 25, labCells lab0⟩, ⟨g4, 54, bs R⟩, ⟨g6, 25, labCells lab0⟩] W8 := HSx; clear HSx) | ((with_reducible refine wpList_plain ?_ ?_); exact rfl; intro KK hKK; refine wp_st_store HS 3 0 25 (.tmp 6) (.tmp 26) rfl rfl rfl (.agg (labCells M)) rfl (by exact size_lab) (by rw [Nat.zero_add]; exact Nat.le_of_eq (Eq.symm (rfl))) (by first | exact one_bs _ | exact one_lab _) (labCells M) (spl_agg _ _ _ rfl (rfl)) (fun W9 HSx => hKK _ _ ?_); clear hKK KK HS; have HS : St w noF [⟨g1, 27, bs b⟩, ⟨g2, 25, labCells lab0⟩, ⟨g4, 54, bs R⟩, ⟨g6, 25, labCells M⟩] W9 := HSx; clear HSx))
    have hF0 : Wl [fun W => St w noF [⟨g1, 27, bs b⟩, ⟨g2, 25, labCells lab0⟩, ⟨g4, 54, bs R⟩, ⟨g6, 25, labCells M⟩] W] 0 W9.drew := HS.drew
    clear HS
    refine wp_region_phs [is (.agg (labCells M)), is (.agg (bs (body29 M))), is (.pointer (some ⟨g4, 1, none⟩)), is (.agg (bs B)), is (.bool false)] [true, true, true, true, true] [(fun W => St w noF [⟨g1, 27, bs b⟩, ⟨g2, 25, labCells lab0⟩, ⟨g4, 54, bs R⟩, ⟨g6, 25, labCells M⟩] W)] [false, false, false, false, false] [some 0, some 0, some 0, some 0, some 0] [some 27, some 28, some 29, some 30, some 31] 5 0 (fun _ => true) rfl rfl (by kernel_rfl) (by kernel_rfl) (by kernel_rfl) (by kernel_rfl) ?_ ?_ ?_ ?_ ?_ ?_
    · repeat first | exact wok_nil | refine wok_cons (by first | exact fun _ _ h k => h.same k) ?_
    · repeat first | exact vok_nil | refine vok_rig (by first | exact fun _ _ _ h => h) ?_ | refine vok_soft (by first | exact fun _ _ _ h _ => h) ?_
    · exact hF0
    · repeat first | exact all_end (by decide) | refine all_cons (by first | exact rfl | exact ⟨rfl, fun _ _ h => Or.inl h⟩ | exact ⟨rfl, fun _ _ h => Or.inr ⟨h, rfl⟩⟩) ?_
    · refine allp_mild 0 rfl rfl rfl (fun a x W hout hin hP => ?_) ?_
      · have e6 : a.tmps[6]? = some (.pointer (some ⟨g6, 0, none⟩)) := (hout 6 (by kernel_rfl)).trans rfl
        clear hin hout
        intro K Q hK
        exact wp_st_load hP 3 0 25 (.tmp 6) rfl rfl (eval_of_get e6) (labCells M) (slab_whole _) _ Try.underlying25 rfl size_lab (hK _ _ ⟨Same.refl _, rfl⟩)
      refine allp_mild 0 rfl rfl rfl (fun a x W hout hin hP => ?_) ?_
      · have e27 := hin.is 0 27 (by kernel_rfl) (by decide) (by kernel_rfl) (by kernel_rfl) _ rfl
        have C := bodyof_any M W
        clear hP
        clear hin hout
        intro K Q hK
        go_simp
        refine C.mono ?_
        rintro e W' ⟨rfl, hb⟩
        exact hK _ _ ⟨hb, rfl⟩
      refine allp_mild 0 rfl rfl rfl (fun a x W hout hin hP => ?_) ?_
      · have e4 : a.tmps[4]? = some (.pointer (some ⟨g4, 0, none⟩)) := (hout 4 (by kernel_rfl)).trans rfl
        clear hin hout
        intro K Q hK
        go_simp
        exact hK _ _ ⟨Same.refl _, rfl⟩
      refine allp_mild 0 rfl rfl rfl (fun a x W hout hin hP => ?_) ?_
      · have e29 := hin.is 2 29 (by kernel_rfl) (by decide) (by kernel_rfl) (by kernel_rfl) _ rfl
        clear hin hout
        intro K Q hK
        exact wp_st_load hP 2 1 52 (.tmp 29) rfl rfl (eval_of_get e29) (bs B) HTK.out _ Try.underlying52 rfl (by rw [size_bs, HB29.out]; exact size_29) (hK _ _ ⟨Same.refl _, rfl⟩)
      refine allp_mild 0 rfl rfl rfl (fun a x W hout hin hP => ?_) ?_
      · have e28 := hin.is 1 28 (by kernel_rfl) (by decide) (by kernel_rfl) (by kernel_rfl) _ rfl
        have e30 := hin.is 3 30 (by kernel_rfl) (by decide) (by kernel_rfl) (by kernel_rfl) _ rfl
        have q := HQE.out W
        clear hP
        clear hin hout
        intro K Q hK
        go_simp
        exact hK _ _ ⟨Same.refl _, rfl⟩
      exact all_end (by decide)
    · intro x V hP hV
      have HS : St w noF [⟨g1, 27, bs b⟩, ⟨g2, 25, labCells lab0⟩, ⟨g4, 54, bs R⟩, ⟨g6, 25, labCells M⟩] V := hP
      have h4 : x 4 = .bool false := hV 4 (by decide) (.inl (by kernel_rfl))
      clear hP hV
      simp only [putL, Act.put, List.setIfInBounds_toArray, List.set_cons_succ, List.set_cons_zero, h4]
      refine wpAnyH_done (by kernel_rfl) ?_ _
      clear h4
      go_wp2_with (first | ((with_reducible refine wpList_plain ?_ ?_); exact rfl; intro KK hKK; refine wp_st_load HS 3 0 25 (.tmp 6) rfl rfl rfl (labCells M) (slab_whole _) _ Try.underlying25 rfl (size_lab) (hKK _ _ ?_); clear hKK KK) | ((with_reducible refine wpList_plain ?_ ?_); exact rfl; intro KK hKK; refine wp_st_store HS 1 0 25 (.tmp 2) (.tmp 33) rfl rfl rfl (.agg (labCells M)) rfl (by exact size_lab) (by rw [Nat.zero_add]; exact Nat.le_of_eq (Eq.symm (rfl))) (by first | exact one_bs _ | exact one_lab _) (labCells M) (spl_agg _ _ _ rfl (rfl)) (fun W21 HSx => hKK _ _ ?_); clear hKK KK HS; have HS : St w noF [⟨g1, 27, bs b⟩, ⟨g2, 25, labCells M⟩, ⟨g4, 54, bs R⟩, ⟨g6, 25, labCells M⟩] W21 := HSx; clear HSx))
      exact bodyPost_ret (v := .tuple #[.agg (labCells M), .int .i64 0]) (results_cell_tmp Try.results9 _ _ g2 25 (labCells M) (0, 0) _ rfl (HS.row 1 rfl) Try.underlying25 rfl size_lab) rfl ⟨HRES.out, HS.below⟩
end Go.Proofs.Ytnmnokipbbibiaa
