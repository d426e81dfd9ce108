/- A sector's bytes as a sealed sector; the program's sector of a mark and a body. -/
import Derived.Test.YtmghacgifokbhaaSealPrgH
set_option maxRecDepth 4000
namespace Go.Proofs.Ytmghacgifokbhaa
open Go Go.RowKit
attribute [local go_sem] convb_hd shl8_hd or_hd
theorem size_z31 (r : List (BitVec 8)) (c : BitVec 16) (h : r.length = 30) : (Try.prog.info? 70).map (·.size) = some (sld r c).size := by rw [size_sld31 h]; exact info_sld
theorem both_sld {r p : List (BitVec 8)} (c d : BitVec 16) (h : r.length = 30) (k : p.length = 30) : (sld r c).size = (sld p d).size := by rw [size_sld31 h, size_sld31 k]
theorem sld_put {r : List (BitVec 8)} (hr : r.length = 30) (c d : BitVec 16) : (sld r c).setIfInBounds 30 (.int .u16 (hd d)) = sld r d := by
  rw [← spl_at _ _ _ (by rw [size_sld31 hr]; decide)]; exact sld_set hr c d
set_option maxRecDepth 20000 in
set_option maxHeartbeats 600000 in
theorem fromblock_any (b : List (BitVec 8)) (w : World) (hb : b.length = 32) :
    Calls Try.prog 25 #[.agg (bs b)] w fun e w' => e = .returned (.agg (sld (b.take 30) (tailC b))) ∧ Below w.heap.size w w' := by
  have HBL := Lib.hid hb
  have HT30 : Hid ((b.take 30).length = 30) := Lib.hid (by simp [hb])
  have H0 : Hid ((bs b)[0]? = some (.int .u8 (bd (markOf b)))) := Lib.hid (get_bs b 0 (by omega))
  have H30 : Hid ((bs b)[30]? = some (.int .u8 (bd (b.getD 30 0#8)))) := Lib.hid (get_bs b 30 (by omega))
  have H31 : Hid ((bs b)[31]? = some (.int .u8 (bd (b.getD 31 0#8)))) := Lib.hid (get_bs b 31 (by omega))
  have HCP : Hid ((spl (sld (markOf b :: zer 29) 0#16).toList 1 (bytesV (bodyOf b))).toArray = sld (b.take 30) 0#16) := Lib.hid (by rw [sld_body (by rw [length_bodyOf hb]; exact Nat.le_refl _), take30 hb])
  have HC1 := Lib.hid (sld_put HT30.out 0#16 (tailC b))
  have HTC : Hid (hd (tailC b) = hd ((b.getD 30 0#8).setWidth 16 ||| ((b.getD 31 0#8).setWidth 16) <<< 8)) := Lib.hid rfl
  have ht := HTC.out.symm
  clear hb
  have HS := St.nil w noF
  go_enter Try.func25, Try.ntmps25
  go_upto_region 2 with (first | ((with_reducible refine wpList_plain ?_ ?_); exact rfl; intro KK hKK; refine wp_st_box HS 27 (.tmp 0) rfl _ rfl (bs b) (rfl) (fun g1 W1 HSx => hKK _ _ ?_); clear hKK KK HS; have HS : St w noF [⟨g1, 27, bs b⟩] W1 := HSx; clear HSx) | ((with_reducible refine wpList_plain ?_ ?_); exact rfl; intro KK hKK; refine wp_st_alloc HS 70 (sld (zer 30) 0#16) rfl (.agg (sld (zer 30) 0#16)) (by kernel_rfl) (rfl) (fun g2 W2 HSx => hKK _ _ ?_); clear hKK KK HS; have HS : St w noF [⟨g1, 27, bs b⟩, ⟨g2, 70, sld (zer 30) 0#16⟩] W2 := HSx; clear HSx) | ((with_reducible refine wpList_plain ?_ ?_); exact rfl; intro KK hKK; refine wp_st_get HS 0 0 5 (.tmp 4) rfl rfl rfl (.int .u8 (bd (markOf b))) (H0.out) _ Try.underlying5 rfl (hKK _ _ ?_); clear hKK KK) | ((with_reducible refine wpList_plain ?_ ?_); exact rfl; intro KK hKK; refine wp_st_alloc HS 70 (sld (zer 30) 0#16) rfl (.agg (sld (zer 30) 0#16)) (by kernel_rfl) (rfl) (fun g3 W3 HSx => hKK _ _ ?_); clear hKK KK HS; have HS : St w noF [⟨g1, 27, bs b⟩, ⟨g2, 70, sld (zer 30) 0#16⟩, ⟨g3, 70, sld (zer 30) 0#16⟩] W3 := HSx; clear HSx) | ((with_reducible refine wpList_plain ?_ ?_); exact rfl; intro KK hKK; refine wp_st_store HS 2 0 70 (.tmp 3) (.tmp 7) rfl rfl rfl (.agg #[.int .u8 (bd (markOf b)), .int .u8 0, .int .u8 0, .int .u8 0, .int .u8 0, .int .u8 0, .int .u8 0, .int .u8 0, .int .u8 0, .int .u8 0, .int .u8 0, .int .u8 0, .int .u8 0, .int .u8 0, .int .u8 0, .int .u8 0, .int .u8 0, .int .u8 0, .int .u8 0, .int .u8 0, .int .u8 0, .int .u8 0, .int .u8 0, .int .u8 0, .int .u8 0, .int .u8 0, .int .u8 0, .int .u8 0, .int .u8 0, .int .u8 0, .int .u16 0]) rfl (by exact info_sld) (by exact Nat.le_refl 31) (by exact one_sld ((markOf b) :: zer 29) 0#16) (sld ((markOf b) :: zer 29) 0#16) (spl_agg _ _ _ (sldm _) rfl) (fun W4 HSx => hKK _ _ ?_); clear hKK KK HS; have HS : St w noF [⟨g1, 27, bs b⟩, ⟨g2, 70, sld (zer 30) 0#16⟩, ⟨g3, 70, sld ((markOf b) :: zer 29) 0#16⟩] W4 := HSx; clear HSx))
  have hF0 : Wl [fun W => St w noF [⟨g1, 27, bs b⟩, ⟨g2, 70, sld (zer 30) 0#16⟩, ⟨g3, 70, sld ((markOf b) :: zer 29) 0#16⟩] W, fun W => St w noF [⟨g1, 27, bs b⟩, ⟨g2, 70, sld (zer 30) 0#16⟩, ⟨g3, 70, sld (b.take 30) 0#16⟩] W] 0 W4.drew := HS.drew
  clear HS
  refine wp_region_phs [is (.pointer (some ⟨g3, 0, none⟩)), is (.pointer (some ⟨g3, 1, none⟩)), is (.slice (some ⟨g3, 1, none⟩) 29 29), is (.slice (some ⟨g1, 1, none⟩) 29 31), anyV] [true, true, true, true, true] [(fun W => St w noF [⟨g1, 27, bs b⟩, ⟨g2, 70, sld (zer 30) 0#16⟩, ⟨g3, 70, sld ((markOf b) :: zer 29) 0#16⟩] W), (fun W => St w noF [⟨g1, 27, bs b⟩, ⟨g2, 70, sld (zer 30) 0#16⟩, ⟨g3, 70, sld (b.take 30) 0#16⟩] W)] [false, false, false, false, true] [some 0, some 0, some 0, some 0, some 0] [some 8, some 9, some 10, some 11, some 12] 5 1 (fun _ => true) rfl rfl (by kernel_rfl) (by kernel_rfl) (by kernel_rfl) (by kernel_rfl) ?_ ?_ ?_ ?_ ?_ ?_
  · repeat first | exact wok_nil | refine wok_cons (by first | exact fun _ _ h k => h.same k) ?_
  · repeat first | exact vok_nil | refine vok_rig (by first | exact fun _ _ _ h => h) ?_ | refine vok_soft (by first | exact fun _ _ _ h _ => h) ?_
  · exact hF0
  · repeat first | exact all_end (by decide) | refine all_cons (by first | exact rfl | exact ⟨rfl, fun _ _ h => Or.inl h⟩ | exact ⟨rfl, fun _ _ h => Or.inr ⟨h, rfl⟩⟩) ?_
  · refine allp_mild 0 rfl rfl rfl (fun a x W hout hin hP => ?_) ?_
    · have e3 : a.tmps[3]? = some (.pointer (some ⟨g3, 0, none⟩)) := (hout 3 (by kernel_rfl)).trans rfl
      clear hin hout
      intro K Q hK
      go_simp
      exact hK _ _ ⟨Same.refl _, rfl⟩
    refine allp_mild 0 rfl rfl rfl (fun a x W hout hin hP => ?_) ?_
    · have e8 := hin.is 0 8 (by kernel_rfl) (by decide) (by kernel_rfl) (by kernel_rfl) _ rfl
      clear hin hout
      intro K Q hK
      go_simp
      exact hK _ _ ⟨Same.refl _, rfl⟩
    refine allp_mild 0 rfl rfl rfl (fun a x W hout hin hP => ?_) ?_
    · have e9 := hin.is 1 9 (by kernel_rfl) (by decide) (by kernel_rfl) (by kernel_rfl) _ rfl
      clear hin hout
      intro K Q hK
      go_simp
      exact hK _ _ ⟨Same.refl _, rfl⟩
    refine allp_mild 0 rfl rfl rfl (fun a x W hout hin hP => ?_) ?_
    · have e1 : a.tmps[1]? = some (.pointer (some ⟨g1, 0, none⟩)) := (hout 1 (by kernel_rfl)).trans rfl
      clear hin hout
      intro K Q hK
      go_simp
      exact hK _ _ ⟨Same.refl _, rfl⟩
    refine allp_wild 0 rfl rfl rfl (fun a x W hout hin hP => ?_) ?_
    · have e10 := hin.is 2 10 (by kernel_rfl) (by decide) (by kernel_rfl) (by kernel_rfl) _ rfl
      have e11 := hin.is 3 11 (by kernel_rfl) (by decide) (by kernel_rfl) (by kernel_rfl) _ rfl
      clear hin hout
      intro K Q hK
      have sq : Slice W (.slice (some ⟨g1, 1, none⟩) 29 31) (bodyOf b) := row_piece (hP.row 0 rfl) (by rw [HBL.out]; decide) (by decide)
      refine wp_copy_any (.tmp 10) (.tmp 11) rfl g3 1 29 29 (eval_of_get e10) _ (eval_of_get e11) (bodyOf b) sq 70 _ (hP.row 2 rfl) (by rw [size_sld31 (by rfl), length_bodyOf HBL.out]; decide) (by rw [length_bodyOf HBL.out]; exact Nat.le_refl _) ?_
      intro W' r5 hg
      rw [HCP.out] at r5
      exact hK _ _ ⟨hP.upd 2 rfl r5 hg, trivial⟩
    exact all_end (by decide)
  · intro x W hP hV
    clear hV
    have HS : St w noF [⟨g1, 27, bs b⟩, ⟨g2, 70, sld (zer 30) 0#16⟩, ⟨g3, 70, sld (b.take 30) 0#16⟩] W := hP
    clear hP
    simp only [putL, Act.put, List.setIfInBounds_toArray, List.set_cons_succ, List.set_cons_zero]
    refine wpAnyH_done (by kernel_rfl) ?_ _
    go_wp2_with (first | ((with_reducible refine wpList_plain ?_ ?_); exact rfl; intro KK hKK; refine wp_st_get HS 0 30 5 (.tmp 13) rfl rfl rfl (.int .u8 (bd (b.getD 30 0#8))) (H30.out) _ Try.underlying5 rfl (hKK _ _ ?_); clear hKK KK) | ((with_reducible refine wpList_plain ?_ ?_); exact rfl; intro KK hKK; refine wp_st_get HS 0 31 5 (.tmp 16) rfl rfl rfl (.int .u8 (bd (b.getD 31 0#8))) (H31.out) _ Try.underlying5 rfl (hKK _ _ ?_); clear hKK KK) | ((with_reducible refine wpList_plain ?_ ?_); exact rfl; intro KK hKK; refine wp_st_put HS 2 30 23 (.tmp 21) (.tmp 20) rfl rfl rfl (.int .u16 (hd (tailC b))) rfl (by kernel_rfl) rfl rfl (by rw [size_sld31 HT30.out]; decide) (sld (b.take 30) (tailC b)) (HC1.out) (fun W5 HSx => hKK _ _ ?_); clear hKK KK HS; have HS : St w noF [⟨g1, 27, bs b⟩, ⟨g2, 70, sld (zer 30) 0#16⟩, ⟨g3, 70, sld (b.take 30) (tailC b)⟩] W5 := HSx; clear HSx) | ((with_reducible refine wpList_plain ?_ ?_); exact rfl; intro KK hKK; refine wp_st_load HS 2 0 70 (.tmp 3) rfl rfl rfl (sld (b.take 30) (tailC b)) (slab_whole _) _ Try.underlying70 rfl (size_z31 _ _ HT30.out) (hKK _ _ ?_); clear hKK KK) | ((with_reducible refine wpList_plain ?_ ?_); exact rfl; intro KK hKK; refine wp_st_store HS 1 0 70 (.tmp 2) (.tmp 22) rfl rfl rfl (.agg (sld (b.take 30) (tailC b))) rfl (by exact size_z31 (b.take 30) (tailC b) HT30.out) (by rw [Nat.zero_add]; exact Nat.le_of_eq (Eq.symm (both_sld (r := zer 30) (p := b.take 30) 0#16 (tailC b) rfl HT30.out))) (by first | exact one_bs _ | exact one_sld _ _) (sld (b.take 30) (tailC b)) (spl_agg _ _ _ rfl (both_sld (r := zer 30) (p := b.take 30) 0#16 (tailC b) rfl HT30.out)) (fun W6 HSx => hKK _ _ ?_); clear hKK KK HS; have HS : St w noF [⟨g1, 27, bs b⟩, ⟨g2, 70, sld (b.take 30) (tailC b)⟩, ⟨g3, 70, sld (b.take 30) (tailC b)⟩] W6 := HSx; clear HSx))
    exact bodyPost_ret (v := .agg (sld (b.take 30) (tailC b))) (results_cell_row Try.results25 _ _ g2 70 (sld (b.take 30) (tailC b)) (0, 0) _ rfl (HS.row 1 rfl) Try.underlying70 rfl (size_z31 _ _ HT30.out)) rfl ⟨rfl, HS.below⟩
set_option maxRecDepth 20000 in
set_option maxHeartbeats 600000 in
theorem prgenc_any (m : BitVec 8) (q : List (BitVec 8)) (v : Value) (w : World) (hv : Item w v q) :
    Calls Try.prog 21 #[.int .u8 (bd m), v] w fun e w' => e = .returned (.tuple #[.agg (bs (encB m q)), .int .i64 (encE m q)]) ∧ Below w.heap.size w w' := by
  obtain ⟨A, c, rfl, hS, hA, hm⟩ := hv
  obtain ⟨n, hn⟩ : ∃ n, q.length = n := ⟨_, rfl⟩
  have HN := Lib.hid hn
  have hz := zeros_blk
  have hB : encBad m q = (decide (m = 0#8) || decide (29 < q.length)) := rfl
  have HS := St.nil w noF
  rw [hn] at hB hS hm ⊢
  by_cases h0 : m = 0#8
  · have hbad : encBad m q = true := by rw [hB, decide_eq_true h0]; rfl
    have hq0 : (bd m == 0) = true := by rw [bd_zero_iff, decide_eq_true h0]
    clear hn h0
    have e1 := Lib.hid (encB_bad hbad)
    have e2 := Lib.hid (encE_bad hbad)
    clear hbad hB hA hm hS
    go_enter Try.func21, Try.ntmps21
    go_wp2_with (first | ((with_reducible refine wpList_plain ?_ ?_); exact rfl; intro KK hKK; refine wp_st_alloc HS 27 (bs (blk 0#8)) rfl (.agg (bs (blk 0#8))) (by kernel_rfl) (rfl) (fun g4 W1 HSx => hKK _ _ ?_); clear hKK KK HS; have HS : St w noF [⟨g4, 27, bs (blk 0#8)⟩] W1 := HSx; clear HSx) | ((with_reducible refine wpList_plain ?_ ?_); exact rfl; intro KK hKK; refine wp_st_alloc HS 70 (sld (zer 30) 0#16) rfl (.agg (sld (zer 30) 0#16)) (by kernel_rfl) (rfl) (fun g6 W2 HSx => hKK _ _ ?_); clear hKK KK HS; have HS : St w noF [⟨g4, 27, bs (blk 0#8)⟩, ⟨g6, 70, sld (zer 30) 0#16⟩] W2 := HSx; clear HSx) | ((with_reducible refine wpList_plain ?_ ?_); exact rfl; intro KK hKK; refine wp_st_store HS 1 0 70 (.tmp 6) (.tmp 9) rfl rfl rfl (.agg #[.int .u8 (bd m), .int .u8 0, .int .u8 0, .int .u8 0, .int .u8 0, .int .u8 0, .int .u8 0, .int .u8 0, .int .u8 0, .int .u8 0, .int .u8 0, .int .u8 0, .int .u8 0, .int .u8 0, .int .u8 0, .int .u8 0, .int .u8 0, .int .u8 0, .int .u8 0, .int .u8 0, .int .u8 0, .int .u8 0, .int .u8 0, .int .u8 0, .int .u8 0, .int .u8 0, .int .u8 0, .int .u8 0, .int .u8 0, .int .u8 0, .int .u16 0]) rfl (by exact info_sld) (by exact Nat.le_refl 31) (by exact one_sld (m :: zer 29) 0#16) (sld (m :: zer 29) 0#16) (spl_agg _ _ _ (sldm _) rfl) (fun W3 HSx => hKK _ _ ?_); clear hKK KK HS; have HS : St w noF [⟨g4, 27, bs (blk 0#8)⟩, ⟨g6, 70, sld (m :: zer 29) 0#16⟩] W3 := HSx; clear HSx) | ((with_reducible refine wpList_plain ?_ ?_); exact rfl; intro KK hKK; refine wp_st_store HS 0 0 27 (.tmp 4) (.tmp 17) rfl rfl rfl (.agg (bs (blk 0#8))) rfl (by exact by rw [show Value.cells (.agg (bs (blk 0#8))) = bs (blk 0#8) from rfl, size_bs, length_blk]; exact size_blk) (by rw [Nat.zero_add]; exact Nat.le_of_eq (Eq.symm (rfl))) (by first | exact one_bs _ | exact one_sld _ _) (bs (blk 0#8)) (spl_agg _ _ _ rfl (rfl)) (fun W4 HSx => hKK _ _ ?_); clear hKK KK HS; have HS : St w noF [⟨g4, 27, bs (blk 0#8)⟩, ⟨g6, 70, sld (m :: zer 29) 0#16⟩] W4 := HSx; clear HSx))
    exact bodyPost_ret (v := .tuple #[.agg (bs (blk 0#8)), .int .i64 1]) (results_cell_tmp Try.results21 _ _ g4 27 (bs (blk 0#8)) (0, 0) _ rfl (HS.row 0 rfl) Try.underlying27 rfl (by rw [size_bs, length_blk]; exact size_blk)) rfl ⟨by rw [e1.out, e2.out], HS.below⟩
  by_cases h29 : 29 < n
  · have hbad : encBad m q = true := by rw [hB, decide_eq_true h29, Bool.or_true]
    have hq0 : (bd m == 0) = false := by rw [bd_zero_iff, decide_eq_false h0]
    have hq2 : decide ((29 : Int) < (n : Int)) = true := decide_eq_true (by omega)
    clear hn h0 h29
    have e1 := Lib.hid (encB_bad hbad)
    have e2 := Lib.hid (encE_bad hbad)
    clear hbad hB hA hm hS
    go_enter Try.func21, Try.ntmps21
    go_wp2_with (first | ((with_reducible refine wpList_plain ?_ ?_); exact rfl; intro KK hKK; refine wp_st_alloc HS 27 (bs (blk 0#8)) rfl (.agg (bs (blk 0#8))) (by kernel_rfl) (rfl) (fun g4 W1 HSx => hKK _ _ ?_); clear hKK KK HS; have HS : St w noF [⟨g4, 27, bs (blk 0#8)⟩] W1 := HSx; clear HSx) | ((with_reducible refine wpList_plain ?_ ?_); exact rfl; intro KK hKK; refine wp_st_alloc HS 70 (sld (zer 30) 0#16) rfl (.agg (sld (zer 30) 0#16)) (by kernel_rfl) (rfl) (fun g6 W2 HSx => hKK _ _ ?_); clear hKK KK HS; have HS : St w noF [⟨g4, 27, bs (blk 0#8)⟩, ⟨g6, 70, sld (zer 30) 0#16⟩] W2 := HSx; clear HSx) | ((with_reducible refine wpList_plain ?_ ?_); exact rfl; intro KK hKK; refine wp_st_store HS 1 0 70 (.tmp 6) (.tmp 9) rfl rfl rfl (.agg #[.int .u8 (bd m), .int .u8 0, .int .u8 0, .int .u8 0, .int .u8 0, .int .u8 0, .int .u8 0, .int .u8 0, .int .u8 0, .int .u8 0, .int .u8 0, .int .u8 0, .int .u8 0, .int .u8 0, .int .u8 0, .int .u8 0, .int .u8 0, .int .u8 0, .int .u8 0, .int .u8 0, .int .u8 0, .int .u8 0, .int .u8 0, .int .u8 0, .int .u8 0, .int .u8 0, .int .u8 0, .int .u8 0, .int .u8 0, .int .u8 0, .int .u16 0]) rfl (by exact info_sld) (by exact Nat.le_refl 31) (by exact one_sld (m :: zer 29) 0#16) (sld (m :: zer 29) 0#16) (spl_agg _ _ _ (sldm _) rfl) (fun W3 HSx => hKK _ _ ?_); clear hKK KK HS; have HS : St w noF [⟨g4, 27, bs (blk 0#8)⟩, ⟨g6, 70, sld (m :: zer 29) 0#16⟩] W3 := HSx; clear HSx) | ((with_reducible refine wpList_plain ?_ ?_); exact rfl; intro KK hKK; refine wp_st_store HS 0 0 27 (.tmp 4) (.tmp 17) rfl rfl rfl (.agg (bs (blk 0#8))) rfl (by exact by rw [show Value.cells (.agg (bs (blk 0#8))) = bs (blk 0#8) from rfl, size_bs, length_blk]; exact size_blk) (by rw [Nat.zero_add]; exact Nat.le_of_eq (Eq.symm (rfl))) (by first | exact one_bs _ | exact one_sld _ _) (bs (blk 0#8)) (spl_agg _ _ _ rfl (rfl)) (fun W4 HSx => hKK _ _ ?_); clear hKK KK HS; have HS : St w noF [⟨g4, 27, bs (blk 0#8)⟩, ⟨g6, 70, sld (m :: zer 29) 0#16⟩] W4 := HSx; clear HSx))
    exact bodyPost_ret (v := .tuple #[.agg (bs (blk 0#8)), .int .i64 1]) (results_cell_tmp Try.results21 _ _ g4 27 (bs (blk 0#8)) (0, 0) _ rfl (HS.row 0 rfl) Try.underlying27 rfl (by rw [size_bs, length_blk]; exact size_blk)) rfl ⟨by rw [e1.out, e2.out], HS.below⟩
  have hgood : encBad m q = false := by rw [hB, decide_eq_false h0, decide_eq_false h29]; rfl
  have HEB := Lib.hid (encB_good hgood)
  have HEE := Lib.hid (encE_good hgood)
  have hq29 : q.length ≤ 29 := by omega
  have HP30 : Hid ((pad30 m q).length = 30) := Lib.hid (length_pad30 hq29)
  have HS32 : Hid ((sealedB m q).length = 32) := Lib.hid (length_sealedB hq29)
  have HPUT := Lib.hid (sld_body (m := m) hq29 0#16)
  have HC1 := Lib.hid (sld_put HP30.out 0#16 (crcOf (pad30 m q)))
  have HSD : Hid (pad30 m q ++ [(crcOf (pad30 m q)).setWidth 8, ((crcOf (pad30 m q)) >>> 8).setWidth 8] = sealedB m q) := Lib.hid rfl
  have hq0 : (bd m == 0) = false := by rw [bd_zero_iff, decide_eq_false h0]
  have hq2 : decide ((29 : Int) < (n : Int)) = false := decide_eq_false (by omega)
  have hn29 : n ≤ 29 := by omega
  have HSw := Lib.hid hS
  clear hn h0 h29 hgood hB hA hm hS hq29
  go_enter Try.func21, Try.ntmps21
  go_upto_region 4 with (first | ((with_reducible refine wpList_plain ?_ ?_); exact rfl; intro KK hKK; refine wp_st_alloc HS 27 (bs (blk 0#8)) rfl (.agg (bs (blk 0#8))) (by kernel_rfl) (rfl) (fun g4 W1 HSx => hKK _ _ ?_); clear hKK KK HS; have HS : St w noF [⟨g4, 27, bs (blk 0#8)⟩] W1 := HSx; clear HSx) | ((with_reducible refine wpList_plain ?_ ?_); exact rfl; intro KK hKK; refine wp_st_alloc HS 70 (sld (zer 30) 0#16) rfl (.agg (sld (zer 30) 0#16)) (by kernel_rfl) (rfl) (fun g6 W2 HSx => hKK _ _ ?_); clear hKK KK HS; have HS : St w noF [⟨g4, 27, bs (blk 0#8)⟩, ⟨g6, 70, sld (zer 30) 0#16⟩] W2 := HSx; clear HSx) | ((with_reducible refine wpList_plain ?_ ?_); exact rfl; intro KK hKK; refine wp_st_store HS 1 0 70 (.tmp 6) (.tmp 9) rfl rfl rfl (.agg #[.int .u8 (bd m), .int .u8 0, .int .u8 0, .int .u8 0, .int .u8 0, .int .u8 0, .int .u8 0, .int .u8 0, .int .u8 0, .int .u8 0, .int .u8 0, .int .u8 0, .int .u8 0, .int .u8 0, .int .u8 0, .int .u8 0, .int .u8 0, .int .u8 0, .int .u8 0, .int .u8 0, .int .u8 0, .int .u8 0, .int .u8 0, .int .u8 0, .int .u8 0, .int .u8 0, .int .u8 0, .int .u8 0, .int .u8 0, .int .u8 0, .int .u16 0]) rfl (by exact info_sld) (by exact Nat.le_refl 31) (by exact one_sld (m :: zer 29) 0#16) (sld (m :: zer 29) 0#16) (spl_agg _ _ _ (sldm _) rfl) (fun W3 HSx => hKK _ _ ?_); clear hKK KK HS; have HS : St w noF [⟨g4, 27, bs (blk 0#8)⟩, ⟨g6, 70, sld (m :: zer 29) 0#16⟩] W3 := HSx; clear HSx))
  clear hq0 hq2
  have HS2 := Lib.hid (Slice.below HSw.out HS.below (Nat.le_refl _))
  go_wp2_with (first | (refine wpList_copy_any rfl (.tmp 20) (.tmp 21) rfl g6 1 29 29 rfl (.slice A n c) rfl q HS2.out 70 _ (HS.row 1 rfl) (by rw [size_sld31 (by rfl), HN.out]; omega) (by rw [HN.out]; exact hn29) ?_; intro W4 r6 hg; rw [HPUT.out] at r6; have HSx : St w noF [⟨g4, 27, bs (blk 0#8)⟩, ⟨g6, 70, sld (pad30 m q) 0#16⟩] W4 := HS.upd 1 rfl r6 hg; clear HS HS2 r6 hg; have HS := HSx; clear HSx) | (first | ((with_reducible refine wpList_plain ?_ ?_); exact rfl; intro KK hKK; refine wp_st_load HS 1 0 54 (.tmp 23) rfl rfl rfl (bs (pad30 m q)) (sld_take _ _) _ Try.underlying54 rfl (by rw [size_bs, HP30.out]; exact size_sec) (hKK _ _ ?_); clear hKK KK)))
  refine (right_any (pad30 m q) _ HP30.out).mono ?_
  rintro e W5 ⟨rfl, hb⟩
  have HSx : St w noF [⟨g4, 27, bs (blk 0#8)⟩, ⟨g6, 70, sld (pad30 m q) 0#16⟩] W5 := HS.same hb
  clear HS hb; have HS := HSx; clear HSx
  go_wp2_with (first | ((with_reducible refine wpList_plain ?_ ?_); exact rfl; intro KK hKK; refine wp_st_put HS 1 30 23 (.tmp 26) (.tmp 25) rfl rfl rfl (.int .u16 (hd (crcOf (pad30 m q)))) rfl (by kernel_rfl) rfl rfl (by rw [size_sld31 HP30.out]; decide) (sld (pad30 m q) (crcOf (pad30 m q))) (HC1.out) (fun W6 HSx => hKK _ _ ?_); clear hKK KK HS; have HS : St w noF [⟨g4, 27, bs (blk 0#8)⟩, ⟨g6, 70, sld (pad30 m q) (crcOf (pad30 m q))⟩] W6 := HSx; clear HSx) | ((with_reducible refine wpList_plain ?_ ?_); exact rfl; intro KK hKK; refine wp_st_load HS 1 0 70 (.tmp 6) rfl rfl rfl (sld (pad30 m q) (crcOf (pad30 m q))) (slab_whole _) _ Try.underlying70 rfl (size_z31 _ _ HP30.out) (hKK _ _ ?_); clear hKK KK))
  refine (block_any (pad30 m q) (crcOf (pad30 m q)) _ HP30.out).mono ?_
  rintro e W7 ⟨rfl, hb⟩
  rw [HSD.out]
  have HSx : St w noF [⟨g4, 27, bs (blk 0#8)⟩, ⟨g6, 70, sld (pad30 m q) (crcOf (pad30 m q))⟩] W7 := HS.same hb
  clear HS hb; have HS := HSx; clear HSx
  go_wp2_with (first | ((with_reducible refine wpList_plain ?_ ?_); exact rfl; intro KK hKK; refine wp_st_store HS 0 0 27 (.tmp 4) (.tmp 28) rfl rfl rfl (.agg (bs (sealedB m q))) rfl (by exact by rw [show Value.cells (.agg (bs (sealedB m q))) = bs (sealedB m q) from rfl, size_bs, HS32.out]; exact size_blk) (by rw [Nat.zero_add]; exact Nat.le_of_eq (Eq.symm (show (bs (blk 0#8)).size = (bs (sealedB m q)).size by rw [size_bs, size_bs, HS32.out, length_blk]))) (by first | exact one_bs _ | exact one_sld _ _) (bs (sealedB m q)) (spl_agg _ _ _ rfl (show (bs (blk 0#8)).size = (bs (sealedB m q)).size by rw [size_bs, size_bs, HS32.out, length_blk])) (fun W8 HSx => hKK _ _ ?_); clear hKK KK HS; have HS : St w noF [⟨g4, 27, bs (sealedB m q)⟩, ⟨g6, 70, sld (pad30 m q) (crcOf (pad30 m q))⟩] W8 := HSx; clear HSx))
  exact bodyPost_ret (v := .tuple #[.agg (bs (sealedB m q)), .int .i64 0]) (results_cell_tmp Try.results21 _ _ g4 27 (bs (sealedB m q)) (0, 0) _ rfl (HS.row 0 rfl) Try.underlying27 rfl (by rw [size_bs, HS32.out]; exact size_blk)) rfl ⟨by rw [HEB.out, HEE.out], HS.below⟩
end Go.Proofs.Ytmghacgifokbhaa
