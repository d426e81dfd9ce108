/- The program's mark and body of a sector; its contracts together. -/
import Derived.Test.YtmghacgifokbhaaSealPrgE
set_option maxRecDepth 4000
namespace Go.Proofs.Ytmghacgifokbhaa
open Go Go.RowKit
theorem zeros_sec : (#[.int .u8 0, .int .u8 0, .int .u8 0, .int .u8 0, .int .u8 0, .int .u8 0, .int .u8 0, .int .u8 0, .int .u8 0, .int .u8 0, .int .u8 0, .int .u8 0, .int .u8 0, .int .u8 0, .int .u8 0, .int .u8 0, .int .u8 0, .int .u8 0, .int .u8 0, .int .u8 0, .int .u8 0, .int .u8 0, .int .u8 0, .int .u8 0, .int .u8 0, .int .u8 0, .int .u8 0, .int .u8 0, .int .u8 0, .int .u8 0] : Array Value) = bs (zer 30) := by rfl
theorem hd_ne (x y : BitVec 16) : (hd x != hd y) = !decide (x = y) := by
  by_cases h : x = y
  · subst h; simp
  · rw [decide_eq_false h]; simp; exact fun e => h (hd_inj e)
set_option maxRecDepth 20000 in
set_option maxHeartbeats 600000 in
theorem prgdec_any (b : List (BitVec 8)) (w : World) (hb : b.length = 32) :
    Calls Try.prog 17 #[.agg (bs b)] w fun e w' => e = .returned (.tuple #[.agg (bs (decR b)), .int .i64 (decE b)]) ∧ Below w.heap.size w w' := by
  have HBL := Lib.hid hb
  have HT30 : Hid ((b.take 30).length = 30) := Lib.hid (by simp [hb])
  have H0 : Hid ((sld (b.take 30) (tailC b))[0]? = some (.int .u8 (bd (markOf b)))) := Lib.hid (sld_low _ (by rw [HT30.out]; decide) (by
    cases b with
    | nil => simp at hb
    | cons x b => rfl))
  have HT : Hid ((sld (b.take 30) (tailC b))[30]? = some (.int .u16 (hd (tailC b)))) := Lib.hid (sld_top _ HT30.out)
  have HZ := Lib.hid zeros_sec
  have hdk := decOk_tail hb
  have HR : Hid (decOk b = true → decR b = b.take 30) := Lib.hid (fun h => by unfold decR; rw [if_pos h])
  have HE : Hid (decOk b = true → decE b = 0) := Lib.hid (fun h => by unfold decE; rw [if_pos h])
  have HFB := Lib.hid (fun W => fromblock_any b W hb)
  clear hb
  have HS := St.nil w noF
  go_enter Try.func17, Try.ntmps17
  go_wp2_with (first | ((with_reducible refine wpList_plain ?_ ?_); exact rfl; intro KK hKK; refine wp_st_box HS 27 (.tmp 0) rfl _ rfl (bs b) (rfl) (fun g1 W1 HSx => hKK _ _ ?_); clear hKK KK HS; have HS : St w noF [⟨g1, 27, bs b⟩] W1 := HSx; clear HSx) | ((with_reducible refine wpList_plain ?_ ?_); exact rfl; intro KK hKK; refine wp_st_alloc HS 54 (bs (zer 30)) rfl (.agg (bs (zer 30))) (by kernel_rfl) (rfl) (fun g2 W2 HSx => hKK _ _ ?_); clear hKK KK HS; have HS : St w noF [⟨g1, 27, bs b⟩, ⟨g2, 54, bs (zer 30)⟩] W2 := HSx; clear HSx) | ((with_reducible refine wpList_plain ?_ ?_); exact rfl; intro KK hKK; refine wp_st_load HS 0 0 27 (.tmp 1) rfl rfl rfl (bs b) (slab_whole _) _ Try.underlying27 rfl (by rw [size_bs, HBL.out]; exact size_blk) (hKK _ _ ?_); clear hKK KK))
  refine (HFB.out _).mono ?_
  rintro e W3 ⟨rfl, hb⟩
  have HSx : St w noF [⟨g1, 27, bs b⟩, ⟨g2, 54, bs (zer 30)⟩] W3 := HS.same hb
  clear HS hb HFB; have HS := HSx; clear HSx
  go_upto_region 2 with (first | ((with_reducible refine wpList_plain ?_ ?_); exact rfl; intro KK hKK; refine wp_st_alloc HS 70 (sld (zer 30) 0#16) rfl (.agg (sld (zer 30) 0#16)) (by kernel_rfl) (rfl) (fun g4 W4 HSx => hKK _ _ ?_); clear hKK KK HS; have HS : St w noF [⟨g1, 27, bs b⟩, ⟨g2, 54, bs (zer 30)⟩, ⟨g4, 70, sld (zer 30) 0#16⟩] W4 := HSx; clear HSx) | ((with_reducible refine wpList_plain ?_ ?_); exact rfl; intro KK hKK; refine wp_st_store HS 2 0 70 (.tmp 4) (.tmp 6) rfl rfl rfl (.agg (sld (b.take 30) (tailC b))) rfl (by exact size_z31 (b.take 30) (tailC b) HT30.out) (by rw [Nat.zero_add]; exact Nat.le_of_eq (Eq.symm (both_sld (r := zer 30) (p := b.take 30) 0#16 (tailC b) rfl HT30.out))) (by first | exact one_bs _ | exact one_sld _ _) (sld (b.take 30) (tailC b)) (spl_agg _ _ _ rfl (both_sld (r := zer 30) (p := b.take 30) 0#16 (tailC b) rfl HT30.out)) (fun W5 HSx => hKK _ _ ?_); clear hKK KK HS; have HS : St w noF [⟨g1, 27, bs b⟩, ⟨g2, 54, bs (zer 30)⟩, ⟨g4, 70, sld (b.take 30) (tailC b)⟩] W5 := HSx; clear HSx))
  have hF0 : Wl [fun W => St w noF [⟨g1, 27, bs b⟩, ⟨g2, 54, bs (zer 30)⟩, ⟨g4, 70, sld (b.take 30) (tailC b)⟩] W] 0 W5.drew := HS.drew
  clear HS
  by_cases hm0 : markOf b = 0#8
  · have HD : Hid (decOk b = false) := Lib.hid (by rw [hdk, decide_eq_false (fun h => h hm0)]; rfl)
    have hq0 : (bd (markOf b) == 0) = true := by rw [bd_zero_iff, decide_eq_true hm0]
    clear hdk hm0
    refine wp_region_phs [is (.pointer (some ⟨g4, 0, none⟩)), is (.pointer (some ⟨g4, 0, none⟩)), is (.int .u8 (bd (markOf b))), is (.bool true), is (.bool true), is undef, is undef, is undef, is undef, is undef, is undef, is (.bool true)] [true, true, true, true, true, true, true, true, true, true, true, true] [(fun W => St w noF [⟨g1, 27, bs b⟩, ⟨g2, 54, bs (zer 30)⟩, ⟨g4, 70, sld (b.take 30) (tailC b)⟩] W)] [false, false, false, false, false, false, false, false, false, false, false, false] [some 0, some 0, some 0, some 0, some 0, some 0, some 0, some 0, some 0, some 0, some 0, some 0] [some 7, some 8, some 9, some 10, some 11, some 12, some 13, some 14, some 15, some 16, some 17, some 18] 12 0 (fun i => !([5, 6, 7, 8, 9, 10] : List Nat).contains i) rfl rfl (by kernel_rfl) (by kernel_rfl) (by kernel_rfl) (by kernel_rfl) ?_ ?_ ?_ ?_ ?_ ?_
    · repeat first | exact wok_nil | refine wok_cons (by first | exact fun _ _ h k => h.same k) ?_
    · repeat first | exact vok_nil | refine vok_rig (by first | exact fun _ _ _ h => h) ?_ | refine vok_soft (by first | exact fun _ _ _ h _ => h) ?_
    · exact hF0
    · repeat first | exact all_end (by decide) | refine all_cons (by first | exact rfl | exact ⟨rfl, fun _ _ h => Or.inl h⟩ | exact ⟨rfl, fun _ _ h => Or.inr ⟨h, rfl⟩⟩) ?_
    · refine allp_mild 0 rfl rfl rfl (fun a x W hout hin hP => ?_) ?_
      · have e4 : a.tmps[4]? = some (.pointer (some ⟨g4, 0, none⟩)) := (hout 4 (by kernel_rfl)).trans rfl
        clear hin hout
        intro K Q hK
        go_simp
        exact hK _ _ ⟨Same.refl _, rfl⟩
      refine allp_mild 0 rfl rfl rfl (fun a x W hout hin hP => ?_) ?_
      · have e7 := hin.is 0 7 (by kernel_rfl) (by decide) (by kernel_rfl) (by kernel_rfl) _ rfl
        clear hin hout
        intro K Q hK
        go_simp
        exact hK _ _ ⟨Same.refl _, rfl⟩
      refine allp_mild 0 rfl rfl rfl (fun a x W hout hin hP => ?_) ?_
      · have e8 := hin.is 1 8 (by kernel_rfl) (by decide) (by kernel_rfl) (by kernel_rfl) _ rfl
        clear hin hout
        intro K Q hK
        exact wp_st_get hP 2 0 5 (.tmp 8) rfl rfl (eval_of_get e8) _ H0.out _ Try.underlying5 rfl (hK _ _ ⟨Same.refl _, rfl⟩)
      refine allp_mild 0 rfl rfl rfl (fun a x W hout hin hP => ?_) ?_
      · have e9 := hin.is 2 9 (by kernel_rfl) (by decide) (by kernel_rfl) (by kernel_rfl) _ rfl
        clear hin hout
        intro K Q hK
        go_simp
        exact hK _ _ ⟨Same.refl _, rfl⟩
      refine allp_mild 0 rfl rfl rfl (fun a x W hout hin hP => ?_) ?_
      · have e10 := hin.is 3 10 (by kernel_rfl) (by decide) (by kernel_rfl) (by kernel_rfl) _ rfl
        exact does_move rfl e10 ⟨Same.refl _, rfl⟩
      refine allp_skip rfl rfl (fun _ => rfl) ?_
      refine allp_skip rfl rfl (fun _ => rfl) ?_
      refine allp_skip rfl rfl (fun _ => rfl) ?_
      refine allp_skip rfl rfl (fun _ => rfl) ?_
      refine allp_skip rfl rfl (fun _ => rfl) ?_
      refine allp_skip rfl rfl (fun _ => rfl) ?_
      refine allp_mild 0 rfl rfl rfl (fun a x W hout hin hP => ?_) ?_
      · have e11 := hin.is 4 11 (by kernel_rfl) (by decide) (by kernel_rfl) (by kernel_rfl) _ rfl
        have e17 := hin.is 10 17 (by kernel_rfl) (by decide) (by kernel_rfl) (by kernel_rfl) _ rfl
        exact does_pick rfl e11 ⟨Same.refl _, rfl⟩
      exact all_end (by decide)
    · intro x W hP hV
      have HS : St w noF [⟨g1, 27, bs b⟩, ⟨g2, 54, bs (zer 30)⟩, ⟨g4, 70, sld (b.take 30) (tailC b)⟩] W := hP
      have h18 : x 11 = .bool true := hV 11 (by decide) (.inl (by kernel_rfl))
      clear hP hV
      simp only [putL, Act.put, List.setIfInBounds_toArray, List.set_cons_succ, List.set_cons_zero, h18]
      refine wpAnyH_done (by kernel_rfl) ?_ _
      clear h18
      have hz := HZ.out
      go_wp2_with (first | ((with_reducible refine wpList_plain ?_ ?_); exact rfl; intro KK hKK; refine wp_st_store HS 1 0 54 (.tmp 2) (.tmp 19) rfl rfl rfl (.agg (bs (zer 30))) rfl (by exact by rw [show Value.cells (.agg (bs (zer 30))) = bs (zer 30) from rfl, size_bs, length_zer]; exact size_sec) (by rw [Nat.zero_add]; exact Nat.le_of_eq (Eq.symm (rfl))) (by first | exact one_bs _ | exact one_sld _ _) (bs (zer 30)) (spl_agg _ _ _ rfl (rfl)) (fun W21 HSx => hKK _ _ ?_); clear hKK KK HS; have HS : St w noF [⟨g1, 27, bs b⟩, ⟨g2, 54, bs (zer 30)⟩, ⟨g4, 70, sld (b.take 30) (tailC b)⟩] W21 := HSx; clear HSx))
      exact bodyPost_ret (v := .tuple #[.agg (bs (zer 30)), .int .i64 11]) (results_cell_tmp Try.results17 _ _ g2 54 (bs (zer 30)) (0, 0) _ rfl (HS.row 1 rfl) Try.underlying54 rfl (by rw [size_bs, length_zer]; exact size_sec)) rfl ⟨by rw [decR_no HD.out, decE_no HD.out], HS.below⟩
  have hq0 : (bd (markOf b) == 0) = false := by rw [bd_zero_iff, decide_eq_false hm0]
  by_cases hc : tailC b = crcOf (b.take 30)
  · have HD : decOk b = true := by rw [hdk, decide_eq_true hm0, decide_eq_true hc]; rfl
    have HRx := Lib.hid (HR.out HD)
    have HEx := Lib.hid (HE.out HD)
    clear HR HE
    have HR := HRx
    have HE := HEx
    have hn : (hd (tailC b) != hd (crcOf (b.take 30))) = false := by rw [hd_ne, decide_eq_true hc]; rfl
    clear HD HRx HEx hdk hm0 hc
    refine wp_region_phs [is (.pointer (some ⟨g4, 0, none⟩)), is (.pointer (some ⟨g4, 0, none⟩)), is (.int .u8 (bd (markOf b))), is (.bool false), is (.bool false), is (.pointer (some ⟨g4, 30, none⟩)), is (.int .u16 (hd (tailC b))), is (.pointer (some ⟨g4, 0, none⟩)), is (.agg (bs (b.take 30))), is (.int .u16 (hd (crcOf (b.take 30)))), is (.bool false), is (.bool false)] [true, true, true, true, true, true, true, true, true, true, true, true] [(fun W => St w noF [⟨g1, 27, bs b⟩, ⟨g2, 54, bs (zer 30)⟩, ⟨g4, 70, sld (b.take 30) (tailC b)⟩] W)] [false, false, false, false, false, false, false, false, false, false, false, false] [some 0, some 0, some 0, some 0, some 0, some 0, some 0, some 0, some 0, some 0, some 0, some 0] [some 7, some 8, some 9, some 10, some 11, some 12, some 13, some 14, some 15, some 16, some 17, some 18] 12 0 (fun _ => true) rfl rfl (by kernel_rfl) (by kernel_rfl) (by kernel_rfl) (by kernel_rfl) ?_ ?_ ?_ ?_ ?_ ?_
    · repeat first | exact wok_nil | refine wok_cons (by first | exact fun _ _ h k => h.same k) ?_
    · repeat first | exact vok_nil | refine vok_rig (by first | exact fun _ _ _ h => h) ?_ | refine vok_soft (by first | exact fun _ _ _ h _ => h) ?_
    · exact hF0
    · repeat first | exact all_end (by decide) | refine all_cons (by first | exact rfl | exact ⟨rfl, fun _ _ h => Or.inl h⟩ | exact ⟨rfl, fun _ _ h => Or.inr ⟨h, rfl⟩⟩) ?_
    · refine allp_mild 0 rfl rfl rfl (fun a x W hout hin hP => ?_) ?_
      · have e4 : a.tmps[4]? = some (.pointer (some ⟨g4, 0, none⟩)) := (hout 4 (by kernel_rfl)).trans rfl
        clear hin hout
        intro K Q hK
        go_simp
        exact hK _ _ ⟨Same.refl _, rfl⟩
      refine allp_mild 0 rfl rfl rfl (fun a x W hout hin hP => ?_) ?_
      · have e7 := hin.is 0 7 (by kernel_rfl) (by decide) (by kernel_rfl) (by kernel_rfl) _ rfl
        clear hin hout
        intro K Q hK
        go_simp
        exact hK _ _ ⟨Same.refl _, rfl⟩
      refine allp_mild 0 rfl rfl rfl (fun a x W hout hin hP => ?_) ?_
      · have e8 := hin.is 1 8 (by kernel_rfl) (by decide) (by kernel_rfl) (by kernel_rfl) _ rfl
        clear hin hout
        intro K Q hK
        exact wp_st_get hP 2 0 5 (.tmp 8) rfl rfl (eval_of_get e8) _ H0.out _ Try.underlying5 rfl (hK _ _ ⟨Same.refl _, rfl⟩)
      refine allp_mild 0 rfl rfl rfl (fun a x W hout hin hP => ?_) ?_
      · have e9 := hin.is 2 9 (by kernel_rfl) (by decide) (by kernel_rfl) (by kernel_rfl) _ rfl
        clear hin hout
        intro K Q hK
        go_simp
        exact hK _ _ ⟨Same.refl _, rfl⟩
      refine allp_mild 0 rfl rfl rfl (fun a x W hout hin hP => ?_) ?_
      · have e10 := hin.is 3 10 (by kernel_rfl) (by decide) (by kernel_rfl) (by kernel_rfl) _ rfl
        exact does_move rfl e10 ⟨Same.refl _, rfl⟩
      refine allp_mild 0 rfl rfl rfl (fun a x W hout hin hP => ?_) ?_
      · have e4 : a.tmps[4]? = some (.pointer (some ⟨g4, 0, none⟩)) := (hout 4 (by kernel_rfl)).trans rfl
        clear hin hout
        intro K Q hK
        go_simp
        exact hK _ _ ⟨Same.refl _, rfl⟩
      refine allp_mild 0 rfl rfl rfl (fun a x W hout hin hP => ?_) ?_
      · have e12 := hin.is 5 12 (by kernel_rfl) (by decide) (by kernel_rfl) (by kernel_rfl) _ rfl
        clear hin hout
        intro K Q hK
        exact wp_st_get hP 2 30 23 (.tmp 12) rfl rfl (eval_of_get e12) _ HT.out _ Try.underlying23 rfl (hK _ _ ⟨Same.refl _, rfl⟩)
      refine allp_mild 0 rfl rfl rfl (fun a x W hout hin hP => ?_) ?_
      · have e4 : a.tmps[4]? = some (.pointer (some ⟨g4, 0, none⟩)) := (hout 4 (by kernel_rfl)).trans rfl
        clear hin hout
        intro K Q hK
        go_simp
        exact hK _ _ ⟨Same.refl _, rfl⟩
      refine allp_mild 0 rfl rfl rfl (fun a x W hout hin hP => ?_) ?_
      · have e14 := hin.is 7 14 (by kernel_rfl) (by decide) (by kernel_rfl) (by kernel_rfl) _ rfl
        clear hin hout
        intro K Q hK
        exact wp_st_load hP 2 0 54 (.tmp 14) rfl rfl (eval_of_get e14) (bs (b.take 30)) (sld_take _ _) _ Try.underlying54 rfl (by rw [size_bs, HT30.out]; exact size_sec) (hK _ _ ⟨Same.refl _, rfl⟩)
      refine allp_mild 0 rfl rfl rfl (fun a x W hout hin hP => ?_) ?_
      · have e15 := hin.is 8 15 (by kernel_rfl) (by decide) (by kernel_rfl) (by kernel_rfl) _ rfl
        have C := right_any (b.take 30) W HT30.out
        clear hP
        clear hin hout
        intro K Q hK
        go_simp
        refine C.mono ?_
        rintro e W' ⟨rfl, hb⟩
        exact hK _ _ ⟨hb, rfl⟩
      refine allp_mild 0 rfl rfl rfl (fun a x W hout hin hP => ?_) ?_
      · have e13 := hin.is 6 13 (by kernel_rfl) (by decide) (by kernel_rfl) (by kernel_rfl) _ rfl
        have e16 := hin.is 9 16 (by kernel_rfl) (by decide) (by kernel_rfl) (by kernel_rfl) _ rfl
        clear hin hout
        intro K Q hK
        go_simp
        exact hK _ _ ⟨Same.refl _, rfl⟩
      refine allp_mild 0 rfl rfl rfl (fun a x W hout hin hP => ?_) ?_
      · have e11 := hin.is 4 11 (by kernel_rfl) (by decide) (by kernel_rfl) (by kernel_rfl) _ rfl
        have e17 := hin.is 10 17 (by kernel_rfl) (by decide) (by kernel_rfl) (by kernel_rfl) _ rfl
        exact does_pick rfl e11 ⟨Same.refl _, eval_of_get e17⟩
      exact all_end (by decide)
    · intro x W hP hV
      have HS : St w noF [⟨g1, 27, bs b⟩, ⟨g2, 54, bs (zer 30)⟩, ⟨g4, 70, sld (b.take 30) (tailC b)⟩] W := hP
      have h18 : x 11 = .bool false := hV 11 (by decide) (.inl (by kernel_rfl))
      clear hP hV
      simp only [putL, Act.put, List.setIfInBounds_toArray, List.set_cons_succ, List.set_cons_zero, h18]
      refine wpAnyH_done (by kernel_rfl) ?_ _
      clear h18
      go_wp2_with (first | ((with_reducible refine wpList_plain ?_ ?_); exact rfl; intro KK hKK; refine wp_st_load HS 2 0 54 (.tmp 20) rfl rfl rfl (bs (b.take 30)) (sld_take _ _) _ Try.underlying54 rfl (by rw [size_bs, HT30.out]; exact size_sec) (hKK _ _ ?_); clear hKK KK) | ((with_reducible refine wpList_plain ?_ ?_); exact rfl; intro KK hKK; refine wp_st_store HS 1 0 54 (.tmp 2) (.tmp 21) rfl rfl rfl (.agg (bs (b.take 30))) rfl (by exact by rw [show Value.cells (.agg (bs (b.take 30))) = bs (b.take 30) from rfl, size_bs, HT30.out]; exact size_sec) (by rw [Nat.zero_add]; exact Nat.le_of_eq (Eq.symm (show (bs (zer 30)).size = (bs (b.take 30)).size by rw [size_bs, size_bs, HT30.out, length_zer]))) (by first | exact one_bs _ | exact one_sld _ _) (bs (b.take 30)) (spl_agg _ _ _ rfl (show (bs (zer 30)).size = (bs (b.take 30)).size by rw [size_bs, size_bs, HT30.out, length_zer])) (fun W21 HSx => hKK _ _ ?_); clear hKK KK HS; have HS : St w noF [⟨g1, 27, bs b⟩, ⟨g2, 54, bs (b.take 30)⟩, ⟨g4, 70, sld (b.take 30) (tailC b)⟩] W21 := HSx; clear HSx))
      exact bodyPost_ret (v := .tuple #[.agg (bs (b.take 30)), .int .i64 0]) (results_cell_tmp Try.results17 _ _ g2 54 (bs (b.take 30)) (0, 0) _ rfl (HS.row 1 rfl) Try.underlying54 rfl (by rw [size_bs, HT30.out]; exact size_sec)) rfl ⟨by rw [HR.out, HE.out], HS.below⟩
  · have HD : Hid (decOk b = false) := Lib.hid (by rw [hdk, decide_eq_false hc, Bool.and_false])
    have hn : (hd (tailC b) != hd (crcOf (b.take 30))) = true := by rw [hd_ne, decide_eq_false hc]; rfl
    clear hdk hm0 hc
    refine wp_region_phs [is (.pointer (some ⟨g4, 0, none⟩)), is (.pointer (some ⟨g4, 0, none⟩)), is (.int .u8 (bd (markOf b))), is (.bool false), is (.bool false), is (.pointer (some ⟨g4, 30, none⟩)), is (.int .u16 (hd (tailC b))), is (.pointer (some ⟨g4, 0, none⟩)), is (.agg (bs (b.take 30))), is (.int .u16 (hd (crcOf (b.take 30)))), is (.bool true), is (.bool true)] [true, true, true, true, true, true, true, true, true, true, true, true] [(fun W => St w noF [⟨g1, 27, bs b⟩, ⟨g2, 54, bs (zer 30)⟩, ⟨g4, 70, sld (b.take 30) (tailC b)⟩] W)] [false, false, false, false, false, false, false, false, false, false, false, false] [some 0, some 0, some 0, some 0, some 0, some 0, some 0, some 0, some 0, some 0, some 0, some 0] [some 7, some 8, some 9, some 10, some 11, some 12, some 13, some 14, some 15, some 16, some 17, some 18] 12 0 (fun _ => true) rfl rfl (by kernel_rfl) (by kernel_rfl) (by kernel_rfl) (by kernel_rfl) ?_ ?_ ?_ ?_ ?_ ?_
    · repeat first | exact wok_nil | refine wok_cons (by first | exact fun _ _ h k => h.same k) ?_
    · repeat first | exact vok_nil | refine vok_rig (by first | exact fun _ _ _ h => h) ?_ | refine vok_soft (by first | exact fun _ _ _ h _ => h) ?_
    · exact hF0
    · repeat first | exact all_end (by decide) | refine all_cons (by first | exact rfl | exact ⟨rfl, fun _ _ h => Or.inl h⟩ | exact ⟨rfl, fun _ _ h => Or.inr ⟨h, rfl⟩⟩) ?_
    · refine allp_mild 0 rfl rfl rfl (fun a x W hout hin hP => ?_) ?_
      · have e4 : a.tmps[4]? = some (.pointer (some ⟨g4, 0, none⟩)) := (hout 4 (by kernel_rfl)).trans rfl
        clear hin hout
        intro K Q hK
        go_simp
        exact hK _ _ ⟨Same.refl _, rfl⟩
      refine allp_mild 0 rfl rfl rfl (fun a x W hout hin hP => ?_) ?_
      · have e7 := hin.is 0 7 (by kernel_rfl) (by decide) (by kernel_rfl) (by kernel_rfl) _ rfl
        clear hin hout
        intro K Q hK
        go_simp
        exact hK _ _ ⟨Same.refl _, rfl⟩
      refine allp_mild 0 rfl rfl rfl (fun a x W hout hin hP => ?_) ?_
      · have e8 := hin.is 1 8 (by kernel_rfl) (by decide) (by kernel_rfl) (by kernel_rfl) _ rfl
        clear hin hout
        intro K Q hK
        exact wp_st_get hP 2 0 5 (.tmp 8) rfl rfl (eval_of_get e8) _ H0.out _ Try.underlying5 rfl (hK _ _ ⟨Same.refl _, rfl⟩)
      refine allp_mild 0 rfl rfl rfl (fun a x W hout hin hP => ?_) ?_
      · have e9 := hin.is 2 9 (by kernel_rfl) (by decide) (by kernel_rfl) (by kernel_rfl) _ rfl
        clear hin hout
        intro K Q hK
        go_simp
        exact hK _ _ ⟨Same.refl _, rfl⟩
      refine allp_mild 0 rfl rfl rfl (fun a x W hout hin hP => ?_) ?_
      · have e10 := hin.is 3 10 (by kernel_rfl) (by decide) (by kernel_rfl) (by kernel_rfl) _ rfl
        exact does_move rfl e10 ⟨Same.refl _, rfl⟩
      refine allp_mild 0 rfl rfl rfl (fun a x W hout hin hP => ?_) ?_
      · have e4 : a.tmps[4]? = some (.pointer (some ⟨g4, 0, none⟩)) := (hout 4 (by kernel_rfl)).trans rfl
        clear hin hout
        intro K Q hK
        go_simp
        exact hK _ _ ⟨Same.refl _, rfl⟩
      refine allp_mild 0 rfl rfl rfl (fun a x W hout hin hP => ?_) ?_
      · have e12 := hin.is 5 12 (by kernel_rfl) (by decide) (by kernel_rfl) (by kernel_rfl) _ rfl
        clear hin hout
        intro K Q hK
        exact wp_st_get hP 2 30 23 (.tmp 12) rfl rfl (eval_of_get e12) _ HT.out _ Try.underlying23 rfl (hK _ _ ⟨Same.refl _, rfl⟩)
      refine allp_mild 0 rfl rfl rfl (fun a x W hout hin hP => ?_) ?_
      · have e4 : a.tmps[4]? = some (.pointer (some ⟨g4, 0, none⟩)) := (hout 4 (by kernel_rfl)).trans rfl
        clear hin hout
        intro K Q hK
        go_simp
        exact hK _ _ ⟨Same.refl _, rfl⟩
      refine allp_mild 0 rfl rfl rfl (fun a x W hout hin hP => ?_) ?_
      · have e14 := hin.is 7 14 (by kernel_rfl) (by decide) (by kernel_rfl) (by kernel_rfl) _ rfl
        clear hin hout
        intro K Q hK
        exact wp_st_load hP 2 0 54 (.tmp 14) rfl rfl (eval_of_get e14) (bs (b.take 30)) (sld_take _ _) _ Try.underlying54 rfl (by rw [size_bs, HT30.out]; exact size_sec) (hK _ _ ⟨Same.refl _, rfl⟩)
      refine allp_mild 0 rfl rfl rfl (fun a x W hout hin hP => ?_) ?_
      · have e15 := hin.is 8 15 (by kernel_rfl) (by decide) (by kernel_rfl) (by kernel_rfl) _ rfl
        have C := right_any (b.take 30) W HT30.out
        clear hP
        clear hin hout
        intro K Q hK
        go_simp
        refine C.mono ?_
        rintro e W' ⟨rfl, hb⟩
        exact hK _ _ ⟨hb, rfl⟩
      refine allp_mild 0 rfl rfl rfl (fun a x W hout hin hP => ?_) ?_
      · have e13 := hin.is 6 13 (by kernel_rfl) (by decide) (by kernel_rfl) (by kernel_rfl) _ rfl
        have e16 := hin.is 9 16 (by kernel_rfl) (by decide) (by kernel_rfl) (by kernel_rfl) _ rfl
        clear hin hout
        intro K Q hK
        go_simp
        exact hK _ _ ⟨Same.refl _, rfl⟩
      refine allp_mild 0 rfl rfl rfl (fun a x W hout hin hP => ?_) ?_
      · have e11 := hin.is 4 11 (by kernel_rfl) (by decide) (by kernel_rfl) (by kernel_rfl) _ rfl
        have e17 := hin.is 10 17 (by kernel_rfl) (by decide) (by kernel_rfl) (by kernel_rfl) _ rfl
        exact does_pick rfl e11 ⟨Same.refl _, eval_of_get e17⟩
      exact all_end (by decide)
    · intro x W hP hV
      have HS : St w noF [⟨g1, 27, bs b⟩, ⟨g2, 54, bs (zer 30)⟩, ⟨g4, 70, sld (b.take 30) (tailC b)⟩] W := hP
      have h18 : x 11 = .bool true := hV 11 (by decide) (.inl (by kernel_rfl))
      clear hP hV
      simp only [putL, Act.put, List.setIfInBounds_toArray, List.set_cons_succ, List.set_cons_zero, h18]
      refine wpAnyH_done (by kernel_rfl) ?_ _
      clear h18
      have hz := HZ.out
      go_wp2_with (first | ((with_reducible refine wpList_plain ?_ ?_); exact rfl; intro KK hKK; refine wp_st_store HS 1 0 54 (.tmp 2) (.tmp 19) rfl rfl rfl (.agg (bs (zer 30))) rfl (by exact by rw [show Value.cells (.agg (bs (zer 30))) = bs (zer 30) from rfl, size_bs, length_zer]; exact size_sec) (by rw [Nat.zero_add]; exact Nat.le_of_eq (Eq.symm (rfl))) (by first | exact one_bs _ | exact one_sld _ _) (bs (zer 30)) (spl_agg _ _ _ rfl (rfl)) (fun W21 HSx => hKK _ _ ?_); clear hKK KK HS; have HS : St w noF [⟨g1, 27, bs b⟩, ⟨g2, 54, bs (zer 30)⟩, ⟨g4, 70, sld (b.take 30) (tailC b)⟩] W21 := HSx; clear HSx))
      exact bodyPost_ret (v := .tuple #[.agg (bs (zer 30)), .int .i64 11]) (results_cell_tmp Try.results17 _ _ g2 54 (bs (zer 30)) (0, 0) _ rfl (HS.row 1 rfl) Try.underlying54 rfl (by rw [size_bs, length_zer]; exact size_sec)) rfl ⟨by rw [decR_no HD.out, decE_no HD.out], HS.below⟩
theorem sealOps : SealOps := ⟨prgenc_any, prgdec_any⟩
end Go.Proofs.Ytmghacgifokbhaa
