/- The statement LabelCodes: its walk. -/
import Derived.Test.YtmghacgifokbhaaLabelWakes
import Derived.Test.YtmghacgifokbhaaLabelRefL
import Derived.Test.YtmghacgifokbhaaSt
set_option maxRecDepth 4000
namespace Go.Proofs.Ytmghacgifokbhaa
open Go Go.RowKit
attribute [local go_sem high] eql_lab
set_option maxRecDepth 20000 in
set_option maxHeartbeats 1600000 in
theorem lcodes_walk (D : LabelOps) (L : Lab) (b : List (BitVec 8)) (n0 n1 n2 n3 : BitVec 32) (A : Option Addr) (c : Nat) (l : List (Int × List (BitVec 8))) (w : World) (hb : b.length = 32) (hS : PutsAt w (.slice A l.length c) l) :
    Calls Try.prog 3 #[.agg (labCells L), .agg (bs b), .agg #[.int .u32 (wd n0), .int .u32 (wd n1), .int .u32 (wd n2), .int .u32 (wd n3), .slice A l.length c]] w fun e w' => e = .returned (.bool true) ∧ Below w.heap.size w w' := by
  have HBL := Lib.hid hb
  have hzl := zeros_lab
  have HW := Lib.hid (fun W => lwakes_any D W)
  obtain ⟨n, hn⟩ : ∃ n, l.length = n := ⟨_, rfl⟩
  have HN := Lib.hid hn
  rw [hn] at hS ⊢
  have HS := St.nil w noF
  by_cases h100 : 100 < n
  · have hq : decide ((100 : Int) < (n : Int)) = true := decide_eq_true (by omega)
    clear hS hn hb h100
    go_enter Try.func3, Try.ntmps3
    go_upto_region 1 with (first | ((with_reducible refine wpList_plain ?_ ?_); exact rfl; intro KK hKK; refine wp_st_box HS 25 (.tmp 0) rfl _ rfl (labCells L) (rfl) (fun g3 W1 HSx => hKK _ _ ?_); clear hKK KK HS; have HS : St w noF [⟨g3, 25, labCells L⟩] W1 := HSx; clear HSx) | ((with_reducible refine wpList_plain ?_ ?_); exact rfl; intro KK hKK; refine wp_st_box HS 27 (.tmp 1) rfl _ rfl (bs b) (rfl) (fun g4 W2 HSx => hKK _ _ ?_); clear hKK KK HS; have HS : St w noF [⟨g3, 25, labCells L⟩, ⟨g4, 27, bs b⟩] W2 := HSx; clear HSx) | ((with_reducible refine wpList_plain ?_ ?_); exact rfl; intro KK hKK; refine wp_st_box HS 31 (.tmp 2) rfl _ rfl (#[.int .u32 (wd n0), .int .u32 (wd n1), .int .u32 (wd n2), .int .u32 (wd n3), .slice A n c]) (rfl) (fun g5 W3 HSx => hKK _ _ ?_); clear hKK KK HS; have HS : St w noF [⟨g3, 25, labCells L⟩, ⟨g4, 27, bs b⟩, ⟨g5, 31, #[.int .u32 (wd n0), .int .u32 (wd n1), .int .u32 (wd n2), .int .u32 (wd n3), .slice A n c]⟩] W3 := HSx; clear HSx))
    go_wp2_with (first | ((with_reducible refine wpList_plain ?_ ?_); exact rfl; intro KK hKK; refine wp_st_get HS 2 4 29 (.tmp 11) rfl rfl rfl (.slice A n c) (rfl) _ Try.underlying29 rfl (hKK _ _ ?_); clear hKK KK))
    refine (HW.out _).mono ?_
    rintro e W5 ⟨rfl, hb⟩
    have hbb := HS.below.trans (hb.mono HS.below.size)
    clear HS hb
    go_wp2_with fail
    go_ret
    exact ⟨rfl, hbb⟩
  have hq : decide ((100 : Int) < (n : Int)) = false := decide_eq_false (by omega)
  have HL6 : Hid (l.length ≤ 1000000) := Lib.hid (by omega)
  have HB := Lib.hid (fun v W h => D.bits l v W h HL6.out)
  have HBR := Lib.hid (fun v W h => refbits_any l v W h HL6.out)
  have HL := Lib.hid (fun W => D.later n0 n1 n2 n3 W)
  have HLR := Lib.hid (fun W => reflater_any n0 n1 n2 n3 W)
  have HE := Lib.hid (fun W => D.enc L W)
  have HR := Lib.hid (fun W => reflab_any L W)
  have HD := Lib.hid (fun W => D.dec b W HBL.out)
  have HDR := Lib.hid (fun W => refunlab_any b W HBL.out)
  have hBB := length_labB L
  obtain ⟨B, hB⟩ : ∃ B, labB L = B := ⟨_, rfl⟩
  rw [hB] at HE HR hBB
  have HBB := Lib.hid hBB
  have hQ := fun W => eql_blk B B hBB hBB W
  rw [decide_eq_true rfl] at hQ
  have HQ := Lib.hid hQ
  obtain ⟨K, hK⟩ : ∃ K, decLab b = K := ⟨_, rfl⟩
  obtain ⟨ee, hee⟩ : ∃ ee, decLabE b = ee := ⟨_, rfl⟩
  rw [hK, hee] at HD HDR
  have HQL : Hid (decide (K = K) = true) := Lib.hid (decide_eq_true rfl)
  obtain ⟨X, hX⟩ : ∃ X, bitsOf (l.map (·.1)) = X := ⟨_, rfl⟩
  rw [hX] at HB HBR
  obtain ⟨t, ht⟩ : ∃ t, laterB n0 n1 n2 n3 = t := ⟨_, rfl⟩
  rw [ht] at HL HLR
  clear hb hn h100 hBB hB hQ hK hee hX ht
  have HSP := Lib.hid hS
  clear hS
  go_enter Try.func3, Try.ntmps3
  go_upto_region 1 with (first | ((with_reducible refine wpList_plain ?_ ?_); exact rfl; intro KK hKK; refine wp_st_box HS 25 (.tmp 0) rfl _ rfl (labCells L) (rfl) (fun g3 W1 HSx => hKK _ _ ?_); clear hKK KK HS; have HS : St w noF [⟨g3, 25, labCells L⟩] W1 := HSx; clear HSx) | ((with_reducible refine wpList_plain ?_ ?_); exact rfl; intro KK hKK; refine wp_st_box HS 27 (.tmp 1) rfl _ rfl (bs b) (rfl) (fun g4 W2 HSx => hKK _ _ ?_); clear hKK KK HS; have HS : St w noF [⟨g3, 25, labCells L⟩, ⟨g4, 27, bs b⟩] W2 := HSx; clear HSx) | ((with_reducible refine wpList_plain ?_ ?_); exact rfl; intro KK hKK; refine wp_st_box HS 31 (.tmp 2) rfl _ rfl (#[.int .u32 (wd n0), .int .u32 (wd n1), .int .u32 (wd n2), .int .u32 (wd n3), .slice A n c]) (rfl) (fun g5 W3 HSx => hKK _ _ ?_); clear hKK KK HS; have HS : St w noF [⟨g3, 25, labCells L⟩, ⟨g4, 27, bs b⟩, ⟨g5, 31, #[.int .u32 (wd n0), .int .u32 (wd n1), .int .u32 (wd n2), .int .u32 (wd n3), .slice A n c]⟩] W3 := HSx; clear HSx))
  go_upto_region 3 with (first | ((with_reducible refine wpList_plain ?_ ?_); exact rfl; intro KK hKK; refine wp_st_get HS 2 4 29 (.tmp 11) rfl rfl rfl (.slice A n c) (rfl) _ Try.underlying29 rfl (hKK _ _ ?_); clear hKK KK))
  clear hq
  go_wp2_with (first | ((with_reducible refine wpList_plain ?_ ?_); exact rfl; intro KK hKK; refine wp_st_load HS 1 0 27 (.tmp 4) rfl rfl rfl (bs b) (slab_whole _) _ Try.underlying27 rfl (by rw [size_bs, HBL.out]; exact size_blk) (hKK _ _ ?_); clear hKK KK))
  refine (HD.out _).mono ?_
  rintro e W4 ⟨rfl, hb⟩
  have HSx : St w noF [⟨g3, 25, labCells L⟩, ⟨g4, 27, bs b⟩, ⟨g5, 31, #[.int .u32 (wd n0), .int .u32 (wd n1), .int .u32 (wd n2), .int .u32 (wd n3), .slice A n c]⟩] W4 := HS.same hb
  clear HS hb HD; have HS := HSx; clear HSx
  go_wp2_with (first | ((with_reducible refine wpList_plain ?_ ?_); exact rfl; intro KK hKK; refine wp_st_alloc HS 25 (labCells lab0) rfl (.agg (labCells lab0)) (by kernel_rfl) (rfl) (fun g7 W5 HSx => hKK _ _ ?_); clear hKK KK HS; have HS : St w noF [⟨g3, 25, labCells L⟩, ⟨g4, 27, bs b⟩, ⟨g5, 31, #[.int .u32 (wd n0), .int .u32 (wd n1), .int .u32 (wd n2), .int .u32 (wd n3), .slice A n c]⟩, ⟨g7, 25, labCells lab0⟩] W5 := HSx; clear HSx) | ((with_reducible refine wpList_plain ?_ ?_); exact rfl; intro KK hKK; refine wp_st_store HS 3 0 25 (.tmp 7) (.tmp 19) rfl rfl rfl (.agg (labCells K)) rfl (by exact size_lab) (by exact Nat.le_refl 5) (by exact one_lab _) (labCells K) (spl_agg _ _ _ rfl rfl) (fun W6 HSx => hKK _ _ ?_); clear hKK KK HS; have HS : St w noF [⟨g3, 25, labCells L⟩, ⟨g4, 27, bs b⟩, ⟨g5, 31, #[.int .u32 (wd n0), .int .u32 (wd n1), .int .u32 (wd n2), .int .u32 (wd n3), .slice A n c]⟩, ⟨g7, 25, labCells K⟩] W6 := HSx; clear HSx) | ((with_reducible refine wpList_plain ?_ ?_); exact rfl; intro KK hKK; refine wp_st_load HS 1 0 27 (.tmp 4) rfl rfl rfl (bs b) (slab_whole _) _ Try.underlying27 rfl (by rw [size_bs, HBL.out]; exact size_blk) (hKK _ _ ?_); clear hKK KK))
  refine (HDR.out _).mono ?_
  rintro e W7 ⟨rfl, hb⟩
  have HSx : St w noF [⟨g3, 25, labCells L⟩, ⟨g4, 27, bs b⟩, ⟨g5, 31, #[.int .u32 (wd n0), .int .u32 (wd n1), .int .u32 (wd n2), .int .u32 (wd n3), .slice A n c]⟩, ⟨g7, 25, labCells K⟩] W7 := HS.same hb
  clear HS hb HDR; have HS := HSx; clear HSx
  go_upto_region 5 with (first | ((with_reducible refine wpList_plain ?_ ?_); exact rfl; intro KK hKK; refine wp_st_alloc HS 25 (labCells lab0) rfl (.agg (labCells lab0)) (by kernel_rfl) (rfl) (fun g9 W8 HSx => hKK _ _ ?_); clear hKK KK HS; have HS : St w noF [⟨g3, 25, labCells L⟩, ⟨g4, 27, bs b⟩, ⟨g5, 31, #[.int .u32 (wd n0), .int .u32 (wd n1), .int .u32 (wd n2), .int .u32 (wd n3), .slice A n c]⟩, ⟨g7, 25, labCells K⟩, ⟨g9, 25, labCells lab0⟩] W8 := HSx; clear HSx) | ((with_reducible refine wpList_plain ?_ ?_); exact rfl; intro KK hKK; refine wp_st_store HS 4 0 25 (.tmp 9) (.tmp 24) rfl rfl rfl (.agg (labCells K)) rfl (by exact size_lab) (by exact Nat.le_refl 5) (by exact one_lab _) (labCells K) (spl_agg _ _ _ rfl rfl) (fun W9 HSx => hKK _ _ ?_); clear hKK KK HS; have HS : St w noF [⟨g3, 25, labCells L⟩, ⟨g4, 27, bs b⟩, ⟨g5, 31, #[.int .u32 (wd n0), .int .u32 (wd n1), .int .u32 (wd n2), .int .u32 (wd n3), .slice A n c]⟩, ⟨g7, 25, labCells K⟩, ⟨g9, 25, labCells K⟩] W9 := HSx; clear HSx))
  have hSP : PutsAt W9 (.slice A n c) l := HSP.out.below HS.below (Nat.le_refl _)
  have hF0 : Wl [fun W => St w noF [⟨g3, 25, labCells L⟩, ⟨g4, 27, bs b⟩, ⟨g5, 31, #[.int .u32 (wd n0), .int .u32 (wd n1), .int .u32 (wd n2), .int .u32 (wd n3), .slice A n c]⟩, ⟨g7, 25, labCells K⟩, ⟨g9, 25, labCells K⟩] W ∧ PutsAt W (.slice A n c) l] 0 W9.drew := ⟨HS.drew, hSP.below (Below.refl _ _).drew (Nat.le_refl _)⟩
  clear HS hSP HSP hzl
  refine wp_region_phs [is (.agg (labCells L)), is (.agg (bs B)), is (.agg (labCells L)), is (.agg (bs B)), is (.bool true), is (.bool true), is (.agg (labCells K)), is (.agg (labCells K)), is (.bool true), is (.bool true), is (.bool true), is (.int .i64 ee), is (.int .i64 ee), is (.bool true), is (.bool true), is (.bool true), is (.pointer (some ⟨g5, 0, none⟩)), is (.pointer (some ⟨g5, 0, none⟩)), is (.int .u32 (wd n0)), is (.pointer (some ⟨g5, 0, none⟩)), is (.pointer (some ⟨g5, 1, none⟩)), is (.int .u32 (wd n1)), is (.pointer (some ⟨g5, 0, none⟩)), is (.pointer (some ⟨g5, 2, none⟩)), is (.int .u32 (wd n2)), is (.pointer (some ⟨g5, 0, none⟩)), is (.pointer (some ⟨g5, 3, none⟩)), is (.int .u32 (wd n3)), is (.bool t), is (.pointer (some ⟨g5, 0, none⟩)), is (.pointer (some ⟨g5, 0, none⟩)), is (.int .u32 (wd n0)), is (.pointer (some ⟨g5, 0, none⟩)), is (.pointer (some ⟨g5, 1, none⟩)), is (.int .u32 (wd n1)), is (.pointer (some ⟨g5, 0, none⟩)), is (.pointer (some ⟨g5, 2, none⟩)), is (.int .u32 (wd n2)), is (.pointer (some ⟨g5, 0, none⟩)), is (.pointer (some ⟨g5, 3, none⟩)), is (.int .u32 (wd n3)), is (.bool t), is (.bool true), is (.bool true), is (.bool true), (fun v W => ∃ g, v = Value.slice (some ⟨g, 0, none⟩) 0 0 ∧ Row W g 50 #[]), is (.pointer (some ⟨g5, 4, none⟩)), is (.slice A n c), (fun v W => PutsAt W v l), is (.int .u16 (hd X)), is (.pointer (some ⟨g5, 4, none⟩)), is (.slice A n c), is (.int .u16 (hd X)), is (.bool true), is (.bool true), is (.bool true), is (.bool true), is (.bool true), is (.bool true)] [true, true, true, true, true, true, true, true, true, true, true, true, true, true, true, true, true, true, true, true, true, true, true, true, true, true, true, true, true, true, true, true, true, true, true, true, true, true, true, true, true, true, true, true, true, false, true, true, false, true, true, true, true, true, true, true, true, true, true] [(fun W => St w noF [⟨g3, 25, labCells L⟩, ⟨g4, 27, bs b⟩, ⟨g5, 31, #[.int .u32 (wd n0), .int .u32 (wd n1), .int .u32 (wd n2), .int .u32 (wd n3), .slice A n c]⟩, ⟨g7, 25, labCells K⟩, ⟨g9, 25, labCells K⟩] W ∧ PutsAt W (.slice A n c) l)] [false, false, false, false, false, false, false, false, false, false, false, false, false, false, false, false, false, false, false, false, false, false, false, false, false, false, false, false, false, false, false, false, false, false, false, false, false, false, false, false, false, false, false, false, false, false, false, false, false, false, false, false, false, false, false, false, false, false, false] [some 0, some 0, some 0, some 0, some 0, some 0, some 0, some 0, some 0, some 0, some 0, some 0, some 0, some 0, some 0, some 0, some 0, some 0, some 0, some 0, some 0, some 0, some 0, some 0, some 0, some 0, some 0, some 0, some 0, some 0, some 0, some 0, some 0, some 0, some 0, some 0, some 0, some 0, some 0, some 0, some 0, some 0, some 0, some 0, some 0, some 0, some 0, some 0, some 0, some 0, some 0, some 0, some 0, some 0, some 0, some 0, some 0, some 0, some 0] [some 26, some 27, some 28, some 29, some 30, some 31, some 32, some 33, some 34, some 35, some 36, some 37, some 38, some 39, some 40, some 41, some 42, some 43, some 44, some 45, some 46, some 47, some 48, some 49, some 50, some 51, some 52, some 53, some 54, some 55, some 56, some 57, some 58, some 59, some 60, some 61, some 62, some 63, some 64, some 65, some 66, some 67, some 68, some 69, some 70, some 71, some 72, some 73, some 74, some 75, some 76, some 77, some 78, some 79, some 80, some 81, some 82, some 83, some 6] 59 0 (fun _ => true) rfl rfl (by kernel_rfl) (by kernel_rfl) (by kernel_rfl) (by kernel_rfl) ?_ ?_ ?_ ?_ ?_ ?_
  · repeat first | exact wok_nil | refine wok_cons (by first | exact fun _ _ h k => ⟨h.1.same k, h.2.below k (Nat.le_refl _)⟩) ?_
  · repeat first | exact vok_nil | refine vok_rig (by first | exact fun _ _ _ h => h) ?_ | refine vok_soft (by first | exact fun _ _ _ h _ => h | exact fun _ _ _ h k => PutsAt.below h k (Nat.le_refl _) | exact fun _ _ _ h k => ⟨h.choose, h.choose_spec.1, h.choose_spec.2.call k⟩) ?_
  · exact hF0
  · repeat first | exact all_end (by decide) | refine all_cons (by first | exact rfl | exact ⟨rfl, fun _ _ h => Or.inl h⟩ | exact ⟨rfl, fun _ _ h => Or.inr ⟨h, rfl⟩⟩) ?_
  · refine allp_mild 0 rfl rfl rfl (fun a x W hout hin hP => ?_) ?_
    · have e3 : a.tmps[3]? = some (.pointer (some ⟨g3, 0, none⟩)) := (hout 3 (by kernel_rfl)).trans rfl
      clear hin hout
      intro K0 Q hK
      exact wp_st_load hP.1 0 0 25 (.tmp 3) rfl rfl (eval_of_get e3) (labCells L) (slab_whole _) _ Try.underlying25 rfl size_lab (hK _ _ ⟨Same.refl _, rfl⟩)
    refine allp_mild 0 rfl rfl rfl (fun a x W hout hin hP => ?_) ?_
    · have e26 := hin.is 0 26 (by kernel_rfl) (by decide) (by kernel_rfl) (by kernel_rfl) _ rfl
      have h0 := hP.2
      clear hin hout
      intro K0 Q hK
      go_simp
      refine (HE.out W).mono ?_
      rintro e W' ⟨rfl, hb⟩
      exact hK _ _ ⟨hb, rfl⟩
    refine allp_mild 0 rfl rfl rfl (fun a x W hout hin hP => ?_) ?_
    · have e3 : a.tmps[3]? = some (.pointer (some ⟨g3, 0, none⟩)) := (hout 3 (by kernel_rfl)).trans rfl
      clear hin hout
      intro K0 Q hK
      exact wp_st_load hP.1 0 0 25 (.tmp 3) rfl rfl (eval_of_get e3) (labCells L) (slab_whole _) _ Try.underlying25 rfl size_lab (hK _ _ ⟨Same.refl _, rfl⟩)
    refine allp_mild 0 rfl rfl rfl (fun a x W hout hin hP => ?_) ?_
    · have e28 := hin.is 2 28 (by kernel_rfl) (by decide) (by kernel_rfl) (by kernel_rfl) _ rfl
      have h0 := hP.2
      clear hin hout
      intro K0 Q hK
      go_simp
      refine (HR.out W).mono ?_
      rintro e W' ⟨rfl, hb⟩
      exact hK _ _ ⟨hb, rfl⟩
    refine allp_mild 0 rfl rfl rfl (fun a x W hout hin hP => ?_) ?_
    · have e27 := hin.is 1 27 (by kernel_rfl) (by decide) (by kernel_rfl) (by kernel_rfl) _ rfl
      have e29 := hin.is 3 29 (by kernel_rfl) (by decide) (by kernel_rfl) (by kernel_rfl) _ rfl
      have q := HQ.out W
      clear hP
      clear hin hout
      intro K0 Q hK
      go_simp
      exact hK _ _ ⟨Same.refl _, rfl⟩
    refine allp_mild 0 rfl rfl rfl (fun a x W hout hin hP => ?_) ?_
    · have e30 := hin.is 4 30 (by kernel_rfl) (by decide) (by kernel_rfl) (by kernel_rfl) _ rfl
      exact does_move rfl e30 ⟨Same.refl _, rfl⟩
    refine allp_mild 0 rfl rfl rfl (fun a x W hout hin hP => ?_) ?_
    · have e7 : a.tmps[7]? = some (.pointer (some ⟨g7, 0, none⟩)) := (hout 7 (by kernel_rfl)).trans rfl
      clear hin hout
      intro K0 Q hK
      exact wp_st_load hP.1 3 0 25 (.tmp 7) rfl rfl (eval_of_get e7) (labCells K) (slab_whole _) _ Try.underlying25 rfl size_lab (hK _ _ ⟨Same.refl _, rfl⟩)
    refine allp_mild 0 rfl rfl rfl (fun a x W hout hin hP => ?_) ?_
    · have e9 : a.tmps[9]? = some (.pointer (some ⟨g9, 0, none⟩)) := (hout 9 (by kernel_rfl)).trans rfl
      clear hin hout
      intro K0 Q hK
      exact wp_st_load hP.1 4 0 25 (.tmp 9) rfl rfl (eval_of_get e9) (labCells K) (slab_whole _) _ Try.underlying25 rfl size_lab (hK _ _ ⟨Same.refl _, rfl⟩)
    refine allp_mild 0 rfl rfl rfl (fun a x W hout hin hP => ?_) ?_
    · have e32 := hin.is 6 32 (by kernel_rfl) (by decide) (by kernel_rfl) (by kernel_rfl) _ rfl
      have e33 := hin.is 7 33 (by kernel_rfl) (by decide) (by kernel_rfl) (by kernel_rfl) _ rfl
      have q := HQL.out
      clear hP
      clear hin hout
      intro K0 Q hK
      go_simp
      exact hK _ _ ⟨Same.refl _, rfl⟩
    refine allp_mild 0 rfl rfl rfl (fun a x W hout hin hP => ?_) ?_
    · have e31 := hin.is 5 31 (by kernel_rfl) (by decide) (by kernel_rfl) (by kernel_rfl) _ rfl
      have e34 := hin.is 8 34 (by kernel_rfl) (by decide) (by kernel_rfl) (by kernel_rfl) _ rfl
      exact does_pick rfl e31 ⟨Same.refl _, eval_of_get e34⟩
    refine allp_mild 0 rfl rfl rfl (fun a x W hout hin hP => ?_) ?_
    · have e35 := hin.is 9 35 (by kernel_rfl) (by decide) (by kernel_rfl) (by kernel_rfl) _ rfl
      exact does_move rfl e35 ⟨Same.refl _, rfl⟩
    refine allp_mild 0 rfl rfl rfl (fun a x W hout hin hP => ?_) ?_
    · have e8 : a.tmps[8]? = some (.int .i64 ee) := (hout 8 (by kernel_rfl)).trans rfl
      exact does_move rfl e8 ⟨Same.refl _, rfl⟩
    refine allp_mild 0 rfl rfl rfl (fun a x W hout hin hP => ?_) ?_
    · have e10 : a.tmps[10]? = some (.int .i64 ee) := (hout 10 (by kernel_rfl)).trans rfl
      exact does_move rfl e10 ⟨Same.refl _, rfl⟩
    refine allp_mild 0 rfl rfl rfl (fun a x W hout hin hP => ?_) ?_
    · have e37 := hin.is 11 37 (by kernel_rfl) (by decide) (by kernel_rfl) (by kernel_rfl) _ rfl
      have e38 := hin.is 12 38 (by kernel_rfl) (by decide) (by kernel_rfl) (by kernel_rfl) _ rfl
      clear hin hout
      intro K0 Q hK
      go_simp
      exact hK _ _ ⟨Same.refl _, rfl⟩
    refine allp_mild 0 rfl rfl rfl (fun a x W hout hin hP => ?_) ?_
    · have e36 := hin.is 10 36 (by kernel_rfl) (by decide) (by kernel_rfl) (by kernel_rfl) _ rfl
      have e39 := hin.is 13 39 (by kernel_rfl) (by decide) (by kernel_rfl) (by kernel_rfl) _ rfl
      exact does_pick rfl e36 ⟨Same.refl _, eval_of_get e39⟩
    refine allp_mild 0 rfl rfl rfl (fun a x W hout hin hP => ?_) ?_
    · have e40 := hin.is 14 40 (by kernel_rfl) (by decide) (by kernel_rfl) (by kernel_rfl) _ rfl
      exact does_move rfl e40 ⟨Same.refl _, rfl⟩
    refine allp_mild 0 rfl rfl rfl (fun a x W hout hin hP => ?_) ?_
    · have e5 : a.tmps[5]? = some (.pointer (some ⟨g5, 0, none⟩)) := (hout 5 (by kernel_rfl)).trans rfl
      clear hin hout
      intro K Q hK
      go_simp
      exact hK _ _ ⟨Same.refl _, rfl⟩
    refine allp_mild 0 rfl rfl rfl (fun a x W hout hin hP => ?_) ?_
    · have e42 := hin.is 16 42 (by kernel_rfl) (by decide) (by kernel_rfl) (by kernel_rfl) _ rfl
      clear hin hout
      intro K Q hK
      go_simp
      exact hK _ _ ⟨Same.refl _, rfl⟩
    refine allp_mild 0 rfl rfl rfl (fun a x W hout hin hP => ?_) ?_
    · have e43 := hin.is 17 43 (by kernel_rfl) (by decide) (by kernel_rfl) (by kernel_rfl) _ rfl
      clear hin hout
      intro K0 Q hK
      exact wp_st_get hP.1 2 0 22 (.tmp 43) rfl rfl (eval_of_get e43) _ rfl _ Try.underlying22 rfl (hK _ _ ⟨Same.refl _, rfl⟩)
    refine allp_mild 0 rfl rfl rfl (fun a x W hout hin hP => ?_) ?_
    · have e5 : a.tmps[5]? = some (.pointer (some ⟨g5, 0, none⟩)) := (hout 5 (by kernel_rfl)).trans rfl
      clear hin hout
      intro K Q hK
      go_simp
      exact hK _ _ ⟨Same.refl _, rfl⟩
    refine allp_mild 0 rfl rfl rfl (fun a x W hout hin hP => ?_) ?_
    · have e45 := hin.is 19 45 (by kernel_rfl) (by decide) (by kernel_rfl) (by kernel_rfl) _ rfl
      clear hin hout
      intro K Q hK
      go_simp
      exact hK _ _ ⟨Same.refl _, rfl⟩
    refine allp_mild 0 rfl rfl rfl (fun a x W hout hin hP => ?_) ?_
    · have e46 := hin.is 20 46 (by kernel_rfl) (by decide) (by kernel_rfl) (by kernel_rfl) _ rfl
      clear hin hout
      intro K0 Q hK
      exact wp_st_get hP.1 2 1 22 (.tmp 46) rfl rfl (eval_of_get e46) _ rfl _ Try.underlying22 rfl (hK _ _ ⟨Same.refl _, rfl⟩)
    refine allp_mild 0 rfl rfl rfl (fun a x W hout hin hP => ?_) ?_
    · have e5 : a.tmps[5]? = some (.pointer (some ⟨g5, 0, none⟩)) := (hout 5 (by kernel_rfl)).trans rfl
      clear hin hout
      intro K Q hK
      go_simp
      exact hK _ _ ⟨Same.refl _, rfl⟩
    refine allp_mild 0 rfl rfl rfl (fun a x W hout hin hP => ?_) ?_
    · have e48 := hin.is 22 48 (by kernel_rfl) (by decide) (by kernel_rfl) (by kernel_rfl) _ rfl
      clear hin hout
      intro K Q hK
      go_simp
      exact hK _ _ ⟨Same.refl _, rfl⟩
    refine allp_mild 0 rfl rfl rfl (fun a x W hout hin hP => ?_) ?_
    · have e49 := hin.is 23 49 (by kernel_rfl) (by decide) (by kernel_rfl) (by kernel_rfl) _ rfl
      clear hin hout
      intro K0 Q hK
      exact wp_st_get hP.1 2 2 22 (.tmp 49) rfl rfl (eval_of_get e49) _ rfl _ Try.underlying22 rfl (hK _ _ ⟨Same.refl _, rfl⟩)
    refine allp_mild 0 rfl rfl rfl (fun a x W hout hin hP => ?_) ?_
    · have e5 : a.tmps[5]? = some (.pointer (some ⟨g5, 0, none⟩)) := (hout 5 (by kernel_rfl)).trans rfl
      clear hin hout
      intro K Q hK
      go_simp
      exact hK _ _ ⟨Same.refl _, rfl⟩
    refine allp_mild 0 rfl rfl rfl (fun a x W hout hin hP => ?_) ?_
    · have e51 := hin.is 25 51 (by kernel_rfl) (by decide) (by kernel_rfl) (by kernel_rfl) _ rfl
      clear hin hout
      intro K Q hK
      go_simp
      exact hK _ _ ⟨Same.refl _, rfl⟩
    refine allp_mild 0 rfl rfl rfl (fun a x W hout hin hP => ?_) ?_
    · have e52 := hin.is 26 52 (by kernel_rfl) (by decide) (by kernel_rfl) (by kernel_rfl) _ rfl
      clear hin hout
      intro K0 Q hK
      exact wp_st_get hP.1 2 3 22 (.tmp 52) rfl rfl (eval_of_get e52) _ rfl _ Try.underlying22 rfl (hK _ _ ⟨Same.refl _, rfl⟩)
    refine allp_mild 0 rfl rfl rfl (fun a x W hout hin hP => ?_) ?_
    · have e44 := hin.is 18 44 (by kernel_rfl) (by decide) (by kernel_rfl) (by kernel_rfl) _ rfl
      have e47 := hin.is 21 47 (by kernel_rfl) (by decide) (by kernel_rfl) (by kernel_rfl) _ rfl
      have e50 := hin.is 24 50 (by kernel_rfl) (by decide) (by kernel_rfl) (by kernel_rfl) _ rfl
      have e53 := hin.is 27 53 (by kernel_rfl) (by decide) (by kernel_rfl) (by kernel_rfl) _ rfl
      have h0 := hP.2
      clear hin hout
      intro K0 Q hK
      go_simp
      refine (HL.out W).mono ?_
      rintro e W' ⟨rfl, hb⟩
      exact hK _ _ ⟨hb, rfl⟩
    refine allp_mild 0 rfl rfl rfl (fun a x W hout hin hP => ?_) ?_
    · have e5 : a.tmps[5]? = some (.pointer (some ⟨g5, 0, none⟩)) := (hout 5 (by kernel_rfl)).trans rfl
      clear hin hout
      intro K Q hK
      go_simp
      exact hK _ _ ⟨Same.refl _, rfl⟩
    refine allp_mild 0 rfl rfl rfl (fun a x W hout hin hP => ?_) ?_
    · have e55 := hin.is 29 55 (by kernel_rfl) (by decide) (by kernel_rfl) (by kernel_rfl) _ rfl
      clear hin hout
      intro K Q hK
      go_simp
      exact hK _ _ ⟨Same.refl _, rfl⟩
    refine allp_mild 0 rfl rfl rfl (fun a x W hout hin hP => ?_) ?_
    · have e56 := hin.is 30 56 (by kernel_rfl) (by decide) (by kernel_rfl) (by kernel_rfl) _ rfl
      clear hin hout
      intro K0 Q hK
      exact wp_st_get hP.1 2 0 22 (.tmp 56) rfl rfl (eval_of_get e56) _ rfl _ Try.underlying22 rfl (hK _ _ ⟨Same.refl _, rfl⟩)
    refine allp_mild 0 rfl rfl rfl (fun a x W hout hin hP => ?_) ?_
    · have e5 : a.tmps[5]? = some (.pointer (some ⟨g5, 0, none⟩)) := (hout 5 (by kernel_rfl)).trans rfl
      clear hin hout
      intro K Q hK
      go_simp
      exact hK _ _ ⟨Same.refl _, rfl⟩
    refine allp_mild 0 rfl rfl rfl (fun a x W hout hin hP => ?_) ?_
    · have e58 := hin.is 32 58 (by kernel_rfl) (by decide) (by kernel_rfl) (by kernel_rfl) _ rfl
      clear hin hout
      intro K Q hK
      go_simp
      exact hK _ _ ⟨Same.refl _, rfl⟩
    refine allp_mild 0 rfl rfl rfl (fun a x W hout hin hP => ?_) ?_
    · have e59 := hin.is 33 59 (by kernel_rfl) (by decide) (by kernel_rfl) (by kernel_rfl) _ rfl
      clear hin hout
      intro K0 Q hK
      exact wp_st_get hP.1 2 1 22 (.tmp 59) rfl rfl (eval_of_get e59) _ rfl _ Try.underlying22 rfl (hK _ _ ⟨Same.refl _, rfl⟩)
    refine allp_mild 0 rfl rfl rfl (fun a x W hout hin hP => ?_) ?_
    · have e5 : a.tmps[5]? = some (.pointer (some ⟨g5, 0, none⟩)) := (hout 5 (by kernel_rfl)).trans rfl
      clear hin hout
      intro K Q hK
      go_simp
      exact hK _ _ ⟨Same.refl _, rfl⟩
    refine allp_mild 0 rfl rfl rfl (fun a x W hout hin hP => ?_) ?_
    · have e61 := hin.is 35 61 (by kernel_rfl) (by decide) (by kernel_rfl) (by kernel_rfl) _ rfl
      clear hin hout
      intro K Q hK
      go_simp
      exact hK _ _ ⟨Same.refl _, rfl⟩
    refine allp_mild 0 rfl rfl rfl (fun a x W hout hin hP => ?_) ?_
    · have e62 := hin.is 36 62 (by kernel_rfl) (by decide) (by kernel_rfl) (by kernel_rfl) _ rfl
      clear hin hout
      intro K0 Q hK
      exact wp_st_get hP.1 2 2 22 (.tmp 62) rfl rfl (eval_of_get e62) _ rfl _ Try.underlying22 rfl (hK _ _ ⟨Same.refl _, rfl⟩)
    refine allp_mild 0 rfl rfl rfl (fun a x W hout hin hP => ?_) ?_
    · have e5 : a.tmps[5]? = some (.pointer (some ⟨g5, 0, none⟩)) := (hout 5 (by kernel_rfl)).trans rfl
      clear hin hout
      intro K Q hK
      go_simp
      exact hK _ _ ⟨Same.refl _, rfl⟩
    refine allp_mild 0 rfl rfl rfl (fun a x W hout hin hP => ?_) ?_
    · have e64 := hin.is 38 64 (by kernel_rfl) (by decide) (by kernel_rfl) (by kernel_rfl) _ rfl
      clear hin hout
      intro K Q hK
      go_simp
      exact hK _ _ ⟨Same.refl _, rfl⟩
    refine allp_mild 0 rfl rfl rfl (fun a x W hout hin hP => ?_) ?_
    · have e65 := hin.is 39 65 (by kernel_rfl) (by decide) (by kernel_rfl) (by kernel_rfl) _ rfl
      clear hin hout
      intro K0 Q hK
      exact wp_st_get hP.1 2 3 22 (.tmp 65) rfl rfl (eval_of_get e65) _ rfl _ Try.underlying22 rfl (hK _ _ ⟨Same.refl _, rfl⟩)
    refine allp_mild 0 rfl rfl rfl (fun a x W hout hin hP => ?_) ?_
    · have e57 := hin.is 31 57 (by kernel_rfl) (by decide) (by kernel_rfl) (by kernel_rfl) _ rfl
      have e60 := hin.is 34 60 (by kernel_rfl) (by decide) (by kernel_rfl) (by kernel_rfl) _ rfl
      have e63 := hin.is 37 63 (by kernel_rfl) (by decide) (by kernel_rfl) (by kernel_rfl) _ rfl
      have e66 := hin.is 40 66 (by kernel_rfl) (by decide) (by kernel_rfl) (by kernel_rfl) _ rfl
      have h0 := hP.2
      clear hin hout
      intro K0 Q hK
      go_simp
      refine (HLR.out W).mono ?_
      rintro e W' ⟨rfl, hb⟩
      exact hK _ _ ⟨hb, rfl⟩
    refine allp_mild 0 rfl rfl rfl (fun a x W hout hin hP => ?_) ?_
    · have e54 := hin.is 28 54 (by kernel_rfl) (by decide) (by kernel_rfl) (by kernel_rfl) _ rfl
      have e67 := hin.is 41 67 (by kernel_rfl) (by decide) (by kernel_rfl) (by kernel_rfl) _ rfl
      clear hin hout
      intro K0 Q hK
      go_simp
      exact hK _ _ ⟨Same.refl _, rfl⟩
    refine allp_mild 0 rfl rfl rfl (fun a x W hout hin hP => ?_) ?_
    · have e41 := hin.is 15 41 (by kernel_rfl) (by decide) (by kernel_rfl) (by kernel_rfl) _ rfl
      have e68 := hin.is 42 68 (by kernel_rfl) (by decide) (by kernel_rfl) (by kernel_rfl) _ rfl
      exact does_pick rfl e41 ⟨Same.refl _, eval_of_get e68⟩
    refine allp_mild 0 rfl rfl rfl (fun a x W hout hin hP => ?_) ?_
    · have e69 := hin.is 43 69 (by kernel_rfl) (by decide) (by kernel_rfl) (by kernel_rfl) _ rfl
      exact does_move rfl e69 ⟨Same.refl _, rfl⟩
    refine allp_mild 0 rfl rfl rfl (fun a x W hout hin hP => ?_) ?_
    · clear hin hout
      intro K0 Q hK
      go_simp
      exact hK _ _ ⟨Same.alloc _ _, _, rfl, Row.fresh _ _ _⟩
    refine allp_mild 0 rfl rfl rfl (fun a x W hout hin hP => ?_) ?_
    · have e5 : a.tmps[5]? = some (.pointer (some ⟨g5, 0, none⟩)) := (hout 5 (by kernel_rfl)).trans rfl
      clear hin hout
      intro K Q hK
      go_simp
      exact hK _ _ ⟨Same.refl _, rfl⟩
    refine allp_mild 0 rfl rfl rfl (fun a x W hout hin hP => ?_) ?_
    · have e72 := hin.is 46 72 (by kernel_rfl) (by decide) (by kernel_rfl) (by kernel_rfl) _ rfl
      clear hin hout
      intro K0 Q hK
      exact wp_st_get hP.1 2 4 29 (.tmp 72) rfl rfl (eval_of_get e72) _ rfl _ Try.underlying29 rfl (hK _ _ ⟨Same.refl _, rfl⟩)
    refine allp_mild 0 rfl rfl rfl (fun a x W hout hin hP => ?_) ?_
    · obtain ⟨v71, e71, hv71⟩ := hin.get 45 71 (by kernel_rfl) (by decide) (by kernel_rfl) (.inr ⟨rfl, by kernel_rfl⟩)
      have e73 := hin.is 47 73 (by kernel_rfl) (by decide) (by kernel_rfl) (by kernel_rfl) _ rfl
      obtain ⟨g, rfl, hg⟩ := hv71
      have h0 := hP.2
      clear hin hout hP
      intro K0 Q hK
      rw [← HN.out] at h0 e73
      exact wp_append_puts (.tmp 71) (.tmp 73) rfl g (eval_of_get e71) hg A c l (eval_of_get e73) h0 HL6.out (fun v6 w6 h6 k6 => hK v6 w6 ⟨k6, h6⟩)
    refine allp_mild 0 rfl rfl rfl (fun a x W hout hin hP => ?_) ?_
    · obtain ⟨v74, e74, hv74⟩ := hin.get 48 74 (by kernel_rfl) (by decide) (by kernel_rfl) (.inr ⟨rfl, by kernel_rfl⟩)
      have C := HB.out v74 W hv74
      clear hP
      clear hin hout
      intro K0 Q hK
      go_simp
      refine C.mono ?_
      rintro e W' ⟨rfl, hb⟩
      exact hK _ _ ⟨hb, rfl⟩
    refine allp_mild 0 rfl rfl rfl (fun a x W hout hin hP => ?_) ?_
    · have e5 : a.tmps[5]? = some (.pointer (some ⟨g5, 0, none⟩)) := (hout 5 (by kernel_rfl)).trans rfl
      clear hin hout
      intro K Q hK
      go_simp
      exact hK _ _ ⟨Same.refl _, rfl⟩
    refine allp_mild 0 rfl rfl rfl (fun a x W hout hin hP => ?_) ?_
    · have e76 := hin.is 50 76 (by kernel_rfl) (by decide) (by kernel_rfl) (by kernel_rfl) _ rfl
      clear hin hout
      intro K0 Q hK
      exact wp_st_get hP.1 2 4 29 (.tmp 76) rfl rfl (eval_of_get e76) _ rfl _ Try.underlying29 rfl (hK _ _ ⟨Same.refl _, rfl⟩)
    refine allp_mild 0 rfl rfl rfl (fun a x W hout hin hP => ?_) ?_
    · have e77 := hin.is 51 77 (by kernel_rfl) (by decide) (by kernel_rfl) (by kernel_rfl) _ rfl
      have C := HBR.out _ W hP.2
      clear hP
      clear hin hout
      intro K0 Q hK
      go_simp
      refine C.mono ?_
      rintro e W' ⟨rfl, rfl⟩
      exact hK _ _ ⟨Same.refl _, rfl⟩
    refine allp_mild 0 rfl rfl rfl (fun a x W hout hin hP => ?_) ?_
    · have e75 := hin.is 49 75 (by kernel_rfl) (by decide) (by kernel_rfl) (by kernel_rfl) _ rfl
      have e78 := hin.is 52 78 (by kernel_rfl) (by decide) (by kernel_rfl) (by kernel_rfl) _ rfl
      clear hin hout
      intro K0 Q hK
      go_simp
      exact hK _ _ ⟨Same.refl _, rfl⟩
    refine allp_mild 0 rfl rfl rfl (fun a x W hout hin hP => ?_) ?_
    · have e70 := hin.is 44 70 (by kernel_rfl) (by decide) (by kernel_rfl) (by kernel_rfl) _ rfl
      have e79 := hin.is 53 79 (by kernel_rfl) (by decide) (by kernel_rfl) (by kernel_rfl) _ rfl
      exact does_pick rfl e70 ⟨Same.refl _, eval_of_get e79⟩
    refine allp_mild 0 rfl rfl rfl (fun a x W hout hin hP => ?_) ?_
    · have e80 := hin.is 54 80 (by kernel_rfl) (by decide) (by kernel_rfl) (by kernel_rfl) _ rfl
      exact does_move rfl e80 ⟨Same.refl _, rfl⟩
    refine allp_mild 0 rfl rfl rfl (fun a x W hout hin hP => ?_) ?_
    · have h0 := hP.2
      clear hin hout
      intro K0 Q hK
      go_simp
      refine (HW.out W).mono ?_
      rintro e W' ⟨rfl, hb⟩
      exact hK _ _ ⟨hb, rfl⟩
    refine allp_mild 0 rfl rfl rfl (fun a x W hout hin hP => ?_) ?_
    · have e81 := hin.is 55 81 (by kernel_rfl) (by decide) (by kernel_rfl) (by kernel_rfl) _ rfl
      have e82 := hin.is 56 82 (by kernel_rfl) (by decide) (by kernel_rfl) (by kernel_rfl) _ rfl
      exact does_pick rfl e81 ⟨Same.refl _, eval_of_get e82⟩
    refine allp_mild 0 rfl rfl rfl (fun a x W hout hin hP => ?_) ?_
    · have e83 := hin.is 57 83 (by kernel_rfl) (by decide) (by kernel_rfl) (by kernel_rfl) _ rfl
      exact does_assign rfl e83 ⟨Same.refl _, rfl⟩
    exact all_end (by decide)
  · intro x W hP hV
    have h58 : x 58 = .bool true := hV 58 (by decide) (.inl (by kernel_rfl))
    have HP := Lib.hid hP.1
    clear hV hP
    simp only [putL, Act.put, List.setIfInBounds_toArray, List.set_cons_succ, List.set_cons_zero, h58]
    refine wpAnyH_done (by kernel_rfl) ?_ _
    clear h58
    go_wp2_with fail
    go_ret
    exact ⟨rfl, HP.out.below⟩
end Go.Proofs.Ytmghacgifokbhaa
