/- The program's label: a label's bytes, the label of bytes, its sector and back; its contracts together. -/
import Derived.Test.YtnmnokipbbibiaaLabelPrgF
namespace Go.Proofs.Ytnmnokipbbibiaa
open Go Go.RowKit
set_option maxRecDepth 20000 in
set_option maxHeartbeats 800000 in
theorem bodyof_any (L : Lab) (w : World) :
    Calls Try.prog 19 #[.agg (labCells L)] w fun e w' => e = .returned (.agg (bs (body29 L))) ∧ Below w.heap.size w w' := by
  rw [← body_lab L]
  have l0 := length_zer 29
  obtain ⟨q1, h1⟩ : ∃ q, lg 0 (zer 29) L.e = q := ⟨_, rfl⟩
  have l1 : q1.length = 29 := by rw [← h1, length_lg, l0]
  obtain ⟨q2, h2⟩ : ∃ q, lg 4 q1 L.s = q := ⟨_, rfl⟩
  have l2 : q2.length = 29 := by rw [← h2, length_lg, l1]
  obtain ⟨q3, h3⟩ : ∃ q, lg 8 q2 L.n = q := ⟨_, rfl⟩
  have l3 : q3.length = 29 := by rw [← h3, length_lg, l2]
  obtain ⟨q4, h4⟩ : ∃ q, sh 12 q3 L.d = q := ⟨_, rfl⟩
  have l4 : q4.length = 29 := by rw [← h4, length_sh, l3]
  obtain ⟨q5, h5⟩ : ∃ q, sh 14 q4 L.l = q := ⟨_, rfl⟩
  have l5 : q5.length = 29 := by rw [← h5, length_sh, l4]
  have HL5 := Lib.hid l5
  have HB0 : Hid (0 + 4 ≤ (zer 29).length) := Lib.hid (by rw [l0]; decide)
  have HB1 : Hid (4 + 4 ≤ q1.length) := Lib.hid (by rw [l1]; decide)
  have HB2 : Hid (8 + 4 ≤ q2.length) := Lib.hid (by rw [l2]; decide)
  have HB3 : Hid (12 + 2 ≤ q3.length) := Lib.hid (by rw [l3]; decide)
  have HB4 : Hid (14 + 2 ≤ q4.length) := Lib.hid (by rw [l4]; decide)
  have HQ1 := Lib.hid h1
  have HQ2 := Lib.hid h2
  have HQ3 := Lib.hid h3
  have HQ4 := Lib.hid h4
  have HQ5 := Lib.hid h5
  rw [h1, h2, h3, h4, h5]
  clear h1 h2 h3 h4 h5 l0 l1 l2 l3 l4 l5
  have HS := St.nil w noF
  go_enter Try.func19, Try.ntmps19
  go_upto_region 2 with (first | ((with_reducible refine wpList_plain ?_ ?_); exact rfl; intro KK hKK; refine wp_st_box HS 25 (.tmp 0) rfl _ rfl (labCells L) (rfl) (fun g1 W1 HSx => hKK _ _ ?_); clear hKK KK HS; have HS : St w noF [⟨g1, 25, labCells L⟩] W1 := HSx; clear HSx) | ((with_reducible refine wpList_plain ?_ ?_); exact rfl; intro KK hKK; refine wp_st_alloc HS 52 (bs (zer 29)) rfl (.agg (bs (zer 29))) (by kernel_rfl) (rfl) (fun g2 W2 HSx => hKK _ _ ?_); clear hKK KK HS; have HS : St w noF [⟨g1, 25, labCells L⟩, ⟨g2, 52, bs (zer 29)⟩] W2 := HSx; clear HSx) | ((with_reducible refine wpList_plain ?_ ?_); exact rfl; intro KK hKK; refine wp_st_alloc HS 52 (bs (zer 29)) rfl (.agg (bs (zer 29))) (by kernel_rfl) (rfl) (fun g3 W3 HSx => hKK _ _ ?_); clear hKK KK HS; have HS : St w noF [⟨g1, 25, labCells L⟩, ⟨g2, 52, bs (zer 29)⟩, ⟨g3, 52, bs (zer 29)⟩] W3 := HSx; clear HSx))
  have hF0 : Wl [fun W => St w noF [⟨g1, 25, labCells L⟩, ⟨g2, 52, bs (zer 29)⟩, ⟨g3, 52, bs (zer 29)⟩] W, fun W => St w noF [⟨g1, 25, labCells L⟩, ⟨g2, 52, bs (zer 29)⟩, ⟨g3, 52, bs q1⟩] W] 0 W3.drew := HS.drew
  clear HS
  refine wp_region_phs [is (.slice (some ⟨g3, 0, none⟩) 29 29), is (.pointer (some ⟨g1, 0, none⟩)), is (.int .u32 (wd L.e)), anyV] [true, true, true, true] [(fun W => St w noF [⟨g1, 25, labCells L⟩, ⟨g2, 52, bs (zer 29)⟩, ⟨g3, 52, bs (zer 29)⟩] W), (fun W => St w noF [⟨g1, 25, labCells L⟩, ⟨g2, 52, bs (zer 29)⟩, ⟨g3, 52, bs q1⟩] W)] [false, false, false, true] [some 0, some 0, some 0, some 0] [some 4, some 5, some 6, some 7] 4 1 (fun _ => true) rfl rfl (by kernel_rfl) (by kernel_rfl) (by kernel_rfl) (by kernel_rfl) ?_ ?_ ?_ ?_ ?_ ?_
  · repeat first | exact wok_nil | refine wok_cons (by first | exact fun _ _ h k => h.same k) ?_
  · repeat first | exact vok_nil | refine vok_rig (by first | exact fun _ _ _ h => h) ?_ | refine vok_soft (by first | exact fun _ _ _ h _ => h) ?_
  · exact hF0
  · repeat first | exact all_end (by decide) | refine all_cons (by first | exact rfl | exact ⟨rfl, fun _ _ h => Or.inl h⟩ | exact ⟨rfl, fun _ _ h => Or.inr ⟨h, rfl⟩⟩) ?_
  · refine allp_mild 0 rfl rfl rfl (fun a x W hout hin hP => ?_) ?_
    · have e3 : a.tmps[3]? = some (.pointer (some ⟨g3, 0, none⟩)) := (hout 3 (by kernel_rfl)).trans rfl
      clear hin hout
      intro K Q hK
      go_simp
      exact hK _ _ ⟨Same.refl _, rfl⟩
    refine allp_mild 0 rfl rfl rfl (fun a x W hout hin hP => ?_) ?_
    · have e1 : a.tmps[1]? = some (.pointer (some ⟨g1, 0, none⟩)) := (hout 1 (by kernel_rfl)).trans rfl
      clear hin hout
      intro K Q hK
      go_simp
      exact hK _ _ ⟨Same.refl _, rfl⟩
    refine allp_mild 0 rfl rfl rfl (fun a x W hout hin hP => ?_) ?_
    · have e5 := hin.is 1 5 (by kernel_rfl) (by decide) (by kernel_rfl) (by kernel_rfl) _ rfl
      clear hin hout
      intro K Q hK
      exact wp_st_get hP 0 0 22 (.tmp 5) rfl rfl (eval_of_get e5) _ rfl _ Try.underlying22 rfl (hK _ _ ⟨Same.refl _, rfl⟩)
    refine allp_wild 0 rfl rfl rfl (fun a x W hout hin hP => ?_) ?_
    · have e4 := hin.is 0 4 (by kernel_rfl) (by decide) (by kernel_rfl) (by kernel_rfl) _ rfl
      have e6 := hin.is 2 6 (by kernel_rfl) (by decide) (by kernel_rfl) (by kernel_rfl) _ rfl
      have C := putlong_any g3 0 29 29 52 (zer 29) L.e W (hP.row 2 rfl) HB0.out (by decide) (Nat.le_refl _)
      clear hin hout
      intro K Q hK
      go_simp
      refine C.mono ?_
      rintro e W' ⟨rfl, r5, hg⟩
      rw [HQ1.out] at r5
      exact hK _ _ ⟨hP.upd 2 rfl r5 hg, trivial⟩
    exact all_end (by decide)
  · intro x V0 hP hV
    clear hV hF0
    have HS : St w noF [⟨g1, 25, labCells L⟩, ⟨g2, 52, bs (zer 29)⟩, ⟨g3, 52, bs q1⟩] V0 := hP
    clear hP
    simp only [putL, Act.put, List.setIfInBounds_toArray, List.set_cons_succ, List.set_cons_zero]
    refine wpAnyH_done (by kernel_rfl) ?_ _
    go_upto_region 3 with fail
    have hF0 : Wl [fun W => St w noF [⟨g1, 25, labCells L⟩, ⟨g2, 52, bs (zer 29)⟩, ⟨g3, 52, bs q1⟩] W, fun W => St w noF [⟨g1, 25, labCells L⟩, ⟨g2, 52, bs (zer 29)⟩, ⟨g3, 52, bs q2⟩] W] 0 V0.drew := HS.drew
    clear HS
    refine wp_region_phs [is (.slice (some ⟨g3, 4, none⟩) 25 25), is (.pointer (some ⟨g1, 1, none⟩)), is (.int .u32 (wd L.s)), anyV] [true, true, true, true] [(fun W => St w noF [⟨g1, 25, labCells L⟩, ⟨g2, 52, bs (zer 29)⟩, ⟨g3, 52, bs q1⟩] W), (fun W => St w noF [⟨g1, 25, labCells L⟩, ⟨g2, 52, bs (zer 29)⟩, ⟨g3, 52, bs q2⟩] W)] [false, false, false, true] [some 0, some 0, some 0, some 0] [some 8, some 9, some 10, some 11] 4 1 (fun _ => true) rfl rfl (by kernel_rfl) (by kernel_rfl) (by kernel_rfl) (by kernel_rfl) ?_ ?_ ?_ ?_ ?_ ?_
    · repeat first | exact wok_nil | refine wok_cons (by first | exact fun _ _ h k => h.same k) ?_
    · repeat first | exact vok_nil | refine vok_rig (by first | exact fun _ _ _ h => h) ?_ | refine vok_soft (by first | exact fun _ _ _ h _ => h) ?_
    · exact hF0
    · repeat first | exact all_end (by decide) | refine all_cons (by first | exact rfl | exact ⟨rfl, fun _ _ h => Or.inl h⟩ | exact ⟨rfl, fun _ _ h => Or.inr ⟨h, rfl⟩⟩) ?_
    · refine allp_mild 0 rfl rfl rfl (fun a x W hout hin hP => ?_) ?_
      · have e3 : a.tmps[3]? = some (.pointer (some ⟨g3, 0, none⟩)) := (hout 3 (by kernel_rfl)).trans rfl
        clear hin hout
        intro K Q hK
        go_simp
        exact hK _ _ ⟨Same.refl _, rfl⟩
      refine allp_mild 0 rfl rfl rfl (fun a x W hout hin hP => ?_) ?_
      · have e1 : a.tmps[1]? = some (.pointer (some ⟨g1, 0, none⟩)) := (hout 1 (by kernel_rfl)).trans rfl
        clear hin hout
        intro K Q hK
        go_simp
        exact hK _ _ ⟨Same.refl _, rfl⟩
      refine allp_mild 0 rfl rfl rfl (fun a x W hout hin hP => ?_) ?_
      · have e9 := hin.is 1 9 (by kernel_rfl) (by decide) (by kernel_rfl) (by kernel_rfl) _ rfl
        clear hin hout
        intro K Q hK
        exact wp_st_get hP 0 1 22 (.tmp 9) rfl rfl (eval_of_get e9) _ rfl _ Try.underlying22 rfl (hK _ _ ⟨Same.refl _, rfl⟩)
      refine allp_wild 0 rfl rfl rfl (fun a x W hout hin hP => ?_) ?_
      · have e8 := hin.is 0 8 (by kernel_rfl) (by decide) (by kernel_rfl) (by kernel_rfl) _ rfl
        have e10 := hin.is 2 10 (by kernel_rfl) (by decide) (by kernel_rfl) (by kernel_rfl) _ rfl
        have C := putlong_any g3 4 25 25 52 q1 L.s W (hP.row 2 rfl) HB1.out (by decide) (Nat.le_refl _)
        clear hin hout
        intro K Q hK
        go_simp
        refine C.mono ?_
        rintro e W' ⟨rfl, r5, hg⟩
        rw [HQ2.out] at r5
        exact hK _ _ ⟨hP.upd 2 rfl r5 hg, trivial⟩
      exact all_end (by decide)
    · intro x V1 hP hV
      clear hV hF0
      have HS : St w noF [⟨g1, 25, labCells L⟩, ⟨g2, 52, bs (zer 29)⟩, ⟨g3, 52, bs q2⟩] V1 := hP
      clear hP
      simp only [putL, Act.put, List.setIfInBounds_toArray, List.set_cons_succ, List.set_cons_zero]
      refine wpAnyH_done (by kernel_rfl) ?_ _
      go_upto_region 4 with fail
      have hF0 : Wl [fun W => St w noF [⟨g1, 25, labCells L⟩, ⟨g2, 52, bs (zer 29)⟩, ⟨g3, 52, bs q2⟩] W, fun W => St w noF [⟨g1, 25, labCells L⟩, ⟨g2, 52, bs (zer 29)⟩, ⟨g3, 52, bs q3⟩] W] 0 V1.drew := HS.drew
      clear HS
      refine wp_region_phs [is (.slice (some ⟨g3, 8, none⟩) 21 21), is (.pointer (some ⟨g1, 2, none⟩)), is (.int .u32 (wd L.n)), anyV] [true, true, true, true] [(fun W => St w noF [⟨g1, 25, labCells L⟩, ⟨g2, 52, bs (zer 29)⟩, ⟨g3, 52, bs q2⟩] W), (fun W => St w noF [⟨g1, 25, labCells L⟩, ⟨g2, 52, bs (zer 29)⟩, ⟨g3, 52, bs q3⟩] W)] [false, false, false, true] [some 0, some 0, some 0, some 0] [some 12, some 13, some 14, some 15] 4 1 (fun _ => true) rfl rfl (by kernel_rfl) (by kernel_rfl) (by kernel_rfl) (by kernel_rfl) ?_ ?_ ?_ ?_ ?_ ?_
      · repeat first | exact wok_nil | refine wok_cons (by first | exact fun _ _ h k => h.same k) ?_
      · repeat first | exact vok_nil | refine vok_rig (by first | exact fun _ _ _ h => h) ?_ | refine vok_soft (by first | exact fun _ _ _ h _ => h) ?_
      · exact hF0
      · repeat first | exact all_end (by decide) | refine all_cons (by first | exact rfl | exact ⟨rfl, fun _ _ h => Or.inl h⟩ | exact ⟨rfl, fun _ _ h => Or.inr ⟨h, rfl⟩⟩) ?_
      · refine allp_mild 0 rfl rfl rfl (fun a x W hout hin hP => ?_) ?_
        · have e3 : a.tmps[3]? = some (.pointer (some ⟨g3, 0, none⟩)) := (hout 3 (by kernel_rfl)).trans rfl
          clear hin hout
          intro K Q hK
          go_simp
          exact hK _ _ ⟨Same.refl _, rfl⟩
        refine allp_mild 0 rfl rfl rfl (fun a x W hout hin hP => ?_) ?_
        · have e1 : a.tmps[1]? = some (.pointer (some ⟨g1, 0, none⟩)) := (hout 1 (by kernel_rfl)).trans rfl
          clear hin hout
          intro K Q hK
          go_simp
          exact hK _ _ ⟨Same.refl _, rfl⟩
        refine allp_mild 0 rfl rfl rfl (fun a x W hout hin hP => ?_) ?_
        · have e13 := hin.is 1 13 (by kernel_rfl) (by decide) (by kernel_rfl) (by kernel_rfl) _ rfl
          clear hin hout
          intro K Q hK
          exact wp_st_get hP 0 2 22 (.tmp 13) rfl rfl (eval_of_get e13) _ rfl _ Try.underlying22 rfl (hK _ _ ⟨Same.refl _, rfl⟩)
        refine allp_wild 0 rfl rfl rfl (fun a x W hout hin hP => ?_) ?_
        · have e12 := hin.is 0 12 (by kernel_rfl) (by decide) (by kernel_rfl) (by kernel_rfl) _ rfl
          have e14 := hin.is 2 14 (by kernel_rfl) (by decide) (by kernel_rfl) (by kernel_rfl) _ rfl
          have C := putlong_any g3 8 21 21 52 q2 L.n W (hP.row 2 rfl) HB2.out (by decide) (Nat.le_refl _)
          clear hin hout
          intro K Q hK
          go_simp
          refine C.mono ?_
          rintro e W' ⟨rfl, r5, hg⟩
          rw [HQ3.out] at r5
          exact hK _ _ ⟨hP.upd 2 rfl r5 hg, trivial⟩
        exact all_end (by decide)
      · intro x V2 hP hV
        clear hV hF0
        have HS : St w noF [⟨g1, 25, labCells L⟩, ⟨g2, 52, bs (zer 29)⟩, ⟨g3, 52, bs q3⟩] V2 := hP
        clear hP
        simp only [putL, Act.put, List.setIfInBounds_toArray, List.set_cons_succ, List.set_cons_zero]
        refine wpAnyH_done (by kernel_rfl) ?_ _
        go_upto_region 5 with fail
        have hF0 : Wl [fun W => St w noF [⟨g1, 25, labCells L⟩, ⟨g2, 52, bs (zer 29)⟩, ⟨g3, 52, bs q3⟩] W, fun W => St w noF [⟨g1, 25, labCells L⟩, ⟨g2, 52, bs (zer 29)⟩, ⟨g3, 52, bs q4⟩] W] 0 V2.drew := HS.drew
        clear HS
        refine wp_region_phs [is (.slice (some ⟨g3, 12, none⟩) 17 17), is (.pointer (some ⟨g1, 3, none⟩)), is (.int .u16 (hd L.d)), anyV] [true, true, true, true] [(fun W => St w noF [⟨g1, 25, labCells L⟩, ⟨g2, 52, bs (zer 29)⟩, ⟨g3, 52, bs q3⟩] W), (fun W => St w noF [⟨g1, 25, labCells L⟩, ⟨g2, 52, bs (zer 29)⟩, ⟨g3, 52, bs q4⟩] W)] [false, false, false, true] [some 0, some 0, some 0, some 0] [some 16, some 17, some 18, some 19] 4 1 (fun _ => true) rfl rfl (by kernel_rfl) (by kernel_rfl) (by kernel_rfl) (by kernel_rfl) ?_ ?_ ?_ ?_ ?_ ?_
        · repeat first | exact wok_nil | refine wok_cons (by first | exact fun _ _ h k => h.same k) ?_
        · repeat first | exact vok_nil | refine vok_rig (by first | exact fun _ _ _ h => h) ?_ | refine vok_soft (by first | exact fun _ _ _ h _ => h) ?_
        · exact hF0
        · repeat first | exact all_end (by decide) | refine all_cons (by first | exact rfl | exact ⟨rfl, fun _ _ h => Or.inl h⟩ | exact ⟨rfl, fun _ _ h => Or.inr ⟨h, rfl⟩⟩) ?_
        · refine allp_mild 0 rfl rfl rfl (fun a x W hout hin hP => ?_) ?_
          · have e3 : a.tmps[3]? = some (.pointer (some ⟨g3, 0, none⟩)) := (hout 3 (by kernel_rfl)).trans rfl
            clear hin hout
            intro K Q hK
            go_simp
            exact hK _ _ ⟨Same.refl _, rfl⟩
          refine allp_mild 0 rfl rfl rfl (fun a x W hout hin hP => ?_) ?_
          · have e1 : a.tmps[1]? = some (.pointer (some ⟨g1, 0, none⟩)) := (hout 1 (by kernel_rfl)).trans rfl
            clear hin hout
            intro K Q hK
            go_simp
            exact hK _ _ ⟨Same.refl _, rfl⟩
          refine allp_mild 0 rfl rfl rfl (fun a x W hout hin hP => ?_) ?_
          · have e17 := hin.is 1 17 (by kernel_rfl) (by decide) (by kernel_rfl) (by kernel_rfl) _ rfl
            clear hin hout
            intro K Q hK
            exact wp_st_get hP 0 3 23 (.tmp 17) rfl rfl (eval_of_get e17) _ rfl _ Try.underlying23 rfl (hK _ _ ⟨Same.refl _, rfl⟩)
          refine allp_wild 0 rfl rfl rfl (fun a x W hout hin hP => ?_) ?_
          · have e16 := hin.is 0 16 (by kernel_rfl) (by decide) (by kernel_rfl) (by kernel_rfl) _ rfl
            have e18 := hin.is 2 18 (by kernel_rfl) (by decide) (by kernel_rfl) (by kernel_rfl) _ rfl
            have C := putshort_any g3 12 17 17 52 q3 L.d W (hP.row 2 rfl) HB3.out (by decide)
            clear hin hout
            intro K Q hK
            go_simp
            refine C.mono ?_
            rintro e W' ⟨rfl, r5, hg⟩
            rw [HQ4.out] at r5
            exact hK _ _ ⟨hP.upd 2 rfl r5 hg, trivial⟩
          exact all_end (by decide)
        · intro x V3 hP hV
          clear hV hF0
          have HS : St w noF [⟨g1, 25, labCells L⟩, ⟨g2, 52, bs (zer 29)⟩, ⟨g3, 52, bs q4⟩] V3 := hP
          clear hP
          simp only [putL, Act.put, List.setIfInBounds_toArray, List.set_cons_succ, List.set_cons_zero]
          refine wpAnyH_done (by kernel_rfl) ?_ _
          go_upto_region 6 with fail
          have hF0 : Wl [fun W => St w noF [⟨g1, 25, labCells L⟩, ⟨g2, 52, bs (zer 29)⟩, ⟨g3, 52, bs q4⟩] W, fun W => St w noF [⟨g1, 25, labCells L⟩, ⟨g2, 52, bs (zer 29)⟩, ⟨g3, 52, bs q5⟩] W] 0 V3.drew := HS.drew
          clear HS
          refine wp_region_phs [is (.slice (some ⟨g3, 14, none⟩) 15 15), is (.pointer (some ⟨g1, 4, none⟩)), is (.int .u16 (hd L.l)), anyV] [true, true, true, true] [(fun W => St w noF [⟨g1, 25, labCells L⟩, ⟨g2, 52, bs (zer 29)⟩, ⟨g3, 52, bs q4⟩] W), (fun W => St w noF [⟨g1, 25, labCells L⟩, ⟨g2, 52, bs (zer 29)⟩, ⟨g3, 52, bs q5⟩] W)] [false, false, false, true] [some 0, some 0, some 0, some 0] [some 20, some 21, some 22, some 23] 4 1 (fun _ => true) rfl rfl (by kernel_rfl) (by kernel_rfl) (by kernel_rfl) (by kernel_rfl) ?_ ?_ ?_ ?_ ?_ ?_
          · repeat first | exact wok_nil | refine wok_cons (by first | exact fun _ _ h k => h.same k) ?_
          · repeat first | exact vok_nil | refine vok_rig (by first | exact fun _ _ _ h => h) ?_ | refine vok_soft (by first | exact fun _ _ _ h _ => h) ?_
          · exact hF0
          · repeat first | exact all_end (by decide) | refine all_cons (by first | exact rfl | exact ⟨rfl, fun _ _ h => Or.inl h⟩ | exact ⟨rfl, fun _ _ h => Or.inr ⟨h, rfl⟩⟩) ?_
          · refine allp_mild 0 rfl rfl rfl (fun a x W hout hin hP => ?_) ?_
            · have e3 : a.tmps[3]? = some (.pointer (some ⟨g3, 0, none⟩)) := (hout 3 (by kernel_rfl)).trans rfl
              clear hin hout
              intro K Q hK
              go_simp
              exact hK _ _ ⟨Same.refl _, rfl⟩
            refine allp_mild 0 rfl rfl rfl (fun a x W hout hin hP => ?_) ?_
            · have e1 : a.tmps[1]? = some (.pointer (some ⟨g1, 0, none⟩)) := (hout 1 (by kernel_rfl)).trans rfl
              clear hin hout
              intro K Q hK
              go_simp
              exact hK _ _ ⟨Same.refl _, rfl⟩
            refine allp_mild 0 rfl rfl rfl (fun a x W hout hin hP => ?_) ?_
            · have e21 := hin.is 1 21 (by kernel_rfl) (by decide) (by kernel_rfl) (by kernel_rfl) _ rfl
              clear hin hout
              intro K Q hK
              exact wp_st_get hP 0 4 23 (.tmp 21) rfl rfl (eval_of_get e21) _ rfl _ Try.underlying23 rfl (hK _ _ ⟨Same.refl _, rfl⟩)
            refine allp_wild 0 rfl rfl rfl (fun a x W hout hin hP => ?_) ?_
            · have e20 := hin.is 0 20 (by kernel_rfl) (by decide) (by kernel_rfl) (by kernel_rfl) _ rfl
              have e22 := hin.is 2 22 (by kernel_rfl) (by decide) (by kernel_rfl) (by kernel_rfl) _ rfl
              have C := putshort_any g3 14 15 15 52 q4 L.l W (hP.row 2 rfl) HB4.out (by decide)
              clear hin hout
              intro K Q hK
              go_simp
              refine C.mono ?_
              rintro e W' ⟨rfl, r5, hg⟩
              rw [HQ5.out] at r5
              exact hK _ _ ⟨hP.upd 2 rfl r5 hg, trivial⟩
            exact all_end (by decide)
          · intro x V4 hP hV
            clear hV hF0
            have HS : St w noF [⟨g1, 25, labCells L⟩, ⟨g2, 52, bs (zer 29)⟩, ⟨g3, 52, bs q5⟩] V4 := hP
            clear hP
            simp only [putL, Act.put, List.setIfInBounds_toArray, List.set_cons_succ, List.set_cons_zero]
            refine wpAnyH_done (by kernel_rfl) ?_ _
            go_wp2_with (first | ((with_reducible refine wpList_plain ?_ ?_); exact rfl; intro KK hKK; refine wp_st_load HS 2 0 52 (.tmp 3) rfl rfl rfl (bs q5) (slab_whole _) _ Try.underlying52 rfl (by rw [size_bs, HL5.out]; exact size_29) (hKK _ _ ?_); clear hKK KK) | ((with_reducible refine wpList_plain ?_ ?_); exact rfl; intro KK hKK; refine wp_st_store HS 1 0 52 (.tmp 2) (.tmp 24) rfl rfl rfl (.agg (bs q5)) rfl (by exact by rw [show Value.cells (.agg (bs q5)) = bs q5 from rfl, size_bs, HL5.out]; exact size_29) (by rw [Nat.zero_add]; exact Nat.le_of_eq (Eq.symm (show (bs (zer 29)).size = (bs q5).size by rw [size_bs, size_bs, HL5.out, length_zer]))) (by first | exact one_bs _ | exact one_lab _) (bs q5) (spl_agg _ _ _ rfl (show (bs (zer 29)).size = (bs q5).size by rw [size_bs, size_bs, HL5.out, length_zer])) (fun W21 HSx => hKK _ _ ?_); clear hKK KK HS; have HS : St w noF [⟨g1, 25, labCells L⟩, ⟨g2, 52, bs q5⟩, ⟨g3, 52, bs q5⟩] W21 := HSx; clear HSx))
            exact bodyPost_ret (v := .agg (bs q5)) (results_cell_row Try.results19 _ _ g2 52 (bs q5) (0, 0) _ rfl (HS.row 1 rfl) Try.underlying52 rfl (by rw [size_bs, HL5.out]; exact size_29)) rfl ⟨rfl, HS.below⟩
end Go.Proofs.Ytnmnokipbbibiaa
