/- The program's sender: Acked. -/
import Derived.Test.YtppbgkdkioldbaaSndPrg3
set_option maxRecDepth 4000
namespace Go.Proofs.Ytppbgkdkioldbaa
open Go Go.RowKit
set_option maxRecDepth 20000 in
set_option maxHeartbeats 3200000 in
theorem acked_any (g : Nat) (S : Snd) (y : Pkt) (v : Value) (w : World) (h : SndAt w g S) :
    Calls Try.prog 17 #[.pointer (some ⟨g, 0, none⟩), .agg (pktA y.k y.e y.s v)] w fun x w' => x = .returned (.tuple #[.bool (ackB S y && S.t), .bool (ackB S y)]) ∧ SndAt w' g (ackS S y) ∧ Chg (fun k => k = g) w w' := by
  obtain ⟨A, n, c, B, m, d, hr, hpo, hpp⟩ := h
  have HR := Lib.hid hr
  have HPO := Lib.hid hpo
  have HPP := Lib.hid hpp
  clear hr hpo hpp
  have CI := Lib.hid (fun W => is_any S.o.k S.o.e S.o.s (.slice A n c) W)
  have HS := St.nil w noF
  by_cases h0 : S.o.k = 0
  · have hB : ackB S y = false := by unfold ackB; rw [decide_eq_false (p := S.o.k ≠ 0) (by simp [h0])]; simp
    have hS : ackS S y = S := by unfold ackS; rw [hB]; exact if_neg (fun h => by cases h)
    rw [hB, hS]
    clear hB hS
    rw [decide_eq_false (by simp [h0])] at CI
    clear h0
    go_enter Try.func17, Try.ntmps17
    go_upto_region 1 with (first | ((with_reducible refine wpList_plain ?_ ?_); exact rfl; intro KK hKK; refine wp_st_box HS 30 (.tmp 1) rfl _ rfl (pktA y.k y.e y.s v) (rfl) (fun g1 W1 HSx => hKK _ _ ?_); clear hKK KK HS; have HS : St w noF [⟨g1, 30, pktA y.k y.e y.s v⟩] W1 := HSx; clear HSx))
    have hF0 : Wl [(fun W => St w noF [⟨g1, 30, pktA y.k y.e y.s v⟩] W ∧ Row W g 32 (sndC S.o S.p (.slice A n c) (.slice B m d) S.n S.t))] 0 (World.drew _) := ⟨HS.same (Below.refl _ _).drew, (HR.out.call HS.below).call (Below.refl _ _).drew⟩
    clear HS
    refine wp_region_phs [is (.pointer (some ⟨g, 0, none⟩)), is (.bool false), is (.bool false), is (.pointer (some ⟨g, 0, none⟩)), is (.pointer (some ⟨g, 0, none⟩)), is (.pointer (some ⟨g, 0, none⟩)), is (.agg (pktA S.o.k S.o.e S.o.s (.slice A n c))), is (.bool false), is (.bool true), is (.bool true), is (.bool true), is undef, is undef, is undef, is (.bool true), is (.bool true), is undef, is undef, is undef, is undef, is undef, is undef, is undef, is undef, is (.bool true), is (.bool true), is undef, is undef, is undef, is undef, is undef, is undef, is undef, is undef, is (.bool true)] [true, true, true, true, true, true, true, true, true, true, true, true, true, true, true, true, true, true, true, true, true, true, true, true, true, true, true, true, true, true, true, true, true, true, true] [(fun W => St w noF [⟨g1, 30, pktA y.k y.e y.s v⟩] W ∧ Row W g 32 (sndC S.o S.p (.slice A n c) (.slice B m d) S.n S.t))] [false, false, false, false, false, false, false, false, false, false, false, false, false, false, false, false, false, false, false, false, false, false, false, false, false, false, false, false, false, false, false, false, false, false, false] [some 0, some 0, some 0, some 0, some 0, some 0, some 0, some 0, some 0, some 0, some 0, some 0, some 0, some 0, some 0, some 0, some 0, some 0, some 0, some 0, some 0, some 0, some 0, some 0, some 0, some 0, some 0, some 0, some 0, some 0, some 0, some 0, some 0, some 0, some 0] [some 6, some 7, some 8, some 9, some 10, some 11, some 12, some 13, some 14, some 15, some 16, some 17, some 18, some 19, some 20, some 21, some 22, some 23, some 24, some 25, some 26, some 27, some 28, some 29, some 30, some 31, some 32, some 33, some 34, some 35, some 36, some 37, some 38, some 39, some 40] 35 0 (fun i => !([11, 12, 13, 16, 17, 18, 19, 20, 21, 22, 23, 26, 27, 28, 29, 30, 31, 32, 33] : List Nat).contains i) rfl rfl (by kernel_rfl) (by kernel_rfl) (by kernel_rfl) (by kernel_rfl) ?_ ?_ ?_ ?_ ?_ ?_
    · repeat first | exact wok_nil | refine wok_cons (by first | exact fun _ _ h k => ⟨h.1.same k, h.2.call k⟩) ?_
    · repeat first | exact vok_nil | refine vok_rig (by first | exact fun _ _ _ h => h) ?_ | refine vok_soft (by first | exact fun _ _ _ h _ => h) ?_
    · exact hF0
    · repeat first | exact all_end (by decide) | refine all_cons (by first | exact rfl | exact ⟨rfl, fun _ _ h => Or.inl h⟩ | exact ⟨rfl, fun _ _ h => Or.inr ⟨h, rfl⟩⟩) ?_
    · refine allp_mild 0 rfl rfl rfl (fun a x_ W hout hin hP => ?_) ?_
      · have e0 : a.tmps[0]? = some (.pointer (some ⟨g, 0, none⟩)) := (hout 0 (by kernel_rfl)).trans rfl
        exact does_move rfl e0 ⟨Same.refl _, rfl⟩
      refine allp_mild 0 rfl rfl rfl (fun a x_ W hout hin hP => ?_) ?_
      · have e6 := hin.is 0 6 (by kernel_rfl) (by decide) (by kernel_rfl) (by kernel_rfl) _ rfl
        clear hP
        clear hin hout
        intro K Q hK
        go_simp
        exact hK _ _ ⟨Same.refl _, rfl⟩
      refine allp_mild 0 rfl rfl rfl (fun a x_ W hout hin hP => ?_) ?_
      · have e7 := hin.is 1 7 (by kernel_rfl) (by decide) (by kernel_rfl) (by kernel_rfl) _ rfl
        exact does_move rfl e7 ⟨Same.refl _, rfl⟩
      refine allp_mild 0 rfl rfl rfl (fun a x_ W hout hin hP => ?_) ?_
      · have e0 : a.tmps[0]? = some (.pointer (some ⟨g, 0, none⟩)) := (hout 0 (by kernel_rfl)).trans rfl
        exact does_move rfl e0 ⟨Same.refl _, rfl⟩
      refine allp_mild 0 rfl rfl rfl (fun a x_ W hout hin hP => ?_) ?_
      · have e9 := hin.is 3 9 (by kernel_rfl) (by decide) (by kernel_rfl) (by kernel_rfl) _ rfl
        clear hP
        clear hin hout
        intro K Q hK
        go_simp
        exact hK _ _ ⟨Same.refl _, rfl⟩
      refine allp_mild 0 rfl rfl rfl (fun a x_ W hout hin hP => ?_) ?_
      · have e10 := hin.is 4 10 (by kernel_rfl) (by decide) (by kernel_rfl) (by kernel_rfl) _ rfl
        clear hP
        clear hin hout
        intro K Q hK
        go_simp
        exact hK _ _ ⟨Same.refl _, rfl⟩
      refine allp_mild 0 rfl rfl rfl (fun a x_ W hout hin hP => ?_) ?_
      · have e11 := hin.is 5 11 (by kernel_rfl) (by decide) (by kernel_rfl) (by kernel_rfl) _ rfl
        clear hin hout
        intro K Q hK
        refine wp_load_mid 30 (.tmp 11) rfl g 0 (eval_of_get e11) (pktA S.o.k S.o.e S.o.s (.slice A n c)).toList _ (hP.2.slab 0 _ rfl) Try.underlying30 rfl (by exact size_pkt) (hK _ _ ⟨Same.refl _, rfl⟩)
      refine allp_mild 0 rfl rfl rfl (fun a x_ W hout hin hP => ?_) ?_
      · have e12 := hin.is 6 12 (by kernel_rfl) (by decide) (by kernel_rfl) (by kernel_rfl) _ rfl
        have C := CI.out W
        clear hP
        clear hin hout
        intro K Q hK
        go_simp
        refine C.mono ?_
        rintro e W' ⟨rfl, hb⟩
        exact hK _ _ ⟨hb, rfl⟩
      refine allp_mild 0 rfl rfl rfl (fun a x_ W hout hin hP => ?_) ?_
      · have e13 := hin.is 7 13 (by kernel_rfl) (by decide) (by kernel_rfl) (by kernel_rfl) _ rfl
        exact does_not rfl e13 ⟨Same.refl _, rfl⟩
      refine allp_mild 0 rfl rfl rfl (fun a x_ W hout hin hP => ?_) ?_
      · have e8 := hin.is 2 8 (by kernel_rfl) (by decide) (by kernel_rfl) (by kernel_rfl) _ rfl
        have e14 := hin.is 8 14 (by kernel_rfl) (by decide) (by kernel_rfl) (by kernel_rfl) _ rfl
        exact does_pick rfl e8 ⟨Same.refl _, eval_of_get e14⟩
      refine allp_mild 0 rfl rfl rfl (fun a x_ W hout hin hP => ?_) ?_
      · have e15 := hin.is 9 15 (by kernel_rfl) (by decide) (by kernel_rfl) (by kernel_rfl) _ rfl
        exact does_move rfl e15 ⟨Same.refl _, rfl⟩
      refine allp_skip rfl rfl (fun _ => rfl) ?_
      refine allp_skip rfl rfl (fun _ => rfl) ?_
      refine allp_skip rfl rfl (fun _ => rfl) ?_
      refine allp_mild 0 rfl rfl rfl (fun a x_ W hout hin hP => ?_) ?_
      · have e16 := hin.is 10 16 (by kernel_rfl) (by decide) (by kernel_rfl) (by kernel_rfl) _ rfl
        have e19 := hin.is 13 19 (by kernel_rfl) (by decide) (by kernel_rfl) (by kernel_rfl) _ rfl
        exact does_pick rfl e16 ⟨Same.refl _, rfl⟩
      refine allp_mild 0 rfl rfl rfl (fun a x_ W hout hin hP => ?_) ?_
      · have e20 := hin.is 14 20 (by kernel_rfl) (by decide) (by kernel_rfl) (by kernel_rfl) _ rfl
        exact does_move rfl e20 ⟨Same.refl _, rfl⟩
      refine allp_skip rfl rfl (fun _ => rfl) ?_
      refine allp_skip rfl rfl (fun _ => rfl) ?_
      refine allp_skip rfl rfl (fun _ => rfl) ?_
      refine allp_skip rfl rfl (fun _ => rfl) ?_
      refine allp_skip rfl rfl (fun _ => rfl) ?_
      refine allp_skip rfl rfl (fun _ => rfl) ?_
      refine allp_skip rfl rfl (fun _ => rfl) ?_
      refine allp_skip rfl rfl (fun _ => rfl) ?_
      refine allp_mild 0 rfl rfl rfl (fun a x_ W hout hin hP => ?_) ?_
      · have e21 := hin.is 15 21 (by kernel_rfl) (by decide) (by kernel_rfl) (by kernel_rfl) _ rfl
        have e29 := hin.is 23 29 (by kernel_rfl) (by decide) (by kernel_rfl) (by kernel_rfl) _ rfl
        exact does_pick rfl e21 ⟨Same.refl _, rfl⟩
      refine allp_mild 0 rfl rfl rfl (fun a x_ W hout hin hP => ?_) ?_
      · have e30 := hin.is 24 30 (by kernel_rfl) (by decide) (by kernel_rfl) (by kernel_rfl) _ rfl
        exact does_move rfl e30 ⟨Same.refl _, rfl⟩
      refine allp_skip rfl rfl (fun _ => rfl) ?_
      refine allp_skip rfl rfl (fun _ => rfl) ?_
      refine allp_skip rfl rfl (fun _ => rfl) ?_
      refine allp_skip rfl rfl (fun _ => rfl) ?_
      refine allp_skip rfl rfl (fun _ => rfl) ?_
      refine allp_skip rfl rfl (fun _ => rfl) ?_
      refine allp_skip rfl rfl (fun _ => rfl) ?_
      refine allp_skip rfl rfl (fun _ => rfl) ?_
      refine allp_mild 0 rfl rfl rfl (fun a x_ W hout hin hP => ?_) ?_
      · have e31 := hin.is 25 31 (by kernel_rfl) (by decide) (by kernel_rfl) (by kernel_rfl) _ rfl
        have e39 := hin.is 33 39 (by kernel_rfl) (by decide) (by kernel_rfl) (by kernel_rfl) _ rfl
        exact does_pick rfl e31 ⟨Same.refl _, rfl⟩
      exact all_end (by decide)
    · intro x_ W hP hV
      have h34 : x_ 34 = .bool true := hV 34 (by decide) (.inl (by kernel_rfl))
      have HST := Lib.hid hP.1
      have HRW := Lib.hid hP.2
      clear hP hV
      simp only [putL, Act.put, List.setIfInBounds_toArray, List.set_cons_succ, List.set_cons_zero, h34]
      refine wpAnyH_done (by kernel_rfl) ?_ _
      clear h34
      go_wp2_with fail
      go_ret2
      exact ⟨rfl, SndAt.call ⟨A, n, c, B, m, d, HR.out, HPO.out, HPP.out⟩ HST.out.below, Chg.of_below HST.out.below⟩
  rw [decide_eq_true h0] at CI
  by_cases h1 : y.k = 3
  case neg =>
    have hB : ackB S y = false := by unfold ackB; rw [decide_eq_false h1]; simp
    have hS : ackS S y = S := by unfold ackS; rw [hB]; exact if_neg (fun h => by cases h)
    rw [hB, hS]
    clear hB hS
    have HQK : Hid ((y.k != 3) = true) := Lib.hid (bne_iff_ne.2 h1)
    clear h0 h1
    go_enter Try.func17, Try.ntmps17
    go_upto_region 1 with (first | ((with_reducible refine wpList_plain ?_ ?_); exact rfl; intro KK hKK; refine wp_st_box HS 30 (.tmp 1) rfl _ rfl (pktA y.k y.e y.s v) (rfl) (fun g1 W1 HSx => hKK _ _ ?_); clear hKK KK HS; have HS : St w noF [⟨g1, 30, pktA y.k y.e y.s v⟩] W1 := HSx; clear HSx))
    have hF0 : Wl [(fun W => St w noF [⟨g1, 30, pktA y.k y.e y.s v⟩] W ∧ Row W g 32 (sndC S.o S.p (.slice A n c) (.slice B m d) S.n S.t))] 0 (World.drew _) := ⟨HS.same (Below.refl _ _).drew, (HR.out.call HS.below).call (Below.refl _ _).drew⟩
    clear HS
    refine wp_region_phs [is (.pointer (some ⟨g, 0, none⟩)), is (.bool false), is (.bool false), is (.pointer (some ⟨g, 0, none⟩)), is (.pointer (some ⟨g, 0, none⟩)), is (.pointer (some ⟨g, 0, none⟩)), is (.agg (pktA S.o.k S.o.e S.o.s (.slice A n c))), is (.bool true), is (.bool false), is (.bool false), is (.bool false), is (.pointer (some ⟨g1, 0, none⟩)), is (.int .i64 y.k), is (.bool true), is (.bool true), is (.bool true), is undef, is undef, is undef, is undef, is undef, is undef, is undef, is undef, is (.bool true), is (.bool true), is undef, is undef, is undef, is undef, is undef, is undef, is undef, is undef, is (.bool true)] [true, true, true, true, true, true, true, true, true, true, true, true, true, true, true, true, true, true, true, true, true, true, true, true, true, true, true, true, true, true, true, true, true, true, true] [(fun W => St w noF [⟨g1, 30, pktA y.k y.e y.s v⟩] W ∧ Row W g 32 (sndC S.o S.p (.slice A n c) (.slice B m d) S.n S.t))] [false, false, false, false, false, false, false, false, false, false, false, false, false, false, false, false, false, false, false, false, false, false, false, false, false, false, false, false, false, false, false, false, false, false, false] [some 0, some 0, some 0, some 0, some 0, some 0, some 0, some 0, some 0, some 0, some 0, some 0, some 0, some 0, some 0, some 0, some 0, some 0, some 0, some 0, some 0, some 0, some 0, some 0, some 0, some 0, some 0, some 0, some 0, some 0, some 0, some 0, some 0, some 0, some 0] [some 6, some 7, some 8, some 9, some 10, some 11, some 12, some 13, some 14, some 15, some 16, some 17, some 18, some 19, some 20, some 21, some 22, some 23, some 24, some 25, some 26, some 27, some 28, some 29, some 30, some 31, some 32, some 33, some 34, some 35, some 36, some 37, some 38, some 39, some 40] 35 0 (fun i => !([16, 17, 18, 19, 20, 21, 22, 23, 26, 27, 28, 29, 30, 31, 32, 33] : List Nat).contains i) rfl rfl (by kernel_rfl) (by kernel_rfl) (by kernel_rfl) (by kernel_rfl) ?_ ?_ ?_ ?_ ?_ ?_
    · repeat first | exact wok_nil | refine wok_cons (by first | exact fun _ _ h k => ⟨h.1.same k, h.2.call k⟩) ?_
    · repeat first | exact vok_nil | refine vok_rig (by first | exact fun _ _ _ h => h) ?_ | refine vok_soft (by first | exact fun _ _ _ h _ => h) ?_
    · exact hF0
    · repeat first | exact all_end (by decide) | refine all_cons (by first | exact rfl | exact ⟨rfl, fun _ _ h => Or.inl h⟩ | exact ⟨rfl, fun _ _ h => Or.inr ⟨h, rfl⟩⟩) ?_
    · refine allp_mild 0 rfl rfl rfl (fun a x_ W hout hin hP => ?_) ?_
      · have e0 : a.tmps[0]? = some (.pointer (some ⟨g, 0, none⟩)) := (hout 0 (by kernel_rfl)).trans rfl
        exact does_move rfl e0 ⟨Same.refl _, rfl⟩
      refine allp_mild 0 rfl rfl rfl (fun a x_ W hout hin hP => ?_) ?_
      · have e6 := hin.is 0 6 (by kernel_rfl) (by decide) (by kernel_rfl) (by kernel_rfl) _ rfl
        clear hP
        clear hin hout
        intro K Q hK
        go_simp
        exact hK _ _ ⟨Same.refl _, rfl⟩
      refine allp_mild 0 rfl rfl rfl (fun a x_ W hout hin hP => ?_) ?_
      · have e7 := hin.is 1 7 (by kernel_rfl) (by decide) (by kernel_rfl) (by kernel_rfl) _ rfl
        exact does_move rfl e7 ⟨Same.refl _, rfl⟩
      refine allp_mild 0 rfl rfl rfl (fun a x_ W hout hin hP => ?_) ?_
      · have e0 : a.tmps[0]? = some (.pointer (some ⟨g, 0, none⟩)) := (hout 0 (by kernel_rfl)).trans rfl
        exact does_move rfl e0 ⟨Same.refl _, rfl⟩
      refine allp_mild 0 rfl rfl rfl (fun a x_ W hout hin hP => ?_) ?_
      · have e9 := hin.is 3 9 (by kernel_rfl) (by decide) (by kernel_rfl) (by kernel_rfl) _ rfl
        clear hP
        clear hin hout
        intro K Q hK
        go_simp
        exact hK _ _ ⟨Same.refl _, rfl⟩
      refine allp_mild 0 rfl rfl rfl (fun a x_ W hout hin hP => ?_) ?_
      · have e10 := hin.is 4 10 (by kernel_rfl) (by decide) (by kernel_rfl) (by kernel_rfl) _ rfl
        clear hP
        clear hin hout
        intro K Q hK
        go_simp
        exact hK _ _ ⟨Same.refl _, rfl⟩
      refine allp_mild 0 rfl rfl rfl (fun a x_ W hout hin hP => ?_) ?_
      · have e11 := hin.is 5 11 (by kernel_rfl) (by decide) (by kernel_rfl) (by kernel_rfl) _ rfl
        clear hin hout
        intro K Q hK
        refine wp_load_mid 30 (.tmp 11) rfl g 0 (eval_of_get e11) (pktA S.o.k S.o.e S.o.s (.slice A n c)).toList _ (hP.2.slab 0 _ rfl) Try.underlying30 rfl (by exact size_pkt) (hK _ _ ⟨Same.refl _, rfl⟩)
      refine allp_mild 0 rfl rfl rfl (fun a x_ W hout hin hP => ?_) ?_
      · have e12 := hin.is 6 12 (by kernel_rfl) (by decide) (by kernel_rfl) (by kernel_rfl) _ rfl
        have C := CI.out W
        clear hP
        clear hin hout
        intro K Q hK
        go_simp
        refine C.mono ?_
        rintro e W' ⟨rfl, hb⟩
        exact hK _ _ ⟨hb, rfl⟩
      refine allp_mild 0 rfl rfl rfl (fun a x_ W hout hin hP => ?_) ?_
      · have e13 := hin.is 7 13 (by kernel_rfl) (by decide) (by kernel_rfl) (by kernel_rfl) _ rfl
        exact does_not rfl e13 ⟨Same.refl _, rfl⟩
      refine allp_mild 0 rfl rfl rfl (fun a x_ W hout hin hP => ?_) ?_
      · have e8 := hin.is 2 8 (by kernel_rfl) (by decide) (by kernel_rfl) (by kernel_rfl) _ rfl
        have e14 := hin.is 8 14 (by kernel_rfl) (by decide) (by kernel_rfl) (by kernel_rfl) _ rfl
        exact does_pick rfl e8 ⟨Same.refl _, eval_of_get e14⟩
      refine allp_mild 0 rfl rfl rfl (fun a x_ W hout hin hP => ?_) ?_
      · have e15 := hin.is 9 15 (by kernel_rfl) (by decide) (by kernel_rfl) (by kernel_rfl) _ rfl
        exact does_move rfl e15 ⟨Same.refl _, rfl⟩
      refine allp_mild 0 rfl rfl rfl (fun a x_ W hout hin hP => ?_) ?_
      · have e3 : a.tmps[3]? = some (.pointer (some ⟨g1, 0, none⟩)) := (hout 3 (by kernel_rfl)).trans rfl
        clear hP
        clear hin hout
        intro K Q hK
        go_simp
        exact hK _ _ ⟨Same.refl _, rfl⟩
      refine allp_mild 0 rfl rfl rfl (fun a x_ W hout hin hP => ?_) ?_
      · have e17 := hin.is 11 17 (by kernel_rfl) (by decide) (by kernel_rfl) (by kernel_rfl) _ rfl
        have hc : W.cell? ⟨g1, 0, none⟩ = some (.int .i64 y.k) := (hP.1.row 0 rfl).get rfl
        clear hP
        clear hin hout
        intro K Q hK
        go_simp
        exact hK _ _ ⟨Same.refl _, rfl⟩
      refine allp_mild 0 rfl rfl rfl (fun a x_ W hout hin hP => ?_) ?_
      · have e18 := hin.is 12 18 (by kernel_rfl) (by decide) (by kernel_rfl) (by kernel_rfl) _ rfl
        have hq := HQK.out
        clear hP
        clear hin hout
        intro K Q hK
        go_simp
        exact hK _ _ ⟨Same.refl _, rfl⟩
      refine allp_mild 0 rfl rfl rfl (fun a x_ W hout hin hP => ?_) ?_
      · have e16 := hin.is 10 16 (by kernel_rfl) (by decide) (by kernel_rfl) (by kernel_rfl) _ rfl
        have e19 := hin.is 13 19 (by kernel_rfl) (by decide) (by kernel_rfl) (by kernel_rfl) _ rfl
        exact does_pick rfl e16 ⟨Same.refl _, eval_of_get e19⟩
      refine allp_mild 0 rfl rfl rfl (fun a x_ W hout hin hP => ?_) ?_
      · have e20 := hin.is 14 20 (by kernel_rfl) (by decide) (by kernel_rfl) (by kernel_rfl) _ rfl
        exact does_move rfl e20 ⟨Same.refl _, rfl⟩
      refine allp_skip rfl rfl (fun _ => rfl) ?_
      refine allp_skip rfl rfl (fun _ => rfl) ?_
      refine allp_skip rfl rfl (fun _ => rfl) ?_
      refine allp_skip rfl rfl (fun _ => rfl) ?_
      refine allp_skip rfl rfl (fun _ => rfl) ?_
      refine allp_skip rfl rfl (fun _ => rfl) ?_
      refine allp_skip rfl rfl (fun _ => rfl) ?_
      refine allp_skip rfl rfl (fun _ => rfl) ?_
      refine allp_mild 0 rfl rfl rfl (fun a x_ W hout hin hP => ?_) ?_
      · have e21 := hin.is 15 21 (by kernel_rfl) (by decide) (by kernel_rfl) (by kernel_rfl) _ rfl
        have e29 := hin.is 23 29 (by kernel_rfl) (by decide) (by kernel_rfl) (by kernel_rfl) _ rfl
        exact does_pick rfl e21 ⟨Same.refl _, rfl⟩
      refine allp_mild 0 rfl rfl rfl (fun a x_ W hout hin hP => ?_) ?_
      · have e30 := hin.is 24 30 (by kernel_rfl) (by decide) (by kernel_rfl) (by kernel_rfl) _ rfl
        exact does_move rfl e30 ⟨Same.refl _, rfl⟩
      refine allp_skip rfl rfl (fun _ => rfl) ?_
      refine allp_skip rfl rfl (fun _ => rfl) ?_
      refine allp_skip rfl rfl (fun _ => rfl) ?_
      refine allp_skip rfl rfl (fun _ => rfl) ?_
      refine allp_skip rfl rfl (fun _ => rfl) ?_
      refine allp_skip rfl rfl (fun _ => rfl) ?_
      refine allp_skip rfl rfl (fun _ => rfl) ?_
      refine allp_skip rfl rfl (fun _ => rfl) ?_
      refine allp_mild 0 rfl rfl rfl (fun a x_ W hout hin hP => ?_) ?_
      · have e31 := hin.is 25 31 (by kernel_rfl) (by decide) (by kernel_rfl) (by kernel_rfl) _ rfl
        have e39 := hin.is 33 39 (by kernel_rfl) (by decide) (by kernel_rfl) (by kernel_rfl) _ rfl
        exact does_pick rfl e31 ⟨Same.refl _, rfl⟩
      exact all_end (by decide)
    · intro x_ W hP hV
      have h34 : x_ 34 = .bool true := hV 34 (by decide) (.inl (by kernel_rfl))
      have HST := Lib.hid hP.1
      have HRW := Lib.hid hP.2
      clear hP hV
      simp only [putL, Act.put, List.setIfInBounds_toArray, List.set_cons_succ, List.set_cons_zero, h34]
      refine wpAnyH_done (by kernel_rfl) ?_ _
      clear h34
      go_wp2_with fail
      go_ret2
      exact ⟨rfl, SndAt.call ⟨A, n, c, B, m, d, HR.out, HPO.out, HPP.out⟩ HST.out.below, Chg.of_below HST.out.below⟩
  have HQK : Hid (y.k = 3) := Lib.hid h1
  by_cases h2 : y.e = S.o.e
  case neg =>
    have hB : ackB S y = false := by unfold ackB; rw [decide_eq_false h2]; simp
    have hS : ackS S y = S := by unfold ackS; rw [hB]; exact if_neg (fun h => by cases h)
    rw [hB, hS]
    clear hB hS
    have HQE : Hid ((wd y.e != wd S.o.e) = true) := Lib.hid (bne_iff_ne.2 fun h => h2 (wd_inj h))
    clear h0 h1 h2
    go_enter Try.func17, Try.ntmps17
    go_upto_region 1 with (first | ((with_reducible refine wpList_plain ?_ ?_); exact rfl; intro KK hKK; refine wp_st_box HS 30 (.tmp 1) rfl _ rfl (pktA y.k y.e y.s v) (rfl) (fun g1 W1 HSx => hKK _ _ ?_); clear hKK KK HS; have HS : St w noF [⟨g1, 30, pktA y.k y.e y.s v⟩] W1 := HSx; clear HSx))
    have hF0 : Wl [(fun W => St w noF [⟨g1, 30, pktA y.k y.e y.s v⟩] W ∧ Row W g 32 (sndC S.o S.p (.slice A n c) (.slice B m d) S.n S.t))] 0 (World.drew _) := ⟨HS.same (Below.refl _ _).drew, (HR.out.call HS.below).call (Below.refl _ _).drew⟩
    clear HS
    refine wp_region_phs [is (.pointer (some ⟨g, 0, none⟩)), is (.bool false), is (.bool false), is (.pointer (some ⟨g, 0, none⟩)), is (.pointer (some ⟨g, 0, none⟩)), is (.pointer (some ⟨g, 0, none⟩)), is (.agg (pktA S.o.k S.o.e S.o.s (.slice A n c))), is (.bool true), is (.bool false), is (.bool false), is (.bool false), is (.pointer (some ⟨g1, 0, none⟩)), is (.int .i64 y.k), is (.bool false), is (.bool false), is (.bool false), is (.pointer (some ⟨g1, 1, none⟩)), is (.int .u32 (wd y.e)), is (.pointer (some ⟨g, 0, none⟩)), is (.pointer (some ⟨g, 0, none⟩)), is (.pointer (some ⟨g, 0, none⟩)), is (.pointer (some ⟨g, 1, none⟩)), is (.int .u32 (wd S.o.e)), is (.bool true), is (.bool true), is (.bool true), is undef, is undef, is undef, is undef, is undef, is undef, is undef, is undef, is (.bool true)] [true, true, true, true, true, true, true, true, true, true, true, true, true, true, true, true, true, true, true, true, true, true, true, true, true, true, true, true, true, true, true, true, true, true, true] [(fun W => St w noF [⟨g1, 30, pktA y.k y.e y.s v⟩] W ∧ Row W g 32 (sndC S.o S.p (.slice A n c) (.slice B m d) S.n S.t))] [false, false, false, false, false, false, false, false, false, false, false, false, false, false, false, false, false, false, false, false, false, false, false, false, false, false, false, false, false, false, false, false, false, false, false] [some 0, some 0, some 0, some 0, some 0, some 0, some 0, some 0, some 0, some 0, some 0, some 0, some 0, some 0, some 0, some 0, some 0, some 0, some 0, some 0, some 0, some 0, some 0, some 0, some 0, some 0, some 0, some 0, some 0, some 0, some 0, some 0, some 0, some 0, some 0] [some 6, some 7, some 8, some 9, some 10, some 11, some 12, some 13, some 14, some 15, some 16, some 17, some 18, some 19, some 20, some 21, some 22, some 23, some 24, some 25, some 26, some 27, some 28, some 29, some 30, some 31, some 32, some 33, some 34, some 35, some 36, some 37, some 38, some 39, some 40] 35 0 (fun i => !([26, 27, 28, 29, 30, 31, 32, 33] : List Nat).contains i) rfl rfl (by kernel_rfl) (by kernel_rfl) (by kernel_rfl) (by kernel_rfl) ?_ ?_ ?_ ?_ ?_ ?_
    · repeat first | exact wok_nil | refine wok_cons (by first | exact fun _ _ h k => ⟨h.1.same k, h.2.call k⟩) ?_
    · repeat first | exact vok_nil | refine vok_rig (by first | exact fun _ _ _ h => h) ?_ | refine vok_soft (by first | exact fun _ _ _ h _ => h) ?_
    · exact hF0
    · repeat first | exact all_end (by decide) | refine all_cons (by first | exact rfl | exact ⟨rfl, fun _ _ h => Or.inl h⟩ | exact ⟨rfl, fun _ _ h => Or.inr ⟨h, rfl⟩⟩) ?_
    · refine allp_mild 0 rfl rfl rfl (fun a x_ W hout hin hP => ?_) ?_
      · have e0 : a.tmps[0]? = some (.pointer (some ⟨g, 0, none⟩)) := (hout 0 (by kernel_rfl)).trans rfl
        exact does_move rfl e0 ⟨Same.refl _, rfl⟩
      refine allp_mild 0 rfl rfl rfl (fun a x_ W hout hin hP => ?_) ?_
      · have e6 := hin.is 0 6 (by kernel_rfl) (by decide) (by kernel_rfl) (by kernel_rfl) _ rfl
        clear hP
        clear hin hout
        intro K Q hK
        go_simp
        exact hK _ _ ⟨Same.refl _, rfl⟩
      refine allp_mild 0 rfl rfl rfl (fun a x_ W hout hin hP => ?_) ?_
      · have e7 := hin.is 1 7 (by kernel_rfl) (by decide) (by kernel_rfl) (by kernel_rfl) _ rfl
        exact does_move rfl e7 ⟨Same.refl _, rfl⟩
      refine allp_mild 0 rfl rfl rfl (fun a x_ W hout hin hP => ?_) ?_
      · have e0 : a.tmps[0]? = some (.pointer (some ⟨g, 0, none⟩)) := (hout 0 (by kernel_rfl)).trans rfl
        exact does_move rfl e0 ⟨Same.refl _, rfl⟩
      refine allp_mild 0 rfl rfl rfl (fun a x_ W hout hin hP => ?_) ?_
      · have e9 := hin.is 3 9 (by kernel_rfl) (by decide) (by kernel_rfl) (by kernel_rfl) _ rfl
        clear hP
        clear hin hout
        intro K Q hK
        go_simp
        exact hK _ _ ⟨Same.refl _, rfl⟩
      refine allp_mild 0 rfl rfl rfl (fun a x_ W hout hin hP => ?_) ?_
      · have e10 := hin.is 4 10 (by kernel_rfl) (by decide) (by kernel_rfl) (by kernel_rfl) _ rfl
        clear hP
        clear hin hout
        intro K Q hK
        go_simp
        exact hK _ _ ⟨Same.refl _, rfl⟩
      refine allp_mild 0 rfl rfl rfl (fun a x_ W hout hin hP => ?_) ?_
      · have e11 := hin.is 5 11 (by kernel_rfl) (by decide) (by kernel_rfl) (by kernel_rfl) _ rfl
        clear hin hout
        intro K Q hK
        refine wp_load_mid 30 (.tmp 11) rfl g 0 (eval_of_get e11) (pktA S.o.k S.o.e S.o.s (.slice A n c)).toList _ (hP.2.slab 0 _ rfl) Try.underlying30 rfl (by exact size_pkt) (hK _ _ ⟨Same.refl _, rfl⟩)
      refine allp_mild 0 rfl rfl rfl (fun a x_ W hout hin hP => ?_) ?_
      · have e12 := hin.is 6 12 (by kernel_rfl) (by decide) (by kernel_rfl) (by kernel_rfl) _ rfl
        have C := CI.out W
        clear hP
        clear hin hout
        intro K Q hK
        go_simp
        refine C.mono ?_
        rintro e W' ⟨rfl, hb⟩
        exact hK _ _ ⟨hb, rfl⟩
      refine allp_mild 0 rfl rfl rfl (fun a x_ W hout hin hP => ?_) ?_
      · have e13 := hin.is 7 13 (by kernel_rfl) (by decide) (by kernel_rfl) (by kernel_rfl) _ rfl
        exact does_not rfl e13 ⟨Same.refl _, rfl⟩
      refine allp_mild 0 rfl rfl rfl (fun a x_ W hout hin hP => ?_) ?_
      · have e8 := hin.is 2 8 (by kernel_rfl) (by decide) (by kernel_rfl) (by kernel_rfl) _ rfl
        have e14 := hin.is 8 14 (by kernel_rfl) (by decide) (by kernel_rfl) (by kernel_rfl) _ rfl
        exact does_pick rfl e8 ⟨Same.refl _, eval_of_get e14⟩
      refine allp_mild 0 rfl rfl rfl (fun a x_ W hout hin hP => ?_) ?_
      · have e15 := hin.is 9 15 (by kernel_rfl) (by decide) (by kernel_rfl) (by kernel_rfl) _ rfl
        exact does_move rfl e15 ⟨Same.refl _, rfl⟩
      refine allp_mild 0 rfl rfl rfl (fun a x_ W hout hin hP => ?_) ?_
      · have e3 : a.tmps[3]? = some (.pointer (some ⟨g1, 0, none⟩)) := (hout 3 (by kernel_rfl)).trans rfl
        clear hP
        clear hin hout
        intro K Q hK
        go_simp
        exact hK _ _ ⟨Same.refl _, rfl⟩
      refine allp_mild 0 rfl rfl rfl (fun a x_ W hout hin hP => ?_) ?_
      · have e17 := hin.is 11 17 (by kernel_rfl) (by decide) (by kernel_rfl) (by kernel_rfl) _ rfl
        have hc : W.cell? ⟨g1, 0, none⟩ = some (.int .i64 y.k) := (hP.1.row 0 rfl).get rfl
        clear hP
        clear hin hout
        intro K Q hK
        go_simp
        exact hK _ _ ⟨Same.refl _, rfl⟩
      refine allp_mild 0 rfl rfl rfl (fun a x_ W hout hin hP => ?_) ?_
      · have e18 := hin.is 12 18 (by kernel_rfl) (by decide) (by kernel_rfl) (by kernel_rfl) _ rfl
        have hq := HQK.out
        clear hP
        clear hin hout
        intro K Q hK
        go_simp
        exact hK _ _ ⟨Same.refl _, rfl⟩
      refine allp_mild 0 rfl rfl rfl (fun a x_ W hout hin hP => ?_) ?_
      · have e16 := hin.is 10 16 (by kernel_rfl) (by decide) (by kernel_rfl) (by kernel_rfl) _ rfl
        have e19 := hin.is 13 19 (by kernel_rfl) (by decide) (by kernel_rfl) (by kernel_rfl) _ rfl
        exact does_pick rfl e16 ⟨Same.refl _, eval_of_get e19⟩
      refine allp_mild 0 rfl rfl rfl (fun a x_ W hout hin hP => ?_) ?_
      · have e20 := hin.is 14 20 (by kernel_rfl) (by decide) (by kernel_rfl) (by kernel_rfl) _ rfl
        exact does_move rfl e20 ⟨Same.refl _, rfl⟩
      refine allp_mild 0 rfl rfl rfl (fun a x_ W hout hin hP => ?_) ?_
      · have e3 : a.tmps[3]? = some (.pointer (some ⟨g1, 0, none⟩)) := (hout 3 (by kernel_rfl)).trans rfl
        clear hP
        clear hin hout
        intro K Q hK
        go_simp
        exact hK _ _ ⟨Same.refl _, rfl⟩
      refine allp_mild 0 rfl rfl rfl (fun a x_ W hout hin hP => ?_) ?_
      · have e22 := hin.is 16 22 (by kernel_rfl) (by decide) (by kernel_rfl) (by kernel_rfl) _ rfl
        have hc : W.cell? ⟨g1, 1, none⟩ = some (.int .u32 (wd y.e)) := (hP.1.row 0 rfl).get rfl
        clear hP
        clear hin hout
        intro K Q hK
        go_simp
        exact hK _ _ ⟨Same.refl _, rfl⟩
      refine allp_mild 0 rfl rfl rfl (fun a x_ W hout hin hP => ?_) ?_
      · have e0 : a.tmps[0]? = some (.pointer (some ⟨g, 0, none⟩)) := (hout 0 (by kernel_rfl)).trans rfl
        exact does_move rfl e0 ⟨Same.refl _, rfl⟩
      refine allp_mild 0 rfl rfl rfl (fun a x_ W hout hin hP => ?_) ?_
      · have e24 := hin.is 18 24 (by kernel_rfl) (by decide) (by kernel_rfl) (by kernel_rfl) _ rfl
        clear hP
        clear hin hout
        intro K Q hK
        go_simp
        exact hK _ _ ⟨Same.refl _, rfl⟩
      refine allp_mild 0 rfl rfl rfl (fun a x_ W hout hin hP => ?_) ?_
      · have e25 := hin.is 19 25 (by kernel_rfl) (by decide) (by kernel_rfl) (by kernel_rfl) _ rfl
        clear hP
        clear hin hout
        intro K Q hK
        go_simp
        exact hK _ _ ⟨Same.refl _, rfl⟩
      refine allp_mild 0 rfl rfl rfl (fun a x_ W hout hin hP => ?_) ?_
      · have e26 := hin.is 20 26 (by kernel_rfl) (by decide) (by kernel_rfl) (by kernel_rfl) _ rfl
        clear hP
        clear hin hout
        intro K Q hK
        go_simp
        exact hK _ _ ⟨Same.refl _, rfl⟩
      refine allp_mild 0 rfl rfl rfl (fun a x_ W hout hin hP => ?_) ?_
      · have e27 := hin.is 21 27 (by kernel_rfl) (by decide) (by kernel_rfl) (by kernel_rfl) _ rfl
        have hc : W.cell? ⟨g, 1, none⟩ = some (.int .u32 (wd S.o.e)) := hP.2.get rfl
        clear hP
        clear hin hout
        intro K Q hK
        go_simp
        exact hK _ _ ⟨Same.refl _, rfl⟩
      refine allp_mild 0 rfl rfl rfl (fun a x_ W hout hin hP => ?_) ?_
      · have e23 := hin.is 17 23 (by kernel_rfl) (by decide) (by kernel_rfl) (by kernel_rfl) _ rfl
        have e28 := hin.is 22 28 (by kernel_rfl) (by decide) (by kernel_rfl) (by kernel_rfl) _ rfl
        have hq := HQE.out
        clear hP
        clear hin hout
        intro K Q hK
        go_simp
        exact hK _ _ ⟨Same.refl _, rfl⟩
      refine allp_mild 0 rfl rfl rfl (fun a x_ W hout hin hP => ?_) ?_
      · have e21 := hin.is 15 21 (by kernel_rfl) (by decide) (by kernel_rfl) (by kernel_rfl) _ rfl
        have e29 := hin.is 23 29 (by kernel_rfl) (by decide) (by kernel_rfl) (by kernel_rfl) _ rfl
        exact does_pick rfl e21 ⟨Same.refl _, eval_of_get e29⟩
      refine allp_mild 0 rfl rfl rfl (fun a x_ W hout hin hP => ?_) ?_
      · have e30 := hin.is 24 30 (by kernel_rfl) (by decide) (by kernel_rfl) (by kernel_rfl) _ rfl
        exact does_move rfl e30 ⟨Same.refl _, rfl⟩
      refine allp_skip rfl rfl (fun _ => rfl) ?_
      refine allp_skip rfl rfl (fun _ => rfl) ?_
      refine allp_skip rfl rfl (fun _ => rfl) ?_
      refine allp_skip rfl rfl (fun _ => rfl) ?_
      refine allp_skip rfl rfl (fun _ => rfl) ?_
      refine allp_skip rfl rfl (fun _ => rfl) ?_
      refine allp_skip rfl rfl (fun _ => rfl) ?_
      refine allp_skip rfl rfl (fun _ => rfl) ?_
      refine allp_mild 0 rfl rfl rfl (fun a x_ W hout hin hP => ?_) ?_
      · have e31 := hin.is 25 31 (by kernel_rfl) (by decide) (by kernel_rfl) (by kernel_rfl) _ rfl
        have e39 := hin.is 33 39 (by kernel_rfl) (by decide) (by kernel_rfl) (by kernel_rfl) _ rfl
        exact does_pick rfl e31 ⟨Same.refl _, rfl⟩
      exact all_end (by decide)
    · intro x_ W hP hV
      have h34 : x_ 34 = .bool true := hV 34 (by decide) (.inl (by kernel_rfl))
      have HST := Lib.hid hP.1
      have HRW := Lib.hid hP.2
      clear hP hV
      simp only [putL, Act.put, List.setIfInBounds_toArray, List.set_cons_succ, List.set_cons_zero, h34]
      refine wpAnyH_done (by kernel_rfl) ?_ _
      clear h34
      go_wp2_with fail
      go_ret2
      exact ⟨rfl, SndAt.call ⟨A, n, c, B, m, d, HR.out, HPO.out, HPP.out⟩ HST.out.below, Chg.of_below HST.out.below⟩
  have HQE : Hid (wd y.e = wd S.o.e) := Lib.hid (by rw [h2])
  by_cases h3 : y.s = S.o.s
  case neg =>
    have hB : ackB S y = false := by unfold ackB; rw [decide_eq_false h3]; simp
    have hS : ackS S y = S := by unfold ackS; rw [hB]; exact if_neg (fun h => by cases h)
    rw [hB, hS]
    clear hB hS
    have HQS : Hid ((wd y.s != wd S.o.s) = true) := Lib.hid (bne_iff_ne.2 fun h => h3 (wd_inj h))
    clear h0 h1 h2 h3
    go_enter Try.func17, Try.ntmps17
    go_upto_region 1 with (first | ((with_reducible refine wpList_plain ?_ ?_); exact rfl; intro KK hKK; refine wp_st_box HS 30 (.tmp 1) rfl _ rfl (pktA y.k y.e y.s v) (rfl) (fun g1 W1 HSx => hKK _ _ ?_); clear hKK KK HS; have HS : St w noF [⟨g1, 30, pktA y.k y.e y.s v⟩] W1 := HSx; clear HSx))
    have hF0 : Wl [(fun W => St w noF [⟨g1, 30, pktA y.k y.e y.s v⟩] W ∧ Row W g 32 (sndC S.o S.p (.slice A n c) (.slice B m d) S.n S.t))] 0 (World.drew _) := ⟨HS.same (Below.refl _ _).drew, (HR.out.call HS.below).call (Below.refl _ _).drew⟩
    clear HS
    refine wp_region_phs [is (.pointer (some ⟨g, 0, none⟩)), is (.bool false), is (.bool false), is (.pointer (some ⟨g, 0, none⟩)), is (.pointer (some ⟨g, 0, none⟩)), is (.pointer (some ⟨g, 0, none⟩)), is (.agg (pktA S.o.k S.o.e S.o.s (.slice A n c))), is (.bool true), is (.bool false), is (.bool false), is (.bool false), is (.pointer (some ⟨g1, 0, none⟩)), is (.int .i64 y.k), is (.bool false), is (.bool false), is (.bool false), is (.pointer (some ⟨g1, 1, none⟩)), is (.int .u32 (wd y.e)), is (.pointer (some ⟨g, 0, none⟩)), is (.pointer (some ⟨g, 0, none⟩)), is (.pointer (some ⟨g, 0, none⟩)), is (.pointer (some ⟨g, 1, none⟩)), is (.int .u32 (wd S.o.e)), is (.bool false), is (.bool false), is (.bool false), is (.pointer (some ⟨g1, 2, none⟩)), is (.int .u32 (wd y.s)), is (.pointer (some ⟨g, 0, none⟩)), is (.pointer (some ⟨g, 0, none⟩)), is (.pointer (some ⟨g, 0, none⟩)), is (.pointer (some ⟨g, 2, none⟩)), is (.int .u32 (wd S.o.s)), is (.bool true), is (.bool true)] [true, true, true, true, true, true, true, true, true, true, true, true, true, true, true, true, true, true, true, true, true, true, true, true, true, true, true, true, true, true, true, true, true, true, true] [(fun W => St w noF [⟨g1, 30, pktA y.k y.e y.s v⟩] W ∧ Row W g 32 (sndC S.o S.p (.slice A n c) (.slice B m d) S.n S.t))] [false, false, false, false, false, false, false, false, false, false, false, false, false, false, false, false, false, false, false, false, false, false, false, false, false, false, false, false, false, false, false, false, false, false, false] [some 0, some 0, some 0, some 0, some 0, some 0, some 0, some 0, some 0, some 0, some 0, some 0, some 0, some 0, some 0, some 0, some 0, some 0, some 0, some 0, some 0, some 0, some 0, some 0, some 0, some 0, some 0, some 0, some 0, some 0, some 0, some 0, some 0, some 0, some 0] [some 6, some 7, some 8, some 9, some 10, some 11, some 12, some 13, some 14, some 15, some 16, some 17, some 18, some 19, some 20, some 21, some 22, some 23, some 24, some 25, some 26, some 27, some 28, some 29, some 30, some 31, some 32, some 33, some 34, some 35, some 36, some 37, some 38, some 39, some 40] 35 0 (fun _ => true) rfl rfl (by kernel_rfl) (by kernel_rfl) (by kernel_rfl) (by kernel_rfl) ?_ ?_ ?_ ?_ ?_ ?_
    · repeat first | exact wok_nil | refine wok_cons (by first | exact fun _ _ h k => ⟨h.1.same k, h.2.call k⟩) ?_
    · repeat first | exact vok_nil | refine vok_rig (by first | exact fun _ _ _ h => h) ?_ | refine vok_soft (by first | exact fun _ _ _ h _ => h) ?_
    · exact hF0
    · repeat first | exact all_end (by decide) | refine all_cons (by first | exact rfl | exact ⟨rfl, fun _ _ h => Or.inl h⟩ | exact ⟨rfl, fun _ _ h => Or.inr ⟨h, rfl⟩⟩) ?_
    · refine allp_mild 0 rfl rfl rfl (fun a x_ W hout hin hP => ?_) ?_
      · have e0 : a.tmps[0]? = some (.pointer (some ⟨g, 0, none⟩)) := (hout 0 (by kernel_rfl)).trans rfl
        exact does_move rfl e0 ⟨Same.refl _, rfl⟩
      refine allp_mild 0 rfl rfl rfl (fun a x_ W hout hin hP => ?_) ?_
      · have e6 := hin.is 0 6 (by kernel_rfl) (by decide) (by kernel_rfl) (by kernel_rfl) _ rfl
        clear hP
        clear hin hout
        intro K Q hK
        go_simp
        exact hK _ _ ⟨Same.refl _, rfl⟩
      refine allp_mild 0 rfl rfl rfl (fun a x_ W hout hin hP => ?_) ?_
      · have e7 := hin.is 1 7 (by kernel_rfl) (by decide) (by kernel_rfl) (by kernel_rfl) _ rfl
        exact does_move rfl e7 ⟨Same.refl _, rfl⟩
      refine allp_mild 0 rfl rfl rfl (fun a x_ W hout hin hP => ?_) ?_
      · have e0 : a.tmps[0]? = some (.pointer (some ⟨g, 0, none⟩)) := (hout 0 (by kernel_rfl)).trans rfl
        exact does_move rfl e0 ⟨Same.refl _, rfl⟩
      refine allp_mild 0 rfl rfl rfl (fun a x_ W hout hin hP => ?_) ?_
      · have e9 := hin.is 3 9 (by kernel_rfl) (by decide) (by kernel_rfl) (by kernel_rfl) _ rfl
        clear hP
        clear hin hout
        intro K Q hK
        go_simp
        exact hK _ _ ⟨Same.refl _, rfl⟩
      refine allp_mild 0 rfl rfl rfl (fun a x_ W hout hin hP => ?_) ?_
      · have e10 := hin.is 4 10 (by kernel_rfl) (by decide) (by kernel_rfl) (by kernel_rfl) _ rfl
        clear hP
        clear hin hout
        intro K Q hK
        go_simp
        exact hK _ _ ⟨Same.refl _, rfl⟩
      refine allp_mild 0 rfl rfl rfl (fun a x_ W hout hin hP => ?_) ?_
      · have e11 := hin.is 5 11 (by kernel_rfl) (by decide) (by kernel_rfl) (by kernel_rfl) _ rfl
        clear hin hout
        intro K Q hK
        refine wp_load_mid 30 (.tmp 11) rfl g 0 (eval_of_get e11) (pktA S.o.k S.o.e S.o.s (.slice A n c)).toList _ (hP.2.slab 0 _ rfl) Try.underlying30 rfl (by exact size_pkt) (hK _ _ ⟨Same.refl _, rfl⟩)
      refine allp_mild 0 rfl rfl rfl (fun a x_ W hout hin hP => ?_) ?_
      · have e12 := hin.is 6 12 (by kernel_rfl) (by decide) (by kernel_rfl) (by kernel_rfl) _ rfl
        have C := CI.out W
        clear hP
        clear hin hout
        intro K Q hK
        go_simp
        refine C.mono ?_
        rintro e W' ⟨rfl, hb⟩
        exact hK _ _ ⟨hb, rfl⟩
      refine allp_mild 0 rfl rfl rfl (fun a x_ W hout hin hP => ?_) ?_
      · have e13 := hin.is 7 13 (by kernel_rfl) (by decide) (by kernel_rfl) (by kernel_rfl) _ rfl
        exact does_not rfl e13 ⟨Same.refl _, rfl⟩
      refine allp_mild 0 rfl rfl rfl (fun a x_ W hout hin hP => ?_) ?_
      · have e8 := hin.is 2 8 (by kernel_rfl) (by decide) (by kernel_rfl) (by kernel_rfl) _ rfl
        have e14 := hin.is 8 14 (by kernel_rfl) (by decide) (by kernel_rfl) (by kernel_rfl) _ rfl
        exact does_pick rfl e8 ⟨Same.refl _, eval_of_get e14⟩
      refine allp_mild 0 rfl rfl rfl (fun a x_ W hout hin hP => ?_) ?_
      · have e15 := hin.is 9 15 (by kernel_rfl) (by decide) (by kernel_rfl) (by kernel_rfl) _ rfl
        exact does_move rfl e15 ⟨Same.refl _, rfl⟩
      refine allp_mild 0 rfl rfl rfl (fun a x_ W hout hin hP => ?_) ?_
      · have e3 : a.tmps[3]? = some (.pointer (some ⟨g1, 0, none⟩)) := (hout 3 (by kernel_rfl)).trans rfl
        clear hP
        clear hin hout
        intro K Q hK
        go_simp
        exact hK _ _ ⟨Same.refl _, rfl⟩
      refine allp_mild 0 rfl rfl rfl (fun a x_ W hout hin hP => ?_) ?_
      · have e17 := hin.is 11 17 (by kernel_rfl) (by decide) (by kernel_rfl) (by kernel_rfl) _ rfl
        have hc : W.cell? ⟨g1, 0, none⟩ = some (.int .i64 y.k) := (hP.1.row 0 rfl).get rfl
        clear hP
        clear hin hout
        intro K Q hK
        go_simp
        exact hK _ _ ⟨Same.refl _, rfl⟩
      refine allp_mild 0 rfl rfl rfl (fun a x_ W hout hin hP => ?_) ?_
      · have e18 := hin.is 12 18 (by kernel_rfl) (by decide) (by kernel_rfl) (by kernel_rfl) _ rfl
        have hq := HQK.out
        clear hP
        clear hin hout
        intro K Q hK
        go_simp
        exact hK _ _ ⟨Same.refl _, rfl⟩
      refine allp_mild 0 rfl rfl rfl (fun a x_ W hout hin hP => ?_) ?_
      · have e16 := hin.is 10 16 (by kernel_rfl) (by decide) (by kernel_rfl) (by kernel_rfl) _ rfl
        have e19 := hin.is 13 19 (by kernel_rfl) (by decide) (by kernel_rfl) (by kernel_rfl) _ rfl
        exact does_pick rfl e16 ⟨Same.refl _, eval_of_get e19⟩
      refine allp_mild 0 rfl rfl rfl (fun a x_ W hout hin hP => ?_) ?_
      · have e20 := hin.is 14 20 (by kernel_rfl) (by decide) (by kernel_rfl) (by kernel_rfl) _ rfl
        exact does_move rfl e20 ⟨Same.refl _, rfl⟩
      refine allp_mild 0 rfl rfl rfl (fun a x_ W hout hin hP => ?_) ?_
      · have e3 : a.tmps[3]? = some (.pointer (some ⟨g1, 0, none⟩)) := (hout 3 (by kernel_rfl)).trans rfl
        clear hP
        clear hin hout
        intro K Q hK
        go_simp
        exact hK _ _ ⟨Same.refl _, rfl⟩
      refine allp_mild 0 rfl rfl rfl (fun a x_ W hout hin hP => ?_) ?_
      · have e22 := hin.is 16 22 (by kernel_rfl) (by decide) (by kernel_rfl) (by kernel_rfl) _ rfl
        have hc : W.cell? ⟨g1, 1, none⟩ = some (.int .u32 (wd y.e)) := (hP.1.row 0 rfl).get rfl
        clear hP
        clear hin hout
        intro K Q hK
        go_simp
        exact hK _ _ ⟨Same.refl _, rfl⟩
      refine allp_mild 0 rfl rfl rfl (fun a x_ W hout hin hP => ?_) ?_
      · have e0 : a.tmps[0]? = some (.pointer (some ⟨g, 0, none⟩)) := (hout 0 (by kernel_rfl)).trans rfl
        exact does_move rfl e0 ⟨Same.refl _, rfl⟩
      refine allp_mild 0 rfl rfl rfl (fun a x_ W hout hin hP => ?_) ?_
      · have e24 := hin.is 18 24 (by kernel_rfl) (by decide) (by kernel_rfl) (by kernel_rfl) _ rfl
        clear hP
        clear hin hout
        intro K Q hK
        go_simp
        exact hK _ _ ⟨Same.refl _, rfl⟩
      refine allp_mild 0 rfl rfl rfl (fun a x_ W hout hin hP => ?_) ?_
      · have e25 := hin.is 19 25 (by kernel_rfl) (by decide) (by kernel_rfl) (by kernel_rfl) _ rfl
        clear hP
        clear hin hout
        intro K Q hK
        go_simp
        exact hK _ _ ⟨Same.refl _, rfl⟩
      refine allp_mild 0 rfl rfl rfl (fun a x_ W hout hin hP => ?_) ?_
      · have e26 := hin.is 20 26 (by kernel_rfl) (by decide) (by kernel_rfl) (by kernel_rfl) _ rfl
        clear hP
        clear hin hout
        intro K Q hK
        go_simp
        exact hK _ _ ⟨Same.refl _, rfl⟩
      refine allp_mild 0 rfl rfl rfl (fun a x_ W hout hin hP => ?_) ?_
      · have e27 := hin.is 21 27 (by kernel_rfl) (by decide) (by kernel_rfl) (by kernel_rfl) _ rfl
        have hc : W.cell? ⟨g, 1, none⟩ = some (.int .u32 (wd S.o.e)) := hP.2.get rfl
        clear hP
        clear hin hout
        intro K Q hK
        go_simp
        exact hK _ _ ⟨Same.refl _, rfl⟩
      refine allp_mild 0 rfl rfl rfl (fun a x_ W hout hin hP => ?_) ?_
      · have e23 := hin.is 17 23 (by kernel_rfl) (by decide) (by kernel_rfl) (by kernel_rfl) _ rfl
        have e28 := hin.is 22 28 (by kernel_rfl) (by decide) (by kernel_rfl) (by kernel_rfl) _ rfl
        have hq := HQE.out
        clear hP
        clear hin hout
        intro K Q hK
        go_simp
        exact hK _ _ ⟨Same.refl _, rfl⟩
      refine allp_mild 0 rfl rfl rfl (fun a x_ W hout hin hP => ?_) ?_
      · have e21 := hin.is 15 21 (by kernel_rfl) (by decide) (by kernel_rfl) (by kernel_rfl) _ rfl
        have e29 := hin.is 23 29 (by kernel_rfl) (by decide) (by kernel_rfl) (by kernel_rfl) _ rfl
        exact does_pick rfl e21 ⟨Same.refl _, eval_of_get e29⟩
      refine allp_mild 0 rfl rfl rfl (fun a x_ W hout hin hP => ?_) ?_
      · have e30 := hin.is 24 30 (by kernel_rfl) (by decide) (by kernel_rfl) (by kernel_rfl) _ rfl
        exact does_move rfl e30 ⟨Same.refl _, rfl⟩
      refine allp_mild 0 rfl rfl rfl (fun a x_ W hout hin hP => ?_) ?_
      · have e3 : a.tmps[3]? = some (.pointer (some ⟨g1, 0, none⟩)) := (hout 3 (by kernel_rfl)).trans rfl
        clear hP
        clear hin hout
        intro K Q hK
        go_simp
        exact hK _ _ ⟨Same.refl _, rfl⟩
      refine allp_mild 0 rfl rfl rfl (fun a x_ W hout hin hP => ?_) ?_
      · have e32 := hin.is 26 32 (by kernel_rfl) (by decide) (by kernel_rfl) (by kernel_rfl) _ rfl
        have hc : W.cell? ⟨g1, 2, none⟩ = some (.int .u32 (wd y.s)) := (hP.1.row 0 rfl).get rfl
        clear hP
        clear hin hout
        intro K Q hK
        go_simp
        exact hK _ _ ⟨Same.refl _, rfl⟩
      refine allp_mild 0 rfl rfl rfl (fun a x_ W hout hin hP => ?_) ?_
      · have e0 : a.tmps[0]? = some (.pointer (some ⟨g, 0, none⟩)) := (hout 0 (by kernel_rfl)).trans rfl
        exact does_move rfl e0 ⟨Same.refl _, rfl⟩
      refine allp_mild 0 rfl rfl rfl (fun a x_ W hout hin hP => ?_) ?_
      · have e34 := hin.is 28 34 (by kernel_rfl) (by decide) (by kernel_rfl) (by kernel_rfl) _ rfl
        clear hP
        clear hin hout
        intro K Q hK
        go_simp
        exact hK _ _ ⟨Same.refl _, rfl⟩
      refine allp_mild 0 rfl rfl rfl (fun a x_ W hout hin hP => ?_) ?_
      · have e35 := hin.is 29 35 (by kernel_rfl) (by decide) (by kernel_rfl) (by kernel_rfl) _ rfl
        clear hP
        clear hin hout
        intro K Q hK
        go_simp
        exact hK _ _ ⟨Same.refl _, rfl⟩
      refine allp_mild 0 rfl rfl rfl (fun a x_ W hout hin hP => ?_) ?_
      · have e36 := hin.is 30 36 (by kernel_rfl) (by decide) (by kernel_rfl) (by kernel_rfl) _ rfl
        clear hP
        clear hin hout
        intro K Q hK
        go_simp
        exact hK _ _ ⟨Same.refl _, rfl⟩
      refine allp_mild 0 rfl rfl rfl (fun a x_ W hout hin hP => ?_) ?_
      · have e37 := hin.is 31 37 (by kernel_rfl) (by decide) (by kernel_rfl) (by kernel_rfl) _ rfl
        have hc : W.cell? ⟨g, 2, none⟩ = some (.int .u32 (wd S.o.s)) := hP.2.get rfl
        clear hP
        clear hin hout
        intro K Q hK
        go_simp
        exact hK _ _ ⟨Same.refl _, rfl⟩
      refine allp_mild 0 rfl rfl rfl (fun a x_ W hout hin hP => ?_) ?_
      · have e33 := hin.is 27 33 (by kernel_rfl) (by decide) (by kernel_rfl) (by kernel_rfl) _ rfl
        have e38 := hin.is 32 38 (by kernel_rfl) (by decide) (by kernel_rfl) (by kernel_rfl) _ rfl
        have hq := HQS.out
        clear hP
        clear hin hout
        intro K Q hK
        go_simp
        exact hK _ _ ⟨Same.refl _, rfl⟩
      refine allp_mild 0 rfl rfl rfl (fun a x_ W hout hin hP => ?_) ?_
      · have e31 := hin.is 25 31 (by kernel_rfl) (by decide) (by kernel_rfl) (by kernel_rfl) _ rfl
        have e39 := hin.is 33 39 (by kernel_rfl) (by decide) (by kernel_rfl) (by kernel_rfl) _ rfl
        exact does_pick rfl e31 ⟨Same.refl _, eval_of_get e39⟩
      exact all_end (by decide)
    · intro x_ W hP hV
      have h34 : x_ 34 = .bool true := hV 34 (by decide) (.inl (by kernel_rfl))
      have HST := Lib.hid hP.1
      have HRW := Lib.hid hP.2
      clear hP hV
      simp only [putL, Act.put, List.setIfInBounds_toArray, List.set_cons_succ, List.set_cons_zero, h34]
      refine wpAnyH_done (by kernel_rfl) ?_ _
      clear h34
      go_wp2_with fail
      go_ret2
      exact ⟨rfl, SndAt.call ⟨A, n, c, B, m, d, HR.out, HPO.out, HPP.out⟩ HST.out.below, Chg.of_below HST.out.below⟩
  have HQS : Hid (wd y.s = wd S.o.s) := Lib.hid (by rw [h3])
  have hB : ackB S y = true := by unfold ackB; rw [decide_eq_true h0, decide_eq_true h1, decide_eq_true h2, decide_eq_true h3]; rfl
  have hS : ackS S y = stopS S true := by unfold ackS; rw [hB]; exact if_pos rfl
  rw [hB, hS]
  clear hB hS
  clear h0 h1 h2 h3
  go_enter Try.func17, Try.ntmps17
  go_upto_region 1 with (first | ((with_reducible refine wpList_plain ?_ ?_); exact rfl; intro KK hKK; refine wp_st_box HS 30 (.tmp 1) rfl _ rfl (pktA y.k y.e y.s v) (rfl) (fun g1 W1 HSx => hKK _ _ ?_); clear hKK KK HS; have HS : St w noF [⟨g1, 30, pktA y.k y.e y.s v⟩] W1 := HSx; clear HSx))
  have hF0 : Wl [(fun W => St w noF [⟨g1, 30, pktA y.k y.e y.s v⟩] W ∧ Row W g 32 (sndC S.o S.p (.slice A n c) (.slice B m d) S.n S.t))] 0 (World.drew _) := ⟨HS.same (Below.refl _ _).drew, (HR.out.call HS.below).call (Below.refl _ _).drew⟩
  clear HS
  refine wp_region_phs [is (.pointer (some ⟨g, 0, none⟩)), is (.bool false), is (.bool false), is (.pointer (some ⟨g, 0, none⟩)), is (.pointer (some ⟨g, 0, none⟩)), is (.pointer (some ⟨g, 0, none⟩)), is (.agg (pktA S.o.k S.o.e S.o.s (.slice A n c))), is (.bool true), is (.bool false), is (.bool false), is (.bool false), is (.pointer (some ⟨g1, 0, none⟩)), is (.int .i64 y.k), is (.bool false), is (.bool false), is (.bool false), is (.pointer (some ⟨g1, 1, none⟩)), is (.int .u32 (wd y.e)), is (.pointer (some ⟨g, 0, none⟩)), is (.pointer (some ⟨g, 0, none⟩)), is (.pointer (some ⟨g, 0, none⟩)), is (.pointer (some ⟨g, 1, none⟩)), is (.int .u32 (wd S.o.e)), is (.bool false), is (.bool false), is (.bool false), is (.pointer (some ⟨g1, 2, none⟩)), is (.int .u32 (wd y.s)), is (.pointer (some ⟨g, 0, none⟩)), is (.pointer (some ⟨g, 0, none⟩)), is (.pointer (some ⟨g, 0, none⟩)), is (.pointer (some ⟨g, 2, none⟩)), is (.int .u32 (wd S.o.s)), is (.bool false), is (.bool false)] [true, true, true, true, true, true, true, true, true, true, true, true, true, true, true, true, true, true, true, true, true, true, true, true, true, true, true, true, true, true, true, true, true, true, true] [(fun W => St w noF [⟨g1, 30, pktA y.k y.e y.s v⟩] W ∧ Row W g 32 (sndC S.o S.p (.slice A n c) (.slice B m d) S.n S.t))] [false, false, false, false, false, false, false, false, false, false, false, false, false, false, false, false, false, false, false, false, false, false, false, false, false, false, false, false, false, false, false, false, false, false, false] [some 0, some 0, some 0, some 0, some 0, some 0, some 0, some 0, some 0, some 0, some 0, some 0, some 0, some 0, some 0, some 0, some 0, some 0, some 0, some 0, some 0, some 0, some 0, some 0, some 0, some 0, some 0, some 0, some 0, some 0, some 0, some 0, some 0, some 0, some 0] [some 6, some 7, some 8, some 9, some 10, some 11, some 12, some 13, some 14, some 15, some 16, some 17, some 18, some 19, some 20, some 21, some 22, some 23, some 24, some 25, some 26, some 27, some 28, some 29, some 30, some 31, some 32, some 33, some 34, some 35, some 36, some 37, some 38, some 39, some 40] 35 0 (fun _ => true) rfl rfl (by kernel_rfl) (by kernel_rfl) (by kernel_rfl) (by kernel_rfl) ?_ ?_ ?_ ?_ ?_ ?_
  · repeat first | exact wok_nil | refine wok_cons (by first | exact fun _ _ h k => ⟨h.1.same k, h.2.call k⟩) ?_
  · repeat first | exact vok_nil | refine vok_rig (by first | exact fun _ _ _ h => h) ?_ | refine vok_soft (by first | exact fun _ _ _ h _ => h) ?_
  · exact hF0
  · repeat first | exact all_end (by decide) | refine all_cons (by first | exact rfl | exact ⟨rfl, fun _ _ h => Or.inl h⟩ | exact ⟨rfl, fun _ _ h => Or.inr ⟨h, rfl⟩⟩) ?_
  · refine allp_mild 0 rfl rfl rfl (fun a x_ W hout hin hP => ?_) ?_
    · have e0 : a.tmps[0]? = some (.pointer (some ⟨g, 0, none⟩)) := (hout 0 (by kernel_rfl)).trans rfl
      exact does_move rfl e0 ⟨Same.refl _, rfl⟩
    refine allp_mild 0 rfl rfl rfl (fun a x_ W hout hin hP => ?_) ?_
    · have e6 := hin.is 0 6 (by kernel_rfl) (by decide) (by kernel_rfl) (by kernel_rfl) _ rfl
      clear hP
      clear hin hout
      intro K Q hK
      go_simp
      exact hK _ _ ⟨Same.refl _, rfl⟩
    refine allp_mild 0 rfl rfl rfl (fun a x_ W hout hin hP => ?_) ?_
    · have e7 := hin.is 1 7 (by kernel_rfl) (by decide) (by kernel_rfl) (by kernel_rfl) _ rfl
      exact does_move rfl e7 ⟨Same.refl _, rfl⟩
    refine allp_mild 0 rfl rfl rfl (fun a x_ W hout hin hP => ?_) ?_
    · have e0 : a.tmps[0]? = some (.pointer (some ⟨g, 0, none⟩)) := (hout 0 (by kernel_rfl)).trans rfl
      exact does_move rfl e0 ⟨Same.refl _, rfl⟩
    refine allp_mild 0 rfl rfl rfl (fun a x_ W hout hin hP => ?_) ?_
    · have e9 := hin.is 3 9 (by kernel_rfl) (by decide) (by kernel_rfl) (by kernel_rfl) _ rfl
      clear hP
      clear hin hout
      intro K Q hK
      go_simp
      exact hK _ _ ⟨Same.refl _, rfl⟩
    refine allp_mild 0 rfl rfl rfl (fun a x_ W hout hin hP => ?_) ?_
    · have e10 := hin.is 4 10 (by kernel_rfl) (by decide) (by kernel_rfl) (by kernel_rfl) _ rfl
      clear hP
      clear hin hout
      intro K Q hK
      go_simp
      exact hK _ _ ⟨Same.refl _, rfl⟩
    refine allp_mild 0 rfl rfl rfl (fun a x_ W hout hin hP => ?_) ?_
    · have e11 := hin.is 5 11 (by kernel_rfl) (by decide) (by kernel_rfl) (by kernel_rfl) _ rfl
      clear hin hout
      intro K Q hK
      refine wp_load_mid 30 (.tmp 11) rfl g 0 (eval_of_get e11) (pktA S.o.k S.o.e S.o.s (.slice A n c)).toList _ (hP.2.slab 0 _ rfl) Try.underlying30 rfl (by exact size_pkt) (hK _ _ ⟨Same.refl _, rfl⟩)
    refine allp_mild 0 rfl rfl rfl (fun a x_ W hout hin hP => ?_) ?_
    · have e12 := hin.is 6 12 (by kernel_rfl) (by decide) (by kernel_rfl) (by kernel_rfl) _ rfl
      have C := CI.out W
      clear hP
      clear hin hout
      intro K Q hK
      go_simp
      refine C.mono ?_
      rintro e W' ⟨rfl, hb⟩
      exact hK _ _ ⟨hb, rfl⟩
    refine allp_mild 0 rfl rfl rfl (fun a x_ W hout hin hP => ?_) ?_
    · have e13 := hin.is 7 13 (by kernel_rfl) (by decide) (by kernel_rfl) (by kernel_rfl) _ rfl
      exact does_not rfl e13 ⟨Same.refl _, rfl⟩
    refine allp_mild 0 rfl rfl rfl (fun a x_ W hout hin hP => ?_) ?_
    · have e8 := hin.is 2 8 (by kernel_rfl) (by decide) (by kernel_rfl) (by kernel_rfl) _ rfl
      have e14 := hin.is 8 14 (by kernel_rfl) (by decide) (by kernel_rfl) (by kernel_rfl) _ rfl
      exact does_pick rfl e8 ⟨Same.refl _, eval_of_get e14⟩
    refine allp_mild 0 rfl rfl rfl (fun a x_ W hout hin hP => ?_) ?_
    · have e15 := hin.is 9 15 (by kernel_rfl) (by decide) (by kernel_rfl) (by kernel_rfl) _ rfl
      exact does_move rfl e15 ⟨Same.refl _, rfl⟩
    refine allp_mild 0 rfl rfl rfl (fun a x_ W hout hin hP => ?_) ?_
    · have e3 : a.tmps[3]? = some (.pointer (some ⟨g1, 0, none⟩)) := (hout 3 (by kernel_rfl)).trans rfl
      clear hP
      clear hin hout
      intro K Q hK
      go_simp
      exact hK _ _ ⟨Same.refl _, rfl⟩
    refine allp_mild 0 rfl rfl rfl (fun a x_ W hout hin hP => ?_) ?_
    · have e17 := hin.is 11 17 (by kernel_rfl) (by decide) (by kernel_rfl) (by kernel_rfl) _ rfl
      have hc : W.cell? ⟨g1, 0, none⟩ = some (.int .i64 y.k) := (hP.1.row 0 rfl).get rfl
      clear hP
      clear hin hout
      intro K Q hK
      go_simp
      exact hK _ _ ⟨Same.refl _, rfl⟩
    refine allp_mild 0 rfl rfl rfl (fun a x_ W hout hin hP => ?_) ?_
    · have e18 := hin.is 12 18 (by kernel_rfl) (by decide) (by kernel_rfl) (by kernel_rfl) _ rfl
      have hq := HQK.out
      clear hP
      clear hin hout
      intro K Q hK
      go_simp
      exact hK _ _ ⟨Same.refl _, rfl⟩
    refine allp_mild 0 rfl rfl rfl (fun a x_ W hout hin hP => ?_) ?_
    · have e16 := hin.is 10 16 (by kernel_rfl) (by decide) (by kernel_rfl) (by kernel_rfl) _ rfl
      have e19 := hin.is 13 19 (by kernel_rfl) (by decide) (by kernel_rfl) (by kernel_rfl) _ rfl
      exact does_pick rfl e16 ⟨Same.refl _, eval_of_get e19⟩
    refine allp_mild 0 rfl rfl rfl (fun a x_ W hout hin hP => ?_) ?_
    · have e20 := hin.is 14 20 (by kernel_rfl) (by decide) (by kernel_rfl) (by kernel_rfl) _ rfl
      exact does_move rfl e20 ⟨Same.refl _, rfl⟩
    refine allp_mild 0 rfl rfl rfl (fun a x_ W hout hin hP => ?_) ?_
    · have e3 : a.tmps[3]? = some (.pointer (some ⟨g1, 0, none⟩)) := (hout 3 (by kernel_rfl)).trans rfl
      clear hP
      clear hin hout
      intro K Q hK
      go_simp
      exact hK _ _ ⟨Same.refl _, rfl⟩
    refine allp_mild 0 rfl rfl rfl (fun a x_ W hout hin hP => ?_) ?_
    · have e22 := hin.is 16 22 (by kernel_rfl) (by decide) (by kernel_rfl) (by kernel_rfl) _ rfl
      have hc : W.cell? ⟨g1, 1, none⟩ = some (.int .u32 (wd y.e)) := (hP.1.row 0 rfl).get rfl
      clear hP
      clear hin hout
      intro K Q hK
      go_simp
      exact hK _ _ ⟨Same.refl _, rfl⟩
    refine allp_mild 0 rfl rfl rfl (fun a x_ W hout hin hP => ?_) ?_
    · have e0 : a.tmps[0]? = some (.pointer (some ⟨g, 0, none⟩)) := (hout 0 (by kernel_rfl)).trans rfl
      exact does_move rfl e0 ⟨Same.refl _, rfl⟩
    refine allp_mild 0 rfl rfl rfl (fun a x_ W hout hin hP => ?_) ?_
    · have e24 := hin.is 18 24 (by kernel_rfl) (by decide) (by kernel_rfl) (by kernel_rfl) _ rfl
      clear hP
      clear hin hout
      intro K Q hK
      go_simp
      exact hK _ _ ⟨Same.refl _, rfl⟩
    refine allp_mild 0 rfl rfl rfl (fun a x_ W hout hin hP => ?_) ?_
    · have e25 := hin.is 19 25 (by kernel_rfl) (by decide) (by kernel_rfl) (by kernel_rfl) _ rfl
      clear hP
      clear hin hout
      intro K Q hK
      go_simp
      exact hK _ _ ⟨Same.refl _, rfl⟩
    refine allp_mild 0 rfl rfl rfl (fun a x_ W hout hin hP => ?_) ?_
    · have e26 := hin.is 20 26 (by kernel_rfl) (by decide) (by kernel_rfl) (by kernel_rfl) _ rfl
      clear hP
      clear hin hout
      intro K Q hK
      go_simp
      exact hK _ _ ⟨Same.refl _, rfl⟩
    refine allp_mild 0 rfl rfl rfl (fun a x_ W hout hin hP => ?_) ?_
    · have e27 := hin.is 21 27 (by kernel_rfl) (by decide) (by kernel_rfl) (by kernel_rfl) _ rfl
      have hc : W.cell? ⟨g, 1, none⟩ = some (.int .u32 (wd S.o.e)) := hP.2.get rfl
      clear hP
      clear hin hout
      intro K Q hK
      go_simp
      exact hK _ _ ⟨Same.refl _, rfl⟩
    refine allp_mild 0 rfl rfl rfl (fun a x_ W hout hin hP => ?_) ?_
    · have e23 := hin.is 17 23 (by kernel_rfl) (by decide) (by kernel_rfl) (by kernel_rfl) _ rfl
      have e28 := hin.is 22 28 (by kernel_rfl) (by decide) (by kernel_rfl) (by kernel_rfl) _ rfl
      have hq := HQE.out
      clear hP
      clear hin hout
      intro K Q hK
      go_simp
      exact hK _ _ ⟨Same.refl _, rfl⟩
    refine allp_mild 0 rfl rfl rfl (fun a x_ W hout hin hP => ?_) ?_
    · have e21 := hin.is 15 21 (by kernel_rfl) (by decide) (by kernel_rfl) (by kernel_rfl) _ rfl
      have e29 := hin.is 23 29 (by kernel_rfl) (by decide) (by kernel_rfl) (by kernel_rfl) _ rfl
      exact does_pick rfl e21 ⟨Same.refl _, eval_of_get e29⟩
    refine allp_mild 0 rfl rfl rfl (fun a x_ W hout hin hP => ?_) ?_
    · have e30 := hin.is 24 30 (by kernel_rfl) (by decide) (by kernel_rfl) (by kernel_rfl) _ rfl
      exact does_move rfl e30 ⟨Same.refl _, rfl⟩
    refine allp_mild 0 rfl rfl rfl (fun a x_ W hout hin hP => ?_) ?_
    · have e3 : a.tmps[3]? = some (.pointer (some ⟨g1, 0, none⟩)) := (hout 3 (by kernel_rfl)).trans rfl
      clear hP
      clear hin hout
      intro K Q hK
      go_simp
      exact hK _ _ ⟨Same.refl _, rfl⟩
    refine allp_mild 0 rfl rfl rfl (fun a x_ W hout hin hP => ?_) ?_
    · have e32 := hin.is 26 32 (by kernel_rfl) (by decide) (by kernel_rfl) (by kernel_rfl) _ rfl
      have hc : W.cell? ⟨g1, 2, none⟩ = some (.int .u32 (wd y.s)) := (hP.1.row 0 rfl).get rfl
      clear hP
      clear hin hout
      intro K Q hK
      go_simp
      exact hK _ _ ⟨Same.refl _, rfl⟩
    refine allp_mild 0 rfl rfl rfl (fun a x_ W hout hin hP => ?_) ?_
    · have e0 : a.tmps[0]? = some (.pointer (some ⟨g, 0, none⟩)) := (hout 0 (by kernel_rfl)).trans rfl
      exact does_move rfl e0 ⟨Same.refl _, rfl⟩
    refine allp_mild 0 rfl rfl rfl (fun a x_ W hout hin hP => ?_) ?_
    · have e34 := hin.is 28 34 (by kernel_rfl) (by decide) (by kernel_rfl) (by kernel_rfl) _ rfl
      clear hP
      clear hin hout
      intro K Q hK
      go_simp
      exact hK _ _ ⟨Same.refl _, rfl⟩
    refine allp_mild 0 rfl rfl rfl (fun a x_ W hout hin hP => ?_) ?_
    · have e35 := hin.is 29 35 (by kernel_rfl) (by decide) (by kernel_rfl) (by kernel_rfl) _ rfl
      clear hP
      clear hin hout
      intro K Q hK
      go_simp
      exact hK _ _ ⟨Same.refl _, rfl⟩
    refine allp_mild 0 rfl rfl rfl (fun a x_ W hout hin hP => ?_) ?_
    · have e36 := hin.is 30 36 (by kernel_rfl) (by decide) (by kernel_rfl) (by kernel_rfl) _ rfl
      clear hP
      clear hin hout
      intro K Q hK
      go_simp
      exact hK _ _ ⟨Same.refl _, rfl⟩
    refine allp_mild 0 rfl rfl rfl (fun a x_ W hout hin hP => ?_) ?_
    · have e37 := hin.is 31 37 (by kernel_rfl) (by decide) (by kernel_rfl) (by kernel_rfl) _ rfl
      have hc : W.cell? ⟨g, 2, none⟩ = some (.int .u32 (wd S.o.s)) := hP.2.get rfl
      clear hP
      clear hin hout
      intro K Q hK
      go_simp
      exact hK _ _ ⟨Same.refl _, rfl⟩
    refine allp_mild 0 rfl rfl rfl (fun a x_ W hout hin hP => ?_) ?_
    · have e33 := hin.is 27 33 (by kernel_rfl) (by decide) (by kernel_rfl) (by kernel_rfl) _ rfl
      have e38 := hin.is 32 38 (by kernel_rfl) (by decide) (by kernel_rfl) (by kernel_rfl) _ rfl
      have hq := HQS.out
      clear hP
      clear hin hout
      intro K Q hK
      go_simp
      exact hK _ _ ⟨Same.refl _, rfl⟩
    refine allp_mild 0 rfl rfl rfl (fun a x_ W hout hin hP => ?_) ?_
    · have e31 := hin.is 25 31 (by kernel_rfl) (by decide) (by kernel_rfl) (by kernel_rfl) _ rfl
      have e39 := hin.is 33 39 (by kernel_rfl) (by decide) (by kernel_rfl) (by kernel_rfl) _ rfl
      exact does_pick rfl e31 ⟨Same.refl _, eval_of_get e39⟩
    exact all_end (by decide)
  · intro x_ W hP hV
    have h34 : x_ 34 = .bool false := hV 34 (by decide) (.inl (by kernel_rfl))
    have HST := Lib.hid hP.1
    have HRW := Lib.hid hP.2
    clear hP hV
    simp only [putL, Act.put, List.setIfInBounds_toArray, List.set_cons_succ, List.set_cons_zero, h34]
    refine wpAnyH_done (by kernel_rfl) ?_ _
    clear h34
    have c9 := HRW.out.get (i := 9) rfl
    have HAT := Lib.hid (SndAt.call ⟨A, n, c, B, m, d, HR.out, HPO.out, HPP.out⟩ HST.out.below)
    have HC : Hid (Chg (fun k => k = g) w W) := Lib.hid (Chg.of_below HST.out.below)
    have C := stop_any g S true W HAT.out
    clear HST HAT
    go_wp2_with fail
    refine C.mono ?_
    rintro x w9 ⟨rfl, hs9, hc9⟩
    have HS9 := Lib.hid hs9
    have HC9 := Lib.hid (HC.out.trans hc9 (fun i hi => .inl hi))
    clear C hs9 hc9
    go_wp2_with fail
    go_ret2
    exact ⟨rfl, HS9.out, HC9.out⟩
theorem acked_nil (y : Pkt) (v : Value) (w : World) : Calls Try.prog 17 #[.pointer none, .agg (pktA y.k y.e y.s v)] w fun x w' => x = .returned (.tuple #[.bool false, .bool false]) ∧ Below w.heap.size w w' := by
  have HS := St.nil w noF
  go_enter Try.func17, Try.ntmps17
  go_upto_region 1 with (first | ((with_reducible refine wpList_plain ?_ ?_); exact rfl; intro KK hKK; refine wp_st_box HS 30 (.tmp 1) rfl _ rfl (pktA y.k y.e y.s v) (rfl) (fun g1 W1 HSx => hKK _ _ ?_); clear hKK KK HS; have HS : St w noF [⟨g1, 30, pktA y.k y.e y.s v⟩] W1 := HSx; clear HSx))
  have hF0 : Wl [(fun W => St w noF [⟨g1, 30, pktA y.k y.e y.s v⟩] W)] 0 (World.drew _) := HS.same (Below.refl _ _).drew
  clear HS
  refine wp_region_phs [is (.pointer none), is (.bool true), is (.bool true), is undef, is undef, is undef, is undef, is undef, is undef, is (.bool true), is (.bool true), is undef, is undef, is undef, is (.bool true), is (.bool true), is undef, is undef, is undef, is undef, is undef, is undef, is undef, is undef, is (.bool true), is (.bool true), is undef, is undef, is undef, is undef, is undef, is undef, is undef, is undef, is (.bool true)] [true, true, true, true, true, true, true, true, true, true, true, true, true, true, true, true, true, true, true, true, true, true, true, true, true, true, true, true, true, true, true, true, true, true, true] [(fun W => St w noF [⟨g1, 30, pktA y.k y.e y.s v⟩] W)] [false, false, false, false, false, false, false, false, false, false, false, false, false, false, false, false, false, false, false, false, false, false, false, false, false, false, false, false, false, false, false, false, false, false, false] [some 0, some 0, some 0, some 0, some 0, some 0, some 0, some 0, some 0, some 0, some 0, some 0, some 0, some 0, some 0, some 0, some 0, some 0, some 0, some 0, some 0, some 0, some 0, some 0, some 0, some 0, some 0, some 0, some 0, some 0, some 0, some 0, some 0, some 0, some 0] [some 6, some 7, some 8, some 9, some 10, some 11, some 12, some 13, some 14, some 15, some 16, some 17, some 18, some 19, some 20, some 21, some 22, some 23, some 24, some 25, some 26, some 27, some 28, some 29, some 30, some 31, some 32, some 33, some 34, some 35, some 36, some 37, some 38, some 39, some 40] 35 0 (fun i => !([3, 4, 5, 6, 7, 8, 11, 12, 13, 16, 17, 18, 19, 20, 21, 22, 23, 26, 27, 28, 29, 30, 31, 32, 33] : List Nat).contains i) rfl rfl (by kernel_rfl) (by kernel_rfl) (by kernel_rfl) (by kernel_rfl) ?_ ?_ ?_ ?_ ?_ ?_
  · repeat first | exact wok_nil | refine wok_cons (by first | exact fun _ _ h k => h.same k) ?_
  · repeat first | exact vok_nil | refine vok_rig (by first | exact fun _ _ _ h => h) ?_ | refine vok_soft (by first | exact fun _ _ _ h _ => h) ?_
  · exact hF0
  · repeat first | exact all_end (by decide) | refine all_cons (by first | exact rfl | exact ⟨rfl, fun _ _ h => Or.inl h⟩ | exact ⟨rfl, fun _ _ h => Or.inr ⟨h, rfl⟩⟩) ?_
  · refine allp_mild 0 rfl rfl rfl (fun a x_ W hout hin hP => ?_) ?_
    · have e0 : a.tmps[0]? = some (.pointer none) := (hout 0 (by kernel_rfl)).trans rfl
      exact does_move rfl e0 ⟨Same.refl _, rfl⟩
    refine allp_mild 0 rfl rfl rfl (fun a x_ W hout hin hP => ?_) ?_
    · have e6 := hin.is 0 6 (by kernel_rfl) (by decide) (by kernel_rfl) (by kernel_rfl) _ rfl
      clear hP
      clear hin hout
      intro K Q hK
      go_simp
      exact hK _ _ ⟨Same.refl _, rfl⟩
    refine allp_mild 0 rfl rfl rfl (fun a x_ W hout hin hP => ?_) ?_
    · have e7 := hin.is 1 7 (by kernel_rfl) (by decide) (by kernel_rfl) (by kernel_rfl) _ rfl
      exact does_move rfl e7 ⟨Same.refl _, rfl⟩
    refine allp_skip rfl rfl (fun _ => rfl) ?_
    refine allp_skip rfl rfl (fun _ => rfl) ?_
    refine allp_skip rfl rfl (fun _ => rfl) ?_
    refine allp_skip rfl rfl (fun _ => rfl) ?_
    refine allp_skip rfl rfl (fun _ => rfl) ?_
    refine allp_skip rfl rfl (fun _ => rfl) ?_
    refine allp_mild 0 rfl rfl rfl (fun a x_ W hout hin hP => ?_) ?_
    · have e8 := hin.is 2 8 (by kernel_rfl) (by decide) (by kernel_rfl) (by kernel_rfl) _ rfl
      have e14 := hin.is 8 14 (by kernel_rfl) (by decide) (by kernel_rfl) (by kernel_rfl) _ rfl
      exact does_pick rfl e8 ⟨Same.refl _, rfl⟩
    refine allp_mild 0 rfl rfl rfl (fun a x_ W hout hin hP => ?_) ?_
    · have e15 := hin.is 9 15 (by kernel_rfl) (by decide) (by kernel_rfl) (by kernel_rfl) _ rfl
      exact does_move rfl e15 ⟨Same.refl _, rfl⟩
    refine allp_skip rfl rfl (fun _ => rfl) ?_
    refine allp_skip rfl rfl (fun _ => rfl) ?_
    refine allp_skip rfl rfl (fun _ => rfl) ?_
    refine allp_mild 0 rfl rfl rfl (fun a x_ W hout hin hP => ?_) ?_
    · have e16 := hin.is 10 16 (by kernel_rfl) (by decide) (by kernel_rfl) (by kernel_rfl) _ rfl
      have e19 := hin.is 13 19 (by kernel_rfl) (by decide) (by kernel_rfl) (by kernel_rfl) _ rfl
      exact does_pick rfl e16 ⟨Same.refl _, rfl⟩
    refine allp_mild 0 rfl rfl rfl (fun a x_ W hout hin hP => ?_) ?_
    · have e20 := hin.is 14 20 (by kernel_rfl) (by decide) (by kernel_rfl) (by kernel_rfl) _ rfl
      exact does_move rfl e20 ⟨Same.refl _, rfl⟩
    refine allp_skip rfl rfl (fun _ => rfl) ?_
    refine allp_skip rfl rfl (fun _ => rfl) ?_
    refine allp_skip rfl rfl (fun _ => rfl) ?_
    refine allp_skip rfl rfl (fun _ => rfl) ?_
    refine allp_skip rfl rfl (fun _ => rfl) ?_
    refine allp_skip rfl rfl (fun _ => rfl) ?_
    refine allp_skip rfl rfl (fun _ => rfl) ?_
    refine allp_skip rfl rfl (fun _ => rfl) ?_
    refine allp_mild 0 rfl rfl rfl (fun a x_ W hout hin hP => ?_) ?_
    · have e21 := hin.is 15 21 (by kernel_rfl) (by decide) (by kernel_rfl) (by kernel_rfl) _ rfl
      have e29 := hin.is 23 29 (by kernel_rfl) (by decide) (by kernel_rfl) (by kernel_rfl) _ rfl
      exact does_pick rfl e21 ⟨Same.refl _, rfl⟩
    refine allp_mild 0 rfl rfl rfl (fun a x_ W hout hin hP => ?_) ?_
    · have e30 := hin.is 24 30 (by kernel_rfl) (by decide) (by kernel_rfl) (by kernel_rfl) _ rfl
      exact does_move rfl e30 ⟨Same.refl _, rfl⟩
    refine allp_skip rfl rfl (fun _ => rfl) ?_
    refine allp_skip rfl rfl (fun _ => rfl) ?_
    refine allp_skip rfl rfl (fun _ => rfl) ?_
    refine allp_skip rfl rfl (fun _ => rfl) ?_
    refine allp_skip rfl rfl (fun _ => rfl) ?_
    refine allp_skip rfl rfl (fun _ => rfl) ?_
    refine allp_skip rfl rfl (fun _ => rfl) ?_
    refine allp_skip rfl rfl (fun _ => rfl) ?_
    refine allp_mild 0 rfl rfl rfl (fun a x_ W hout hin hP => ?_) ?_
    · have e31 := hin.is 25 31 (by kernel_rfl) (by decide) (by kernel_rfl) (by kernel_rfl) _ rfl
      have e39 := hin.is 33 39 (by kernel_rfl) (by decide) (by kernel_rfl) (by kernel_rfl) _ rfl
      exact does_pick rfl e31 ⟨Same.refl _, rfl⟩
    exact all_end (by decide)
  · intro x_ W hP hV
    have h34 : x_ 34 = .bool true := hV 34 (by decide) (.inl (by kernel_rfl))
    have HST := Lib.hid hP
    clear hP hV
    simp only [putL, Act.put, List.setIfInBounds_toArray, List.set_cons_succ, List.set_cons_zero, h34]
    refine wpAnyH_done (by kernel_rfl) ?_ _
    clear h34
    go_wp2_with fail
    go_ret2
    exact ⟨rfl, HST.out.below⟩
end Go.Proofs.Ytppbgkdkioldbaa
