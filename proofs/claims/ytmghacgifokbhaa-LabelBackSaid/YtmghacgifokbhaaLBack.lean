/- The statement LabelBack: its walk. -/
import Derived.Test.YtmghacgifokbhaaLabelWakes
set_option maxRecDepth 4000
namespace Go.Proofs.Ytmghacgifokbhaa
open Go Go.RowKit
attribute [local go_sem high] eql_lab
structure BackAt (w W : World) (g3 g4 g5 g7 g8 : Nat) (L M : Lab) (b X : List (BitVec 8)) (K : Lab) : Prop where
  r3 : Row W g3 25 (labCells L)
  r4 : Row W g4 25 (labCells M)
  r5 : Row W g5 27 (bs b)
  r7 : Row W g7 27 (bs X)
  r8 : Row W g8 25 (labCells K)
  below : Below w.heap.size w W
  lo8 : w.heap.size ≤ g8
  n3 : g3 ≠ g8
  n4 : g4 ≠ g8
  n5 : g5 ≠ g8
  n7 : g7 ≠ g8
theorem BackAt.call {w W W' : World} {g3 g4 g5 g7 g8 : Nat} {L M K : Lab} {b X : List (BitVec 8)} (h : BackAt w W g3 g4 g5 g7 g8 L M b X K) (k : Same W W') : BackAt w W' g3 g4 g5 g7 g8 L M b X K :=
  ⟨h.r3.call k, h.r4.call k, h.r5.call k, h.r7.call k, h.r8.call k, h.below.trans (k.mono h.below.size), h.lo8, h.n3, h.n4, h.n5, h.n7⟩
theorem BackAt.set {w W : World} {g3 g4 g5 g7 g8 : Nat} {L M K : Lab} {b X : List (BitVec 8)} (h : BackAt w W g3 g4 g5 g7 g8 L M b X K) (K' : Lab) : BackAt w (W.setRow g8 (labCells K')) g3 g4 g5 g7 g8 L M b X K' :=
  ⟨h.r3.setRow_far h.n3 _, h.r4.setRow_far h.n4 _, h.r5.setRow_far h.n5 _, h.r7.setRow_far h.n7 _, h.r8.setRow _, below_setRow h.below h.lo8 _, h.lo8, h.n3, h.n4, h.n5, h.n7⟩
theorem decLab_cases (b : List (BitVec 8)) : decLabE b = 11 ∨ (decLabE b = 0 ∧ labB (decLab b) = b) ∨ (decLabE b = 0 ∧ labB (decLab b) ≠ b ∧ b = blk 0#8 ∧ decLab b = lab0) := by
  by_cases h : decLabE b = 0
  · rcases labB_decLab h with h1 | ⟨h1, h2⟩
    · exact .inr (.inl ⟨h, h1⟩)
    · by_cases h3 : labB (decLab b) = b
      · exact .inr (.inl ⟨h, h3⟩)
      · exact .inr (.inr ⟨h, h3, h1, h2⟩)
  · refine .inl ?_
    unfold decLabE at *
    split at h
    · exact absurd rfl h
    · split at h
      · exact absurd rfl h
      · rename_i h0 h1
        rw [if_neg h0, if_neg h1]
set_option maxRecDepth 20000 in
set_option maxHeartbeats 3200000 in
theorem lback_walk (D : LabelOps) (L M : Lab) (b : List (BitVec 8)) (w : World) (hb : b.length = 32) :
    Calls Try.prog 4 #[.agg (labCells L), .agg (labCells M), .agg (bs b)] w fun e w' => e = .returned (.bool true) ∧ Below w.heap.size w w' := by
  have HBL := Lib.hid hb
  have hz := zeros_blk
  have hzl := zeros_lab
  have C1 := fun w => D.enc L w
  have C2 := fun w => D.dec (labB L) w (length_labB L)
  rw [decLab_labB, decLabE_labB] at C2
  have HC1 := Lib.hid C1
  have HC2 := Lib.hid C2
  have q3 := (Row.fresh w 25 (labCells L)).alloc (.cells (labCells M) 25) |>.alloc (.cells (bs b) 27)
  have q4 : Row (((w.alloc (.cells (labCells L) 25)).alloc (.cells (labCells M) 25)).alloc (.cells (bs b) 27)) (w.heap.size + 1) 25 (labCells M) := by
    have := (Row.fresh (w.alloc (.cells (labCells L) 25)) 25 (labCells M)).alloc (.cells (bs b) 27); simpa using this
  have q5 : Row (((w.alloc (.cells (labCells L) 25)).alloc (.cells (labCells M) 25)).alloc (.cells (bs b) 27)) (w.heap.size + 1 + 1) 27 (bs b) := by
    have := Row.fresh ((w.alloc (.cells (labCells L) 25)).alloc (.cells (labCells M) 25)) 27 (bs b); simpa using this
  have HB0 : Hid (Below w.heap.size w (((w.alloc (.cells (labCells L) 25)).alloc (.cells (labCells M) 25)).alloc (.cells (bs b) 27))) := Lib.hid ((((Below.refl w.heap.size w).alloc (Nat.le_refl _) _).alloc (by simp) _).alloc (by simp; omega) _)
  have Q3 := Lib.hid q3
  have Q4 := Lib.hid q4
  have Q5 := Lib.hid q5
  clear hb C1 C2 q3 q4 q5
  go_enter Try.func4, Try.ntmps4
  go_upto_region 1 with fail
  obtain ⟨g3, hg3⟩ : ∃ g, w.heap.size = g := ⟨_, rfl⟩
  obtain ⟨g4, hg4⟩ : ∃ g, w.heap.size + 1 = g := ⟨_, rfl⟩
  obtain ⟨g5, hg5⟩ : ∃ g, w.heap.size + 1 + 1 = g := ⟨_, rfl⟩
  rw [hg5] at Q5
  rw [hg5]
  rw [hg4] at Q4
  rw [hg4]
  rw [hg3] at Q3
  rw [hg3]
  clear hg3 hg4 hg5
  generalize ((w.alloc (.cells (labCells L) 25)).alloc (.cells (labCells M) 25)).alloc (.cells (bs b) 27) = W1 at *
  have r3 := Q3.out
  go_wp2_with (refine wpList_load_row rfl 25 _ rfl g3 rfl 25 (labCells L) (0, 0) _ r3 Try.underlying25 rfl size_lab ?_)
  refine (HC1.out W1).mono ?_
  rintro e W2 ⟨rfl, hb2⟩
  have HXL : Hid ((labB L).length = 32) := Lib.hid (length_labB L)
  have HB2 := Lib.hid (HB0.out.trans (hb2.mono HB0.out.size))
  have Q3b := Lib.hid ((Q3.out.call hb2).alloc (.cells (bs (labB L)) 27))
  have Q4b := Lib.hid ((Q4.out.call hb2).alloc (.cells (bs (labB L)) 27))
  have Q5b := Lib.hid ((Q5.out.call hb2).alloc (.cells (bs (labB L)) 27))
  have Q7b := Lib.hid (Row.fresh W2 27 (bs (labB L)))
  have HB2b := Lib.hid (HB2.out.alloc HB2.out.size (.cells (bs (labB L)) 27))
  have rr := row_range Q7b.out (Below.refl _ _) Q7b.out.lt
  clear hb2 r3 Q3 Q4 Q5 HB0 HB2
  go_wp2_with (first | (refine wpList_store_row rfl 27 _ _ rfl W2.heap.size (bs (labB L)) rfl rfl 27 _ (Row.fresh _ _ _) (by rw [size_bs, HXL.out]; exact size_blk) (by rw [size_bs, size_bs, length_blk, HXL.out]) (one_bs _) ?_; rw [World.setRow_alloc_new]) | (refine wpList_load_mid rfl 27 _ rfl W2.heap.size 0 rfl (bs (labB L)).toList _ rr Try.underlying27 rfl (by rw [len_bs, HXL.out]; exact size_blk) ?_))
  obtain ⟨g7, hg7⟩ : ∃ g, W2.heap.size = g := ⟨_, rfl⟩
  rw [hg7] at Q7b
  rw [hg7]
  clear hg7 rr
  generalize W2.alloc (.cells (bs (labB L)) 27) = W3 at *
  refine (HC2.out W3).mono ?_
  rintro e W4 ⟨rfl, hb4⟩
  have HB4 : Below w.heap.size w W4 := HB2b.out.trans (hb4.mono HB2b.out.size)
  have HAT : Hid (BackAt w (W4.alloc (.cells (labCells L) 25)) g3 g4 g5 g7 W4.heap.size L M b (labB L) L) := Lib.hid
    ⟨(Q3b.out.call hb4).alloc _, (Q4b.out.call hb4).alloc _, (Q5b.out.call hb4).alloc _, (Q7b.out.call hb4).alloc _, Row.fresh _ _ _, HB4.alloc HB4.size _, HB4.size, Nat.ne_of_lt (Q3b.out.call hb4).lt, Nat.ne_of_lt (Q4b.out.call hb4).lt, Nat.ne_of_lt (Q5b.out.call hb4).lt, Nat.ne_of_lt (Q7b.out.call hb4).lt⟩
  clear hb4 HB4 Q3b Q4b Q5b Q7b HB2b
  go_upto_region 3 with (refine wpList_store_row rfl 25 _ _ rfl W4.heap.size (labCells L) rfl rfl 25 _ (Row.fresh _ _ _) size_lab rfl (one_lab _) ?_; rw [World.setRow_alloc_new])
  obtain ⟨g8, hg8⟩ : ∃ g, W4.heap.size = g := ⟨_, rfl⟩
  rw [hg8] at HAT
  rw [hg8]
  clear hg8 hz hzl
  generalize W4.alloc (.cells (labCells L) 25) = W5 at *
  have hF0 : Wl [fun W => BackAt w W g3 g4 g5 g7 g8 L M b (labB L) L] 0 W5.drew := HAT.out.call (Below.refl _ _).drew
  clear HAT
  by_cases hLM : L = M
  · have HLM := Lib.hid hLM
    have HQ : Hid (labB M = labB L) := Lib.hid (by rw [hLM])
    clear hLM
    refine wp_region_phs [is (.int .i64 0), is (.bool false), is (.bool false), is (.agg (labCells L)), is (.agg (labCells L)), is (.bool false), is (.bool false), is (.bool false), is (.agg (labCells M)), is (.agg (bs (labB M))), is (.agg (bs (labB L))), is (.bool true), is (.agg (labCells L)), is (.agg (labCells M)), is (.bool true), is (.bool false), is (.bool false)] [true, true, true, true, true, true, true, true, true, true, true, true, true, true, true, true, true] [(fun W => BackAt w W g3 g4 g5 g7 g8 L M b (labB L) L)] [false, false, false, false, false, false, false, false, false, false, false, false, false, false, false, false, false] [some 0, some 0, some 0, some 0, some 0, some 0, some 0, some 0, some 0, some 0, some 0, some 0, some 0, some 0, some 0, some 0, some 0] [some 17, some 18, some 19, some 20, some 21, some 22, some 23, some 24, some 25, some 26, some 27, some 28, some 29, some 30, some 31, some 32, some 33] 17 0 (fun _ => true) rfl rfl (by kernel_rfl) (by kernel_rfl) (by kernel_rfl) (by kernel_rfl) ?_ ?_ ?_ ?_ ?_ ?_
    · repeat first | exact wok_nil | refine wok_cons (by first | exact fun _ _ h k => h.call k) ?_
    · repeat first | exact vok_nil | refine vok_rig (by first | exact fun _ _ _ h => h) ?_ | refine vok_soft (by first | exact fun _ _ _ h _ => h) ?_
    · exact hF0
    · repeat first | exact all_end (by decide) | refine all_cons (by first | exact rfl | exact ⟨rfl, fun _ _ h => Or.inl h⟩ | exact ⟨rfl, fun _ _ h => Or.inr ⟨h, rfl⟩⟩) ?_
    · refine allp_mild 0 rfl rfl rfl (fun a x W hout hin hP => ?_) ?_
      · have e9 : a.tmps[9]? = some (.int .i64 0) := (hout 9 (by kernel_rfl)).trans rfl
        exact does_move rfl e9 ⟨Same.refl _, rfl⟩
      refine allp_mild 0 rfl rfl rfl (fun a x W hout hin hP => ?_) ?_
      · have e17 := hin.is 0 17 (by kernel_rfl) (by decide) (by kernel_rfl) (by kernel_rfl) _ rfl
        clear hin hout
        intro K Q hK
        go_simp
        exact hK _ _ ⟨Same.refl _, rfl⟩
      refine allp_mild 0 rfl rfl rfl (fun a x W hout hin hP => ?_) ?_
      · have e18 := hin.is 1 18 (by kernel_rfl) (by decide) (by kernel_rfl) (by kernel_rfl) _ rfl
        exact does_move rfl e18 ⟨Same.refl _, rfl⟩
      refine allp_mild 0 rfl rfl rfl (fun a x W hout hin hP => ?_) ?_
      · have e8 : a.tmps[8]? = some (.pointer (some ⟨g8, 0, none⟩)) := (hout 8 (by kernel_rfl)).trans rfl
        clear hin hout
        intro K0 Q hK
        refine wp_load_row 25 (.tmp 8) rfl g8 (eval_of_get e8) 25 (labCells L) (0, 0) _ hP.r8 Try.underlying25 rfl size_lab ?_
        exact hK _ _ ⟨Same.refl _, rfl⟩
      refine allp_mild 0 rfl rfl rfl (fun a x W hout hin hP => ?_) ?_
      · have e3 : a.tmps[3]? = some (.pointer (some ⟨g3, 0, none⟩)) := (hout 3 (by kernel_rfl)).trans rfl
        clear hin hout
        intro K0 Q hK
        refine wp_load_row 25 (.tmp 3) rfl g3 (eval_of_get e3) 25 (labCells L) (0, 0) _ hP.r3 Try.underlying25 rfl size_lab ?_
        exact hK _ _ ⟨Same.refl _, rfl⟩
      refine allp_mild 0 rfl rfl rfl (fun a x W hout hin hP => ?_) ?_
      · have e20 := hin.is 3 20 (by kernel_rfl) (by decide) (by kernel_rfl) (by kernel_rfl) _ rfl
        have e21 := hin.is 4 21 (by kernel_rfl) (by decide) (by kernel_rfl) (by kernel_rfl) _ rfl
        clear hin hout
        intro K Q hK
        go_simp
        exact hK _ _ ⟨Same.refl _, rfl⟩
      refine allp_mild 0 rfl rfl rfl (fun a x W hout hin hP => ?_) ?_
      · have e19 := hin.is 2 19 (by kernel_rfl) (by decide) (by kernel_rfl) (by kernel_rfl) _ rfl
        have e22 := hin.is 5 22 (by kernel_rfl) (by decide) (by kernel_rfl) (by kernel_rfl) _ rfl
        exact does_pick rfl e19 ⟨Same.refl _, eval_of_get e22⟩
      refine allp_mild 0 rfl rfl rfl (fun a x W hout hin hP => ?_) ?_
      · have e23 := hin.is 6 23 (by kernel_rfl) (by decide) (by kernel_rfl) (by kernel_rfl) _ rfl
        exact does_move rfl e23 ⟨Same.refl _, rfl⟩
      refine allp_mild 0 rfl rfl rfl (fun a x W hout hin hP => ?_) ?_
      · have e4 : a.tmps[4]? = some (.pointer (some ⟨g4, 0, none⟩)) := (hout 4 (by kernel_rfl)).trans rfl
        clear hin hout
        intro K0 Q hK
        refine wp_load_row 25 (.tmp 4) rfl g4 (eval_of_get e4) 25 (labCells M) (0, 0) _ hP.r4 Try.underlying25 rfl size_lab ?_
        exact hK _ _ ⟨Same.refl _, rfl⟩
      refine allp_mild 0 rfl rfl rfl (fun a x W hout hin hP => ?_) ?_
      · have e25 := hin.is 8 25 (by kernel_rfl) (by decide) (by kernel_rfl) (by kernel_rfl) _ rfl
        have C := D.enc M W
        clear hP
        clear hin hout
        intro K0 Q hK
        go_simp
        refine C.mono ?_
        rintro e W' ⟨rfl, hb⟩
        exact hK _ _ ⟨hb, rfl⟩
      refine allp_mild 0 rfl rfl rfl (fun a x W hout hin hP => ?_) ?_
      · have e7 : a.tmps[7]? = some (.pointer (some ⟨g7, 0, none⟩)) := (hout 7 (by kernel_rfl)).trans rfl
        clear hin hout
        intro K0 Q hK
        refine wp_load_mid 27 (.tmp 7) rfl g7 0 (eval_of_get e7) (bs (labB L)).toList _ (row_range hP.r7 (Below.refl _ _) hP.r7.lt) Try.underlying27 rfl (by rw [len_bs, length_labB]; exact size_blk) ?_
        exact hK _ _ ⟨Same.refl _, by simp [Vs, is]⟩
      refine allp_mild 0 rfl rfl rfl (fun a x W hout hin hP => ?_) ?_
      · have e26 := hin.is 9 26 (by kernel_rfl) (by decide) (by kernel_rfl) (by kernel_rfl) _ rfl
        have e27 := hin.is 10 27 (by kernel_rfl) (by decide) (by kernel_rfl) (by kernel_rfl) _ rfl
        have q := eql_blk (labB M) (labB L) (length_labB M) (length_labB L) W
        rw [decide_eq_true HQ.out] at q
        clear hP
        clear hin hout
        intro K0 Q hK
        go_simp
        exact hK _ _ ⟨Same.refl _, rfl⟩
      refine allp_mild 0 rfl rfl rfl (fun a x W hout hin hP => ?_) ?_
      · have e3 : a.tmps[3]? = some (.pointer (some ⟨g3, 0, none⟩)) := (hout 3 (by kernel_rfl)).trans rfl
        clear hin hout
        intro K0 Q hK
        refine wp_load_row 25 (.tmp 3) rfl g3 (eval_of_get e3) 25 (labCells L) (0, 0) _ hP.r3 Try.underlying25 rfl size_lab ?_
        exact hK _ _ ⟨Same.refl _, rfl⟩
      refine allp_mild 0 rfl rfl rfl (fun a x W hout hin hP => ?_) ?_
      · have e4 : a.tmps[4]? = some (.pointer (some ⟨g4, 0, none⟩)) := (hout 4 (by kernel_rfl)).trans rfl
        clear hin hout
        intro K0 Q hK
        refine wp_load_row 25 (.tmp 4) rfl g4 (eval_of_get e4) 25 (labCells M) (0, 0) _ hP.r4 Try.underlying25 rfl size_lab ?_
        exact hK _ _ ⟨Same.refl _, rfl⟩
      refine allp_mild 0 rfl rfl rfl (fun a x W hout hin hP => ?_) ?_
      · have e29 := hin.is 12 29 (by kernel_rfl) (by decide) (by kernel_rfl) (by kernel_rfl) _ rfl
        have e30 := hin.is 13 30 (by kernel_rfl) (by decide) (by kernel_rfl) (by kernel_rfl) _ rfl
        have hq := HLM.out
        clear hin hout
        intro K0 Q hK
        go_simp
        exact hK _ _ ⟨Same.refl _, rfl⟩
      refine allp_mild 0 rfl rfl rfl (fun a x W hout hin hP => ?_) ?_
      · have e28 := hin.is 11 28 (by kernel_rfl) (by decide) (by kernel_rfl) (by kernel_rfl) _ rfl
        have e31 := hin.is 14 31 (by kernel_rfl) (by decide) (by kernel_rfl) (by kernel_rfl) _ rfl
        clear hin hout
        intro K Q hK
        go_simp
        exact hK _ _ ⟨Same.refl _, rfl⟩
      refine allp_mild 0 rfl rfl rfl (fun a x W hout hin hP => ?_) ?_
      · have e24 := hin.is 7 24 (by kernel_rfl) (by decide) (by kernel_rfl) (by kernel_rfl) _ rfl
        have e32 := hin.is 15 32 (by kernel_rfl) (by decide) (by kernel_rfl) (by kernel_rfl) _ rfl
        exact does_pick rfl e24 ⟨Same.refl _, eval_of_get e32⟩
      exact all_end (by decide)
    · intro x W hP hV
      have h16 : x 16 = .bool false := hV 16 (by decide) (.inl (by kernel_rfl))
      have HP : Hid (BackAt w W g3 g4 g5 g7 g8 L M b (labB L) L) := Lib.hid hP
      clear hV hP
      simp only [putL, Act.put, List.setIfInBounds_toArray, List.set_cons_succ, List.set_cons_zero, h16]
      refine wpAnyH_done (by kernel_rfl) ?_ _
      clear h16
      have rr5 := row_range HP.out.r5 (Below.refl _ _) HP.out.r5.lt
      go_wp2_with (refine wpList_load_mid rfl 27 _ rfl g5 0 rfl (bs b).toList _ rr5 Try.underlying27 rfl (by rw [len_bs, HBL.out]; exact size_blk) ?_)
      refine (D.dec b W HBL.out).mono ?_
      rintro e W5 ⟨rfl, hb5⟩
      have HP5 := Lib.hid (HP.out.call hb5)
      have r8 := HP5.out.r8
      clear hb5 rr5 HP
      obtain ⟨K, hK⟩ : ∃ K, decLab b = K := ⟨_, rfl⟩
      obtain ⟨ee, hee⟩ : ∃ ee, decLabE b = ee := ⟨_, rfl⟩
      have hcases := decLab_cases b
      rw [hK, hee] at hcases
      rw [hK, hee]
      clear hK hee
      go_upto_region 6 with (refine wpList_store_row rfl 25 _ _ rfl g8 (labCells K) rfl rfl 25 _ r8 size_lab rfl (one_lab _) ?_)
      have HP6 := Lib.hid (HP5.out.set K)
      clear HP5 r8
      generalize W5.setRow g8 (labCells K) = W6 at *
      have hF0 : Wl [fun W => BackAt w W g3 g4 g5 g7 g8 L M b (labB L) K] 0 W6.drew := HP6.out.call (Below.refl _ _).drew
      clear HP6
      rcases hcases with rfl | ⟨rfl, hq⟩ | ⟨rfl, hq, hz0, hk0⟩
      · refine wp_region_phs [is (.int .i64 11), is (.bool false), is (.bool false), is undef, is undef, is undef, is undef, is (.bool false), is (.bool false), is undef, is undef, is undef, is undef, is undef, is undef, is undef, is undef, is (.bool false)] [true, true, true, true, true, true, true, true, true, true, true, true, true, true, true, true, true, true] [(fun W => BackAt w W g3 g4 g5 g7 g8 L M b (labB L) K)] [false, false, false, false, false, false, false, false, false, false, false, false, false, false, false, false, false, false] [some 0, some 0, some 0, some 0, some 0, some 0, some 0, some 0, some 0, some 0, some 0, some 0, some 0, some 0, some 0, some 0, some 0, some 0] [some 39, some 40, some 41, some 42, some 43, some 44, some 45, some 46, some 47, some 48, some 49, some 50, some 51, some 52, some 53, some 54, some 55, some 56] 18 0 (fun i => !([3, 4, 5, 6, 9, 10, 11, 12, 13, 14, 15, 16] : List Nat).contains i) rfl rfl (by kernel_rfl) (by kernel_rfl) (by kernel_rfl) (by kernel_rfl) ?_ ?_ ?_ ?_ ?_ ?_
        · repeat first | exact wok_nil | refine wok_cons (by first | exact fun _ _ h k => h.call k) ?_
        · repeat first | exact vok_nil | refine vok_rig (by first | exact fun _ _ _ h => h) ?_ | refine vok_soft (by first | exact fun _ _ _ h _ => h) ?_
        · exact hF0
        · repeat first | exact all_end (by decide) | refine all_cons (by first | exact rfl | exact ⟨rfl, fun _ _ h => Or.inl h⟩ | exact ⟨rfl, fun _ _ h => Or.inr ⟨h, rfl⟩⟩) ?_
        · refine allp_mild 0 rfl rfl rfl (fun a x W hout hin hP => ?_) ?_
          · have e9 : a.tmps[9]? = some (.int .i64 11) := (hout 9 (by kernel_rfl)).trans rfl
            exact does_move rfl e9 ⟨Same.refl _, rfl⟩
          refine allp_mild 0 rfl rfl rfl (fun a x W hout hin hP => ?_) ?_
          · have e39 := hin.is 0 39 (by kernel_rfl) (by decide) (by kernel_rfl) (by kernel_rfl) _ rfl
            clear hin hout
            intro K Q hK
            go_simp
            exact hK _ _ ⟨Same.refl _, rfl⟩
          refine allp_mild 0 rfl rfl rfl (fun a x W hout hin hP => ?_) ?_
          · have e40 := hin.is 1 40 (by kernel_rfl) (by decide) (by kernel_rfl) (by kernel_rfl) _ rfl
            exact does_move rfl e40 ⟨Same.refl _, rfl⟩
          refine allp_skip rfl rfl (fun _ => rfl) ?_
          refine allp_skip rfl rfl (fun _ => rfl) ?_
          refine allp_skip rfl rfl (fun _ => rfl) ?_
          refine allp_skip rfl rfl (fun _ => rfl) ?_
          refine allp_mild 0 rfl rfl rfl (fun a x W hout hin hP => ?_) ?_
          · have e41 := hin.is 2 41 (by kernel_rfl) (by decide) (by kernel_rfl) (by kernel_rfl) _ rfl
            have e45 := hin.is 6 45 (by kernel_rfl) (by decide) (by kernel_rfl) (by kernel_rfl) _ rfl
            exact does_pick rfl e41 ⟨Same.refl _, rfl⟩
          refine allp_mild 0 rfl rfl rfl (fun a x W hout hin hP => ?_) ?_
          · have e46 := hin.is 7 46 (by kernel_rfl) (by decide) (by kernel_rfl) (by kernel_rfl) _ rfl
            exact does_move rfl e46 ⟨Same.refl _, rfl⟩
          refine allp_skip rfl rfl (fun _ => rfl) ?_
          refine allp_skip rfl rfl (fun _ => rfl) ?_
          refine allp_skip rfl rfl (fun _ => rfl) ?_
          refine allp_skip rfl rfl (fun _ => rfl) ?_
          refine allp_skip rfl rfl (fun _ => rfl) ?_
          refine allp_skip rfl rfl (fun _ => rfl) ?_
          refine allp_skip rfl rfl (fun _ => rfl) ?_
          refine allp_skip rfl rfl (fun _ => rfl) ?_
          refine allp_mild 0 rfl rfl rfl (fun a x W hout hin hP => ?_) ?_
          · have e47 := hin.is 8 47 (by kernel_rfl) (by decide) (by kernel_rfl) (by kernel_rfl) _ rfl
            have e55 := hin.is 16 55 (by kernel_rfl) (by decide) (by kernel_rfl) (by kernel_rfl) _ rfl
            exact does_pick rfl e47 ⟨Same.refl _, rfl⟩
          exact all_end (by decide)
        · intro x W hP hV
          have h17 : x 17 = .bool false := hV 17 (by decide) (.inl (by kernel_rfl))
          have HP := Lib.hid hP
          clear hV hP
          simp only [putL, Act.put, List.setIfInBounds_toArray, List.set_cons_succ, List.set_cons_zero, h17]
          refine wpAnyH_done (by kernel_rfl) ?_ _
          clear h17
          go_wp2_with fail
          refine (lwakes_any D _).mono ?_
          rintro e w9 ⟨rfl, hb9⟩
          go_wp2_with fail
          go_ret
          exact ⟨rfl, HP.out.below.trans (hb9.mono HP.out.below.size)⟩
      · have HQ := Lib.hid hq
        clear hq
        refine wp_region_phs [is (.int .i64 0), is (.bool true), is (.bool true), is (.agg (labCells K)), is (.agg (bs (labB K))), is (.agg (bs b)), is (.bool false), is (.bool false), is (.bool false), is undef, is undef, is undef, is undef, is undef, is undef, is undef, is undef, is (.bool false)] [true, true, true, true, true, true, true, true, true, true, true, true, true, true, true, true, true, true] [(fun W => BackAt w W g3 g4 g5 g7 g8 L M b (labB L) K)] [false, false, false, false, false, false, false, false, false, false, false, false, false, false, false, false, false, false] [some 0, some 0, some 0, some 0, some 0, some 0, some 0, some 0, some 0, some 0, some 0, some 0, some 0, some 0, some 0, some 0, some 0, some 0] [some 39, some 40, some 41, some 42, some 43, some 44, some 45, some 46, some 47, some 48, some 49, some 50, some 51, some 52, some 53, some 54, some 55, some 56] 18 0 (fun i => !([9, 10, 11, 12, 13, 14, 15, 16] : List Nat).contains i) rfl rfl (by kernel_rfl) (by kernel_rfl) (by kernel_rfl) (by kernel_rfl) ?_ ?_ ?_ ?_ ?_ ?_
        · repeat first | exact wok_nil | refine wok_cons (by first | exact fun _ _ h k => h.call k) ?_
        · repeat first | exact vok_nil | refine vok_rig (by first | exact fun _ _ _ h => h) ?_ | refine vok_soft (by first | exact fun _ _ _ h _ => h) ?_
        · exact hF0
        · repeat first | exact all_end (by decide) | refine all_cons (by first | exact rfl | exact ⟨rfl, fun _ _ h => Or.inl h⟩ | exact ⟨rfl, fun _ _ h => Or.inr ⟨h, rfl⟩⟩) ?_
        · refine allp_mild 0 rfl rfl rfl (fun a x W hout hin hP => ?_) ?_
          · have e9 : a.tmps[9]? = some (.int .i64 0) := (hout 9 (by kernel_rfl)).trans rfl
            exact does_move rfl e9 ⟨Same.refl _, rfl⟩
          refine allp_mild 0 rfl rfl rfl (fun a x W hout hin hP => ?_) ?_
          · have e39 := hin.is 0 39 (by kernel_rfl) (by decide) (by kernel_rfl) (by kernel_rfl) _ rfl
            clear hin hout
            intro K Q hK
            go_simp
            exact hK _ _ ⟨Same.refl _, rfl⟩
          refine allp_mild 0 rfl rfl rfl (fun a x W hout hin hP => ?_) ?_
          · have e40 := hin.is 1 40 (by kernel_rfl) (by decide) (by kernel_rfl) (by kernel_rfl) _ rfl
            exact does_move rfl e40 ⟨Same.refl _, rfl⟩
          refine allp_mild 0 rfl rfl rfl (fun a x W hout hin hP => ?_) ?_
          · have e8 : a.tmps[8]? = some (.pointer (some ⟨g8, 0, none⟩)) := (hout 8 (by kernel_rfl)).trans rfl
            clear hin hout
            intro K0 Q hK
            refine wp_load_row 25 (.tmp 8) rfl g8 (eval_of_get e8) 25 (labCells K) (0, 0) _ hP.r8 Try.underlying25 rfl size_lab ?_
            exact hK _ _ ⟨Same.refl _, rfl⟩
          refine allp_mild 0 rfl rfl rfl (fun a x W hout hin hP => ?_) ?_
          · have e42 := hin.is 3 42 (by kernel_rfl) (by decide) (by kernel_rfl) (by kernel_rfl) _ rfl
            have C := D.enc K W
            clear hP
            clear hin hout
            intro K0 Q hK
            go_simp
            refine C.mono ?_
            rintro e W' ⟨rfl, hb⟩
            exact hK _ _ ⟨hb, rfl⟩
          refine allp_mild 0 rfl rfl rfl (fun a x W hout hin hP => ?_) ?_
          · have e5 : a.tmps[5]? = some (.pointer (some ⟨g5, 0, none⟩)) := (hout 5 (by kernel_rfl)).trans rfl
            clear hin hout
            intro K0 Q hK
            refine wp_load_mid 27 (.tmp 5) rfl g5 0 (eval_of_get e5) (bs b).toList _ (row_range hP.r5 (Below.refl _ _) hP.r5.lt) Try.underlying27 rfl (by rw [len_bs, HBL.out]; exact size_blk) ?_
            exact hK _ _ ⟨Same.refl _, by simp [Vs, is]⟩
          refine allp_mild 0 rfl rfl rfl (fun a x W hout hin hP => ?_) ?_
          · have e43 := hin.is 4 43 (by kernel_rfl) (by decide) (by kernel_rfl) (by kernel_rfl) _ rfl
            have e44 := hin.is 5 44 (by kernel_rfl) (by decide) (by kernel_rfl) (by kernel_rfl) _ rfl
            have q := eql_blk (labB K) b (length_labB K) HBL.out W
            rw [decide_eq_true HQ.out] at q
            clear hP
            clear hin hout
            intro K0 Q hK
            go_simp
            exact hK _ _ ⟨Same.refl _, rfl⟩
          refine allp_mild 0 rfl rfl rfl (fun a x W hout hin hP => ?_) ?_
          · have e41 := hin.is 2 41 (by kernel_rfl) (by decide) (by kernel_rfl) (by kernel_rfl) _ rfl
            have e45 := hin.is 6 45 (by kernel_rfl) (by decide) (by kernel_rfl) (by kernel_rfl) _ rfl
            exact does_pick rfl e41 ⟨Same.refl _, eval_of_get e45⟩
          refine allp_mild 0 rfl rfl rfl (fun a x W hout hin hP => ?_) ?_
          · have e46 := hin.is 7 46 (by kernel_rfl) (by decide) (by kernel_rfl) (by kernel_rfl) _ rfl
            exact does_move rfl e46 ⟨Same.refl _, rfl⟩
          refine allp_skip rfl rfl (fun _ => rfl) ?_
          refine allp_skip rfl rfl (fun _ => rfl) ?_
          refine allp_skip rfl rfl (fun _ => rfl) ?_
          refine allp_skip rfl rfl (fun _ => rfl) ?_
          refine allp_skip rfl rfl (fun _ => rfl) ?_
          refine allp_skip rfl rfl (fun _ => rfl) ?_
          refine allp_skip rfl rfl (fun _ => rfl) ?_
          refine allp_skip rfl rfl (fun _ => rfl) ?_
          refine allp_mild 0 rfl rfl rfl (fun a x W hout hin hP => ?_) ?_
          · have e47 := hin.is 8 47 (by kernel_rfl) (by decide) (by kernel_rfl) (by kernel_rfl) _ rfl
            have e55 := hin.is 16 55 (by kernel_rfl) (by decide) (by kernel_rfl) (by kernel_rfl) _ rfl
            exact does_pick rfl e47 ⟨Same.refl _, rfl⟩
          exact all_end (by decide)
        · intro x W hP hV
          have h17 : x 17 = .bool false := hV 17 (by decide) (.inl (by kernel_rfl))
          have HP := Lib.hid hP
          clear hV hP
          simp only [putL, Act.put, List.setIfInBounds_toArray, List.set_cons_succ, List.set_cons_zero, h17]
          refine wpAnyH_done (by kernel_rfl) ?_ _
          clear h17
          go_wp2_with fail
          refine (lwakes_any D _).mono ?_
          rintro e w9 ⟨rfl, hb9⟩
          go_wp2_with fail
          go_ret
          exact ⟨rfl, HP.out.below.trans (hb9.mono HP.out.below.size)⟩
      · have HQ := Lib.hid hq
        have HZ := Lib.hid hz0
        have HK0 := Lib.hid hk0
        clear hq hz0 hk0
        refine wp_region_phs [is (.int .i64 0), is (.bool true), is (.bool true), is (.agg (labCells K)), is (.agg (bs (labB K))), is (.agg (bs b)), is (.bool true), is (.bool true), is (.bool true), is (.agg (bs b)), is (.agg (bs (blk 0#8))), is (.bool false), is (.bool false), is (.agg (labCells K)), is (.agg (labCells lab0)), is (.bool false), is (.bool false), is (.bool false)] [true, true, true, true, true, true, true, true, true, true, true, true, true, true, true, true, true, true] [(fun W => BackAt w W g3 g4 g5 g7 g8 L M b (labB L) K)] [false, false, false, false, false, false, false, false, false, false, false, false, false, false, false, false, false, false] [some 0, some 0, some 0, some 0, some 0, some 0, some 0, some 0, some 0, some 0, some 0, some 0, some 0, some 0, some 0, some 0, some 0, some 0] [some 39, some 40, some 41, some 42, some 43, some 44, some 45, some 46, some 47, some 48, some 49, some 50, some 51, some 52, some 53, some 54, some 55, some 56] 18 0 (fun _ => true) rfl rfl (by kernel_rfl) (by kernel_rfl) (by kernel_rfl) (by kernel_rfl) ?_ ?_ ?_ ?_ ?_ ?_
        · repeat first | exact wok_nil | refine wok_cons (by first | exact fun _ _ h k => h.call k) ?_
        · repeat first | exact vok_nil | refine vok_rig (by first | exact fun _ _ _ h => h) ?_ | refine vok_soft (by first | exact fun _ _ _ h _ => h) ?_
        · exact hF0
        · repeat first | exact all_end (by decide) | refine all_cons (by first | exact rfl | exact ⟨rfl, fun _ _ h => Or.inl h⟩ | exact ⟨rfl, fun _ _ h => Or.inr ⟨h, rfl⟩⟩) ?_
        · refine allp_mild 0 rfl rfl rfl (fun a x W hout hin hP => ?_) ?_
          · have e9 : a.tmps[9]? = some (.int .i64 0) := (hout 9 (by kernel_rfl)).trans rfl
            exact does_move rfl e9 ⟨Same.refl _, rfl⟩
          refine allp_mild 0 rfl rfl rfl (fun a x W hout hin hP => ?_) ?_
          · have e39 := hin.is 0 39 (by kernel_rfl) (by decide) (by kernel_rfl) (by kernel_rfl) _ rfl
            clear hin hout
            intro K Q hK
            go_simp
            exact hK _ _ ⟨Same.refl _, rfl⟩
          refine allp_mild 0 rfl rfl rfl (fun a x W hout hin hP => ?_) ?_
          · have e40 := hin.is 1 40 (by kernel_rfl) (by decide) (by kernel_rfl) (by kernel_rfl) _ rfl
            exact does_move rfl e40 ⟨Same.refl _, rfl⟩
          refine allp_mild 0 rfl rfl rfl (fun a x W hout hin hP => ?_) ?_
          · have e8 : a.tmps[8]? = some (.pointer (some ⟨g8, 0, none⟩)) := (hout 8 (by kernel_rfl)).trans rfl
            clear hin hout
            intro K0 Q hK
            refine wp_load_row 25 (.tmp 8) rfl g8 (eval_of_get e8) 25 (labCells K) (0, 0) _ hP.r8 Try.underlying25 rfl size_lab ?_
            exact hK _ _ ⟨Same.refl _, rfl⟩
          refine allp_mild 0 rfl rfl rfl (fun a x W hout hin hP => ?_) ?_
          · have e42 := hin.is 3 42 (by kernel_rfl) (by decide) (by kernel_rfl) (by kernel_rfl) _ rfl
            have C := D.enc K W
            clear hP
            clear hin hout
            intro K0 Q hK
            go_simp
            refine C.mono ?_
            rintro e W' ⟨rfl, hb⟩
            exact hK _ _ ⟨hb, rfl⟩
          refine allp_mild 0 rfl rfl rfl (fun a x W hout hin hP => ?_) ?_
          · have e5 : a.tmps[5]? = some (.pointer (some ⟨g5, 0, none⟩)) := (hout 5 (by kernel_rfl)).trans rfl
            clear hin hout
            intro K0 Q hK
            refine wp_load_mid 27 (.tmp 5) rfl g5 0 (eval_of_get e5) (bs b).toList _ (row_range hP.r5 (Below.refl _ _) hP.r5.lt) Try.underlying27 rfl (by rw [len_bs, HBL.out]; exact size_blk) ?_
            exact hK _ _ ⟨Same.refl _, by simp [Vs, is]⟩
          refine allp_mild 0 rfl rfl rfl (fun a x W hout hin hP => ?_) ?_
          · have e43 := hin.is 4 43 (by kernel_rfl) (by decide) (by kernel_rfl) (by kernel_rfl) _ rfl
            have e44 := hin.is 5 44 (by kernel_rfl) (by decide) (by kernel_rfl) (by kernel_rfl) _ rfl
            have q := eql_blk (labB K) b (length_labB K) HBL.out W
            rw [decide_eq_false HQ.out] at q
            clear hP
            clear hin hout
            intro K0 Q hK
            go_simp
            exact hK _ _ ⟨Same.refl _, rfl⟩
          refine allp_mild 0 rfl rfl rfl (fun a x W hout hin hP => ?_) ?_
          · have e41 := hin.is 2 41 (by kernel_rfl) (by decide) (by kernel_rfl) (by kernel_rfl) _ rfl
            have e45 := hin.is 6 45 (by kernel_rfl) (by decide) (by kernel_rfl) (by kernel_rfl) _ rfl
            exact does_pick rfl e41 ⟨Same.refl _, eval_of_get e45⟩
          refine allp_mild 0 rfl rfl rfl (fun a x W hout hin hP => ?_) ?_
          · have e46 := hin.is 7 46 (by kernel_rfl) (by decide) (by kernel_rfl) (by kernel_rfl) _ rfl
            exact does_move rfl e46 ⟨Same.refl _, rfl⟩
          refine allp_mild 0 rfl rfl rfl (fun a x W hout hin hP => ?_) ?_
          · have e5 : a.tmps[5]? = some (.pointer (some ⟨g5, 0, none⟩)) := (hout 5 (by kernel_rfl)).trans rfl
            clear hin hout
            intro K0 Q hK
            refine wp_load_mid 27 (.tmp 5) rfl g5 0 (eval_of_get e5) (bs b).toList _ (row_range hP.r5 (Below.refl _ _) hP.r5.lt) Try.underlying27 rfl (by rw [len_bs, HBL.out]; exact size_blk) ?_
            exact hK _ _ ⟨Same.refl _, by simp [Vs, is]⟩
          refine allp_mild 0 rfl rfl rfl (fun a x W hout hin hP => ?_) ?_
          · have hz := zeros_blk
            clear hP
            clear hin hout
            intro K0 Q hK
            go_simp
            exact hK _ _ ⟨Same.refl _, rfl⟩
          refine allp_mild 0 rfl rfl rfl (fun a x W hout hin hP => ?_) ?_
          · have e48 := hin.is 9 48 (by kernel_rfl) (by decide) (by kernel_rfl) (by kernel_rfl) _ rfl
            have e49 := hin.is 10 49 (by kernel_rfl) (by decide) (by kernel_rfl) (by kernel_rfl) _ rfl
            have q := eql_blk b (blk 0#8) HBL.out (length_blk _) W
            rw [decide_eq_true HZ.out] at q
            clear hP
            clear hin hout
            intro K0 Q hK
            go_simp
            exact hK _ _ ⟨Same.refl _, rfl⟩
          refine allp_mild 0 rfl rfl rfl (fun a x W hout hin hP => ?_) ?_
          · have e50 := hin.is 11 50 (by kernel_rfl) (by decide) (by kernel_rfl) (by kernel_rfl) _ rfl
            exact does_move rfl e50 ⟨Same.refl _, rfl⟩
          refine allp_mild 0 rfl rfl rfl (fun a x W hout hin hP => ?_) ?_
          · have e8 : a.tmps[8]? = some (.pointer (some ⟨g8, 0, none⟩)) := (hout 8 (by kernel_rfl)).trans rfl
            clear hin hout
            intro K0 Q hK
            refine wp_load_row 25 (.tmp 8) rfl g8 (eval_of_get e8) 25 (labCells K) (0, 0) _ hP.r8 Try.underlying25 rfl size_lab ?_
            exact hK _ _ ⟨Same.refl _, rfl⟩
          refine allp_mild 0 rfl rfl rfl (fun a x W hout hin hP => ?_) ?_
          · have hz := zeros_lab
            clear hP
            clear hin hout
            intro K0 Q hK
            go_simp
            exact hK _ _ ⟨Same.refl _, rfl⟩
          refine allp_mild 0 rfl rfl rfl (fun a x W hout hin hP => ?_) ?_
          · have e52 := hin.is 13 52 (by kernel_rfl) (by decide) (by kernel_rfl) (by kernel_rfl) _ rfl
            have e53 := hin.is 14 53 (by kernel_rfl) (by decide) (by kernel_rfl) (by kernel_rfl) _ rfl
            have hq := HK0.out
            clear hin hout
            intro K0 Q hK
            go_simp
            exact hK _ _ ⟨Same.refl _, rfl⟩
          refine allp_mild 0 rfl rfl rfl (fun a x W hout hin hP => ?_) ?_
          · have e51 := hin.is 12 51 (by kernel_rfl) (by decide) (by kernel_rfl) (by kernel_rfl) _ rfl
            have e54 := hin.is 15 54 (by kernel_rfl) (by decide) (by kernel_rfl) (by kernel_rfl) _ rfl
            exact does_pick rfl e51 ⟨Same.refl _, eval_of_get e54⟩
          refine allp_mild 0 rfl rfl rfl (fun a x W hout hin hP => ?_) ?_
          · have e47 := hin.is 8 47 (by kernel_rfl) (by decide) (by kernel_rfl) (by kernel_rfl) _ rfl
            have e55 := hin.is 16 55 (by kernel_rfl) (by decide) (by kernel_rfl) (by kernel_rfl) _ rfl
            exact does_pick rfl e47 ⟨Same.refl _, eval_of_get e55⟩
          exact all_end (by decide)
        · intro x W hP hV
          have h17 : x 17 = .bool false := hV 17 (by decide) (.inl (by kernel_rfl))
          have HP := Lib.hid hP
          clear hV hP
          simp only [putL, Act.put, List.setIfInBounds_toArray, List.set_cons_succ, List.set_cons_zero, h17]
          refine wpAnyH_done (by kernel_rfl) ?_ _
          clear h17
          go_wp2_with fail
          refine (lwakes_any D _).mono ?_
          rintro e w9 ⟨rfl, hb9⟩
          go_wp2_with fail
          go_ret
          exact ⟨rfl, HP.out.below.trans (hb9.mono HP.out.below.size)⟩
  · have HLM : Hid ((L = M) = False) := Lib.hid (eq_false hLM)
    have HQ : Hid (¬ labB M = labB L) := Lib.hid (fun h => hLM (labB_inj h).symm)
    clear hLM
    refine wp_region_phs [is (.int .i64 0), is (.bool false), is (.bool false), is (.agg (labCells L)), is (.agg (labCells L)), is (.bool false), is (.bool false), is (.bool false), is (.agg (labCells M)), is (.agg (bs (labB M))), is (.agg (bs (labB L))), is (.bool false), is (.agg (labCells L)), is (.agg (labCells M)), is (.bool false), is (.bool false), is (.bool false)] [true, true, true, true, true, true, true, true, true, true, true, true, true, true, true, true, true] [(fun W => BackAt w W g3 g4 g5 g7 g8 L M b (labB L) L)] [false, false, false, false, false, false, false, false, false, false, false, false, false, false, false, false, false] [some 0, some 0, some 0, some 0, some 0, some 0, some 0, some 0, some 0, some 0, some 0, some 0, some 0, some 0, some 0, some 0, some 0] [some 17, some 18, some 19, some 20, some 21, some 22, some 23, some 24, some 25, some 26, some 27, some 28, some 29, some 30, some 31, some 32, some 33] 17 0 (fun _ => true) rfl rfl (by kernel_rfl) (by kernel_rfl) (by kernel_rfl) (by kernel_rfl) ?_ ?_ ?_ ?_ ?_ ?_
    · repeat first | exact wok_nil | refine wok_cons (by first | exact fun _ _ h k => h.call k) ?_
    · repeat first | exact vok_nil | refine vok_rig (by first | exact fun _ _ _ h => h) ?_ | refine vok_soft (by first | exact fun _ _ _ h _ => h) ?_
    · exact hF0
    · repeat first | exact all_end (by decide) | refine all_cons (by first | exact rfl | exact ⟨rfl, fun _ _ h => Or.inl h⟩ | exact ⟨rfl, fun _ _ h => Or.inr ⟨h, rfl⟩⟩) ?_
    · refine allp_mild 0 rfl rfl rfl (fun a x W hout hin hP => ?_) ?_
      · have e9 : a.tmps[9]? = some (.int .i64 0) := (hout 9 (by kernel_rfl)).trans rfl
        exact does_move rfl e9 ⟨Same.refl _, rfl⟩
      refine allp_mild 0 rfl rfl rfl (fun a x W hout hin hP => ?_) ?_
      · have e17 := hin.is 0 17 (by kernel_rfl) (by decide) (by kernel_rfl) (by kernel_rfl) _ rfl
        clear hin hout
        intro K Q hK
        go_simp
        exact hK _ _ ⟨Same.refl _, rfl⟩
      refine allp_mild 0 rfl rfl rfl (fun a x W hout hin hP => ?_) ?_
      · have e18 := hin.is 1 18 (by kernel_rfl) (by decide) (by kernel_rfl) (by kernel_rfl) _ rfl
        exact does_move rfl e18 ⟨Same.refl _, rfl⟩
      refine allp_mild 0 rfl rfl rfl (fun a x W hout hin hP => ?_) ?_
      · have e8 : a.tmps[8]? = some (.pointer (some ⟨g8, 0, none⟩)) := (hout 8 (by kernel_rfl)).trans rfl
        clear hin hout
        intro K0 Q hK
        refine wp_load_row 25 (.tmp 8) rfl g8 (eval_of_get e8) 25 (labCells L) (0, 0) _ hP.r8 Try.underlying25 rfl size_lab ?_
        exact hK _ _ ⟨Same.refl _, rfl⟩
      refine allp_mild 0 rfl rfl rfl (fun a x W hout hin hP => ?_) ?_
      · have e3 : a.tmps[3]? = some (.pointer (some ⟨g3, 0, none⟩)) := (hout 3 (by kernel_rfl)).trans rfl
        clear hin hout
        intro K0 Q hK
        refine wp_load_row 25 (.tmp 3) rfl g3 (eval_of_get e3) 25 (labCells L) (0, 0) _ hP.r3 Try.underlying25 rfl size_lab ?_
        exact hK _ _ ⟨Same.refl _, rfl⟩
      refine allp_mild 0 rfl rfl rfl (fun a x W hout hin hP => ?_) ?_
      · have e20 := hin.is 3 20 (by kernel_rfl) (by decide) (by kernel_rfl) (by kernel_rfl) _ rfl
        have e21 := hin.is 4 21 (by kernel_rfl) (by decide) (by kernel_rfl) (by kernel_rfl) _ rfl
        clear hin hout
        intro K Q hK
        go_simp
        exact hK _ _ ⟨Same.refl _, rfl⟩
      refine allp_mild 0 rfl rfl rfl (fun a x W hout hin hP => ?_) ?_
      · have e19 := hin.is 2 19 (by kernel_rfl) (by decide) (by kernel_rfl) (by kernel_rfl) _ rfl
        have e22 := hin.is 5 22 (by kernel_rfl) (by decide) (by kernel_rfl) (by kernel_rfl) _ rfl
        exact does_pick rfl e19 ⟨Same.refl _, eval_of_get e22⟩
      refine allp_mild 0 rfl rfl rfl (fun a x W hout hin hP => ?_) ?_
      · have e23 := hin.is 6 23 (by kernel_rfl) (by decide) (by kernel_rfl) (by kernel_rfl) _ rfl
        exact does_move rfl e23 ⟨Same.refl _, rfl⟩
      refine allp_mild 0 rfl rfl rfl (fun a x W hout hin hP => ?_) ?_
      · have e4 : a.tmps[4]? = some (.pointer (some ⟨g4, 0, none⟩)) := (hout 4 (by kernel_rfl)).trans rfl
        clear hin hout
        intro K0 Q hK
        refine wp_load_row 25 (.tmp 4) rfl g4 (eval_of_get e4) 25 (labCells M) (0, 0) _ hP.r4 Try.underlying25 rfl size_lab ?_
        exact hK _ _ ⟨Same.refl _, rfl⟩
      refine allp_mild 0 rfl rfl rfl (fun a x W hout hin hP => ?_) ?_
      · have e25 := hin.is 8 25 (by kernel_rfl) (by decide) (by kernel_rfl) (by kernel_rfl) _ rfl
        have C := D.enc M W
        clear hP
        clear hin hout
        intro K0 Q hK
        go_simp
        refine C.mono ?_
        rintro e W' ⟨rfl, hb⟩
        exact hK _ _ ⟨hb, rfl⟩
      refine allp_mild 0 rfl rfl rfl (fun a x W hout hin hP => ?_) ?_
      · have e7 : a.tmps[7]? = some (.pointer (some ⟨g7, 0, none⟩)) := (hout 7 (by kernel_rfl)).trans rfl
        clear hin hout
        intro K0 Q hK
        refine wp_load_mid 27 (.tmp 7) rfl g7 0 (eval_of_get e7) (bs (labB L)).toList _ (row_range hP.r7 (Below.refl _ _) hP.r7.lt) Try.underlying27 rfl (by rw [len_bs, length_labB]; exact size_blk) ?_
        exact hK _ _ ⟨Same.refl _, by simp [Vs, is]⟩
      refine allp_mild 0 rfl rfl rfl (fun a x W hout hin hP => ?_) ?_
      · have e26 := hin.is 9 26 (by kernel_rfl) (by decide) (by kernel_rfl) (by kernel_rfl) _ rfl
        have e27 := hin.is 10 27 (by kernel_rfl) (by decide) (by kernel_rfl) (by kernel_rfl) _ rfl
        have q := eql_blk (labB M) (labB L) (length_labB M) (length_labB L) W
        rw [decide_eq_false HQ.out] at q
        clear hP
        clear hin hout
        intro K0 Q hK
        go_simp
        exact hK _ _ ⟨Same.refl _, rfl⟩
      refine allp_mild 0 rfl rfl rfl (fun a x W hout hin hP => ?_) ?_
      · have e3 : a.tmps[3]? = some (.pointer (some ⟨g3, 0, none⟩)) := (hout 3 (by kernel_rfl)).trans rfl
        clear hin hout
        intro K0 Q hK
        refine wp_load_row 25 (.tmp 3) rfl g3 (eval_of_get e3) 25 (labCells L) (0, 0) _ hP.r3 Try.underlying25 rfl size_lab ?_
        exact hK _ _ ⟨Same.refl _, rfl⟩
      refine allp_mild 0 rfl rfl rfl (fun a x W hout hin hP => ?_) ?_
      · have e4 : a.tmps[4]? = some (.pointer (some ⟨g4, 0, none⟩)) := (hout 4 (by kernel_rfl)).trans rfl
        clear hin hout
        intro K0 Q hK
        refine wp_load_row 25 (.tmp 4) rfl g4 (eval_of_get e4) 25 (labCells M) (0, 0) _ hP.r4 Try.underlying25 rfl size_lab ?_
        exact hK _ _ ⟨Same.refl _, rfl⟩
      refine allp_mild 0 rfl rfl rfl (fun a x W hout hin hP => ?_) ?_
      · have e29 := hin.is 12 29 (by kernel_rfl) (by decide) (by kernel_rfl) (by kernel_rfl) _ rfl
        have e30 := hin.is 13 30 (by kernel_rfl) (by decide) (by kernel_rfl) (by kernel_rfl) _ rfl
        have hq := HLM.out
        clear hin hout
        intro K0 Q hK
        go_simp
        exact hK _ _ ⟨Same.refl _, rfl⟩
      refine allp_mild 0 rfl rfl rfl (fun a x W hout hin hP => ?_) ?_
      · have e28 := hin.is 11 28 (by kernel_rfl) (by decide) (by kernel_rfl) (by kernel_rfl) _ rfl
        have e31 := hin.is 14 31 (by kernel_rfl) (by decide) (by kernel_rfl) (by kernel_rfl) _ rfl
        clear hin hout
        intro K Q hK
        go_simp
        exact hK _ _ ⟨Same.refl _, rfl⟩
      refine allp_mild 0 rfl rfl rfl (fun a x W hout hin hP => ?_) ?_
      · have e24 := hin.is 7 24 (by kernel_rfl) (by decide) (by kernel_rfl) (by kernel_rfl) _ rfl
        have e32 := hin.is 15 32 (by kernel_rfl) (by decide) (by kernel_rfl) (by kernel_rfl) _ rfl
        exact does_pick rfl e24 ⟨Same.refl _, eval_of_get e32⟩
      exact all_end (by decide)
    · intro x W hP hV
      have h16 : x 16 = .bool false := hV 16 (by decide) (.inl (by kernel_rfl))
      have HP : Hid (BackAt w W g3 g4 g5 g7 g8 L M b (labB L) L) := Lib.hid hP
      clear hV hP
      simp only [putL, Act.put, List.setIfInBounds_toArray, List.set_cons_succ, List.set_cons_zero, h16]
      refine wpAnyH_done (by kernel_rfl) ?_ _
      clear h16
      have rr5 := row_range HP.out.r5 (Below.refl _ _) HP.out.r5.lt
      go_wp2_with (refine wpList_load_mid rfl 27 _ rfl g5 0 rfl (bs b).toList _ rr5 Try.underlying27 rfl (by rw [len_bs, HBL.out]; exact size_blk) ?_)
      refine (D.dec b W HBL.out).mono ?_
      rintro e W5 ⟨rfl, hb5⟩
      have HP5 := Lib.hid (HP.out.call hb5)
      have r8 := HP5.out.r8
      clear hb5 rr5 HP
      obtain ⟨K, hK⟩ : ∃ K, decLab b = K := ⟨_, rfl⟩
      obtain ⟨ee, hee⟩ : ∃ ee, decLabE b = ee := ⟨_, rfl⟩
      have hcases := decLab_cases b
      rw [hK, hee] at hcases
      rw [hK, hee]
      clear hK hee
      go_upto_region 6 with (refine wpList_store_row rfl 25 _ _ rfl g8 (labCells K) rfl rfl 25 _ r8 size_lab rfl (one_lab _) ?_)
      have HP6 := Lib.hid (HP5.out.set K)
      clear HP5 r8
      generalize W5.setRow g8 (labCells K) = W6 at *
      have hF0 : Wl [fun W => BackAt w W g3 g4 g5 g7 g8 L M b (labB L) K] 0 W6.drew := HP6.out.call (Below.refl _ _).drew
      clear HP6
      rcases hcases with rfl | ⟨rfl, hq⟩ | ⟨rfl, hq, hz0, hk0⟩
      · refine wp_region_phs [is (.int .i64 11), is (.bool false), is (.bool false), is undef, is undef, is undef, is undef, is (.bool false), is (.bool false), is undef, is undef, is undef, is undef, is undef, is undef, is undef, is undef, is (.bool false)] [true, true, true, true, true, true, true, true, true, true, true, true, true, true, true, true, true, true] [(fun W => BackAt w W g3 g4 g5 g7 g8 L M b (labB L) K)] [false, false, false, false, false, false, false, false, false, false, false, false, false, false, false, false, false, false] [some 0, some 0, some 0, some 0, some 0, some 0, some 0, some 0, some 0, some 0, some 0, some 0, some 0, some 0, some 0, some 0, some 0, some 0] [some 39, some 40, some 41, some 42, some 43, some 44, some 45, some 46, some 47, some 48, some 49, some 50, some 51, some 52, some 53, some 54, some 55, some 56] 18 0 (fun i => !([3, 4, 5, 6, 9, 10, 11, 12, 13, 14, 15, 16] : List Nat).contains i) rfl rfl (by kernel_rfl) (by kernel_rfl) (by kernel_rfl) (by kernel_rfl) ?_ ?_ ?_ ?_ ?_ ?_
        · repeat first | exact wok_nil | refine wok_cons (by first | exact fun _ _ h k => h.call k) ?_
        · repeat first | exact vok_nil | refine vok_rig (by first | exact fun _ _ _ h => h) ?_ | refine vok_soft (by first | exact fun _ _ _ h _ => h) ?_
        · exact hF0
        · repeat first | exact all_end (by decide) | refine all_cons (by first | exact rfl | exact ⟨rfl, fun _ _ h => Or.inl h⟩ | exact ⟨rfl, fun _ _ h => Or.inr ⟨h, rfl⟩⟩) ?_
        · refine allp_mild 0 rfl rfl rfl (fun a x W hout hin hP => ?_) ?_
          · have e9 : a.tmps[9]? = some (.int .i64 11) := (hout 9 (by kernel_rfl)).trans rfl
            exact does_move rfl e9 ⟨Same.refl _, rfl⟩
          refine allp_mild 0 rfl rfl rfl (fun a x W hout hin hP => ?_) ?_
          · have e39 := hin.is 0 39 (by kernel_rfl) (by decide) (by kernel_rfl) (by kernel_rfl) _ rfl
            clear hin hout
            intro K Q hK
            go_simp
            exact hK _ _ ⟨Same.refl _, rfl⟩
          refine allp_mild 0 rfl rfl rfl (fun a x W hout hin hP => ?_) ?_
          · have e40 := hin.is 1 40 (by kernel_rfl) (by decide) (by kernel_rfl) (by kernel_rfl) _ rfl
            exact does_move rfl e40 ⟨Same.refl _, rfl⟩
          refine allp_skip rfl rfl (fun _ => rfl) ?_
          refine allp_skip rfl rfl (fun _ => rfl) ?_
          refine allp_skip rfl rfl (fun _ => rfl) ?_
          refine allp_skip rfl rfl (fun _ => rfl) ?_
          refine allp_mild 0 rfl rfl rfl (fun a x W hout hin hP => ?_) ?_
          · have e41 := hin.is 2 41 (by kernel_rfl) (by decide) (by kernel_rfl) (by kernel_rfl) _ rfl
            have e45 := hin.is 6 45 (by kernel_rfl) (by decide) (by kernel_rfl) (by kernel_rfl) _ rfl
            exact does_pick rfl e41 ⟨Same.refl _, rfl⟩
          refine allp_mild 0 rfl rfl rfl (fun a x W hout hin hP => ?_) ?_
          · have e46 := hin.is 7 46 (by kernel_rfl) (by decide) (by kernel_rfl) (by kernel_rfl) _ rfl
            exact does_move rfl e46 ⟨Same.refl _, rfl⟩
          refine allp_skip rfl rfl (fun _ => rfl) ?_
          refine allp_skip rfl rfl (fun _ => rfl) ?_
          refine allp_skip rfl rfl (fun _ => rfl) ?_
          refine allp_skip rfl rfl (fun _ => rfl) ?_
          refine allp_skip rfl rfl (fun _ => rfl) ?_
          refine allp_skip rfl rfl (fun _ => rfl) ?_
          refine allp_skip rfl rfl (fun _ => rfl) ?_
          refine allp_skip rfl rfl (fun _ => rfl) ?_
          refine allp_mild 0 rfl rfl rfl (fun a x W hout hin hP => ?_) ?_
          · have e47 := hin.is 8 47 (by kernel_rfl) (by decide) (by kernel_rfl) (by kernel_rfl) _ rfl
            have e55 := hin.is 16 55 (by kernel_rfl) (by decide) (by kernel_rfl) (by kernel_rfl) _ rfl
            exact does_pick rfl e47 ⟨Same.refl _, rfl⟩
          exact all_end (by decide)
        · intro x W hP hV
          have h17 : x 17 = .bool false := hV 17 (by decide) (.inl (by kernel_rfl))
          have HP := Lib.hid hP
          clear hV hP
          simp only [putL, Act.put, List.setIfInBounds_toArray, List.set_cons_succ, List.set_cons_zero, h17]
          refine wpAnyH_done (by kernel_rfl) ?_ _
          clear h17
          go_wp2_with fail
          refine (lwakes_any D _).mono ?_
          rintro e w9 ⟨rfl, hb9⟩
          go_wp2_with fail
          go_ret
          exact ⟨rfl, HP.out.below.trans (hb9.mono HP.out.below.size)⟩
      · have HQ := Lib.hid hq
        clear hq
        refine wp_region_phs [is (.int .i64 0), is (.bool true), is (.bool true), is (.agg (labCells K)), is (.agg (bs (labB K))), is (.agg (bs b)), is (.bool false), is (.bool false), is (.bool false), is undef, is undef, is undef, is undef, is undef, is undef, is undef, is undef, is (.bool false)] [true, true, true, true, true, true, true, true, true, true, true, true, true, true, true, true, true, true] [(fun W => BackAt w W g3 g4 g5 g7 g8 L M b (labB L) K)] [false, false, false, false, false, false, false, false, false, false, false, false, false, false, false, false, false, false] [some 0, some 0, some 0, some 0, some 0, some 0, some 0, some 0, some 0, some 0, some 0, some 0, some 0, some 0, some 0, some 0, some 0, some 0] [some 39, some 40, some 41, some 42, some 43, some 44, some 45, some 46, some 47, some 48, some 49, some 50, some 51, some 52, some 53, some 54, some 55, some 56] 18 0 (fun i => !([9, 10, 11, 12, 13, 14, 15, 16] : List Nat).contains i) rfl rfl (by kernel_rfl) (by kernel_rfl) (by kernel_rfl) (by kernel_rfl) ?_ ?_ ?_ ?_ ?_ ?_
        · repeat first | exact wok_nil | refine wok_cons (by first | exact fun _ _ h k => h.call k) ?_
        · repeat first | exact vok_nil | refine vok_rig (by first | exact fun _ _ _ h => h) ?_ | refine vok_soft (by first | exact fun _ _ _ h _ => h) ?_
        · exact hF0
        · repeat first | exact all_end (by decide) | refine all_cons (by first | exact rfl | exact ⟨rfl, fun _ _ h => Or.inl h⟩ | exact ⟨rfl, fun _ _ h => Or.inr ⟨h, rfl⟩⟩) ?_
        · refine allp_mild 0 rfl rfl rfl (fun a x W hout hin hP => ?_) ?_
          · have e9 : a.tmps[9]? = some (.int .i64 0) := (hout 9 (by kernel_rfl)).trans rfl
            exact does_move rfl e9 ⟨Same.refl _, rfl⟩
          refine allp_mild 0 rfl rfl rfl (fun a x W hout hin hP => ?_) ?_
          · have e39 := hin.is 0 39 (by kernel_rfl) (by decide) (by kernel_rfl) (by kernel_rfl) _ rfl
            clear hin hout
            intro K Q hK
            go_simp
            exact hK _ _ ⟨Same.refl _, rfl⟩
          refine allp_mild 0 rfl rfl rfl (fun a x W hout hin hP => ?_) ?_
          · have e40 := hin.is 1 40 (by kernel_rfl) (by decide) (by kernel_rfl) (by kernel_rfl) _ rfl
            exact does_move rfl e40 ⟨Same.refl _, rfl⟩
          refine allp_mild 0 rfl rfl rfl (fun a x W hout hin hP => ?_) ?_
          · have e8 : a.tmps[8]? = some (.pointer (some ⟨g8, 0, none⟩)) := (hout 8 (by kernel_rfl)).trans rfl
            clear hin hout
            intro K0 Q hK
            refine wp_load_row 25 (.tmp 8) rfl g8 (eval_of_get e8) 25 (labCells K) (0, 0) _ hP.r8 Try.underlying25 rfl size_lab ?_
            exact hK _ _ ⟨Same.refl _, rfl⟩
          refine allp_mild 0 rfl rfl rfl (fun a x W hout hin hP => ?_) ?_
          · have e42 := hin.is 3 42 (by kernel_rfl) (by decide) (by kernel_rfl) (by kernel_rfl) _ rfl
            have C := D.enc K W
            clear hP
            clear hin hout
            intro K0 Q hK
            go_simp
            refine C.mono ?_
            rintro e W' ⟨rfl, hb⟩
            exact hK _ _ ⟨hb, rfl⟩
          refine allp_mild 0 rfl rfl rfl (fun a x W hout hin hP => ?_) ?_
          · have e5 : a.tmps[5]? = some (.pointer (some ⟨g5, 0, none⟩)) := (hout 5 (by kernel_rfl)).trans rfl
            clear hin hout
            intro K0 Q hK
            refine wp_load_mid 27 (.tmp 5) rfl g5 0 (eval_of_get e5) (bs b).toList _ (row_range hP.r5 (Below.refl _ _) hP.r5.lt) Try.underlying27 rfl (by rw [len_bs, HBL.out]; exact size_blk) ?_
            exact hK _ _ ⟨Same.refl _, by simp [Vs, is]⟩
          refine allp_mild 0 rfl rfl rfl (fun a x W hout hin hP => ?_) ?_
          · have e43 := hin.is 4 43 (by kernel_rfl) (by decide) (by kernel_rfl) (by kernel_rfl) _ rfl
            have e44 := hin.is 5 44 (by kernel_rfl) (by decide) (by kernel_rfl) (by kernel_rfl) _ rfl
            have q := eql_blk (labB K) b (length_labB K) HBL.out W
            rw [decide_eq_true HQ.out] at q
            clear hP
            clear hin hout
            intro K0 Q hK
            go_simp
            exact hK _ _ ⟨Same.refl _, rfl⟩
          refine allp_mild 0 rfl rfl rfl (fun a x W hout hin hP => ?_) ?_
          · have e41 := hin.is 2 41 (by kernel_rfl) (by decide) (by kernel_rfl) (by kernel_rfl) _ rfl
            have e45 := hin.is 6 45 (by kernel_rfl) (by decide) (by kernel_rfl) (by kernel_rfl) _ rfl
            exact does_pick rfl e41 ⟨Same.refl _, eval_of_get e45⟩
          refine allp_mild 0 rfl rfl rfl (fun a x W hout hin hP => ?_) ?_
          · have e46 := hin.is 7 46 (by kernel_rfl) (by decide) (by kernel_rfl) (by kernel_rfl) _ rfl
            exact does_move rfl e46 ⟨Same.refl _, rfl⟩
          refine allp_skip rfl rfl (fun _ => rfl) ?_
          refine allp_skip rfl rfl (fun _ => rfl) ?_
          refine allp_skip rfl rfl (fun _ => rfl) ?_
          refine allp_skip rfl rfl (fun _ => rfl) ?_
          refine allp_skip rfl rfl (fun _ => rfl) ?_
          refine allp_skip rfl rfl (fun _ => rfl) ?_
          refine allp_skip rfl rfl (fun _ => rfl) ?_
          refine allp_skip rfl rfl (fun _ => rfl) ?_
          refine allp_mild 0 rfl rfl rfl (fun a x W hout hin hP => ?_) ?_
          · have e47 := hin.is 8 47 (by kernel_rfl) (by decide) (by kernel_rfl) (by kernel_rfl) _ rfl
            have e55 := hin.is 16 55 (by kernel_rfl) (by decide) (by kernel_rfl) (by kernel_rfl) _ rfl
            exact does_pick rfl e47 ⟨Same.refl _, rfl⟩
          exact all_end (by decide)
        · intro x W hP hV
          have h17 : x 17 = .bool false := hV 17 (by decide) (.inl (by kernel_rfl))
          have HP := Lib.hid hP
          clear hV hP
          simp only [putL, Act.put, List.setIfInBounds_toArray, List.set_cons_succ, List.set_cons_zero, h17]
          refine wpAnyH_done (by kernel_rfl) ?_ _
          clear h17
          go_wp2_with fail
          refine (lwakes_any D _).mono ?_
          rintro e w9 ⟨rfl, hb9⟩
          go_wp2_with fail
          go_ret
          exact ⟨rfl, HP.out.below.trans (hb9.mono HP.out.below.size)⟩
      · have HQ := Lib.hid hq
        have HZ := Lib.hid hz0
        have HK0 := Lib.hid hk0
        clear hq hz0 hk0
        refine wp_region_phs [is (.int .i64 0), is (.bool true), is (.bool true), is (.agg (labCells K)), is (.agg (bs (labB K))), is (.agg (bs b)), is (.bool true), is (.bool true), is (.bool true), is (.agg (bs b)), is (.agg (bs (blk 0#8))), is (.bool false), is (.bool false), is (.agg (labCells K)), is (.agg (labCells lab0)), is (.bool false), is (.bool false), is (.bool false)] [true, true, true, true, true, true, true, true, true, true, true, true, true, true, true, true, true, true] [(fun W => BackAt w W g3 g4 g5 g7 g8 L M b (labB L) K)] [false, false, false, false, false, false, false, false, false, false, false, false, false, false, false, false, false, false] [some 0, some 0, some 0, some 0, some 0, some 0, some 0, some 0, some 0, some 0, some 0, some 0, some 0, some 0, some 0, some 0, some 0, some 0] [some 39, some 40, some 41, some 42, some 43, some 44, some 45, some 46, some 47, some 48, some 49, some 50, some 51, some 52, some 53, some 54, some 55, some 56] 18 0 (fun _ => true) rfl rfl (by kernel_rfl) (by kernel_rfl) (by kernel_rfl) (by kernel_rfl) ?_ ?_ ?_ ?_ ?_ ?_
        · repeat first | exact wok_nil | refine wok_cons (by first | exact fun _ _ h k => h.call k) ?_
        · repeat first | exact vok_nil | refine vok_rig (by first | exact fun _ _ _ h => h) ?_ | refine vok_soft (by first | exact fun _ _ _ h _ => h) ?_
        · exact hF0
        · repeat first | exact all_end (by decide) | refine all_cons (by first | exact rfl | exact ⟨rfl, fun _ _ h => Or.inl h⟩ | exact ⟨rfl, fun _ _ h => Or.inr ⟨h, rfl⟩⟩) ?_
        · refine allp_mild 0 rfl rfl rfl (fun a x W hout hin hP => ?_) ?_
          · have e9 : a.tmps[9]? = some (.int .i64 0) := (hout 9 (by kernel_rfl)).trans rfl
            exact does_move rfl e9 ⟨Same.refl _, rfl⟩
          refine allp_mild 0 rfl rfl rfl (fun a x W hout hin hP => ?_) ?_
          · have e39 := hin.is 0 39 (by kernel_rfl) (by decide) (by kernel_rfl) (by kernel_rfl) _ rfl
            clear hin hout
            intro K Q hK
            go_simp
            exact hK _ _ ⟨Same.refl _, rfl⟩
          refine allp_mild 0 rfl rfl rfl (fun a x W hout hin hP => ?_) ?_
          · have e40 := hin.is 1 40 (by kernel_rfl) (by decide) (by kernel_rfl) (by kernel_rfl) _ rfl
            exact does_move rfl e40 ⟨Same.refl _, rfl⟩
          refine allp_mild 0 rfl rfl rfl (fun a x W hout hin hP => ?_) ?_
          · have e8 : a.tmps[8]? = some (.pointer (some ⟨g8, 0, none⟩)) := (hout 8 (by kernel_rfl)).trans rfl
            clear hin hout
            intro K0 Q hK
            refine wp_load_row 25 (.tmp 8) rfl g8 (eval_of_get e8) 25 (labCells K) (0, 0) _ hP.r8 Try.underlying25 rfl size_lab ?_
            exact hK _ _ ⟨Same.refl _, rfl⟩
          refine allp_mild 0 rfl rfl rfl (fun a x W hout hin hP => ?_) ?_
          · have e42 := hin.is 3 42 (by kernel_rfl) (by decide) (by kernel_rfl) (by kernel_rfl) _ rfl
            have C := D.enc K W
            clear hP
            clear hin hout
            intro K0 Q hK
            go_simp
            refine C.mono ?_
            rintro e W' ⟨rfl, hb⟩
            exact hK _ _ ⟨hb, rfl⟩
          refine allp_mild 0 rfl rfl rfl (fun a x W hout hin hP => ?_) ?_
          · have e5 : a.tmps[5]? = some (.pointer (some ⟨g5, 0, none⟩)) := (hout 5 (by kernel_rfl)).trans rfl
            clear hin hout
            intro K0 Q hK
            refine wp_load_mid 27 (.tmp 5) rfl g5 0 (eval_of_get e5) (bs b).toList _ (row_range hP.r5 (Below.refl _ _) hP.r5.lt) Try.underlying27 rfl (by rw [len_bs, HBL.out]; exact size_blk) ?_
            exact hK _ _ ⟨Same.refl _, by simp [Vs, is]⟩
          refine allp_mild 0 rfl rfl rfl (fun a x W hout hin hP => ?_) ?_
          · have e43 := hin.is 4 43 (by kernel_rfl) (by decide) (by kernel_rfl) (by kernel_rfl) _ rfl
            have e44 := hin.is 5 44 (by kernel_rfl) (by decide) (by kernel_rfl) (by kernel_rfl) _ rfl
            have q := eql_blk (labB K) b (length_labB K) HBL.out W
            rw [decide_eq_false HQ.out] at q
            clear hP
            clear hin hout
            intro K0 Q hK
            go_simp
            exact hK _ _ ⟨Same.refl _, rfl⟩
          refine allp_mild 0 rfl rfl rfl (fun a x W hout hin hP => ?_) ?_
          · have e41 := hin.is 2 41 (by kernel_rfl) (by decide) (by kernel_rfl) (by kernel_rfl) _ rfl
            have e45 := hin.is 6 45 (by kernel_rfl) (by decide) (by kernel_rfl) (by kernel_rfl) _ rfl
            exact does_pick rfl e41 ⟨Same.refl _, eval_of_get e45⟩
          refine allp_mild 0 rfl rfl rfl (fun a x W hout hin hP => ?_) ?_
          · have e46 := hin.is 7 46 (by kernel_rfl) (by decide) (by kernel_rfl) (by kernel_rfl) _ rfl
            exact does_move rfl e46 ⟨Same.refl _, rfl⟩
          refine allp_mild 0 rfl rfl rfl (fun a x W hout hin hP => ?_) ?_
          · have e5 : a.tmps[5]? = some (.pointer (some ⟨g5, 0, none⟩)) := (hout 5 (by kernel_rfl)).trans rfl
            clear hin hout
            intro K0 Q hK
            refine wp_load_mid 27 (.tmp 5) rfl g5 0 (eval_of_get e5) (bs b).toList _ (row_range hP.r5 (Below.refl _ _) hP.r5.lt) Try.underlying27 rfl (by rw [len_bs, HBL.out]; exact size_blk) ?_
            exact hK _ _ ⟨Same.refl _, by simp [Vs, is]⟩
          refine allp_mild 0 rfl rfl rfl (fun a x W hout hin hP => ?_) ?_
          · have hz := zeros_blk
            clear hP
            clear hin hout
            intro K0 Q hK
            go_simp
            exact hK _ _ ⟨Same.refl _, rfl⟩
          refine allp_mild 0 rfl rfl rfl (fun a x W hout hin hP => ?_) ?_
          · have e48 := hin.is 9 48 (by kernel_rfl) (by decide) (by kernel_rfl) (by kernel_rfl) _ rfl
            have e49 := hin.is 10 49 (by kernel_rfl) (by decide) (by kernel_rfl) (by kernel_rfl) _ rfl
            have q := eql_blk b (blk 0#8) HBL.out (length_blk _) W
            rw [decide_eq_true HZ.out] at q
            clear hP
            clear hin hout
            intro K0 Q hK
            go_simp
            exact hK _ _ ⟨Same.refl _, rfl⟩
          refine allp_mild 0 rfl rfl rfl (fun a x W hout hin hP => ?_) ?_
          · have e50 := hin.is 11 50 (by kernel_rfl) (by decide) (by kernel_rfl) (by kernel_rfl) _ rfl
            exact does_move rfl e50 ⟨Same.refl _, rfl⟩
          refine allp_mild 0 rfl rfl rfl (fun a x W hout hin hP => ?_) ?_
          · have e8 : a.tmps[8]? = some (.pointer (some ⟨g8, 0, none⟩)) := (hout 8 (by kernel_rfl)).trans rfl
            clear hin hout
            intro K0 Q hK
            refine wp_load_row 25 (.tmp 8) rfl g8 (eval_of_get e8) 25 (labCells K) (0, 0) _ hP.r8 Try.underlying25 rfl size_lab ?_
            exact hK _ _ ⟨Same.refl _, rfl⟩
          refine allp_mild 0 rfl rfl rfl (fun a x W hout hin hP => ?_) ?_
          · have hz := zeros_lab
            clear hP
            clear hin hout
            intro K0 Q hK
            go_simp
            exact hK _ _ ⟨Same.refl _, rfl⟩
          refine allp_mild 0 rfl rfl rfl (fun a x W hout hin hP => ?_) ?_
          · have e52 := hin.is 13 52 (by kernel_rfl) (by decide) (by kernel_rfl) (by kernel_rfl) _ rfl
            have e53 := hin.is 14 53 (by kernel_rfl) (by decide) (by kernel_rfl) (by kernel_rfl) _ rfl
            have hq := HK0.out
            clear hin hout
            intro K0 Q hK
            go_simp
            exact hK _ _ ⟨Same.refl _, rfl⟩
          refine allp_mild 0 rfl rfl rfl (fun a x W hout hin hP => ?_) ?_
          · have e51 := hin.is 12 51 (by kernel_rfl) (by decide) (by kernel_rfl) (by kernel_rfl) _ rfl
            have e54 := hin.is 15 54 (by kernel_rfl) (by decide) (by kernel_rfl) (by kernel_rfl) _ rfl
            exact does_pick rfl e51 ⟨Same.refl _, eval_of_get e54⟩
          refine allp_mild 0 rfl rfl rfl (fun a x W hout hin hP => ?_) ?_
          · have e47 := hin.is 8 47 (by kernel_rfl) (by decide) (by kernel_rfl) (by kernel_rfl) _ rfl
            have e55 := hin.is 16 55 (by kernel_rfl) (by decide) (by kernel_rfl) (by kernel_rfl) _ rfl
            exact does_pick rfl e47 ⟨Same.refl _, eval_of_get e55⟩
          exact all_end (by decide)
        · intro x W hP hV
          have h17 : x 17 = .bool false := hV 17 (by decide) (.inl (by kernel_rfl))
          have HP := Lib.hid hP
          clear hV hP
          simp only [putL, Act.put, List.setIfInBounds_toArray, List.set_cons_succ, List.set_cons_zero, h17]
          refine wpAnyH_done (by kernel_rfl) ?_ _
          clear h17
          go_wp2_with fail
          refine (lwakes_any D _).mono ?_
          rintro e w9 ⟨rfl, hb9⟩
          go_wp2_with fail
          go_ret
          exact ⟨rfl, HP.out.below.trans (hb9.mono HP.out.below.size)⟩
end Go.Proofs.Ytmghacgifokbhaa
