/- The document's label of a sector. -/
import Derived.Test.YtmghacgifokbhaaLabelRefE
import Derived.Test.YtmghacgifokbhaaFill
set_option maxRecDepth 4000
namespace Go.Proofs.Ytmghacgifokbhaa
open Go Go.RowKit
theorem size_lab : (Try.prog.info? 25).map (·.size) = some 5 := by kernel_rfl
theorem one_lab (L : Lab) : (labCells L).all (·.oneCell') = true := by unfold labCells; simp [Value.oneCell']
theorem zeros_lab : (#[.int .u32 0, .int .u32 0, .int .u32 0, .int .u16 0, .int .u16 0] : Array Value) = labCells lab0 := by rfl
theorem places_lab : placesOf Try.prog 25 = some (5, [(0, 1), (1, 1), (2, 1), (3, 1), (4, 1)]) := by kernel_rfl
theorem conv_wd16 (x : BitVec 32) : IntKind.u16.wrap (wd x) = hd (x.setWidth 16) := by
  have h : ∀ z : Int, IntKind.u16.wrap z = z % 65536 := fun z => by simp [IntKind.wrap, IntKind.signed, IntKind.bits]
  rw [h]; unfold hd wd; rw [BitVec.toNat_setWidth]; omega
theorem At2.at_ {w W : World} {g1 g2 B0 : Nat} {t1 t2 : TypeId} {c1 c2 : Array Value} (h : At2 w W g1 t1 c1 g2 t2 c2 B0) : At2 w W g1 t1 c1 g2 t2 c2 W.heap.size :=
  ⟨h.r1, h.r2, h.below, Nat.le_refl _, h.lo1, h.lo2, h.r1.lt, h.r2.lt, h.below.size⟩
set_option maxRecDepth 20000 in
set_option maxHeartbeats 1600000 in
theorem refunlab_any (b : List (BitVec 8)) (w : World) (hb : b.length = 32) :
    Calls Try.prog 10 #[.agg (bs b)] w fun e w' => e = .returned (.tuple #[.agg (labCells (decLab b)), .int .i64 (decLabE b)]) ∧ Below w.heap.size w w' := by
  have HBL := Lib.hid hb
  have hz := zeros_blk
  have hzl := zeros_lab
  have HD0 := Lib.hid (At2.two w 27 25 (bs b) (labCells lab0))
  have q0 := eql_blk b (blk 0#8) hb (length_blk _)
  clear hb
  go_enter Try.func10, Try.ntmps10
  go_upto_region 1 with fail
  obtain ⟨g1, hg1⟩ : ∃ g1, w.heap.size = g1 := ⟨_, rfl⟩
  obtain ⟨g2, hg2⟩ : ∃ g2, w.heap.size + 1 = g2 := ⟨_, rfl⟩
  obtain ⟨B0, hB0⟩ : ∃ B0, w.heap.size + 1 + 1 = B0 := ⟨_, rfl⟩
  rw [hB0, hg2] at HD0
  rw [hg2]
  have HD1 : Hid (At2 w ((w.alloc (.cells (bs b) 27)).alloc (.cells (labCells lab0) 25)) g1 27 (bs b) g2 25 (labCells lab0) B0) := Lib.hid (by rw [← hg1]; exact HD0.out)
  rw [hg1]
  clear hg1 hg2 hB0 HD0
  generalize (w.alloc (.cells (bs b) 27)).alloc (.cells (labCells lab0) 25) = W1 at *
  have q1 := q0 W1
  have rr := row_range HD1.out.r1 (Below.refl _ _) HD1.out.r1.lt
  have r2 := HD1.out.r2
  clear q0
  by_cases h0 : b = blk 0#8
  · rw [decide_eq_true h0] at q1
    have HRES : Hid ((Value.tuple #[.agg (labCells (decLab b)), .int .i64 (decLabE b)]) = .tuple #[.agg (labCells lab0), .int .i64 0]) := Lib.hid (by unfold decLab decLabE; rw [if_pos (show b = List.replicate 32 0#8 from h0), if_pos (show b = List.replicate 32 0#8 from h0)])
    clear h0
    go_wp2_with (first | (refine wpList_load_mid rfl 27 _ rfl g1 0 rfl (bs b).toList _ rr Try.underlying27 rfl (by rw [len_bs, HBL.out]; exact size_blk) ?_) | (refine wpList_store_row rfl 25 _ _ rfl g2 (labCells lab0) rfl rfl 25 _ r2 size_lab rfl (one_lab _) ?_))
    exact bodyPost_ret (v := .tuple #[.agg (labCells lab0), .int .i64 0]) (results_cell_tmp Try.results10 _ _ g2 25 (labCells lab0) (0, 0) _ rfl (r2.setRow _) Try.underlying25 rfl size_lab) rfl ⟨by rw [HRES.out], below_setRow HD1.out.below HD1.out.lo2 _⟩
  · rw [decide_eq_false h0] at q1
    have HNZ : Hid (¬ b = List.replicate 32 0#8) := Lib.hid h0
    have C := refdec_any b W1 HBL.out
    obtain ⟨R, hR⟩ : ∃ R, decR b = R := ⟨_, rfl⟩
    obtain ⟨ee, hee⟩ : ∃ ee, decE b = ee := ⟨_, rfl⟩
    have HRL : Hid (R.length = 30) := Lib.hid (by rw [← hR]; exact length_decR HBL.out)
    rw [hR, hee] at C
    have HRR := Lib.hid hR
    have HEE := Lib.hid hee
    have HGS : Hid ((gotCells R ee).size = 31) := Lib.hid (size_gotCells HRL.out)
    have hzg := zeros_got
    clear h0 hR hee r2 hzl
    go_wp2_with (refine wpList_load_mid rfl 27 _ rfl g1 0 rfl (bs b).toList _ rr Try.underlying27 rfl (by rw [len_bs, HBL.out]; exact size_blk) ?_)
    refine C.mono ?_
    rintro e W3 ⟨rfl, hb3⟩
    have HD3 := Lib.hid ((HD1.out.call hb3).call (Same.alloc W3 (.cells (gotCells R ee) 60)))
    have R4 := Lib.hid (Row.fresh W3 60 (gotCells R ee))
    clear C q1 rr HD1 hb3
    go_wp2_with (refine wpList_store_row rfl 60 _ _ rfl W3.heap.size (gotCells R ee) rfl rfl 60 _ (Row.fresh _ _ _) (by rw [HGS.out]; exact size_got) (by rw [HGS.out]; exact size_gotCells (by rfl)) (one_gotCells _ _) ?_; rw [World.setRow_alloc_new])
    obtain ⟨g4, hg4⟩ : ∃ g4, W3.heap.size = g4 := ⟨_, rfl⟩
    rw [hg4] at R4
    rw [hg4]
    clear hg4 hzg hz
    generalize W3.alloc (.cells (gotCells R ee) 60) = W4 at *
    go_upto_region 5 with fail
    obtain ⟨B1, hB1⟩ : ∃ B1, W4.heap.size = B1 := ⟨_, rfl⟩
    have HD4 := Lib.hid HD3.out.at_
    have HL4 : Hid (g4 < B1) := Lib.hid (by rw [← hB1]; exact R4.out.lt)
    rw [hB1] at HD4
    have hF0 : Wl [fun W => At2 w W g1 27 (bs b) g2 25 (labCells lab0) B1 ∧ Row W g4 60 (gotCells R ee) ∧ g4 < B1, fun W => At2 w W g1 27 (bs b) g2 25 (labCells lab0) B1 ∧ Row W g4 60 (gotCells R ee) ∧ g4 < B1] 0 W4.drew := ⟨HD4.out.call (Below.refl _ _).drew, R4.out.call (Below.refl _ _).drew, HL4.out⟩
    clear HD3 HD4 R4 HL4 hB1
    refine wp_region_phas [is (.slice (some ⟨g4, 1, none⟩) 29 29), is (.slice (some ⟨g4, 1, none⟩) 4 29), is (.int .u32 (wd (num (((R.drop 1).drop 0).take 4)))), is (.slice (some ⟨g4, 1, none⟩) 29 29), is (.slice (some ⟨g4, 5, none⟩) 4 25), is (.int .u32 (wd (num (((R.drop 1).drop 4).take 4)))), is (.slice (some ⟨g4, 1, none⟩) 29 29), is (.slice (some ⟨g4, 9, none⟩) 4 21), is (.int .u32 (wd (num (((R.drop 1).drop 8).take 4)))), is (.slice (some ⟨g4, 1, none⟩) 29 29), is (.slice (some ⟨g4, 13, none⟩) 2 17), is (.int .u32 (wd (num (((R.drop 1).drop 12).take 2)))), is (.int .u16 (hd ((num (((R.drop 1).drop 12).take 2)).setWidth 16))), is (.slice (some ⟨g4, 1, none⟩) 29 29), is (.slice (some ⟨g4, 15, none⟩) 2 15), is (.int .u32 (wd (num (((R.drop 1).drop 14).take 2)))), is (.int .u16 (hd ((num (((R.drop 1).drop 14).take 2)).setWidth 16))), is (.agg (labCells (labOf (R.drop 1)))), (fun v W => ∃ g, v = Value.pointer (some ⟨g, 0, none⟩) ∧ Row W g 25 (labCells (lab0)) ∧ B1 ≤ g), (fun v W => ∃ g, v = Value.pointer (some ⟨g, 0, none⟩) ∧ Row W g 25 (labCells (labOf (R.drop 1))) ∧ B1 ≤ g)] [true, true, true, true, true, true, true, true, true, true, true, true, true, true, true, true, true, true, false, false] [(fun W => At2 w W g1 27 (bs b) g2 25 (labCells lab0) B1 ∧ Row W g4 60 (gotCells R ee) ∧ g4 < B1), (fun W => At2 w W g1 27 (bs b) g2 25 (labCells lab0) B1 ∧ Row W g4 60 (gotCells R ee) ∧ g4 < B1)] [false, false, false, false, false, false, false, false, false, false, false, false, false, false, false, false, false, false, false, true] [some 0, some 0, some 0, some 0, some 0, some 0, some 0, some 0, some 0, some 0, some 0, some 0, some 0, some 0, some 0, some 0, some 0, some 0, some 0, some 0] [none, none, none, none, none, none, none, none, none, none, none, none, none, none, none, none, none, none, none, some 18] [some 15, some 16, some 17, some 18, some 19, some 20, some 21, some 22, some 23, some 24, some 25, some 26, some 27, some 28, some 29, some 30, some 31, some 32, some 6, none] 20 1 (fun _ => true) rfl rfl (by kernel_rfl) (by kernel_rfl) (by kernel_rfl) (by kernel_rfl) (by kernel_rfl) ?_ ?_ ?_ ?_ ?_ ?_
    · repeat first | exact wok_nil | refine wok_cons (by first | exact fun _ _ h k => ⟨h.1.call k, h.2.1.call k, h.2.2⟩) ?_
    · repeat first | exact vok_nil | refine vok_rig (by first | exact fun _ _ _ h => h) ?_ | refine vok_soft (by first | exact fun _ _ _ h _ => h | exact fun _ _ _ h k => ⟨h.choose, h.choose_spec.1, h.choose_spec.2.1.call k, h.choose_spec.2.2⟩) ?_
    · exact hF0
    · repeat first | exact all_end (by decide) | refine all_cons (by first | exact rfl | exact ⟨rfl, fun _ _ h => Or.inl h⟩ | exact ⟨rfl, fun _ _ h => Or.inr ⟨h, rfl⟩⟩) ?_
    · refine alla_old rfl (step_mild 0 rfl rfl rfl (fun a x W hout hin hP => ?_)) ?_
      · have e5 : a.tmps[5]? = some (.slice (some ⟨g4, 1, none⟩) 29 29) := (hout 5 (by kernel_rfl)).trans rfl
        exact does_move rfl e5 ⟨Same.refl _, rfl⟩
      refine alla_old rfl (step_mild 0 rfl rfl rfl (fun a x W hout hin hP => ?_)) ?_
      · have e15 := hin.is 0 15 (by kernel_rfl) (by decide) (by kernel_rfl) (by kernel_rfl) _ rfl
        clear hin hout
        intro K Q hK
        go_simp
        exact hK _ _ ⟨Same.refl _, rfl⟩
      refine alla_old rfl (step_mild 0 rfl rfl rfl (fun a x W hout hin hP => ?_)) ?_
      · have e16 := hin.is 1 16 (by kernel_rfl) (by decide) (by kernel_rfl) (by kernel_rfl) _ rfl
        have hS := got_piece (k := 0) (n := 4) (c := 29) hP.2.1 HRL.out (by decide) (by decide)
        have C := refnum_any _ _ W hS (by rw [List.length_take]; omega)
        clear hP
        clear hin hout
        intro K Q hK
        go_simp
        refine C.mono ?_
        rintro e W' ⟨rfl, rfl⟩
        exact hK _ _ ⟨Same.refl _, rfl⟩
      refine alla_old rfl (step_mild 0 rfl rfl rfl (fun a x W hout hin hP => ?_)) ?_
      · have e5 : a.tmps[5]? = some (.slice (some ⟨g4, 1, none⟩) 29 29) := (hout 5 (by kernel_rfl)).trans rfl
        exact does_move rfl e5 ⟨Same.refl _, rfl⟩
      refine alla_old rfl (step_mild 0 rfl rfl rfl (fun a x W hout hin hP => ?_)) ?_
      · have e18 := hin.is 3 18 (by kernel_rfl) (by decide) (by kernel_rfl) (by kernel_rfl) _ rfl
        clear hin hout
        intro K Q hK
        go_simp
        exact hK _ _ ⟨Same.refl _, rfl⟩
      refine alla_old rfl (step_mild 0 rfl rfl rfl (fun a x W hout hin hP => ?_)) ?_
      · have e19 := hin.is 4 19 (by kernel_rfl) (by decide) (by kernel_rfl) (by kernel_rfl) _ rfl
        have hS := got_piece (k := 4) (n := 4) (c := 25) hP.2.1 HRL.out (by decide) (by decide)
        have C := refnum_any _ _ W hS (by rw [List.length_take]; omega)
        clear hP
        clear hin hout
        intro K Q hK
        go_simp
        refine C.mono ?_
        rintro e W' ⟨rfl, rfl⟩
        exact hK _ _ ⟨Same.refl _, rfl⟩
      refine alla_old rfl (step_mild 0 rfl rfl rfl (fun a x W hout hin hP => ?_)) ?_
      · have e5 : a.tmps[5]? = some (.slice (some ⟨g4, 1, none⟩) 29 29) := (hout 5 (by kernel_rfl)).trans rfl
        exact does_move rfl e5 ⟨Same.refl _, rfl⟩
      refine alla_old rfl (step_mild 0 rfl rfl rfl (fun a x W hout hin hP => ?_)) ?_
      · have e21 := hin.is 6 21 (by kernel_rfl) (by decide) (by kernel_rfl) (by kernel_rfl) _ rfl
        clear hin hout
        intro K Q hK
        go_simp
        exact hK _ _ ⟨Same.refl _, rfl⟩
      refine alla_old rfl (step_mild 0 rfl rfl rfl (fun a x W hout hin hP => ?_)) ?_
      · have e22 := hin.is 7 22 (by kernel_rfl) (by decide) (by kernel_rfl) (by kernel_rfl) _ rfl
        have hS := got_piece (k := 8) (n := 4) (c := 21) hP.2.1 HRL.out (by decide) (by decide)
        have C := refnum_any _ _ W hS (by rw [List.length_take]; omega)
        clear hP
        clear hin hout
        intro K Q hK
        go_simp
        refine C.mono ?_
        rintro e W' ⟨rfl, rfl⟩
        exact hK _ _ ⟨Same.refl _, rfl⟩
      refine alla_old rfl (step_mild 0 rfl rfl rfl (fun a x W hout hin hP => ?_)) ?_
      · have e5 : a.tmps[5]? = some (.slice (some ⟨g4, 1, none⟩) 29 29) := (hout 5 (by kernel_rfl)).trans rfl
        exact does_move rfl e5 ⟨Same.refl _, rfl⟩
      refine alla_old rfl (step_mild 0 rfl rfl rfl (fun a x W hout hin hP => ?_)) ?_
      · have e24 := hin.is 9 24 (by kernel_rfl) (by decide) (by kernel_rfl) (by kernel_rfl) _ rfl
        clear hin hout
        intro K Q hK
        go_simp
        exact hK _ _ ⟨Same.refl _, rfl⟩
      refine alla_old rfl (step_mild 0 rfl rfl rfl (fun a x W hout hin hP => ?_)) ?_
      · have e25 := hin.is 10 25 (by kernel_rfl) (by decide) (by kernel_rfl) (by kernel_rfl) _ rfl
        have hS := got_piece (k := 12) (n := 2) (c := 17) hP.2.1 HRL.out (by decide) (by decide)
        have C := refnum_any _ _ W hS (by rw [List.length_take]; omega)
        clear hP
        clear hin hout
        intro K Q hK
        go_simp
        refine C.mono ?_
        rintro e W' ⟨rfl, rfl⟩
        exact hK _ _ ⟨Same.refl _, rfl⟩
      refine alla_old rfl (step_mild 0 rfl rfl rfl (fun a x W hout hin hP => ?_)) ?_
      · have e26 := hin.is 11 26 (by kernel_rfl) (by decide) (by kernel_rfl) (by kernel_rfl) _ rfl
        have hcv := conv_wd16 (num (((R.drop 1).drop 12).take 2))
        generalize num (((R.drop 1).drop 12).take 2) = y at *
        clear hin hout
        intro K Q hK
        go_simp
        exact hK _ _ ⟨Same.refl _, rfl⟩
      refine alla_old rfl (step_mild 0 rfl rfl rfl (fun a x W hout hin hP => ?_)) ?_
      · have e5 : a.tmps[5]? = some (.slice (some ⟨g4, 1, none⟩) 29 29) := (hout 5 (by kernel_rfl)).trans rfl
        exact does_move rfl e5 ⟨Same.refl _, rfl⟩
      refine alla_old rfl (step_mild 0 rfl rfl rfl (fun a x W hout hin hP => ?_)) ?_
      · have e28 := hin.is 13 28 (by kernel_rfl) (by decide) (by kernel_rfl) (by kernel_rfl) _ rfl
        clear hin hout
        intro K Q hK
        go_simp
        exact hK _ _ ⟨Same.refl _, rfl⟩
      refine alla_old rfl (step_mild 0 rfl rfl rfl (fun a x W hout hin hP => ?_)) ?_
      · have e29 := hin.is 14 29 (by kernel_rfl) (by decide) (by kernel_rfl) (by kernel_rfl) _ rfl
        have hS := got_piece (k := 14) (n := 2) (c := 15) hP.2.1 HRL.out (by decide) (by decide)
        have C := refnum_any _ _ W hS (by rw [List.length_take]; omega)
        clear hP
        clear hin hout
        intro K Q hK
        go_simp
        refine C.mono ?_
        rintro e W' ⟨rfl, rfl⟩
        exact hK _ _ ⟨Same.refl _, rfl⟩
      refine alla_old rfl (step_mild 0 rfl rfl rfl (fun a x W hout hin hP => ?_)) ?_
      · have e30 := hin.is 15 30 (by kernel_rfl) (by decide) (by kernel_rfl) (by kernel_rfl) _ rfl
        have hcv := conv_wd16 (num (((R.drop 1).drop 14).take 2))
        generalize num (((R.drop 1).drop 14).take 2) = y at *
        clear hin hout
        intro K Q hK
        go_simp
        exact hK _ _ ⟨Same.refl _, rfl⟩
      refine alla_old rfl (step_mild 0 rfl rfl rfl (fun a x W hout hin hP => ?_)) ?_
      · have e17 := hin.is 2 17 (by kernel_rfl) (by decide) (by kernel_rfl) (by kernel_rfl) _ rfl
        have e20 := hin.is 5 20 (by kernel_rfl) (by decide) (by kernel_rfl) (by kernel_rfl) _ rfl
        have e23 := hin.is 8 23 (by kernel_rfl) (by decide) (by kernel_rfl) (by kernel_rfl) _ rfl
        have e27 := hin.is 12 27 (by kernel_rfl) (by decide) (by kernel_rfl) (by kernel_rfl) _ rfl
        have e31 := hin.is 16 31 (by kernel_rfl) (by decide) (by kernel_rfl) (by kernel_rfl) _ rfl
        clear hin hout
        intro K Q hK
        refine wp_buildStruct 25 _ rfl places_lab [.int .u32 (wd (num (((R.drop 1).drop 0).take 4))), .int .u32 (wd (num (((R.drop 1).drop 4).take 4))), .int .u32 (wd (num (((R.drop 1).drop 8).take 4))), .int .u16 (hd ((num (((R.drop 1).drop 12).take 2)).setWidth 16)), .int .u16 (hd ((num (((R.drop 1).drop 14).take 2)).setWidth 16))] ?_ rfl rfl ?_
        · simp only [List.map_toArray, List.map_cons, List.map_nil, eval_of_get e17, eval_of_get e20, eval_of_get e23, eval_of_get e27, eval_of_get e31]; rfl
        · exact hK _ _ ⟨Same.refl _, rfl⟩
      refine alla_old rfl (step_mild 0 rfl rfl rfl (fun a x W hout hin hP => ?_)) ?_
      · have hz := zeros_lab
        have hbse := hP.1.bse
        clear hP
        clear hin hout
        intro K Q hK
        go_simp
        exact hK _ _ ⟨Same.alloc _ _, _, rfl, Row.fresh _ _ _, hbse⟩
      refine alla_wild 0 rfl rfl rfl (fun a x W hout hin hP => ?_) ?_
      · obtain ⟨hw18, hx18⟩ := hin 18 (by kernel_rfl) (by decide)
        have hw18 := hw18 (.inr ⟨rfl, by kernel_rfl⟩)
        have hx18 := hx18 6 (by kernel_rfl)
        have e32 := hin.is 17 32 (by kernel_rfl) (by decide) (by kernel_rfl) (by kernel_rfl) _ rfl
        obtain ⟨g3, hg3, r3, hb3⟩ := hw18
        rw [hg3] at hx18
        clear hin hout
        intro K Q hK
        refine wp_store_row 25 (.tmp 6) (.tmp 32) rfl g3 (labCells (labOf (R.drop 1))) (eval_of_get hx18) (eval_of_get e32) 25 (labCells lab0) r3 size_lab rfl (one_lab _) ?_
        exact hK (x 18) _ ⟨⟨hP.1.set hb3 _, hP.2.1.setRow_far (by have := hP.2.2; omega) _, hP.2.2⟩, ⟨g3, hg3, r3.setRow _, hb3⟩, al_one rfl rfl⟩
      exact all_end (by decide)
    · intro x W hP hV hal
      obtain ⟨g6, h8, r6, hb6⟩ := hV 19 (by decide) (.inr (by kernel_rfl))
      have h7 : x 18 = .pointer (some ⟨g6, 0, none⟩) := (hal 19 (by decide) 18 rfl).symm.trans h8
      have HD : Hid (At2 w W g1 27 (bs b) g2 25 (labCells lab0) B1 ∧ Row W g4 60 (gotCells R ee) ∧ g4 < B1) := Lib.hid hP
      have R6 := Lib.hid r6
      clear hV hP hal h8 r6
      simp only [putL, Act.put, List.setIfInBounds_toArray, List.set_cons_succ, List.set_cons_zero, h7]
      refine wpAnyH_done (by kernel_rfl) ?_ _
      clear h7
      obtain ⟨M, hM⟩ : ∃ M, labOf (R.drop 1) = M := ⟨_, rfl⟩
      rw [hM] at R6
      have HM := Lib.hid hM
      clear hM
      by_cases hok : decOk b = true
      · have hee : ee = 0 := by rw [← HEE.out]; exact decE_yes hok
        have hRb : R.drop 1 = bodyOf b := by rw [← HRR.out, decR_yes HBL.out hok]; rfl
        have hMb : M = labOf (bodyOf b) := by rw [← HM.out, hRb]
        subst hee
        by_cases hEb : labB M = b
        · have HEQ := Lib.hid hEb
          have HRES : Hid ((decLab b, decLabE b) = (M, 0)) := Lib.hid (by
            have h1 : labIs b = true := by unfold labIs; rw [hok, decide_eq_true (by rw [← hMb]; exact hEb)]; rfl
            unfold decLab decLabE; rw [if_neg HNZ.out, if_neg HNZ.out, if_pos h1, if_pos h1, hMb])
          have HRES : Hid ((Value.tuple #[.agg (labCells (decLab b)), .int .i64 (decLabE b)]) = .tuple #[.agg (labCells M), .int .i64 0]) := Lib.hid (by have := HRES.out; injection this with h1 h2; rw [h1, h2])
          clear hok hRb hMb hEb
          go_upto_region 6 with fail
          have hF0 : Wl [fun W => (At2 w W g1 27 (bs b) g2 25 (labCells lab0) B1 ∧ Row W g4 60 (gotCells R 0) ∧ g4 < B1) ∧ Row W g6 25 (labCells M)] 0 W.drew := ⟨⟨HD.out.1.call (Below.refl _ _).drew, HD.out.2.1.call (Below.refl _ _).drew, HD.out.2.2⟩, R6.out.call (Below.refl _ _).drew⟩
          clear HD R6
          refine wp_region_phs [is (.pointer (some ⟨g4, 30, none⟩)), is (.int .i64 0), is (.bool false), is (.bool false), is (.agg (labCells M)), is (.agg (bs (labB M))), is (.agg (bs b)), is (.bool false), is (.bool false)] [true, true, true, true, true, true, true, true, true] [(fun W => (At2 w W g1 27 (bs b) g2 25 (labCells lab0) B1 ∧ Row W g4 60 (gotCells R 0) ∧ g4 < B1) ∧ Row W g6 25 (labCells M))] [false, false, false, false, false, false, false, false, false] [some 0, some 0, some 0, some 0, some 0, some 0, some 0, some 0, some 0] [some 33, some 34, some 35, some 36, some 37, some 38, some 39, some 40, some 41] 9 0 (fun _ => true) rfl rfl (by kernel_rfl) (by kernel_rfl) (by kernel_rfl) (by kernel_rfl) ?_ ?_ ?_ ?_ ?_ ?_
          · repeat first | exact wok_nil | refine wok_cons (by first | exact fun _ _ h k => ⟨⟨h.1.1.call k, h.1.2.1.call k, h.1.2.2⟩, h.2.call k⟩) ?_
          · repeat first | exact vok_nil | refine vok_rig (by first | exact fun _ _ _ h => h) ?_ | refine vok_soft (by first | exact fun _ _ _ h _ => h) ?_
          · exact hF0
          · repeat first | exact all_end (by decide) | refine all_cons (by first | exact rfl | exact ⟨rfl, fun _ _ h => Or.inl h⟩ | exact ⟨rfl, fun _ _ h => Or.inr ⟨h, rfl⟩⟩) ?_
          · refine allp_mild 0 rfl rfl rfl (fun a x W hout hin hP => ?_) ?_
            · have e4 : a.tmps[4]? = some (.pointer (some ⟨g4, 0, none⟩)) := (hout 4 (by kernel_rfl)).trans rfl
              clear hin hout
              intro K Q hK
              go_simp
              exact hK _ _ ⟨Same.refl _, rfl⟩
            refine allp_mild 0 rfl rfl rfl (fun a x W hout hin hP => ?_) ?_
            · have e33 := hin.is 0 33 (by kernel_rfl) (by decide) (by kernel_rfl) (by kernel_rfl) _ rfl
              have hc := got_e hP.1.2.1 HRL.out
              clear hP
              clear hin hout
              intro K Q hK
              go_simp
              exact hK _ _ ⟨Same.refl _, rfl⟩
            refine allp_mild 0 rfl rfl rfl (fun a x W hout hin hP => ?_) ?_
            · have e34 := hin.is 1 34 (by kernel_rfl) (by decide) (by kernel_rfl) (by kernel_rfl) _ rfl
              clear hin hout
              intro K Q hK
              go_simp
              exact hK _ _ ⟨Same.refl _, rfl⟩
            refine allp_mild 0 rfl rfl rfl (fun a x W hout hin hP => ?_) ?_
            · have e35 := hin.is 2 35 (by kernel_rfl) (by decide) (by kernel_rfl) (by kernel_rfl) _ rfl
              exact does_move rfl e35 ⟨Same.refl _, rfl⟩
            refine allp_mild 0 rfl rfl rfl (fun a x W hout hin hP => ?_) ?_
            · have e6 : a.tmps[6]? = some (.pointer (some ⟨g6, 0, none⟩)) := (hout 6 (by kernel_rfl)).trans rfl
              clear hin hout
              intro K Q hK
              refine wp_load_row 25 (.tmp 6) rfl g6 (eval_of_get e6) 25 (labCells M) (0, 0) _ hP.2 Try.underlying25 rfl size_lab ?_
              exact hK _ _ ⟨Same.refl _, rfl⟩
            refine allp_mild 0 rfl rfl rfl (fun a x W hout hin hP => ?_) ?_
            · have e37 := hin.is 4 37 (by kernel_rfl) (by decide) (by kernel_rfl) (by kernel_rfl) _ rfl
              have C := reflab_any M W
              clear hP
              clear hin hout
              intro K Q hK
              go_simp
              refine C.mono ?_
              rintro e W' ⟨rfl, hb⟩
              exact hK _ _ ⟨hb, rfl⟩
            refine allp_mild 0 rfl rfl rfl (fun a x W hout hin hP => ?_) ?_
            · have e1 : a.tmps[1]? = some (.pointer (some ⟨g1, 0, none⟩)) := (hout 1 (by kernel_rfl)).trans rfl
              clear hin hout
              intro K Q hK
              refine wp_load_mid 27 (.tmp 1) rfl g1 0 (eval_of_get e1) (bs b).toList _ (row_range hP.1.1.r1 (Below.refl _ _) hP.1.1.r1.lt) Try.underlying27 rfl (by rw [len_bs, HBL.out]; exact size_blk) ?_
              exact hK _ _ ⟨Same.refl _, by simp [Vs, is]⟩
            refine allp_mild 0 rfl rfl rfl (fun a x W hout hin hP => ?_) ?_
            · have e38 := hin.is 5 38 (by kernel_rfl) (by decide) (by kernel_rfl) (by kernel_rfl) _ rfl
              have e39 := hin.is 6 39 (by kernel_rfl) (by decide) (by kernel_rfl) (by kernel_rfl) _ rfl
              have q := eql_blk (labB M) b (length_labB M) HBL.out W
              rw [decide_eq_true HEQ.out] at q
              clear hP
              clear hin hout
              intro K Q hK
              go_simp
              exact hK _ _ ⟨Same.refl _, rfl⟩
            refine allp_mild 0 rfl rfl rfl (fun a x W hout hin hP => ?_) ?_
            · have e36 := hin.is 3 36 (by kernel_rfl) (by decide) (by kernel_rfl) (by kernel_rfl) _ rfl
              have e40 := hin.is 7 40 (by kernel_rfl) (by decide) (by kernel_rfl) (by kernel_rfl) _ rfl
              exact does_pick rfl e36 ⟨Same.refl _, eval_of_get e40⟩
            exact all_end (by decide)
          · intro x W hP hV
            have h8 : x 8 = .bool false := hV 8 (by decide) (.inl (by kernel_rfl))
            have HD : Hid (At2 w W g1 27 (bs b) g2 25 (labCells lab0) B1 ∧ Row W g4 60 (gotCells R 0) ∧ g4 < B1) := Lib.hid hP.1
            have R6 := Lib.hid hP.2
            clear hV hP
            simp only [putL, Act.put, List.setIfInBounds_toArray, List.set_cons_succ, List.set_cons_zero, h8]
            refine wpAnyH_done (by kernel_rfl) ?_ _
            clear h8
            have r2 := HD.out.1.r2
            have r6 := R6.out
            go_wp2_with (first | (refine wpList_load_row rfl 25 _ rfl g6 rfl 25 (labCells M) (0, 0) _ r6 Try.underlying25 rfl size_lab ?_) | (refine wpList_store_row rfl 25 _ _ rfl g2 (labCells M) rfl rfl 25 _ r2 size_lab rfl (one_lab _) ?_))
            exact bodyPost_ret (v := .tuple #[.agg (labCells M), .int .i64 0]) (results_cell_tmp Try.results10 _ _ g2 25 (labCells M) (0, 0) _ rfl (r2.setRow _) Try.underlying25 rfl size_lab) rfl ⟨by rw [HRES.out], below_setRow HD.out.1.below HD.out.1.lo2 _⟩
        · have HEQ := Lib.hid hEb
          have HRES : Hid ((Value.tuple #[.agg (labCells (decLab b)), .int .i64 (decLabE b)]) = .tuple #[.agg (labCells lab0), .int .i64 11]) := Lib.hid (by
            have h1 : labIs b = false := by unfold labIs; rw [hok, decide_eq_false (by rw [← hMb]; exact hEb)]; rfl
            unfold decLab decLabE; rw [if_neg HNZ.out, if_neg HNZ.out, h1]; rfl)
          clear hok hRb hMb hEb
          go_upto_region 6 with fail
          have hF0 : Wl [fun W => (At2 w W g1 27 (bs b) g2 25 (labCells lab0) B1 ∧ Row W g4 60 (gotCells R 0) ∧ g4 < B1) ∧ Row W g6 25 (labCells M)] 0 W.drew := ⟨⟨HD.out.1.call (Below.refl _ _).drew, HD.out.2.1.call (Below.refl _ _).drew, HD.out.2.2⟩, R6.out.call (Below.refl _ _).drew⟩
          clear HD R6
          refine wp_region_phs [is (.pointer (some ⟨g4, 30, none⟩)), is (.int .i64 0), is (.bool false), is (.bool false), is (.agg (labCells M)), is (.agg (bs (labB M))), is (.agg (bs b)), is (.bool true), is (.bool true)] [true, true, true, true, true, true, true, true, true] [(fun W => (At2 w W g1 27 (bs b) g2 25 (labCells lab0) B1 ∧ Row W g4 60 (gotCells R 0) ∧ g4 < B1) ∧ Row W g6 25 (labCells M))] [false, false, false, false, false, false, false, false, false] [some 0, some 0, some 0, some 0, some 0, some 0, some 0, some 0, some 0] [some 33, some 34, some 35, some 36, some 37, some 38, some 39, some 40, some 41] 9 0 (fun _ => true) rfl rfl (by kernel_rfl) (by kernel_rfl) (by kernel_rfl) (by kernel_rfl) ?_ ?_ ?_ ?_ ?_ ?_
          · repeat first | exact wok_nil | refine wok_cons (by first | exact fun _ _ h k => ⟨⟨h.1.1.call k, h.1.2.1.call k, h.1.2.2⟩, h.2.call k⟩) ?_
          · repeat first | exact vok_nil | refine vok_rig (by first | exact fun _ _ _ h => h) ?_ | refine vok_soft (by first | exact fun _ _ _ h _ => h) ?_
          · exact hF0
          · repeat first | exact all_end (by decide) | refine all_cons (by first | exact rfl | exact ⟨rfl, fun _ _ h => Or.inl h⟩ | exact ⟨rfl, fun _ _ h => Or.inr ⟨h, rfl⟩⟩) ?_
          · refine allp_mild 0 rfl rfl rfl (fun a x W hout hin hP => ?_) ?_
            · have e4 : a.tmps[4]? = some (.pointer (some ⟨g4, 0, none⟩)) := (hout 4 (by kernel_rfl)).trans rfl
              clear hin hout
              intro K Q hK
              go_simp
              exact hK _ _ ⟨Same.refl _, rfl⟩
            refine allp_mild 0 rfl rfl rfl (fun a x W hout hin hP => ?_) ?_
            · have e33 := hin.is 0 33 (by kernel_rfl) (by decide) (by kernel_rfl) (by kernel_rfl) _ rfl
              have hc := got_e hP.1.2.1 HRL.out
              clear hP
              clear hin hout
              intro K Q hK
              go_simp
              exact hK _ _ ⟨Same.refl _, rfl⟩
            refine allp_mild 0 rfl rfl rfl (fun a x W hout hin hP => ?_) ?_
            · have e34 := hin.is 1 34 (by kernel_rfl) (by decide) (by kernel_rfl) (by kernel_rfl) _ rfl
              clear hin hout
              intro K Q hK
              go_simp
              exact hK _ _ ⟨Same.refl _, rfl⟩
            refine allp_mild 0 rfl rfl rfl (fun a x W hout hin hP => ?_) ?_
            · have e35 := hin.is 2 35 (by kernel_rfl) (by decide) (by kernel_rfl) (by kernel_rfl) _ rfl
              exact does_move rfl e35 ⟨Same.refl _, rfl⟩
            refine allp_mild 0 rfl rfl rfl (fun a x W hout hin hP => ?_) ?_
            · have e6 : a.tmps[6]? = some (.pointer (some ⟨g6, 0, none⟩)) := (hout 6 (by kernel_rfl)).trans rfl
              clear hin hout
              intro K Q hK
              refine wp_load_row 25 (.tmp 6) rfl g6 (eval_of_get e6) 25 (labCells M) (0, 0) _ hP.2 Try.underlying25 rfl size_lab ?_
              exact hK _ _ ⟨Same.refl _, rfl⟩
            refine allp_mild 0 rfl rfl rfl (fun a x W hout hin hP => ?_) ?_
            · have e37 := hin.is 4 37 (by kernel_rfl) (by decide) (by kernel_rfl) (by kernel_rfl) _ rfl
              have C := reflab_any M W
              clear hP
              clear hin hout
              intro K Q hK
              go_simp
              refine C.mono ?_
              rintro e W' ⟨rfl, hb⟩
              exact hK _ _ ⟨hb, rfl⟩
            refine allp_mild 0 rfl rfl rfl (fun a x W hout hin hP => ?_) ?_
            · have e1 : a.tmps[1]? = some (.pointer (some ⟨g1, 0, none⟩)) := (hout 1 (by kernel_rfl)).trans rfl
              clear hin hout
              intro K Q hK
              refine wp_load_mid 27 (.tmp 1) rfl g1 0 (eval_of_get e1) (bs b).toList _ (row_range hP.1.1.r1 (Below.refl _ _) hP.1.1.r1.lt) Try.underlying27 rfl (by rw [len_bs, HBL.out]; exact size_blk) ?_
              exact hK _ _ ⟨Same.refl _, by simp [Vs, is]⟩
            refine allp_mild 0 rfl rfl rfl (fun a x W hout hin hP => ?_) ?_
            · have e38 := hin.is 5 38 (by kernel_rfl) (by decide) (by kernel_rfl) (by kernel_rfl) _ rfl
              have e39 := hin.is 6 39 (by kernel_rfl) (by decide) (by kernel_rfl) (by kernel_rfl) _ rfl
              have q := eql_blk (labB M) b (length_labB M) HBL.out W
              rw [decide_eq_false HEQ.out] at q
              clear hP
              clear hin hout
              intro K Q hK
              go_simp
              exact hK _ _ ⟨Same.refl _, rfl⟩
            refine allp_mild 0 rfl rfl rfl (fun a x W hout hin hP => ?_) ?_
            · have e36 := hin.is 3 36 (by kernel_rfl) (by decide) (by kernel_rfl) (by kernel_rfl) _ rfl
              have e40 := hin.is 7 40 (by kernel_rfl) (by decide) (by kernel_rfl) (by kernel_rfl) _ rfl
              exact does_pick rfl e36 ⟨Same.refl _, eval_of_get e40⟩
            exact all_end (by decide)
          · intro x W hP hV
            have h8 : x 8 = .bool true := hV 8 (by decide) (.inl (by kernel_rfl))
            have HD : Hid (At2 w W g1 27 (bs b) g2 25 (labCells lab0) B1 ∧ Row W g4 60 (gotCells R 0) ∧ g4 < B1) := Lib.hid hP.1
            have R6 := Lib.hid hP.2
            clear hV hP
            simp only [putL, Act.put, List.setIfInBounds_toArray, List.set_cons_succ, List.set_cons_zero, h8]
            refine wpAnyH_done (by kernel_rfl) ?_ _
            clear h8
            have r2 := HD.out.1.r2
            have hz := zeros_lab
            go_wp2_with (refine wpList_store_row rfl 25 _ _ rfl g2 (labCells lab0) rfl rfl 25 _ r2 size_lab rfl (one_lab _) ?_)
            exact bodyPost_ret (v := .tuple #[.agg (labCells lab0), .int .i64 11]) (results_cell_tmp Try.results10 _ _ g2 25 (labCells lab0) (0, 0) _ rfl (r2.setRow _) Try.underlying25 rfl size_lab) rfl ⟨by rw [HRES.out], below_setRow HD.out.1.below HD.out.1.lo2 _⟩
      · have hok' : decOk b = false := by simpa using hok
        have hee : ee = 11 := by rw [← HEE.out]; exact decE_no hok'
        subst hee
        have HRES : Hid ((Value.tuple #[.agg (labCells (decLab b)), .int .i64 (decLabE b)]) = .tuple #[.agg (labCells lab0), .int .i64 11]) := Lib.hid (by
          have h1 : labIs b = false := by unfold labIs; rw [hok']; rfl
          unfold decLab decLabE; rw [if_neg HNZ.out, if_neg HNZ.out, h1]; rfl)
        clear hok hok'
        go_upto_region 6 with fail
        have hF0 : Wl [fun W => (At2 w W g1 27 (bs b) g2 25 (labCells lab0) B1 ∧ Row W g4 60 (gotCells R 11) ∧ g4 < B1) ∧ Row W g6 25 (labCells M)] 0 W.drew := ⟨⟨HD.out.1.call (Below.refl _ _).drew, HD.out.2.1.call (Below.refl _ _).drew, HD.out.2.2⟩, R6.out.call (Below.refl _ _).drew⟩
        clear HD R6
        refine wp_region_phs [is (.pointer (some ⟨g4, 30, none⟩)), is (.int .i64 11), is (.bool true), is (.bool true), anyV, anyV, anyV, anyV, is (.bool true)] [true, true, true, true, true, true, true, true, true] [(fun W => (At2 w W g1 27 (bs b) g2 25 (labCells lab0) B1 ∧ Row W g4 60 (gotCells R 11) ∧ g4 < B1) ∧ Row W g6 25 (labCells M))] [false, false, false, false, false, false, false, false, false] [some 0, some 0, some 0, some 0, some 0, some 0, some 0, some 0, some 0] [some 33, some 34, some 35, some 36, some 37, some 38, some 39, some 40, some 41] 9 0 (fun i => !([4, 5, 6, 7] : List Nat).contains i) rfl rfl (by kernel_rfl) (by kernel_rfl) (by kernel_rfl) (by kernel_rfl) ?_ ?_ ?_ ?_ ?_ ?_
        · repeat first | exact wok_nil | refine wok_cons (by first | exact fun _ _ h k => ⟨⟨h.1.1.call k, h.1.2.1.call k, h.1.2.2⟩, h.2.call k⟩) ?_
        · repeat first | exact vok_nil | refine vok_rig (by first | exact fun _ _ _ h => h) ?_ | refine vok_soft (by first | exact fun _ _ _ h _ => h) ?_
        · exact hF0
        · repeat first | exact all_end (by decide) | refine all_cons (by first | exact rfl | exact ⟨rfl, fun _ _ h => Or.inl h⟩ | exact ⟨rfl, fun _ _ h => Or.inr ⟨h, rfl⟩⟩) ?_
        · refine allp_mild 0 rfl rfl rfl (fun a x W hout hin hP => ?_) ?_
          · have e4 : a.tmps[4]? = some (.pointer (some ⟨g4, 0, none⟩)) := (hout 4 (by kernel_rfl)).trans rfl
            clear hin hout
            intro K Q hK
            go_simp
            exact hK _ _ ⟨Same.refl _, rfl⟩
          refine allp_mild 0 rfl rfl rfl (fun a x W hout hin hP => ?_) ?_
          · have e33 := hin.is 0 33 (by kernel_rfl) (by decide) (by kernel_rfl) (by kernel_rfl) _ rfl
            have hc := got_e hP.1.2.1 HRL.out
            clear hP
            clear hin hout
            intro K Q hK
            go_simp
            exact hK _ _ ⟨Same.refl _, rfl⟩
          refine allp_mild 0 rfl rfl rfl (fun a x W hout hin hP => ?_) ?_
          · have e34 := hin.is 1 34 (by kernel_rfl) (by decide) (by kernel_rfl) (by kernel_rfl) _ rfl
            clear hin hout
            intro K Q hK
            go_simp
            exact hK _ _ ⟨Same.refl _, rfl⟩
          refine allp_mild 0 rfl rfl rfl (fun a x W hout hin hP => ?_) ?_
          · have e35 := hin.is 2 35 (by kernel_rfl) (by decide) (by kernel_rfl) (by kernel_rfl) _ rfl
            exact does_move rfl e35 ⟨Same.refl _, rfl⟩
          refine allp_skip rfl rfl (fun _ => trivial) ?_
          refine allp_skip rfl rfl (fun _ => trivial) ?_
          refine allp_skip rfl rfl (fun _ => trivial) ?_
          refine allp_skip rfl rfl (fun _ => trivial) ?_
          refine allp_mild 0 rfl rfl rfl (fun a x W hout hin hP => ?_) ?_
          · have e36 := hin.is 3 36 (by kernel_rfl) (by decide) (by kernel_rfl) (by kernel_rfl) _ rfl
            obtain ⟨v40, e40, hv40⟩ := hin.get 7 40 (by kernel_rfl) (by decide) (by kernel_rfl) (.inl (by kernel_rfl))
            exact does_pick rfl e36 ⟨Same.refl _, rfl⟩
          exact all_end (by decide)
        · intro x W hP hV
          have h8 : x 8 = .bool true := hV 8 (by decide) (.inl (by kernel_rfl))
          have HD : Hid (At2 w W g1 27 (bs b) g2 25 (labCells lab0) B1 ∧ Row W g4 60 (gotCells R 11) ∧ g4 < B1) := Lib.hid hP.1
          have R6 := Lib.hid hP.2
          clear hV hP
          simp only [putL, Act.put, List.setIfInBounds_toArray, List.set_cons_succ, List.set_cons_zero, h8]
          refine wpAnyH_done (by kernel_rfl) ?_ _
          clear h8
          have r2 := HD.out.1.r2
          have hz := zeros_lab
          go_wp2_with (refine wpList_store_row rfl 25 _ _ rfl g2 (labCells lab0) rfl rfl 25 _ r2 size_lab rfl (one_lab _) ?_)
          exact bodyPost_ret (v := .tuple #[.agg (labCells lab0), .int .i64 11]) (results_cell_tmp Try.results10 _ _ g2 25 (labCells lab0) (0, 0) _ rfl (r2.setRow _) Try.underlying25 rfl size_lab) rfl ⟨by rw [HRES.out], below_setRow HD.out.1.below HD.out.1.lo2 _⟩
end Go.Proofs.Ytmghacgifokbhaa
