/- The document's sector of a label. -/
import Derived.Test.YtmghacgifokbhaaLabelRef
import Derived.Test.YtmghacgifokbhaaAt2
import Derived.Test.YtmghacgifokbhaaHalf
set_option maxRecDepth 4000
namespace Go.Proofs.Ytmghacgifokbhaa
open Go Go.RowKit
def labCells (L : Lab) : Array Value := #[.int .u32 (wd L.e), .int .u32 (wd L.s), .int .u32 (wd L.n), .int .u16 (hd L.d), .int .u16 (hd L.l)]
theorem conv_hd (x : BitVec 16) : IntKind.u32.wrap (hd x) = wd (x.setWidth 32) := by
  rw [IntKind.wrap_u32']; unfold hd wd; have := x.isLt; rw [BitVec.toNat_setWidth]; omega
theorem bytesV_app (p q : List (BitVec 8)) : bytesV (p ++ q) = bytesV p ++ bytesV q := by simp [bytesV]
set_option maxRecDepth 20000 in
set_option maxHeartbeats 1600000 in
theorem reflab_any (L : Lab) (w : World) :
    Calls Try.prog 12 #[.agg (labCells L)] w fun e w' => e = .returned (.agg (bs (labB L))) ∧ Below w.heap.size w w' := by
  have hz := zeros_blk
  have HD0 := Lib.hid (At2.two w 25 27 (labCells L) (bs (blk 0#8)))
  go_enter Try.func12, Try.ntmps12
  go_upto_region 1 with fail
  obtain ⟨g1, hg1⟩ : ∃ g1, w.heap.size = g1 := ⟨_, rfl⟩
  obtain ⟨g2, hg2⟩ : ∃ g2, w.heap.size + 1 = g2 := ⟨_, rfl⟩
  obtain ⟨B0, hB0⟩ : ∃ B0, w.heap.size + 1 + 1 = B0 := ⟨_, rfl⟩
  rw [hB0, hg2] at HD0
  rw [hg2]
  have HD1 : Hid (At2 w ((w.alloc (.cells (labCells L) 25)).alloc (.cells (bs (blk 0#8)) 27)) g1 25 (labCells L) g2 27 (bs (blk 0#8)) B0) := Lib.hid (by rw [← hg1]; exact HD0.out)
  rw [hg1]
  clear hg1 hg2 hB0 hz HD0
  generalize (w.alloc (.cells (labCells L) 25)).alloc (.cells (bs (blk 0#8)) 27) = W1 at *
  have hF0 : Wl [fun W => At2 w W g1 25 (labCells L) g2 27 (bs (blk 0#8)) B0, fun W => At2 w W g1 25 (labCells L) g2 27 (bs (blk 0#8)) B0] 0 W1.drew := HD1.out.call (Below.refl _ _).drew
  clear HD1
  refine wp_region_phs [is (.pointer (some ⟨g1, 0, none⟩)), is (.int .u32 (wd L.e)), (fun v W => W.ownsRow B0 5 1 v 4 (bytesV (le (L.e) 4))), is (.pointer (some ⟨g1, 1, none⟩)), is (.int .u32 (wd L.s)), (fun v W => W.ownsRow B0 5 1 v 4 (bytesV (le (L.s) 4))), (fun v W => W.ownsRow B0 5 1 v 8 (bytesV (le L.e 4 ++ le L.s 4))), (fun v W => W.ownsRow B0 5 1 v 8 (bytesV (le L.e 4 ++ le L.s 4)))] [true, true, false, true, true, false, false, false] [(fun W => At2 w W g1 25 (labCells L) g2 27 (bs (blk 0#8)) B0), (fun W => At2 w W g1 25 (labCells L) g2 27 (bs (blk 0#8)) B0)] [false, false, false, false, false, false, true, false] [some 0, some 0, some 0, some 0, some 0, some 0, some 0, some 1] [some 6, some 7, some 8, some 9, some 10, some 11, some 12, some 3] 8 1 (fun _ => true) rfl rfl (by kernel_rfl) (by kernel_rfl) (by kernel_rfl) (by kernel_rfl) ?_ ?_ ?_ ?_ ?_ ?_
  · repeat first | exact wok_nil | refine wok_cons (by first | exact fun _ _ h k => h.call k) ?_
  · repeat first | exact vok_nil | refine vok_rig (by first | exact fun _ _ _ h => h) ?_ | refine vok_soft (by first | exact fun _ _ _ h _ => h | exact fun _ _ _ h k => owns_call h k) ?_
  · exact hF0
  · repeat first | exact all_end (by decide) | refine all_cons (by first | exact rfl | exact ⟨rfl, fun _ _ h => Or.inl h⟩ | exact ⟨rfl, fun _ _ h => Or.inr ⟨h, rfl⟩⟩) ?_
  · refine allp_mild 0 rfl rfl rfl (fun a x W hout hin hP => ?_) ?_
    · have e1 : a.tmps[1]? = some (.pointer (some ⟨g1, 0, none⟩)) := (hout 1 (by kernel_rfl)).trans rfl
      clear hin hout
      intro K Q hK
      go_simp
      exact hK _ _ ⟨Same.refl _, rfl⟩
    refine allp_mild 0 rfl rfl rfl (fun a x W hout hin hP => ?_) ?_
    · have e6 := hin.is 0 6 (by kernel_rfl) (by decide) (by kernel_rfl) (by kernel_rfl) _ rfl
      have hc : W.cell? ⟨g1, 0, none⟩ = some (.int .u32 (wd L.e)) := hP.r1.get rfl
      clear hP
      clear hin hout
      intro K Q hK
      go_simp
      exact hK _ _ ⟨Same.refl _, rfl⟩
    refine allp_mild 0 rfl rfl rfl (fun a x W hout hin hP => ?_) ?_
    · have e7 := hin.is 1 7 (by kernel_rfl) (by decide) (by kernel_rfl) (by kernel_rfl) _ rfl
      have hbse := hP.bse
      clear hP
      clear hin hout
      intro K Q hK
      go_simp
      refine (refput_any (L.e) 4 W (by decide)).mono ?_
      rintro e W' ⟨u, rfl, hO, hb⟩
      exact hK _ _ ⟨hb, own_mono hO hbse⟩
    refine allp_mild 0 rfl rfl rfl (fun a x W hout hin hP => ?_) ?_
    · have e1 : a.tmps[1]? = some (.pointer (some ⟨g1, 0, none⟩)) := (hout 1 (by kernel_rfl)).trans rfl
      clear hin hout
      intro K Q hK
      go_simp
      exact hK _ _ ⟨Same.refl _, rfl⟩
    refine allp_mild 0 rfl rfl rfl (fun a x W hout hin hP => ?_) ?_
    · have e9 := hin.is 3 9 (by kernel_rfl) (by decide) (by kernel_rfl) (by kernel_rfl) _ rfl
      have hc : W.cell? ⟨g1, 1, none⟩ = some (.int .u32 (wd L.s)) := hP.r1.get rfl
      clear hP
      clear hin hout
      intro K Q hK
      go_simp
      exact hK _ _ ⟨Same.refl _, rfl⟩
    refine allp_mild 0 rfl rfl rfl (fun a x W hout hin hP => ?_) ?_
    · have e10 := hin.is 4 10 (by kernel_rfl) (by decide) (by kernel_rfl) (by kernel_rfl) _ rfl
      have hbse := hP.bse
      clear hP
      clear hin hout
      intro K Q hK
      go_simp
      refine (refput_any (L.s) 4 W (by decide)).mono ?_
      rintro e W' ⟨u, rfl, hO, hb⟩
      exact hK _ _ ⟨hb, own_mono hO hbse⟩
    refine allp_wild 0 rfl rfl rfl (fun a x W hout hin hP => ?_) ?_
    · obtain ⟨v8, e8, hv8⟩ := hin.get 2 8 (by kernel_rfl) (by decide) (by kernel_rfl) (.inr ⟨rfl, by kernel_rfl⟩)
      obtain ⟨v11, e11, hv11⟩ := hin.get 5 11 (by kernel_rfl) (by decide) (by kernel_rfl) (.inr ⟨rfl, by kernel_rfl⟩)
      have hI := own_item (q := le L.s 4) (by rw [length_le]; exact hv11) (by rw [length_le]; decide)
      obtain ⟨A5, c5, rfl, hS5, hA5, _⟩ := hI
      have hO8 := hv8
      have hAt := hP
      rw [length_le] at e11 hS5
      clear hin hout
      intro K Q hK
      refine wp_append_slice (.tmp 8) (.tmp 11) rfl B0 _ 4 _ (eval_of_get e8) hO8 A5 4 c5 (le L.s 4) (eval_of_get e11) hS5 hA5 (by decide) hAt.bse ?_
      intro v' W' hO' hb'
      rw [← bytesV_app] at hO'
      exact hK _ _ ⟨hAt.grow hb', hO'⟩
    refine allp_mild 1 rfl rfl rfl (fun a x W hout hin hP => ?_) ?_
    · obtain ⟨v12, e12, hv12⟩ := hin.get 6 12 (by kernel_rfl) (by decide) (by kernel_rfl) (.inr ⟨rfl, by kernel_rfl⟩)
      exact does_assign rfl e12 ⟨Same.refl _, hv12⟩
    exact all_end (by decide)
  · intro x W hP hV
    have hO3 := hV 7 (by decide) (.inr (by kernel_rfl))
    obtain ⟨v3, hv3⟩ : ∃ v3, x 7 = v3 := ⟨_, rfl⟩
    have hO3 : W.ownsRow B0 5 1 v3 8 (bytesV (le L.e 4 ++ le L.s 4)) := by rw [← hv3]; exact hO3
    have HA1 : Hid (At2 w W g1 25 (labCells L) g2 27 (bs (blk 0#8)) B0) := Lib.hid hP
    have HO3 := Lib.hid hO3
    clear hV hP hO3
    simp only [putL, Act.put, List.setIfInBounds_toArray, List.set_cons_succ, List.set_cons_zero, hv3]
    refine wpAnyH_done (by kernel_rfl) ?_ _
    clear hv3
    go_upto_region 2 with fail
    have hF0 : Wl [fun W => At2 w W g1 25 (labCells L) g2 27 (bs (blk 0#8)) B0 ∧ W.ownsRow B0 5 1 v3 8 (bytesV (le L.e 4 ++ le L.s 4)), fun W => At2 w W g1 25 (labCells L) g2 27 (bs (blk 0#8)) B0, fun W => At2 w W g1 25 (labCells L) g2 27 (bs (blk 0#8)) B0] 0 W.drew := ⟨HA1.out.call (Below.refl _ _).drew, owns_call HO3.out (Below.refl _ _).drew⟩
    clear HA1 HO3
    refine wp_region_phs [is (v3), is (.pointer (some ⟨g1, 2, none⟩)), is (.int .u32 (wd L.n)), (fun v W => W.ownsRow B0 5 1 v 4 (bytesV (le (L.n) 4))), (fun v W => W.ownsRow B0 5 1 v 12 (bytesV ((le L.e 4 ++ le L.s 4) ++ le L.n 4))), is (.pointer (some ⟨g1, 3, none⟩)), is (.int .u16 (hd L.d)), is (.int .u32 (wd (L.d.setWidth 32))), (fun v W => W.ownsRow B0 5 1 v 2 (bytesV (le (L.d.setWidth 32) 2))), (fun v W => W.ownsRow B0 5 1 v 14 (bytesV ((le L.e 4 ++ le L.s 4 ++ le L.n 4) ++ le (L.d.setWidth 32) 2))), (fun v W => W.ownsRow B0 5 1 v 14 (bytesV ((le L.e 4 ++ le L.s 4 ++ le L.n 4) ++ le (L.d.setWidth 32) 2)))] [true, true, true, false, false, true, true, true, false, false, false] [(fun W => At2 w W g1 25 (labCells L) g2 27 (bs (blk 0#8)) B0 ∧ W.ownsRow B0 5 1 v3 8 (bytesV (le L.e 4 ++ le L.s 4))), (fun W => At2 w W g1 25 (labCells L) g2 27 (bs (blk 0#8)) B0), (fun W => At2 w W g1 25 (labCells L) g2 27 (bs (blk 0#8)) B0)] [false, false, false, false, true, false, false, false, false, true, false] [some 0, some 0, some 0, some 0, some 0, none, none, none, some 1, some 1, some 2] [some 13, some 14, some 15, some 16, some 17, some 18, some 19, some 20, some 21, some 22, some 3] 11 2 (fun _ => true) rfl rfl (by kernel_rfl) (by kernel_rfl) (by kernel_rfl) (by kernel_rfl) ?_ ?_ ?_ ?_ ?_ ?_
    · repeat first | exact wok_nil | refine wok_cons (by first | exact fun _ _ h k => ⟨h.1.call k, owns_call h.2 k⟩ | exact fun _ _ h k => h.call k) ?_
    · repeat first | exact vok_nil | refine vok_rig (by first | exact fun _ _ _ h => h) ?_ | refine vok_soft (by first | exact fun _ _ _ h _ => h | exact fun _ _ _ h k => owns_call h k) ?_
    · exact hF0
    · repeat first | exact all_end (by decide) | refine all_cons (by first | exact rfl | exact ⟨rfl, fun _ _ h => Or.inl h⟩ | exact ⟨rfl, fun _ _ h => Or.inr ⟨h, rfl⟩⟩) ?_
    · refine allp_mild 0 rfl rfl rfl (fun a x W hout hin hP => ?_) ?_
      · have e3 : a.tmps[3]? = some (v3) := (hout 3 (by kernel_rfl)).trans rfl
        exact does_move rfl e3 ⟨Same.refl _, rfl⟩
      refine allp_mild 0 rfl rfl rfl (fun a x W hout hin hP => ?_) ?_
      · have e1 : a.tmps[1]? = some (.pointer (some ⟨g1, 0, none⟩)) := (hout 1 (by kernel_rfl)).trans rfl
        clear hin hout
        intro K Q hK
        go_simp
        exact hK _ _ ⟨Same.refl _, rfl⟩
      refine allp_mild 0 rfl rfl rfl (fun a x W hout hin hP => ?_) ?_
      · have e14 := hin.is 1 14 (by kernel_rfl) (by decide) (by kernel_rfl) (by kernel_rfl) _ rfl
        have hc : W.cell? ⟨g1, 2, none⟩ = some (.int .u32 (wd L.n)) := hP.1.r1.get rfl
        clear hP
        clear hin hout
        intro K Q hK
        go_simp
        exact hK _ _ ⟨Same.refl _, rfl⟩
      refine allp_mild 0 rfl rfl rfl (fun a x W hout hin hP => ?_) ?_
      · have e15 := hin.is 2 15 (by kernel_rfl) (by decide) (by kernel_rfl) (by kernel_rfl) _ rfl
        have hbse := hP.1.bse
        clear hP
        clear hin hout
        intro K Q hK
        go_simp
        refine (refput_any (L.n) 4 W (by decide)).mono ?_
        rintro e W' ⟨u, rfl, hO, hb⟩
        exact hK _ _ ⟨hb, own_mono hO hbse⟩
      refine allp_wild 0 rfl rfl rfl (fun a x W hout hin hP => ?_) ?_
      · have e13 := hin.is 0 13 (by kernel_rfl) (by decide) (by kernel_rfl) (by kernel_rfl) _ rfl
        obtain ⟨v16, e16, hv16⟩ := hin.get 3 16 (by kernel_rfl) (by decide) (by kernel_rfl) (.inr ⟨rfl, by kernel_rfl⟩)
        have hI := own_item (q := le L.n 4) (by rw [length_le]; exact hv16) (by rw [length_le]; decide)
        obtain ⟨A5, c5, rfl, hS5, hA5, _⟩ := hI
        have hO8 := hP.2
        have hAt := hP.1
        rw [length_le] at e16 hS5
        clear hin hout
        intro K Q hK
        refine wp_append_slice (.tmp 13) (.tmp 16) rfl B0 _ 8 _ (eval_of_get e13) hO8 A5 4 c5 (le L.n 4) (eval_of_get e16) hS5 hA5 (by decide) hAt.bse ?_
        intro v' W' hO' hb'
        rw [← bytesV_app] at hO'
        exact hK _ _ ⟨hAt.grow hb', hO'⟩
      refine allp_pure rfl rfl (fun a x W hout hin => ?_) ?_
      · have e1 : a.tmps[1]? = some (.pointer (some ⟨g1, 0, none⟩)) := (hout 1 (by kernel_rfl)).trans rfl
        clear hin hout
        intro K Q hK
        go_simp
        exact hK _ _ ⟨rfl, rfl⟩
      refine allp_any rfl rfl (fun a x W hout hin hP => ?_) ?_
      · have e18 := hin.is 5 18 (by kernel_rfl) (by decide) (by kernel_rfl) (by kernel_rfl) _ rfl
        have hc : W.cell? ⟨g1, 3, none⟩ = some (.int .u16 (hd L.d)) := (wl_any (S := fun W => Row W g1 25 (labCells L)) (by intro F hF W h; simp only [List.mem_cons, List.not_mem_nil, or_false] at hF; rcases hF with rfl | rfl | rfl; exact h.1.r1; exact h.r1; exact h.r1) hP).get rfl
        clear hP
        clear hin hout
        intro K Q hK
        go_simp
        exact hK _ _ ⟨rfl, rfl⟩
      refine allp_pure rfl rfl (fun a x W hout hin => ?_) ?_
      · have e19 := hin.is 6 19 (by kernel_rfl) (by decide) (by kernel_rfl) (by kernel_rfl) _ rfl
        have hcv := conv_hd L.d
        clear hin hout
        intro K Q hK
        go_simp
        exact hK _ _ ⟨rfl, rfl⟩
      refine allp_mild 1 rfl rfl rfl (fun a x W hout hin hP => ?_) ?_
      · have e20 := hin.is 7 20 (by kernel_rfl) (by decide) (by kernel_rfl) (by kernel_rfl) _ rfl
        have hbse := hP.bse
        clear hP
        clear hin hout
        intro K Q hK
        go_simp
        refine (refput_any (L.d.setWidth 32) 2 W (by decide)).mono ?_
        rintro e W' ⟨u, rfl, hO, hb⟩
        exact hK _ _ ⟨hb, own_mono hO hbse⟩
      refine allp_wild 1 rfl rfl rfl (fun a x W hout hin hP => ?_) ?_
      · obtain ⟨v17, e17, hv17⟩ := hin.get 4 17 (by kernel_rfl) (by decide) (by kernel_rfl) (.inr ⟨rfl, by kernel_rfl⟩)
        obtain ⟨v21, e21, hv21⟩ := hin.get 8 21 (by kernel_rfl) (by decide) (by kernel_rfl) (.inr ⟨rfl, by kernel_rfl⟩)
        have hI := own_item (q := le (L.d.setWidth 32) 2) (by rw [length_le]; exact hv21) (by rw [length_le]; decide)
        obtain ⟨A5, c5, rfl, hS5, hA5, _⟩ := hI
        have hO8 := hv17
        have hAt := hP
        rw [length_le] at e21 hS5
        clear hin hout
        intro K Q hK
        refine wp_append_slice (.tmp 17) (.tmp 21) rfl B0 _ 12 _ (eval_of_get e17) hO8 A5 2 c5 (le (L.d.setWidth 32) 2) (eval_of_get e21) hS5 hA5 (by decide) hAt.bse ?_
        intro v' W' hO' hb'
        rw [← bytesV_app] at hO'
        exact hK _ _ ⟨hAt.grow hb', hO'⟩
      refine allp_mild 2 rfl rfl rfl (fun a x W hout hin hP => ?_) ?_
      · obtain ⟨v22, e22, hv22⟩ := hin.get 9 22 (by kernel_rfl) (by decide) (by kernel_rfl) (.inr ⟨rfl, by kernel_rfl⟩)
        exact does_assign rfl e22 ⟨Same.refl _, hv22⟩
      exact all_end (by decide)
    · intro x W hP hV
      have hO4 := hV 10 (by decide) (.inr (by kernel_rfl))
      obtain ⟨v4, hv4⟩ : ∃ v4, x 10 = v4 := ⟨_, rfl⟩
      have hO4 : W.ownsRow B0 5 1 v4 14 (bytesV (le L.e 4 ++ le L.s 4 ++ le L.n 4 ++ le (L.d.setWidth 32) 2)) := by rw [← hv4]; exact hO4
      have HA2 : Hid (At2 w W g1 25 (labCells L) g2 27 (bs (blk 0#8)) B0) := Lib.hid hP
      have HO4 := Lib.hid hO4
      have c4 : W.cell? ⟨g1, 4, none⟩ = some (.int .u16 (hd L.l)) := hP.r1.get rfl
      clear hV hP hO4
      simp only [putL, Act.put, List.setIfInBounds_toArray, List.set_cons_succ, List.set_cons_zero, hv4]
      refine wpAnyH_done (by kernel_rfl) ?_ _
      have hcv := conv_hd L.l
      clear hv4
      go_wp2_with fail
      refine (refput_any (L.l.setWidth 32) 2 W (by decide)).mono ?_
      rintro e W5 ⟨u, rfl, hO5, hb5⟩
      have HA5 := Lib.hid (HA2.out.call hb5)
      have hI := own_item (q := le (L.l.setWidth 32) 2) (by rw [length_le]; exact hO5) (by rw [length_le]; decide)
      obtain ⟨A5, c5, rfl, hS5, hA5, _⟩ := hI
      rw [length_le] at hS5
      have HS5 := Lib.hid hS5
      have HA5' := Lib.hid hA5
      have HO4' := Lib.hid (owns_call HO4.out hb5)
      have hl5 : (Value.slice A5 (le (L.l.setWidth 32) 2).length c5) = .slice A5 2 c5 := by rw [length_le]
      rw [hl5]
      clear hcv c4 HA2 HO4 hO5 hb5 hS5 hA5 hl5
      go_wp2_with (at_builtin; refine wpList_append_slice rfl (.tmp 24) (.tmp 28) rfl B0 _ 14 _ rfl HO4'.out A5 2 c5 (le (L.l.setWidth 32) 2) rfl HS5.out HA5'.out (by decide) HA5.out.bse ?_; intro v6 W6 hO6 hb6; rw [← bytesV_app] at hO6; have HO6 := Lib.hid hO6; have HA6 := Lib.hid (HA5.out.grow hb6); clear hO6 hb6)
      have hI6 : Item W6 v6 (labBody L) := own_item (by rw [length_labBody]; exact HO6.out) (by rw [length_labBody]; decide)
      have C1 : Calls Try.prog 24 #[.int .u8 76, v6] W6 fun e w' => e = .returned (.tuple #[.agg (bs (labB L)), .int .i64 0]) ∧ Below W6.heap.size W6 w' := by
        have := refenc_any 0x4c#8 (labBody L) v6 W6 hI6
        have hb : encBad 0x4c#8 (labBody L) = false := by unfold encBad; rw [length_labBody]; rfl
        rw [encB_good hb, encE_good hb] at this
        exact this
      have HXL : Hid ((labB L).length = 32) := Lib.hid (length_labB L)
      obtain ⟨X, hX⟩ : ∃ X, labB L = X := ⟨_, rfl⟩
      rw [hX] at HXL C1
      have HX := Lib.hid hX
      clear hX
      refine C1.mono ?_
      rintro e W7 ⟨rfl, hb7⟩
      have HA7 := Lib.hid ((HA6.out.call hb7).call (Same.alloc W7 (.cells (bs X) 27)))
      have R7 := Lib.hid (Row.fresh W7 27 (bs X))
      have hz := zeros_blk
      have rr := row_range R7.out (Below.refl _ _) R7.out.lt
      have r2 := HA7.out.r2
      clear C1 hb7 hI6 HO6 HA6 HA5 HS5 HA5' HO4'
      go_wp2_with (first | (refine wpList_store_row rfl 27 _ _ rfl W7.heap.size (bs X) rfl rfl 27 _ (Row.fresh _ _ _) (by rw [size_bs, HXL.out]; exact size_blk) (by rw [size_bs, size_bs, length_blk, HXL.out]) (one_bs _) ?_; rw [World.setRow_alloc_new]) | (refine wpList_load_mid rfl 27 _ rfl W7.heap.size 0 rfl (bs X).toList _ rr Try.underlying27 rfl (by rw [len_bs, HXL.out]; exact size_blk) ?_) | (refine wpList_store_row rfl 27 _ _ rfl g2 (bs X) rfl rfl 27 _ r2 (by rw [size_bs, HXL.out]; exact size_blk) (by rw [size_bs, size_bs, length_blk, HXL.out]) (one_bs _) ?_))
      exact bodyPost_ret (v := .agg (bs X)) (results_cell_row Try.results12 _ _ g2 27 (bs X) (0, 0) _ rfl (r2.setRow _) Try.underlying27 rfl (by rw [size_bs, HXL.out]; exact size_blk)) rfl ⟨by rw [HX.out], below_setRow HA7.out.below HA7.out.lo2 _⟩
end Go.Proofs.Ytmghacgifokbhaa
