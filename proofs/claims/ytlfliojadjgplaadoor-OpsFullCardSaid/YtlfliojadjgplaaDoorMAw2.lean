/- Merged: OpsWakes OpTell OpApart OpMake. -/
import Derived.Test.YtlfliojadjgplaaDoorMAw1
import Derived.Test.YtlfliojadjgplaaDoorMDisk0
import Derived.Test.YtlfliojadjgplaaDoorMGen0
/- The examples of the chapter, asked by the statements. -/
set_option maxRecDepth 4000
namespace Go.Proofs.YtlfliojadjgplaaDoor
open Go Go.RowKit
theorem pt_nil : ∀ x ∈ ([] : List Pt), x.2.length = 32 := fun x h => by cases h
theorem pt_cons {x : Pt} {l : List Pt} (h : x.2.length = 32) (t : ∀ y ∈ l, y.2.length = 32) : ∀ y ∈ x :: l, y.2.length = 32 := fun y hy => by
  rcases List.mem_cons.1 hy with rfl | hy
  · exact h
  · exact t y hy
theorem put_at {cb : Array Value} {c n : Nat} {P : List Pt} (O : OwnC cb c n 33 (P.map pcell).flatten) {z : Int} {d : List (BitVec 8)} (k : Nat) (h : P[k]? = some (z, d)) (hP : ∀ x ∈ P, x.2.length = 32) : cb[k * 33]? = some (.int .i64 z) := by
  have hk : k < P.length := (List.getElem?_eq_some_iff.1 h).1
  have h1 := flat_get (sz := 33) (P.map pcell) (fun c hc => by obtain ⟨x, hx, rfl⟩ := List.mem_map.1 hc; exact len_pcell (hP x hx)) k 0 (pcell (z, d)) (by rw [List.getElem?_map, h]; rfl) (by decide)
  have hl := O.len
  rw [len_puts hP] at hl
  rw [← O.take, List.getElem?_take_of_lt (by omega), Array.getElem?_toList] at h1
  exact h1
theorem put_dat {cb : Array Value} {c n : Nat} {P : List Pt} (O : OwnC cb c n 33 (P.map pcell).flatten) {z : Int} {d : List (BitVec 8)} (k : Nat) (h : P[k]? = some (z, d)) (hd : d.length = 32) (hP : ∀ x ∈ P, x.2.length = 32) : (cb.toList.drop (k * 33 + 1)).take (bs d).size = (bs d).toList := by
  have hk : k < P.length := (List.getElem?_eq_some_iff.1 h).1
  have hl := O.len
  rw [len_puts hP] at hl
  have hs := O.size
  have hle := O.le
  refine List.ext_getElem? fun j => ?_
  rw [size_bs, hd, bs_toList]
  by_cases hj : j < 32
  · have h1 := flat_get (sz := 33) (P.map pcell) (fun c hc => by obtain ⟨x, hx, rfl⟩ := List.mem_map.1 hc; exact len_pcell (hP x hx)) k (j + 1) (pcell (z, d)) (by rw [List.getElem?_map, h]; rfl) (by omega)
    rw [← O.take, List.getElem?_take_of_lt (by omega)] at h1
    rw [List.getElem?_take_of_lt hj, List.getElem?_drop, show k * 33 + 1 + j = k * 33 + (j + 1) by omega, h1]
    rfl
  · rw [List.getElem?_eq_none (by rw [List.length_take]; omega), List.getElem?_eq_none (by rw [len_bytesV]; omega)]
theorem wo_good : goodT [([97#8, 98#8], [1, 2])] = true := by decide +kernel
theorem wo_dec : decLT (encT [([97#8, 98#8], [1, 2])]) = [([97#8, 98#8], [1, 2])] := (tab_back wo_good).1
theorem wo_E1 : makeE (decLT (zer 32)) [97#8, 98#8] 2 = 0 := by rw [wk_z2]; decide +kernel
theorem wo_T : takeT [] 2 = [1, 2] := by decide +kernel
theorem wo_P1 : makeP (decLT (zer 32)) [97#8, 98#8] 2 = ([(1, zer 32), (2, zer 32), (0, encT [([97#8, 98#8], [1, 2])])] : List Pt) := by
  rw [make_P wo_E1, wk_z2]
  unfold makeL
  rw [wo_T]; rfl
theorem wo_E2 : makeE (decLT (encT [([97#8, 98#8], [1, 2])])) [97#8, 98#8] 1 = 16 := by rw [wo_dec]; decide +kernel
theorem wo_E3 : placeE (decLT (encT [([97#8, 98#8], [1, 2])])) [97#8, 98#8] 1 = 0 := by rw [wo_dec]; decide +kernel
theorem wo_P3 : writeP (decLT (encT [([97#8, 98#8], [1, 2])])) [97#8, 98#8] 1 (blk 7#8) = [(2, blk 7#8)] := by
  rw [write_yes wo_E3, wo_dec, show placeI [([97#8, 98#8], [1, 2])] [97#8, 98#8] 1 = 2 by decide +kernel]
theorem wo_E4 : placeE (decLT (encT [([97#8, 98#8], [1, 2])])) [97#8, 98#8] 2 = 17 := by rw [wo_dec]; decide +kernel
theorem wo_f : findI [97#8, 98#8] [([97#8, 98#8], [1, 2])] = 0 := by decide +kernel
theorem wo_E5 : goneE (decLT (encT [([97#8, 98#8], [1, 2])])) [97#8, 98#8] = 0 := by rw [wo_dec]; decide +kernel
theorem wo_P5 : goneP (decLT (encT [([97#8, 98#8], [1, 2])])) [97#8, 98#8] = [(0, encT [])] := by
  rw [wo_dec, gone_P0 (by rw [wo_f]; decide)]
  unfold goneL
  rw [wo_f]; rfl
theorem wo_I6 : placeI (decLT (encT [([97#8, 98#8], [1, 2])])) [97#8, 98#8] 0 = 1 := by rw [wo_dec]; decide +kernel
theorem wo_E6 : placeE (decLT (encT [([97#8, 98#8], [1, 2])])) [97#8, 98#8] 0 = 0 := by rw [wo_dec]; decide +kernel
theorem wo_V0 : (decLT (encT [])).length = 0 := by rw [(tab_back (show goodT [] = true by decide +kernel)).1]; rfl
theorem wo_V1 : (decLT (encT [([97#8, 98#8], [1, 2])])).length = 1 := by rw [wo_dec]; rfl
set_option maxHeartbeats 1600000 in
theorem opwakes_any (w : World) : Calls Tryd.prog 7 #[] w fun e w' => e = .returned (.bool true) ∧ Below w.heap.size w w' := by
  have HS := St.nil w noF
  have hP1 := wo_P1
  have hE2 := wo_E2
  have hE3 := wo_E3
  have hP3 := wo_P3
  have hE4 := wo_E4
  have hE5 := wo_E5
  have hP5 := wo_P5
  have hI6 := wo_I6
  have hE6 := wo_E6
  have hV0 := wo_V0
  have hV1 := wo_V1
  have hl1 : (encT [([97#8, 98#8], [1, 2])]).length = 32 := length_encT _
  have hl0 : (encT []).length = 32 := length_encT _
  have hz0 : (zer 32).length = 32 := length_zer 32
  have hf7 : (blk 7#8).length = 32 := length_blk _
  obtain ⟨t1, ht1⟩ : ∃ t, (encT [([97#8, 98#8], [1, 2])]) = t := ⟨_, rfl⟩
  obtain ⟨t0, ht0⟩ : ∃ t, encT [] = t := ⟨_, rfl⟩
  obtain ⟨f7, hF7⟩ : ∃ t, blk 7#8 = t := ⟨_, rfl⟩
  rw [ht1] at hP1 hE2 hE3 hP3 hE4 hE5 hP5 hI6 hE6 hV1 hl1
  rw [ht0] at hP5 hV0 hl0
  rw [hF7] at hP3 hf7
  have hP1 : ∃ z0, z0 = zer 32 ∧ makeP (decLT (zer 32)) [97#8, 98#8] 2 = ([(1, z0), (2, z0), (0, t1)] : List Pt) := ⟨zer 32, rfl, hP1⟩
  obtain ⟨z0, hz, hP1⟩ := hP1
  rw [← hz] at hz0
  clear ht1 ht0 hz
  refine enter_en Tryd.func7 rfl Tryd.ntmps7 (Nat.le_of_ble_eq_true rfl) fun a0 (HA0 : En 132 [] a0) => ?_
  refine sq_ <| rl_ <| wl_ <| p_ HA0 rfl rfl fun _ H1 => ln_ <| nx <| sq_ <| rl_ <| wl_ <| i_ H1 rfl (v := .agg (bs (zer 32))) (dd_bldk rfl (ps := []) (pr0) (cs := bs (zer 32)) (by kernel_rfl)) fun _ H2 => ?_
  clear HA0 H1
  refine wl_ <| d_ H2 rfl (R := fun v w9 => ∃ gp4 cp4 cbp4, v = .tuple #[.slice (some ⟨gp4, 0, none⟩) 3 cp4, .int .i64 0] ∧ (w.heap.size ≤ gp4) ∧ (Row w9 gp4 51 cbp4) ∧ (OwnC cbp4 cp4 3 33 (((([(1, z0), (2, z0), (0, t1)] : List Pt)).map pcell).flatten)) ∧ Below w.heap.size w w9) (dc_ Tryd.func16 rfl (args3 (H2.ev 15 rfl) rfl rfl) (make_any (zer 32) [97#8, 98#8] 2 w (length_zer 32) (by decide)) (fun _ w9 ⟨v9, he, ho, hb⟩ => by rw [wo_E1] at he; rw [hP1] at ho; obtain ⟨g9, c9, cb9, rfl, h1, h2, h3⟩ := ownc_pos ho (Nat.succ_pos _); exact ⟨_, he, g9, c9, cb9, rfl, h1, h2, h3, hb⟩)) ?_
  rintro _ W3 ⟨gp4, cp4, cbp4, rfl, hg4, hr4, Op4, hb3⟩ a3 H3
  have HS3 := HS.same hb3
  clear H2
  have HS3j : St w noF [⟨gp4, 51, cbp4⟩] W3 := HS.joins hb3 hr4 hg4
  clear HS3 hr4 hg4
  clear HS hb3
  refine wl_ <| p_ H3 rfl rfl fun _ H5 => wl_ <| i_ H5 rfl (v := .slice (some ⟨gp4, 0, none⟩) 3 cp4) (dd_ext rfl (H5.ev 14 rfl) rfl) fun _ H6 => wl_ <| i_ H6 rfl (v := .int .i64 0) (dd_ext rfl (H6.ev 14 rfl) rfl) fun _ H7 => q_ H7 2 rfl fun _ H8 => ln_ <| nx <| sq_ <| sq_ <| rl_ <| wl_ <| p_ H8 rfl rfl fun _ H9 => wl_ <| i_ H9 rfl (dd_cmp rfl (H9.ev 19 rfl) rfl (ne_f (by decide))) fun _ H10 => wl_ <| p_ H10 rfl rfl fun _ H11 => wl_ <| ig H11 (wg_ H11 rfl rfl rfl rfl) rfl (dd_mv rfl (H11.ev 1 rfl)) fun _ H12 => ?_
  clear H3 H5 H6 H7 H8 H9 H10
  refine wl_ <| ig H12 (wg_ H12 rfl rfl rfl rfl) rfl (v := .int .i64 3) (dd_len rfl (H12.ev 22 rfl) Tryd.underlying35) fun _ H13 => wl_ <| ig H13 (wg_ H13 rfl rfl rfl rfl) rfl (dd_cmp rfl (H13.ev 23 rfl) rfl (ne_f (by decide))) fun _ H14 => q_ H14 2 rfl fun _ H15 => wl_ <| ig H15 (wg_ H15 rfl rfl rfl rfl) rfl (dd_mv rfl (H15.ev 1 rfl)) fun _ H16 => wl_ <| ig H16 (wg_ H16 rfl rfl rfl rfl) rfl (xS 33 0 rfl (H16.ev 27 rfl) rfl) fun _ H17 => wl_ <| ig H17 (wg_ H17 rfl rfl rfl rfl) rfl (xf 0 0 rfl (H17.ev 28 rfl)) fun _ H18 => wl_ <| ig H18 (wg_ H18 rfl rfl rfl rfl) rfl (dd_get HS3j 0 0 rfl rfl (H18.ev 29 rfl) (put_at Op4 0 rfl (pt_cons hz0 (pt_cons hz0 (pt_cons hl1 pt_nil)))) Tryd.underlying3 rfl) fun _ H19 => wl_ <| ig H19 (wg_ H19 rfl rfl rfl rfl) rfl (dd_cmp rfl (H19.ev 30 rfl) rfl (ne_f (by decide))) fun _ H20 => ?_
  clear H11 H12 H13 H14 H15 H16 H17 H18
  refine q_ H20 2 rfl fun _ H21 => wl_ <| ig H21 (wg_ H21 rfl rfl rfl rfl) rfl (dd_mv rfl (H21.ev 1 rfl)) fun _ H22 => wl_ <| ig H22 (wg_ H22 rfl rfl rfl rfl) rfl (xS 33 33 rfl (H22.ev 34 rfl) rfl) fun _ H23 => wl_ <| ig H23 (wg_ H23 rfl rfl rfl rfl) rfl (xf 0 33 rfl (H23.ev 35 rfl)) fun _ H24 => wl_ <| ig H24 (wg_ H24 rfl rfl rfl rfl) rfl (dd_get HS3j 0 33 rfl rfl (H24.ev 36 rfl) (put_at Op4 1 rfl (pt_cons hz0 (pt_cons hz0 (pt_cons hl1 pt_nil)))) Tryd.underlying3 rfl) fun _ H25 => wl_ <| ig H25 (wg_ H25 rfl rfl rfl rfl) rfl (dd_cmp rfl (H25.ev 37 rfl) rfl (ne_f (by decide))) fun _ H26 => q_ H26 2 rfl fun _ H27 => wl_ <| ig H27 (wg_ H27 rfl rfl rfl rfl) rfl (dd_mv rfl (H27.ev 1 rfl)) fun _ H28 => ?_
  clear H19 H20 H21 H22 H23 H24 H25 H26
  refine wl_ <| ig H28 (wg_ H28 rfl rfl rfl rfl) rfl (xS 33 66 rfl (H28.ev 41 rfl) rfl) fun _ H29 => wl_ <| ig H29 (wg_ H29 rfl rfl rfl rfl) rfl (xf 0 66 rfl (H29.ev 42 rfl)) fun _ H30 => wl_ <| ig H30 (wg_ H30 rfl rfl rfl rfl) rfl (dd_get HS3j 0 66 rfl rfl (H30.ev 43 rfl) (put_at Op4 2 rfl (pt_cons hz0 (pt_cons hz0 (pt_cons hl1 pt_nil)))) Tryd.underlying3 rfl) fun _ H31 => wl_ <| ig H31 (wg_ H31 rfl rfl rfl rfl) rfl (dd_cmp rfl (H31.ev 44 rfl) rfl (ne_f (by decide))) fun _ H32 => wl_ <| p_ H32 rfl rfl fun _ H33 => ln_ <| ?_
  clear H27 H28 H29 H30 H31 H32
  have H34 := H33.sel [1, 46] rfl
  refine nx <| cf_ H34 rfl <| wp_skip <| nx <| sq_ <| rl_ <| wl_ <| p_ H34 rfl rfl fun _ H35 => wl_ <| i_ H35 rfl (xS 33 66 rfl (H35.ev 47 rfl) rfl) fun _ H36 => wl_ <| i_ H36 rfl (xf 1 67 rfl (H36.ev 48 rfl)) fun _ H37 => wl_ <| i_ H37 rfl (v := .agg (bs t1)) (dd_load HS3j 0 67 rfl rfl (H37.ev 49 rfl) (put_dat Op4 2 rfl hl1 (pt_cons hz0 (pt_cons hz0 (pt_cons hl1 pt_nil)))) Tryd.underlying23 rfl (by rw [show (bs t1).size = 32 from ((size_bs _).trans hl1)]; kernel_rfl)) fun _ H38 => wl_ <| n_ H38 rfl (fun _ h => dd_new HS3j (bs (zer 32)) rfl (z := .agg (bs (zer 32))) (by kernel_rfl) rfl h) fun g3 _ HS39 _ H39 => wl_ <| t_ rfl (fun _ h => dd_setrow HS39 1 rfl rfl (H39.ev 3 rfl) (H39.ev 50 rfl) (by kernel_rfl) (((size_bs _).trans hl1) : (bs t1).size = 32) (((size_bs _).trans (length_zer 32)) : (bs (zer 32)).size = 32) (one_bs _) h) fun W40 HS40 => ln_ <| nx <| sq_ <| ?_
  clear H33 H34 H35 H36 H37 HS3j H38 HS39
  refine wi_ HS40 [1] rfl [1, 0] rfl fun HSh41 hx41 => ht_ H39 0 hx41 rfl rfl (v := .agg (bs t1)) (fun _ _ HS9 => dd_load HS9 0 0 rfl rfl (H39.ev 3 rfl) (slab_whole _) Tryd.underlying23 rfl (by rw [show (bs t1).size = 32 from ((size_bs _).trans hl1)]; kernel_rfl)) fun _ H42 => h1_ 1 rfl <| c_ H42 rfl HSh41 (v := .agg (bs f7)) (dc_ Tryd.func24 rfl (args1 rfl) (fill_any 7#8 W40.drew) (fun _ w9 h9 => ⟨_, h9.1, by rw [hF7], h9.2⟩)) fun W43 HS43 _ H43 => sx_ (sxi HS43 [1, 0] rfl) fun hx44 => ?_
  clear HS40 H39 H42 HSh41 hx41
  refine h1_ 2 rfl <| d_ H43 rfl (R := fun v w9 => ∃ gp46 cp46 cbp46, v = .tuple #[.slice (some ⟨gp46, 0, none⟩) 1 cp46, .int .i64 0] ∧ (W43.heap.size ≤ gp46) ∧ (Row w9 gp46 51 cbp46) ∧ (OwnC cbp46 cp46 1 33 (((([(2, f7)] : List Pt)).map pcell).flatten)) ∧ Below W43.heap.size W43 w9) (dc_ Tryd.func13 rfl (args4 (H43.ev 52 rfl) rfl rfl (H43.ev 53 rfl)) (write_any t1 [97#8, 98#8] f7 1 W43 hl1 hf7) (fun _ w9 ⟨v9, he, ho, hb⟩ => by rw [hE3] at he; rw [hP3] at ho; obtain ⟨g9, c9, cb9, rfl, h1, h2, h3⟩ := ownc_pos ho (Nat.succ_pos _); exact ⟨_, he, g9, c9, cb9, rfl, h1, h2, h3, hb⟩)) ?_
  rintro _ W45 ⟨gp46, cp46, cbp46, rfl, hg46, hr46, Op46, hb45⟩ a45 H45
  have HS45 := HS43.same hb45
  clear H43
  have HS45j : St w noF [⟨gp4, 51, cbp4⟩, ⟨g3, 23, bs t1⟩, ⟨gp46, 51, cbp46⟩] W45 := HS43.joins hb45 hr46 hg46
  clear HS45 hr46 hg46
  clear HS43 hb45
  refine sx_ (sxi HS45j [1, 0, 2] rfl) fun hx47 => hp_ H45 3 hx47 rfl rfl rfl fun _ H48 => ht_ H48 4 hx47 rfl rfl (v := .slice (some ⟨gp46, 0, none⟩) 1 cp46) (fun _ _ _ => dd_ext rfl (H48.ev 51 rfl) rfl) fun _ H49 => ht_ H49 5 hx47 rfl rfl (v := .int .i64 0) (fun _ _ _ => dd_ext rfl (H49.ev 51 rfl) rfl) fun _ H50 => hp_ H50 6 hx47 rfl rfl rfl fun _ H51 => hp_ H51 7 hx47 rfl rfl rfl fun _ H52 => ?_
  clear hx44 H45 H48 H49 H50 H51
  refine wpAnyH_done (by kernel_rfl) ?_ _
  clear hx47
  refine nx <| sq_ <| ?_
  refine wi_ HS45j [1] rfl [1, 0, 2] rfl fun HSh53 hx53 => ht_ H52 0 hx53 rfl rfl (v := .agg (bs t1)) (fun _ _ HS9 => dd_load HS9 0 0 rfl rfl (H52.ev 3 rfl) (slab_whole _) Tryd.underlying23 rfl (by rw [show (bs t1).size = 32 from ((size_bs _).trans hl1)]; kernel_rfl)) fun _ H54 => h1_ 1 rfl <| c_ H54 rfl HSh53 (v := .agg (bs f7)) (dc_ Tryd.func24 rfl (args1 rfl) (fill_any 7#8 W45.drew) (fun _ w9 h9 => ⟨_, h9.1, by rw [hF7], h9.2⟩)) fun W55 HS55 _ H55 => sx_ (sxi HS55 [1, 0, 2] rfl) fun hx56 => ?_
  clear HS45j H52 H54 HSh53 hx53
  refine h1_ 2 rfl <| d_ H55 rfl (R := fun v w9 => ∃ vp58, v = .tuple #[vp58, .int .i64 17] ∧ Below W55.heap.size W55 w9) (dc_ Tryd.func13 rfl (args4 (H55.ev 58 rfl) rfl rfl (H55.ev 59 rfl)) (write_any t1 [97#8, 98#8] f7 2 W55 hl1 hf7) (fun _ w9 ⟨v9, he, _, hb⟩ => by rw [hE4] at he; exact ⟨_, he, v9, rfl, hb⟩)) ?_
  rintro _ W57 ⟨vp58, rfl, hb57⟩ a57 H57
  have HS57 := HS55.same hb57
  clear H55
  clear HS55 hb57
  refine sx_ (sxi HS57 [1, 0, 2] rfl) fun hx59 => hp_ H57 3 hx59 rfl rfl rfl fun _ H60 => ht_ H60 4 hx59 rfl rfl (v := vp58) (fun _ _ _ => dd_ext rfl (H60.ev 57 rfl) rfl) fun _ H61 => ht_ H61 5 hx59 rfl rfl (v := .int .i64 17) (fun _ _ _ => dd_ext rfl (H61.ev 57 rfl) rfl) fun _ H62 => hp_ H62 6 hx59 rfl rfl rfl fun _ H63 => hp_ H63 7 hx59 rfl rfl rfl fun _ H64 => ?_
  clear hx56 H57 H60 H61 H62 H63
  refine wpAnyH_done (by kernel_rfl) ?_ _
  clear hx59
  refine nx <| sq_ <| rl_ <| wl_ <| i_ H64 rfl (v := .agg (bs t1)) (dd_load HS57 1 0 rfl rfl (H64.ev 3 rfl) (slab_whole _) Tryd.underlying23 rfl (by rw [show (bs t1).size = 32 from ((size_bs _).trans hl1)]; kernel_rfl)) fun _ H65 => ?_
  clear H64
  refine wl_ <| d_ H65 rfl (R := fun v w9 => ∃ gp67 cp67 cbp67, v = .tuple #[.slice (some ⟨gp67, 0, none⟩) 1 cp67, .int .i64 0] ∧ (W57.heap.size ≤ gp67) ∧ (Row w9 gp67 51 cbp67) ∧ (OwnC cbp67 cp67 1 33 (((([(0, t0)] : List Pt)).map pcell).flatten)) ∧ Below W57.heap.size W57 w9) (dc_ Tryd.func18 rfl (args2 (H65.ev 64 rfl) rfl) (gone_any t1 [97#8, 98#8] W57 hl1) (fun _ w9 ⟨v9, he, ho, hb⟩ => by rw [hE5] at he; rw [hP5] at ho; obtain ⟨g9, c9, cb9, rfl, h1, h2, h3⟩ := ownc_pos ho (Nat.succ_pos _); exact ⟨_, he, g9, c9, cb9, rfl, h1, h2, h3, hb⟩)) ?_
  rintro _ W66 ⟨gp67, cp67, cbp67, rfl, hg67, hr67, Op67, hb66⟩ a66 H66
  have HS66 := HS57.same hb66
  clear H65
  have HS66j : St w noF [⟨gp4, 51, cbp4⟩, ⟨g3, 23, bs t1⟩, ⟨gp46, 51, cbp46⟩, ⟨gp67, 51, cbp67⟩] W66 := HS57.joins hb66 hr67 hg67
  clear HS66 hr67 hg67
  clear HS57 hb66
  refine wl_ <| p_ H66 rfl rfl fun _ H68 => wl_ <| i_ H68 rfl (v := .slice (some ⟨gp67, 0, none⟩) 1 cp67) (dd_ext rfl (H68.ev 63 rfl) rfl) fun _ H69 => wl_ <| i_ H69 rfl (v := .int .i64 0) (dd_ext rfl (H69.ev 63 rfl) rfl) fun _ H70 => q_ H70 2 rfl fun _ H71 => ln_ <| ?_
  clear H66 H68 H69 H70
  have H72 := H71.sel [3, 4, 5, 7, 8, 9] rfl
  refine nx <| sq_ <| rl_ <| wl_ <| i_ H72 rfl (v := .agg (bs t1)) (dd_load HS66j 1 0 rfl rfl (H72.ev 3 rfl) (slab_whole _) Tryd.underlying23 rfl (by rw [show (bs t1).size = 32 from ((size_bs _).trans hl1)]; kernel_rfl)) fun _ H73 => ?_
  clear H71 H72
  refine wl_ <| d_ H73 rfl (R := fun v w9 => ∃ vp75, v = .tuple #[vp75, .int .i64 16] ∧ Below W66.heap.size W66 w9) (dc_ Tryd.func16 rfl (args3 (H73.ev 69 rfl) rfl rfl) (make_any t1 [97#8, 98#8] 1 W66 hl1 (by decide)) (fun _ w9 ⟨v9, he, _, hb⟩ => by rw [hE2] at he; exact ⟨_, he, v9, rfl, hb⟩)) ?_
  rintro _ W74 ⟨vp75, rfl, hb74⟩ a74 H74
  have HS74 := HS66j.same hb74
  clear H73
  clear HS66j hb74
  refine wl_ <| p_ H74 rfl rfl fun _ H76 => wl_ <| i_ H76 rfl (v := vp75) (dd_ext rfl (H76.ev 68 rfl) rfl) fun _ H77 => wl_ <| i_ H77 rfl (v := .int .i64 16) (dd_ext rfl (H77.ev 68 rfl) rfl) fun _ H78 => q_ H78 2 rfl fun _ H79 => ln_ <| nx <| sq_ <| rl_ <| wl_ <| i_ H79 rfl (v := .agg (bs t1)) (dd_load HS74 1 0 rfl rfl (H79.ev 3 rfl) (slab_whole _) Tryd.underlying23 rfl (by rw [show (bs t1).size = 32 from ((size_bs _).trans hl1)]; kernel_rfl)) fun _ H80 => wl_ <| c_ H80 rfl HS74 (v := .tuple #[.int .i64 1, .int .i64 0]) (dc_ Tryd.func8 rfl (args3 (H80.ev 74 rfl) rfl rfl) (place_any t1 [97#8, 98#8] 0 W74 hl1) (fun _ w9 h9 => ⟨_, h9.1, by rw [hI6, hE6], h9.2⟩)) fun W81 HS81 _ H81 => wl_ <| p_ H81 rfl rfl fun _ H82 => wl_ <| i_ H82 rfl (v := .int .i64 1) (dd_ext rfl (H82.ev 73 rfl) rfl) fun _ H83 => ?_
  clear H74 H76 H77 H78 H79 H80 HS74 H81
  refine wl_ <| i_ H83 rfl (v := .int .i64 0) (dd_ext rfl (H83.ev 73 rfl) rfl) fun _ H84 => q_ H84 2 rfl fun _ H85 => ln_ <| nx <| sq_ <| rl_ <| wl_ <| p_ H85 rfl rfl fun _ H86 => wl_ <| i_ H86 rfl (dd_cmp rfl (H86.ev 78 rfl) rfl (eq_t (by decide))) fun _ H87 => wl_ <| p_ H87 rfl rfl fun _ H88 => wl_ <| ig H88 (wg_ H88 rfl rfl rfl rfl) rfl (dd_mv rfl (H88.ev 4 rfl)) fun _ H89 => wl_ <| ig H89 (wg_ H89 rfl rfl rfl rfl) rfl (v := .int .i64 1) (dd_len rfl (H89.ev 81 rfl) Tryd.underlying35) fun _ H90 => wl_ <| ig H90 (wg_ H90 rfl rfl rfl rfl) rfl (dd_cmp rfl (H90.ev 82 rfl) rfl (eq_t (by decide))) fun _ H91 => ?_
  clear H82 H83 H84 H85 H86 H87 H88 H89
  refine q_ H91 2 rfl fun _ H92 => wl_ <| ig H92 (wg_ H92 rfl rfl rfl rfl) rfl (dd_mv rfl (H92.ev 4 rfl)) fun _ H93 => wl_ <| ig H93 (wg_ H93 rfl rfl rfl rfl) rfl (xS 33 0 rfl (H93.ev 86 rfl) rfl) fun _ H94 => wl_ <| ig H94 (wg_ H94 rfl rfl rfl rfl) rfl (xf 0 0 rfl (H94.ev 87 rfl)) fun _ H95 => wl_ <| ig H95 (wg_ H95 rfl rfl rfl rfl) rfl (dd_get HS81 2 0 rfl rfl (H95.ev 88 rfl) (put_at Op46 0 rfl (pt_cons hf7 pt_nil)) Tryd.underlying3 rfl) fun _ H96 => wl_ <| ig H96 (wg_ H96 rfl rfl rfl rfl) rfl (dd_cmp rfl (H96.ev 89 rfl) rfl (eq_t (by decide))) fun _ H97 => q_ H97 2 rfl fun _ H98 => wl_ <| ig H98 (wg_ H98 rfl rfl rfl rfl) rfl (dd_mv rfl (H98.ev 7 rfl)) fun _ H99 => ?_
  clear H90 H91 H92 H93 H94 H95 H96 H97
  refine wl_ <| ig H99 (wg_ H99 rfl rfl rfl rfl) rfl (dd_cmp rfl (H99.ev 93 rfl) rfl (eq_t (by decide))) fun _ H100 => q_ H100 2 rfl fun _ H101 => wl_ <| ig H101 (wg_ H101 rfl rfl rfl rfl) rfl (dd_mv rfl (H101.ev 9 rfl)) fun _ H102 => wl_ <| ig H102 (wg_ H102 rfl rfl rfl rfl) rfl (dd_cmp rfl (H102.ev 97 rfl) rfl (eq_t (by decide))) fun _ H103 => q_ H103 2 rfl fun _ H104 => wl_ <| ig H104 (wg_ H104 rfl rfl rfl rfl) rfl (dd_mv rfl (H104.ev 8 rfl)) fun _ H105 => wl_ <| ig H105 (wg_ H105 rfl rfl rfl rfl) rfl (v := .int .i64 1) (dd_len rfl (H105.ev 101 rfl) Tryd.underlying35) fun _ H106 => wl_ <| ig H106 (wg_ H106 rfl rfl rfl rfl) rfl (dd_cmp rfl (H106.ev 102 rfl) rfl (eq_t (by decide))) fun _ H107 => ?_
  clear H98 H99 H100 H101 H102 H103 H104 H105
  refine q_ H107 2 rfl fun _ H108 => wl_ <| ig H108 (wg_ H108 rfl rfl rfl rfl) rfl (dd_mv rfl (H108.ev 8 rfl)) fun _ H109 => wl_ <| ig H109 (wg_ H109 rfl rfl rfl rfl) rfl (xS 33 0 rfl (H109.ev 106 rfl) rfl) fun _ H110 => wl_ <| ig H110 (wg_ H110 rfl rfl rfl rfl) rfl (xf 1 1 rfl (H110.ev 107 rfl)) fun _ H111 => wl_ <| ig H111 (wg_ H111 rfl rfl rfl rfl) rfl (v := .agg (bs t0)) (dd_load HS81 3 1 rfl rfl (H111.ev 108 rfl) (put_dat Op67 0 rfl hl0 (pt_cons hl0 pt_nil)) Tryd.underlying23 rfl (by rw [show (bs t0).size = 32 from ((size_bs _).trans hl0)]; kernel_rfl)) fun _ H112 => ?_
  clear H106 H107 H108 H109 H110 H111
  refine wl_ <| dr_ H112 (wg_ H112 rfl rfl rfl rfl) rfl (R := fun v w9 => ∃ Av114 Cv114, v = .slice Av114 0 Cv114 ∧ Below W81.heap.size W81 w9) (dc_ Tryd.func11 rfl (args1 (H112.ev 109 rfl)) (volumes_any t0 W81 hl0) (fun _ w9 ⟨v9, B9, he, _, _, ho, hb⟩ => by obtain ⟨A9, n9, c9, rfl, h1, _⟩ := OV.form2 ho; rw [len_volL, hV0] at h1; obtain rfl : n9 = 0 := h1.symm; exact ⟨_, he, A9, c9, rfl, hb⟩)) ?_
  rintro _ W113 ⟨Av114, Cv114, rfl, hb113⟩ a113 H113
  have HS113 := HS81.same hb113
  clear H112
  clear HS81 hb113
  refine wl_ <| ig H113 (wg_ H113 rfl rfl rfl rfl) rfl (v := .int .i64 0) (dd_len rfl (H113.ev 110 rfl) Tryd.underlying33) fun _ H115 => wl_ <| ig H115 (wg_ H115 rfl rfl rfl rfl) rfl (dd_cmp rfl (H115.ev 111 rfl) rfl (eq_t (by decide))) fun _ H116 => q_ H116 2 rfl fun _ H117 => wl_ <| ig H117 (wg_ H117 rfl rfl rfl rfl) rfl (dd_mv rfl (H117.ev 11 rfl)) fun _ H118 => wl_ <| ig H118 (wg_ H118 rfl rfl rfl rfl) rfl (dd_cmp rfl (H118.ev 115 rfl) rfl (eq_t (by decide))) fun _ H119 => q_ H119 2 rfl fun _ H120 => wl_ <| ig H120 (wg_ H120 rfl rfl rfl rfl) rfl (dd_mv rfl (H120.ev 13 rfl)) fun _ H121 => wl_ <| ig H121 (wg_ H121 rfl rfl rfl rfl) rfl (dd_cmp rfl (H121.ev 119 rfl) rfl (eq_t (by decide))) fun _ H122 => ?_
  clear H113 H115 H116 H117 H118 H119 H120
  refine q_ H122 2 rfl fun _ H123 => wl_ <| ig H123 (wg_ H123 rfl rfl rfl rfl) rfl (dd_mv rfl (H123.ev 12 rfl)) fun _ H124 => wl_ <| ig H124 (wg_ H124 rfl rfl rfl rfl) rfl (dd_cmp rfl (H124.ev 123 rfl) rfl (eq_t (by decide))) fun _ H125 => q_ H125 2 rfl fun _ H126 => wl_ <| ig H126 (wg_ H126 rfl rfl rfl rfl) rfl (v := .agg (bs t1)) (dd_load HS113 1 0 rfl rfl (H126.ev 3 rfl) (slab_whole _) Tryd.underlying23 rfl (by rw [show (bs t1).size = 32 from ((size_bs _).trans hl1)]; kernel_rfl)) fun _ H127 => ?_
  clear H121 H122 H123 H124 H125 H126
  refine wl_ <| dr_ H127 (wg_ H127 rfl rfl rfl rfl) rfl (R := fun v w9 => ∃ Av129 Cv129, v = .slice Av129 1 Cv129 ∧ Below W113.heap.size W113 w9) (dc_ Tryd.func11 rfl (args1 (H127.ev 127 rfl)) (volumes_any t1 W113 hl1) (fun _ w9 ⟨v9, B9, he, _, _, ho, hb⟩ => by obtain ⟨A9, n9, c9, rfl, h1, _⟩ := OV.form2 ho; rw [len_volL, hV1] at h1; obtain rfl : n9 = 1 := h1.symm; exact ⟨_, he, A9, c9, rfl, hb⟩)) ?_
  rintro _ W128 ⟨Av129, Cv129, rfl, hb128⟩ a128 H128
  have HS128 := HS113.same hb128
  clear H127
  clear HS113 hb128
  refine wl_ <| ig H128 (wg_ H128 rfl rfl rfl rfl) rfl (v := .int .i64 1) (dd_len rfl (H128.ev 128 rfl) Tryd.underlying33) fun _ H130 => wl_ <| ig H130 (wg_ H130 rfl rfl rfl rfl) rfl (dd_cmp rfl (H130.ev 129 rfl) rfl (eq_t (by decide))) fun _ H131 => q_ H131 2 rfl fun _ H132 => ln_ <| ?_
  clear H128 H130 H131
  have H133 := H132.sel [0] rfl
  refine nx <| wp_ret <| ret_run H133.env0 (res_t Tryd.results7 (H133.get 0 rfl)) <| ?_
  clear H132
  exact ⟨rfl, HS128.below⟩
end Go.Proofs.YtlfliojadjgplaaDoor

/- The statement OpsTell: its walk. -/
set_option maxRecDepth 4000
namespace Go.Proofs.YtlfliojadjgplaaDoor
open Go Go.RowKit
theorem make_bnd (l : List Tv) (q : List (BitVec 8)) (n : Int) : ∀ y ∈ makeP l q n, y.2.length = 32 ∧ -9223372036854775808 ≤ y.1 ∧ y.1 < 9223372036854775808 := fun y hy => by
  unfold makeP at hy
  split at hy
  · rcases List.mem_append.1 hy with hy | hy
    · obtain ⟨b, hb, rfl⟩ := List.mem_map.1 hy
      exact ⟨length_zer 32, take_i64 l n b hb⟩
    · rw [List.mem_singleton] at hy
      subst hy
      exact ⟨length_encT _, by show (-9223372036854775808 : Int) ≤ 0; decide, by show (0 : Int) < 9223372036854775808; decide⟩
  · cases hy
end Go.Proofs.YtlfliojadjgplaaDoor

/- The statement OpsApart: its walk. -/
set_option maxRecDepth 4000
namespace Go.Proofs.YtlfliojadjgplaaDoor
open Go Go.RowKit
section
variable {l : List Tv} {i j x y : Nat} {p q d : List (BitVec 8)} {L M : List Int}
end
end Go.Proofs.YtlfliojadjgplaaDoor

/- The statement OpsMake: its walk. -/
set_option maxRecDepth 4000
namespace Go.Proofs.YtlfliojadjgplaaDoor
open Go Go.RowKit
theorem own_form0 {w : World} {b sz : Nat} {e : TypeId} {v : Value} {L : List Value} (h : w.ownsRow b e sz v ([] : List Pt).length L) : ∃ A c, v = .slice A 0 c := by
  obtain ⟨_, h | ⟨g, cap, cur, rfl, _⟩⟩ := h
  · exact ⟨none, 0, h.1⟩
  · exact ⟨_, _, rfl⟩
section
variable {l : List Tv} {q p : List (BitVec 8)} {N n : Nat} {L : List Int}
theorem make_last (hm : makeE l q (N : Int) = 0) (hT : (takeT l N).length = N) : (makeP l q (N : Int))[N]? = some (0, encT (makeL l q N)) := by
  rw [make_P hm, List.getElem?_append_right (by rw [List.length_map]; omega), List.length_map, hT, Nat.sub_self]; rfl
end
end Go.Proofs.YtlfliojadjgplaaDoor
