/- OpsFull, as its tied card: for every slice of bytes and byte the call returns true and changes nothing that it was handed. Conditions: those of the row (the tables of runes lie as the program's text lays them, which the card ties to the pruned copy). -/
import Derived.Test.YtlfliojadjgplaaDoorMAw2
import Derived.Test.YtlfliojadjgplaaDoorMGen0
import Derived.Test.YtlfliojadjgplaaDoorMNode0
/- The statement OpsFull: its walk. -/
set_option maxRecDepth 4000
namespace Go.Proofs.YtlfliojadjgplaaDoor
open Go Go.RowKit
set_option maxHeartbeats 1600000 in
theorem opfull_pos (b o n c : Nat) (q : List (BitVec 8)) (z : BitVec 8) (w : World) (hl : q.length = n) (h0 : BAt w b o q) (hn0 : 0 < n) : Calls Tryd.prog 6 #[.slice (some ⟨b, o, none⟩) n c, .int .u8 (bd z)] w fun e w' => e = .returned (.bool true) ∧ Below w.heap.size w w' := by
  have HS := St.nil w noF
  have HB : ∀ W, Below w.heap.size w W → BAt W b o q := fun W hb => h0.call hb
  refine enter_en Tryd.func6 rfl Tryd.ntmps6 (Nat.le_of_ble_eq_true rfl) fun a0 (HA0 : En 160 [(0, .slice (some ⟨b, o, none⟩) n c), (1, .int .u8 (bd z))] a0) => ?_
  refine sq_ <| rl_ <| wl_ <| p_ HA0 rfl rfl fun _ H1 => ln_ <| nx <| sq_ <| sq_ <| rl_ <| wl_ <| p_ H1 rfl rfl fun _ H2 => wl_ <| i_ H2 rfl (v := .int .i64 n) (dd_len rfl (H2.ev 19 rfl) Tryd.underlying60) fun _ H3 => ?_
  clear HA0 H1 H2
  by_cases hc5 : (12 : Int) < n
  ·
   refine wl_ <| i_ H3 rfl (dd_cmp rfl (H3.ev 20 rfl) rfl (gt_t hc5)) fun _ H6 => ln_ <| nx <| ct_ H6 rfl <| sq_ <| rl_ <| wl_ <| c_ H6 rfl HS (dcs Tryd.func7 rfl (args0 ) (opwakes_any w) (.bool true)) fun _ HS7 _ H7 => wl_ <| p_ H7 rfl rfl fun _ H8 => ln_ <| nx <| wp_ret <| tr <| ret_run H8.env0 (res_t Tryd.results6 (H8.get 4 rfl)) <| ?_
   clear H3 H6 HS H7
   exact ⟨rfl, HS7.below⟩
  refine wl_ <| i_ H3 rfl (dd_cmp rfl (H3.ev 20 rfl) rfl (gt_f hc5)) fun a9 H9 => ln_ <| nx <| cf_ H9 rfl <| wp_skip <| nx <| sq_ <| rl_ <| wl_ <| i_ H9 rfl (v := .agg (bs (zer 32))) (dd_bldk rfl (ps := []) (pr0) (cs := bs (zer 32)) (by kernel_rfl)) fun _ H10 => wl_ <| n_ H10 rfl (fun _ h => dd_new HS (bs (zer 32)) rfl (z := .agg (bs (zer 32))) (by kernel_rfl) rfl h) fun g5 _ HS11 _ H11 => wl_ <| t_ rfl (fun _ h => dd_setrow HS11 0 rfl rfl (H11.ev 5 rfl) (H11.ev 23 rfl) (by kernel_rfl) (((size_bs _).trans (length_zer 32)) : (bs (zer 32)).size = 32) (((size_bs _).trans (length_zer 32)) : (bs (zer 32)).size = 32) (one_bs _) h) fun _ HS12 => ln_ <| nx <| sq_ <| rl_ <| q_ H11 2 rfl fun _ H13 => ln_ <| nx <| sq_ <| sq_ <| rl_ <| wl_ <| p_ H13 rfl rfl fun _ H14 => ln_ <| nx <| wp_block <| ?_
  clear H3 H9 HS H10 HS11 H11 H13
  refine wp_loopG (ι := Nat) (fun j a9 w9 => ∃ M : List Tv, ∃ Qb : List (BitVec 8), ∃ mm : Nat, ∃ lf : Int, (j ≤ n) ∧ (goodT M = true) ∧ (decLT Qb = M) ∧ (Qb.length = 32) ∧ (M.length = mm) ∧ (lf = 11 - (sumT M : Int)) ∧ (nmOk M j) ∧ En 160 [(8, .int .i64 j), (7, .int .i64 lf), (6, .int .i64 mm), (5, .pointer (some ⟨g5, 0, none⟩)), (0, .slice (some ⟨b, o, none⟩) n c), (1, .int .u8 (bd z))] a9 ∧ St w noF [⟨g5, 23, bs Qb⟩] w9) (fun j => n - j) (0) ⟨([]), (zer 32), 0, 11, Nat.zero_le _, (by decide +kernel), wk_z2, (length_zer 32), rfl, (by decide), (fun x hx => by cases hx), H14.sel [1, 0, 5, 6, 7, 8] rfl, ss HS12 [0]⟩ ?_
  clear H14 HS12
  rintro j aL15 wL15 ⟨M, Qb, mm, lf, hj, hGM, hdM, hQb, hMl, hlf, hnm, HL15, HSL15⟩
  have hM3 := (goodT_parts hGM).1
  refine sq_ <| sq_ <| rl_ <| q_ HL15 2 rfl fun _ H16 => wl_ <| i_ H16 rfl (v := .int .i64 n) (dd_len rfl (H16.ev 25 rfl) Tryd.underlying60) fun _ H17 => ?_
  clear HL15 H16
  by_cases hc19 : (j : Int) < n
  ·
   refine wl_ <| i_ H17 rfl (dd_cmp rfl (H17.ev 24 rfl) (H17.ev 26 rfl) (lt_t hc19)) fun _ H20 => ln_ <| nx <| ct_ H20 rfl <| wp_skip <| nx <| sq_ <| wp_block <| sq_ <| rl_ <| q_ H20 2 rfl fun _ H21 => wl_ <| i_ H21 rfl (xSo 1 (o + j) rfl (H21.ev 30 rfl) (H21.ev 31 rfl)) fun _ H22 => wl_ <| i_ H22 rfl (dd_at rfl (H22.ev 32 rfl) ((HB _ HSL15.below).get j (by omega)) Tryd.underlying5 rfl) fun _ H23 => wl_ <| i_ H23 rfl (v := .int .i64 (bd (q.getD j 0#8))) (dd_conv (k := .i64) rfl (H23.ev 33 rfl) Tryd.underlying5 (by kernel_rfl) (i64_bdA _)) fun _ H24 => ?_
   clear H17 H20 H21 H22 H23
   obtain ⟨r1, hr1, lr1⟩ := mod_nat (bd (q.getD j 0#8)) 4 (bd_lo _) (by omega)
   refine wl_ <| i_ H24 rfl (v := .int .i64 r1) (dd_rem rfl (H24.ev 34 rfl) rfl (by omega) hr1) fun _ H25 => ?_
   clear H24
   obtain ⟨nn, hnn⟩ : ∃ nn : Nat, (1 : Int) + r1 = nn := ⟨1 + r1, by omega⟩
   refine wl_ <| i_ H25 rfl (v := .int .i64 nn) (dd_ari rfl rfl (H25.ev 35 rfl) rfl ((i64_of (by omega) (by omega)).trans hnn)) fun _ H26 => wl_ <| p_ H26 rfl rfl fun _ H27 => ln_ <| nx <| sq_ <| rl_ <| wl_ <| i_ H27 rfl (v := .agg (bs Qb)) (dd_load HSL15 0 0 rfl rfl (H27.ev 5 rfl) (slab_whole _) Tryd.underlying23 rfl (by rw [show (bs Qb).size = 32 from ((size_bs _).trans hQb)]; kernel_rfl)) fun _ H28 => wl_ <| p_ H28 rfl rfl fun _ H29 => wl_ <| i_ H29 rfl (v := .int .u8 (bd (byteI j))) (dd_conv (k := .u8) rfl (H29.ev 39 rfl) Tryd.underlying3 (by kernel_rfl) (wrap_u8_bd _)) fun _ H30 => wl_ <| i_ H30 rfl (v := .int .u8 (bd (nmB j))) (dd_ari rfl rfl (H30.ev 40 rfl) rfl (nmB_val ⟨j, by omega⟩)) fun _ H31 => wl_ <| n_ H31 rfl (fun _ h => dd_lits HSL15 #[.int .u8 (bd (nmB j))] rfl (ps := [(0, .int .u8 (bd (nmB j)))]) (pr1 (H31.ev 41 rfl) (pr0)) (z := .int .u8 0) (sz := 1) Tryd.underlying60 (by kernel_rfl) rfl rfl (by kernel_rfl) h) fun g42 W32 HS32 _ H32 => wl_ <| i_ H32 rfl (v := .string (strB ([(nmB j)]))) (dd_bts rfl (H32.ev 42 rfl) (slice_own (HS32.row 1 rfl) (⟨Nat.le_refl _, by decide, rfl, rfl, rfl⟩ : OwnC #[.int .u8 (bd (nmB j))] 1 1 1 (bytesV [(nmB j)])) (show ([(nmB j)] : List (BitVec 8)).length = 1 from rfl)) Tryd.underlying9) fun _ H33 => ?_
   clear H25 H26 H27 H28 H29 H30 HSL15 H31
   refine wl_ <| p_ H33 rfl rfl fun _ H34 => ?_
   clear H32 H33
   by_cases hc37 : (mm : Int) < 3
   ·
    by_cases hc40 : (nn : Int) ≤ lf
    ·
     have hm : makeE M [(nmB j)] nn = 0 := (make_E_full hGM (nmB_good ⟨j, by omega⟩) (nm_find hnm (by omega)) (by omega) (by omega)).trans (if_pos (by omega))
     have hT : (takeT M nn).length = nn := by have := (make_T hm).1; omega
     have hPl : (makeP M [(nmB j)] nn).length = nn + 1 := by rw [make_P hm, List.length_append, List.length_map, hT]; rfl
     refine wl_ <| d_ H34 rfl (R := fun v w9 => ∃ gp42 cp42 cbp42, v = .tuple #[.slice (some ⟨gp42, 0, none⟩) (nn + 1) cp42, .int .i64 0] ∧ (W32.heap.size ≤ gp42) ∧ (Row w9 gp42 51 cbp42) ∧ (OwnC cbp42 cp42 (nn + 1) 33 (((makeP M [(nmB j)] nn).map pcell).flatten)) ∧ Below W32.heap.size W32 w9) (dc_ Tryd.func16 rfl (args3 (H34.ev 38 rfl) (H34.ev 43 rfl) (H34.ev 44 rfl)) (make_any Qb [(nmB j)] nn W32 hQb (show 1 ≤ maxLen by decide)) (fun _ w9 ⟨v9, he, ho, hb⟩ => by rw [hdM] at he ho; rw [hm] at he; rw [hPl] at ho; obtain ⟨g9, c9, cb9, rfl, h1, h2, h3⟩ := ownc_pos ho (Nat.succ_pos _); exact ⟨_, he, g9, c9, cb9, rfl, h1, h2, h3, hb⟩)) ?_
     rintro _ W41 ⟨gp42, cp42, cbp42, rfl, hg42, hr42, Op42, hb41⟩ a41 H41
     have HS41 := HS32.same hb41
     clear H34
     have HS41j : St w noF [⟨g5, 23, bs Qb⟩, ⟨g42, 5, #[.int .u8 (bd (nmB j))]⟩, ⟨gp42, 51, cbp42⟩] W41 := HS32.joins hb41 hr42 hg42
     clear HS41 hr42 hg42
     clear HS32 hb41
     refine wl_ <| p_ H41 rfl rfl fun _ H43 => wl_ <| i_ H43 rfl (v := .slice (some ⟨gp42, 0, none⟩) (nn + 1) cp42) (dd_ext rfl (H43.ev 37 rfl) rfl) fun _ H44 => wl_ <| i_ H44 rfl (v := .int .i64 0) (dd_ext rfl (H44.ev 37 rfl) rfl) fun _ H45 => q_ H45 2 rfl fun _ H46 => ln_ <| ?_
     clear H41 H43 H44 H45
     have H47 := H46.sel [1, 0, 5, 6, 7, 8, 9, 10, 11] rfl
     refine nx <| sq_ <| sq_ <| rl_ <| wl_ <| p_ H47 rfl rfl fun _ H48 => wl_ <| i_ H48 rfl (dd_cmp rfl (H48.ev 48 rfl) rfl (eq_t (by decide))) fun _ H49 => wl_ <| p_ H49 rfl rfl fun _ H50 => wl_ <| i_ H50 rfl (dd_cmp rfl (H50.ev 50 rfl) rfl (lt_t hc37)) fun _ H51 => wl_ <| p_ H51 rfl rfl fun _ H52 => wl_ <| ig H52 (wg_ H52 rfl rfl rfl rfl) rfl (dd_mv rfl (H52.ev 9 rfl)) fun _ H53 => wl_ <| ig H53 (wg_ H53 rfl rfl rfl rfl) rfl (dd_mv rfl (H53.ev 7 rfl)) fun _ H54 => wl_ <| ig H54 (wg_ H54 rfl rfl rfl rfl) rfl (dd_cmp rfl (H54.ev 53 rfl) (H54.ev 54 rfl) (le_t hc40)) fun _ H55 => ?_
     clear H46 H47 H48 H49 H50 H51 H52 H53
     refine wl_ <| p_ H55 rfl rfl fun _ H56 => wl_ <| i_ H56 rfl (v := .bool false) (dd_neb rfl (H56.ev 49 rfl) (H56.ev 56 rfl) Tryd.underlying4 rfl) fun _ H57 => wl_ <| p_ H57 rfl rfl fun _ H58 => wl_ <| ig H58 (wg_ H58 rfl rfl rfl rfl) rfl (dd_mv rfl (H58.ev 11 rfl)) fun _ H59 => wl_ <| ig H59 (wg_ H59 rfl rfl rfl rfl) rfl (dd_cmp rfl (H59.ev 59 rfl) rfl (ne_f (by decide))) fun _ H60 => wl_ <| ig H60 (wg_ H60 rfl rfl rfl rfl) rfl (dd_mv rfl (H60.ev 60 rfl)) fun _ H61 => wl_ <| k_ H61 (wg_ H61 rfl rfl rfl rfl) rfl fun _ H62 => wl_ <| k_ H62 (wg_ H62 rfl rfl rfl rfl) rfl fun _ H63 => ?_
     clear H54 H55 H56 H57 H58 H59 H60 H61
     refine wl_ <| ig H63 (wg_ H63 rfl rfl rfl rfl) rfl (dd_pickF rfl (H63.ev 61 rfl) rfl) fun _ H64 => wl_ <| p_ H64 rfl rfl fun _ H65 => ln_ <| ?_
     clear H62 H63 H64
     have H66 := H65.sel [1, 0, 5, 6, 7, 8, 9, 10, 11, 65] rfl
     refine nx <| cf_ H66 rfl <| wp_skip <| nx <| sq_ <| sq_ <| rl_ <| wl_ <| p_ H66 rfl rfl fun _ H67 => wl_ <| i_ H67 rfl (dd_cmp rfl (H67.ev 66 rfl) rfl (eq_t (by decide))) fun _ H68 => ln_ <| nx <| ct_ H68 rfl <| sq_ <| sq_ <| rl_ <| wl_ <| p_ H68 rfl rfl fun _ H69 => wl_ <| i_ H69 rfl (v := .int .i64 (nn + 1)) (dd_len rfl (H69.ev 68 rfl) Tryd.underlying35) fun _ H70 => wl_ <| p_ H70 rfl rfl fun _ H71 => wl_ <| i_ H71 rfl (v := .int .i64 (nn + 1)) (dd_ari rfl (H71.ev 70 rfl) rfl rfl (i64_of (by first | omega | (have := bd_lo; omega)) (by omega))) fun _ H72 => wl_ <| i_ H72 rfl (dd_cmp rfl (H72.ev 69 rfl) (H72.ev 71 rfl) (ne_f rfl)) fun _ H73 => ln_ <| nx <| cf_ H73 rfl <| wp_skip <| nx <| sq_ <| rl_ <| q_ H73 2 rfl fun _ H74 => ?_
     clear H65 H66 H67 H68 H69 H70 H71 H72
     refine wl_ <| i_ H74 rfl (xSo 33 (nn * 33) rfl (H74.ev 73 rfl) (H74.ev 74 rfl)) fun _ H75 => wl_ <| i_ H75 rfl (xf 1 (nn * 33 + 1) rfl (H75.ev 75 rfl)) fun _ H76 => wl_ <| i_ H76 rfl (v := .agg (bs (encT (makeL (M) [(nmB j)] nn)))) (dd_loadR (HS41j.row 2 rfl) rfl (H76.ev 76 rfl) (put_dat Op42 nn (make_last hm hT) (length_encT _) (fun x hx => (make_bnd M [(nmB j)] nn x hx).1)) Tryd.underlying23 rfl (by rw [show (bs (encT (makeL (M) [(nmB j)] nn))).size = 32 from ((size_bs _).trans (length_encT _))]; kernel_rfl)) fun _ H77 => wl_ <| t_ rfl (fun _ h => dd_setrow HS41j 0 rfl rfl (H77.ev 5 rfl) (H77.ev 77 rfl) (by kernel_rfl) (((size_bs _).trans (length_encT _)) : (bs (encT (makeL (M) [(nmB j)] nn))).size = 32) (((size_bs _).trans hQb) : (bs Qb).size = 32) (one_bs _) h) fun W78 HS78 => ln_ <| nx <| rl_ <| wl_ <| p_ H77 rfl rfl fun _ H79 => wl_ <| i_ H79 rfl (v := .int .i64 (mm + 1)) (dd_ari rfl (H79.ev 78 rfl) rfl rfl (i64_of (by first | omega | (have := bd_lo; omega)) (by omega))) fun _ H80 => q_ H80 2 rfl fun _ H81 => wl_ <| i_ H81 rfl (v := .int .i64 (lf - nn)) (dd_ari rfl (H81.ev 80 rfl) (H81.ev 81 rfl) rfl (i64_of (by first | omega | (have := bd_lo; omega)) (by omega))) fun _ H82 => ?_
     clear H73 H74 H75 H76 HS41j H77 H79 H80
     refine q_ H82 2 rfl fun _ H83 => ln_ <| ?_
     clear H81 H82
     have H84 := H83.sel [1, 0, 5, 8, 6, 7] rfl
     refine nx <| sq_ <| rl_ <| wl_ <| i_ H84 rfl (v := .agg (bs (encT (makeL (M) [(nmB j)] nn)))) (dd_load HS78 0 0 rfl rfl (H84.ev 5 rfl) (slab_whole _) Tryd.underlying23 rfl (by rw [show (bs (encT (makeL (M) [(nmB j)] nn))).size = 32 from ((size_bs _).trans (length_encT _))]; kernel_rfl)) fun _ H85 => ?_
     clear H83 H84
     refine wl_ <| d_ H85 rfl (R := fun v w9 => ∃ Av87 Cv87, v = .slice Av87 (mm + 1) Cv87 ∧ Below W78.heap.size W78 w9) (dc_ Tryd.func11 rfl (args1 (H85.ev 83 rfl)) (volumes_any (encT (makeL (M) [(nmB j)] nn)) W78 (length_encT _)) (fun _ w9 ⟨v9, B9, he, _, _, ho, hb⟩ => by obtain ⟨A9, n9, c9, rfl, h1, _⟩ := OV.form2 ho; rw [len_volL, ((by rw [(tab_back (make_good hGM hm)).1]; unfold makeL; rw [List.length_append, hMl]; rfl) : (decLT (encT (makeL (M) [(nmB j)] nn))).length = mm + 1)] at h1; obtain rfl : n9 = mm + 1 := h1.symm; exact ⟨_, he, A9, c9, rfl, hb⟩)) ?_
     rintro _ W86 ⟨Av87, Cv87, rfl, hb86⟩ a86 H86
     have HS86 := HS78.same hb86
     clear H85
     clear HS78 hb86
     refine wl_ <| p_ H86 rfl rfl fun _ H88 => ln_ <| nx <| sq_ <| rl_ <| wl_ <| p_ H88 rfl rfl fun _ H89 => wl_ <| i_ H89 rfl (v := .int .i64 (mm + 1)) (dd_len rfl (H89.ev 85 rfl) Tryd.underlying33) fun _ H90 => wl_ <| p_ H90 rfl rfl fun _ H91 => wl_ <| i_ H91 rfl (dd_cmp rfl (H91.ev 86 rfl) (H91.ev 87 rfl) (ne_f rfl)) fun _ H92 => ln_ <| nx <| cf_ H92 rfl <| wp_skip <| bn <| nx <| rl_ <| wl_ <| p_ H92 rfl rfl fun _ H93 => wl_ <| i_ H93 rfl (v := .int .i64 (j + 1)) (dd_ari rfl (H93.ev 28 rfl) rfl rfl (i64_of (by first | omega | (have := bd_lo; omega)) (by omega))) fun _ H94 => wl_ <| p_ H94 rfl rfl fun _ H95 => ?_
     clear H86 H88 H89 H90 H91 H92 H93
     refine ln_ <| ?_
     clear H94
     refine nx ⟨j + 1, ⟨(makeL M [(nmB j)] nn), (encT (makeL M [(nmB j)] nn)), (mm + 1), (lf - nn), (by omega), (make_good hGM hm), (tab_back (make_good hGM hm)).1, (length_encT _), (by unfold makeL; rw [List.length_append, hMl]; rfl), (by rw [sumT_make hm]; omega), (nm_make hnm), H95.sel [1, 0, 5, 6, 7, 8] rfl, ss HS86 [0]⟩, (by omega)⟩
    refine wl_ <| d_ H34 rfl (R := fun v w9 => ∃ Ap97 cp97, v = .tuple #[.slice Ap97 0 cp97, .int .i64 18] ∧ Below W32.heap.size W32 w9) (dc_ Tryd.func16 rfl (args3 (H34.ev 38 rfl) (H34.ev 43 rfl) (H34.ev 44 rfl)) (make_any Qb [(nmB j)] nn W32 hQb (show 1 ≤ maxLen by decide)) (fun _ w9 ⟨v9, he, ho, hb⟩ => by have h8 : makeE M [(nmB j)] nn = 18 := (make_E_full hGM (nmB_good ⟨j, by omega⟩) (nm_find hnm (by omega)) (by omega) (by omega)).trans (if_neg (by omega)); rw [hdM] at he ho; rw [h8] at he; rw [make_P0 (by rw [h8]; decide)] at ho; obtain ⟨A9, c9, rfl⟩ := own_form0 ho; exact ⟨_, he, A9, c9, rfl, hb⟩)) ?_
    rintro _ W96 ⟨Ap97, cp97, rfl, hb96⟩ a96 H96
    have HS96 := HS32.same hb96
    clear H34
    clear HS32 hb96
    refine wl_ <| p_ H96 rfl rfl fun _ H98 => wl_ <| i_ H98 rfl (v := .slice Ap97 0 cp97) (dd_ext rfl (H98.ev 37 rfl) rfl) fun _ H99 => wl_ <| i_ H99 rfl (v := .int .i64 18) (dd_ext rfl (H99.ev 37 rfl) rfl) fun _ H100 => q_ H100 2 rfl fun _ H101 => ln_ <| ?_
    clear H96 H98 H99 H100
    have H102 := H101.sel [1, 0, 5, 6, 7, 8, 9, 10, 11] rfl
    refine nx <| sq_ <| sq_ <| rl_ <| wl_ <| p_ H102 rfl rfl fun _ H103 => wl_ <| i_ H103 rfl (dd_cmp rfl (H103.ev 48 rfl) rfl (eq_f (by decide))) fun _ H104 => wl_ <| p_ H104 rfl rfl fun _ H105 => wl_ <| i_ H105 rfl (dd_cmp rfl (H105.ev 50 rfl) rfl (lt_t hc37)) fun _ H106 => wl_ <| p_ H106 rfl rfl fun _ H107 => wl_ <| ig H107 (wg_ H107 rfl rfl rfl rfl) rfl (dd_mv rfl (H107.ev 9 rfl)) fun _ H108 => wl_ <| ig H108 (wg_ H108 rfl rfl rfl rfl) rfl (dd_mv rfl (H108.ev 7 rfl)) fun _ H109 => wl_ <| ig H109 (wg_ H109 rfl rfl rfl rfl) rfl (dd_cmp rfl (H109.ev 53 rfl) (H109.ev 54 rfl) (le_f hc40)) fun _ H110 => ?_
    clear H101 H102 H103 H104 H105 H106 H107 H108
    refine wl_ <| p_ H110 rfl rfl fun _ H111 => wl_ <| i_ H111 rfl (v := .bool false) (dd_neb rfl (H111.ev 49 rfl) (H111.ev 56 rfl) Tryd.underlying4 rfl) fun _ H112 => wl_ <| p_ H112 rfl rfl fun _ H113 => wl_ <| ig H113 (wg_ H113 rfl rfl rfl rfl) rfl (dd_mv rfl (H113.ev 11 rfl)) fun _ H114 => wl_ <| ig H114 (wg_ H114 rfl rfl rfl rfl) rfl (dd_cmp rfl (H114.ev 59 rfl) rfl (ne_t (by decide))) fun _ H115 => wl_ <| ig H115 (wg_ H115 rfl rfl rfl rfl) rfl (dd_mv rfl (H115.ev 60 rfl)) fun _ H116 => wl_ <| ig H116 (wg_ H116 rfl rfl rfl rfl) rfl (dd_mv rfl (H116.ev 11 rfl)) fun _ H117 => wl_ <| ig H117 (wg_ H117 rfl rfl rfl rfl) rfl (dd_cmp rfl (H117.ev 62 rfl) rfl (ne_f (by decide))) fun _ H118 => ?_
    clear H109 H110 H111 H112 H113 H114 H115 H116
    refine wl_ <| ig H118 (wg_ H118 rfl rfl rfl rfl) rfl (dd_pickT rfl (H118.ev 61 rfl) (H118.ev 63 rfl)) fun _ H119 => wl_ <| p_ H119 rfl rfl fun _ H120 => ln_ <| ?_
    clear H117 H118 H119
    have H121 := H120.sel [1, 0, 5, 6, 7, 8, 9, 10, 11, 65] rfl
    refine nx <| cf_ H121 rfl <| wp_skip <| nx <| sq_ <| sq_ <| rl_ <| wl_ <| p_ H121 rfl rfl fun _ H122 => wl_ <| i_ H122 rfl (dd_cmp rfl (H122.ev 66 rfl) rfl (eq_f (by decide))) fun _ H123 => ln_ <| nx <| cf_ H123 rfl <| wp_skip <| nx <| sq_ <| rl_ <| wl_ <| i_ H123 rfl (v := .agg (bs Qb)) (dd_load HS96 0 0 rfl rfl (H123.ev 5 rfl) (slab_whole _) Tryd.underlying23 rfl (by rw [show (bs Qb).size = 32 from ((size_bs _).trans hQb)]; kernel_rfl)) fun _ H124 => ?_
    clear H120 H121 H122 H123
    refine wl_ <| d_ H124 rfl (R := fun v w9 => ∃ Av126 Cv126, v = .slice Av126 mm Cv126 ∧ Below W96.heap.size W96 w9) (dc_ Tryd.func11 rfl (args1 (H124.ev 83 rfl)) (volumes_any Qb W96 hQb) (fun _ w9 ⟨v9, B9, he, _, _, ho, hb⟩ => by obtain ⟨A9, n9, c9, rfl, h1, _⟩ := OV.form2 ho; rw [len_volL, ((by rw [hdM]; exact hMl) : (decLT Qb).length = mm)] at h1; obtain rfl : n9 = mm := h1.symm; exact ⟨_, he, A9, c9, rfl, hb⟩)) ?_
    rintro _ W125 ⟨Av126, Cv126, rfl, hb125⟩ a125 H125
    have HS125 := HS96.same hb125
    clear H124
    clear HS96 hb125
    refine wl_ <| p_ H125 rfl rfl fun _ H127 => ln_ <| nx <| sq_ <| rl_ <| wl_ <| p_ H127 rfl rfl fun _ H128 => wl_ <| i_ H128 rfl (v := .int .i64 mm) (dd_len rfl (H128.ev 85 rfl) Tryd.underlying33) fun _ H129 => wl_ <| p_ H129 rfl rfl fun _ H130 => wl_ <| i_ H130 rfl (dd_cmp rfl (H130.ev 86 rfl) (H130.ev 87 rfl) (ne_f rfl)) fun _ H131 => ln_ <| nx <| cf_ H131 rfl <| wp_skip <| bn <| nx <| rl_ <| wl_ <| p_ H131 rfl rfl fun _ H132 => wl_ <| i_ H132 rfl (v := .int .i64 (j + 1)) (dd_ari rfl (H132.ev 28 rfl) rfl rfl (i64_of (by first | omega | (have := bd_lo; omega)) (by omega))) fun _ H133 => wl_ <| p_ H133 rfl rfl fun _ H134 => ?_
    clear H125 H127 H128 H129 H130 H131 H132
    refine ln_ <| ?_
    clear H133
    refine nx ⟨j + 1, ⟨M, Qb, mm, lf, (by omega), hGM, hdM, hQb, hMl, hlf, (nm_more hnm), H134.sel [1, 0, 5, 6, 7, 8] rfl, ss HS125 [0]⟩, (by omega)⟩
   refine wl_ <| d_ H34 rfl (R := fun v w9 => ∃ Ap136 cp136, v = .tuple #[.slice Ap136 0 cp136, .int .i64 18] ∧ Below W32.heap.size W32 w9) (dc_ Tryd.func16 rfl (args3 (H34.ev 38 rfl) (H34.ev 43 rfl) (H34.ev 44 rfl)) (make_any Qb [(nmB j)] nn W32 hQb (show 1 ≤ maxLen by decide)) (fun _ w9 ⟨v9, he, ho, hb⟩ => by have h8 : makeE M [(nmB j)] nn = 18 := (make_E_full hGM (nmB_good ⟨j, by omega⟩) (nm_find hnm (by omega)) (by omega) (by omega)).trans (if_neg (by omega)); rw [hdM] at he ho; rw [h8] at he; rw [make_P0 (by rw [h8]; decide)] at ho; obtain ⟨A9, c9, rfl⟩ := own_form0 ho; exact ⟨_, he, A9, c9, rfl, hb⟩)) ?_
   rintro _ W135 ⟨Ap136, cp136, rfl, hb135⟩ a135 H135
   have HS135 := HS32.same hb135
   clear H34
   clear HS32 hb135
   refine wl_ <| p_ H135 rfl rfl fun _ H137 => wl_ <| i_ H137 rfl (v := .slice Ap136 0 cp136) (dd_ext rfl (H137.ev 37 rfl) rfl) fun _ H138 => wl_ <| i_ H138 rfl (v := .int .i64 18) (dd_ext rfl (H138.ev 37 rfl) rfl) fun _ H139 => q_ H139 2 rfl fun _ H140 => ln_ <| ?_
   clear H135 H137 H138 H139
   have H141 := H140.sel [1, 0, 5, 6, 7, 8, 9, 10, 11] rfl
   refine nx <| sq_ <| sq_ <| rl_ <| wl_ <| p_ H141 rfl rfl fun _ H142 => wl_ <| i_ H142 rfl (dd_cmp rfl (H142.ev 48 rfl) rfl (eq_f (by decide))) fun _ H143 => wl_ <| p_ H143 rfl rfl fun _ H144 => wl_ <| i_ H144 rfl (dd_cmp rfl (H144.ev 50 rfl) rfl (lt_f hc37)) fun _ H145 => wl_ <| p_ H145 rfl rfl fun _ H146 => wl_ <| k_ H146 (wg_ H146 rfl rfl rfl rfl) rfl fun _ H147 => wl_ <| k_ H147 (wg_ H147 rfl rfl rfl rfl) rfl fun _ H148 => wl_ <| k_ H148 (wg_ H148 rfl rfl rfl rfl) rfl fun _ H149 => ?_
   clear H140 H141 H142 H143 H144 H145 H146 H147
   refine wl_ <| p_ H149 rfl rfl fun _ H150 => wl_ <| i_ H150 rfl (v := .bool false) (dd_neb rfl (H150.ev 49 rfl) (H150.ev 56 rfl) Tryd.underlying4 rfl) fun _ H151 => wl_ <| p_ H151 rfl rfl fun _ H152 => wl_ <| ig H152 (wg_ H152 rfl rfl rfl rfl) rfl (dd_mv rfl (H152.ev 11 rfl)) fun _ H153 => wl_ <| ig H153 (wg_ H153 rfl rfl rfl rfl) rfl (dd_cmp rfl (H153.ev 59 rfl) rfl (ne_t (by decide))) fun _ H154 => wl_ <| ig H154 (wg_ H154 rfl rfl rfl rfl) rfl (dd_mv rfl (H154.ev 60 rfl)) fun _ H155 => wl_ <| ig H155 (wg_ H155 rfl rfl rfl rfl) rfl (dd_mv rfl (H155.ev 11 rfl)) fun _ H156 => wl_ <| ig H156 (wg_ H156 rfl rfl rfl rfl) rfl (dd_cmp rfl (H156.ev 62 rfl) rfl (ne_f (by decide))) fun _ H157 => ?_
   clear H148 H149 H150 H151 H152 H153 H154 H155
   refine wl_ <| ig H157 (wg_ H157 rfl rfl rfl rfl) rfl (dd_pickT rfl (H157.ev 61 rfl) (H157.ev 63 rfl)) fun _ H158 => wl_ <| p_ H158 rfl rfl fun _ H159 => ln_ <| ?_
   clear H156 H157 H158
   have H160 := H159.sel [1, 0, 5, 6, 7, 8, 9, 10, 11, 65] rfl
   refine nx <| cf_ H160 rfl <| wp_skip <| nx <| sq_ <| sq_ <| rl_ <| wl_ <| p_ H160 rfl rfl fun _ H161 => wl_ <| i_ H161 rfl (dd_cmp rfl (H161.ev 66 rfl) rfl (eq_f (by decide))) fun _ H162 => ln_ <| nx <| cf_ H162 rfl <| wp_skip <| nx <| sq_ <| rl_ <| wl_ <| i_ H162 rfl (v := .agg (bs Qb)) (dd_load HS135 0 0 rfl rfl (H162.ev 5 rfl) (slab_whole _) Tryd.underlying23 rfl (by rw [show (bs Qb).size = 32 from ((size_bs _).trans hQb)]; kernel_rfl)) fun _ H163 => ?_
   clear H159 H160 H161 H162
   refine wl_ <| d_ H163 rfl (R := fun v w9 => ∃ Av165 Cv165, v = .slice Av165 mm Cv165 ∧ Below W135.heap.size W135 w9) (dc_ Tryd.func11 rfl (args1 (H163.ev 83 rfl)) (volumes_any Qb W135 hQb) (fun _ w9 ⟨v9, B9, he, _, _, ho, hb⟩ => by obtain ⟨A9, n9, c9, rfl, h1, _⟩ := OV.form2 ho; rw [len_volL, ((by rw [hdM]; exact hMl) : (decLT Qb).length = mm)] at h1; obtain rfl : n9 = mm := h1.symm; exact ⟨_, he, A9, c9, rfl, hb⟩)) ?_
   rintro _ W164 ⟨Av165, Cv165, rfl, hb164⟩ a164 H164
   have HS164 := HS135.same hb164
   clear H163
   clear HS135 hb164
   refine wl_ <| p_ H164 rfl rfl fun _ H166 => ln_ <| nx <| sq_ <| rl_ <| wl_ <| p_ H166 rfl rfl fun _ H167 => wl_ <| i_ H167 rfl (v := .int .i64 mm) (dd_len rfl (H167.ev 85 rfl) Tryd.underlying33) fun _ H168 => wl_ <| p_ H168 rfl rfl fun _ H169 => wl_ <| i_ H169 rfl (dd_cmp rfl (H169.ev 86 rfl) (H169.ev 87 rfl) (ne_f rfl)) fun _ H170 => ln_ <| nx <| cf_ H170 rfl <| wp_skip <| bn <| nx <| rl_ <| wl_ <| p_ H170 rfl rfl fun _ H171 => wl_ <| i_ H171 rfl (v := .int .i64 (j + 1)) (dd_ari rfl (H171.ev 28 rfl) rfl rfl (i64_of (by first | omega | (have := bd_lo; omega)) (by omega))) fun _ H172 => wl_ <| p_ H172 rfl rfl fun _ H173 => ?_
   clear H164 H166 H167 H168 H169 H170 H171
   refine ln_ <| ?_
   clear H172
   refine nx ⟨j + 1, ⟨M, Qb, mm, lf, (by omega), hGM, hdM, hQb, hMl, hlf, (nm_more hnm), H173.sel [1, 0, 5, 6, 7, 8] rfl, ss HS164 [0]⟩, (by omega)⟩
  refine wl_ <| i_ H17 rfl (dd_cmp rfl (H17.ev 24 rfl) (H17.ev 26 rfl) (lt_f hc19)) fun _ H174 => ln_ <| nx <| cf_ H174 rfl <| wp_exit <| tx <| tx <| bx <| nx <| sq_ <| rl_ <| wl_ <| i_ H174 rfl (v := .agg (bs Qb)) (dd_load HSL15 0 0 rfl rfl (H174.ev 5 rfl) (slab_whole _) Tryd.underlying23 rfl (by rw [show (bs Qb).size = 32 from ((size_bs _).trans hQb)]; kernel_rfl)) fun _ H175 => ?_
  clear H17 H174
  by_cases hc178 : (mm : Int) = 0
  ·
   refine wl_ <| d_ H175 rfl (R := fun v w9 => ∃ Av180 Cv180, v = .slice Av180 0 Cv180 ∧ Below wL15.heap.size wL15 w9) (dc_ Tryd.func11 rfl (args1 (H175.ev 89 rfl)) (volumes_any Qb wL15 hQb) (fun _ w9 ⟨v9, B9, he, _, _, ho, hb⟩ => by obtain ⟨A9, n9, c9, rfl, h1, _⟩ := OV.form2 ho; rw [len_volL, (by rw [hdM]; omega : (decLT Qb).length = 0)] at h1; obtain rfl : n9 = 0 := h1.symm; exact ⟨_, he, A9, c9, rfl, hb⟩)) ?_
   rintro _ W179 ⟨Av180, Cv180, rfl, hb179⟩ a179 H179
   have HS179 := HSL15.same hb179
   clear H175
   clear HSL15 hb179
   refine wl_ <| p_ H179 rfl rfl fun _ H181 => ln_ <| nx <| sq_ <| sq_ <| rl_ <| wl_ <| p_ H181 rfl rfl fun _ H182 => wl_ <| i_ H182 rfl (v := .int .i64 0) (dd_len rfl (H182.ev 91 rfl) Tryd.underlying33) fun _ H183 => wl_ <| i_ H183 rfl (dd_cmp rfl (H183.ev 92 rfl) rfl (eq_t (by decide))) fun _ H184 => ln_ <| nx <| ct_ H184 rfl <| sq_ <| rl_ <| wl_ <| c_ H184 rfl HS179 (dcs Tryd.func7 rfl (args0 ) (opwakes_any W179) (.bool true)) fun _ HS185 _ H185 => wl_ <| p_ H185 rfl rfl fun _ H186 => ln_ <| ?_
   clear H179 H181 H182 H183 H184 HS179 H185
   have H187 := H186.sel [4] rfl
   refine nx <| wp_ret <| tr <| ret_run H187.env0 (res_t Tryd.results6 (H187.get 4 rfl)) <| ?_
   clear H186
   exact ⟨rfl, HS185.below⟩
  refine wl_ <| d_ H175 rfl (R := fun v w9 => ∃ bv ov cv, v = .slice (some ⟨bv, ov, none⟩) mm cv ∧ (mm ≤ cv) ∧ (VolsAt w9 (.slice (some ⟨bv, ov, none⟩) mm cv) (volL M)) ∧ Below wL15.heap.size wL15 w9) (dc_ Tryd.func11 rfl (args1 (H175.ev 89 rfl)) (volumes_any Qb wL15 hQb) (fun _ w9 ⟨v9, B9, he, _, _, ho, hb⟩ => by rw [hdM] at ho; obtain ⟨A9, n9, c9, rfl, h1, h2⟩ := OV.form2 ho; obtain rfl : mm = n9 := (by rw [← h1, len_volL]; exact hMl.symm); have h3 := ho.vols (by rw [len_volL, hMl]; exact Nat.le_trans (show mm ≤ 3 by omega) (by decide)); obtain ⟨b9, o9, rfl⟩ := vols_some h3 (by omega); exact ⟨_, he, b9, o9, c9, rfl, h2, h3, hb⟩)) ?_
  rintro _ W188 ⟨bv, ov, cv, rfl, hnv, hvv, hb188⟩ a188 H188
  have HS188 := HSL15.same hb188
  clear H175
  have HBs190 : Below w.heap.size w W188 := HS188.below
  have HBr := fun (W9 : World) (hb9 : Below W188.heap.size W188 W9) => HB W9 (HBs190.trans (hb9.mono HBs190.size))
  clear HB
  have HB := HBr
  clear HBr
  have HR190_0 := fun (W9 : World) (hb9 : Below W188.heap.size W188 W9) => (HS188.row 0 rfl).call hb9
  have HSb190 := St.nil W188 noF
  clear HS188
  have HVv := fun (W9 : World) (hb9 : Below W188.heap.size W188 W9) => hvv.below hb9 (Nat.le_refl _)
  clear HSL15 hb188
  refine wl_ <| p_ H188 rfl rfl fun _ H191 => ln_ <| nx <| sq_ <| sq_ <| rl_ <| wl_ <| p_ H191 rfl rfl fun _ H192 => wl_ <| i_ H192 rfl (v := .int .i64 mm) (dd_len rfl (H192.ev 91 rfl) Tryd.underlying33) fun _ H193 => wl_ <| i_ H193 rfl (dd_cmp rfl (H193.ev 92 rfl) rfl (eq_f hc178)) fun _ H194 => ln_ <| nx <| cf_ H194 rfl <| wp_skip <| nx <| sq_ <| rl_ <| q_ H194 2 rfl fun _ H195 => wl_ <| i_ H195 rfl (v := .int .i64 (bd z)) (dd_conv (k := .i64) rfl (H195.ev 96 rfl) Tryd.underlying5 (by kernel_rfl) (i64_bdA _)) fun _ H196 => wl_ <| p_ H196 rfl rfl fun _ H197 => wl_ <| i_ H197 rfl (v := .int .i64 mm) (dd_len rfl (H197.ev 98 rfl) Tryd.underlying33) fun _ H198 => ?_
  clear H188 H191 H192 H193 H194 H195 H196
  clear H197
  obtain ⟨r2, hr2, lr2⟩ := mod_nat (bd z) mm (bd_lo _) (by omega)
  refine wl_ <| i_ H198 rfl (v := .int .i64 r2) (dd_rem rfl (H198.ev 97 rfl) (H198.ev 99 rfl) (by omega) hr2) fun _ H199 => wl_ <| i_ H199 rfl (xSo 2 (ov + r2 * 2) rfl (H199.ev 95 rfl) (H199.ev 100 rfl)) fun _ H200 => ?_
  clear H198 H199
  obtain ⟨p202, L202, B202, m202, c202, hg202, hr202, hm202, hp202⟩ := vols_getC (HVv _ (Below.refl _ _)) (k := r2) (by omega)
  refine wl_ <| i_ H200 rfl (v := .agg #[.string (strB p202), .slice B202 m202 c202]) (dd_atN rfl (H200.ev 101 rfl) (hr202 _ HSb190.below).1 Tryd.underlying56 rfl (by kernel_rfl)) fun _ H201 => wl_ <| n_ H201 rfl (fun _ h => dd_new HSb190 #[.string (⟨#[]⟩), .slice none 0 0] rfl (z := .agg #[.string (⟨#[]⟩), .slice none 0 0]) (by kernel_rfl) rfl h) fun g14 _ HS203 _ H203 => wl_ <| t_ rfl (fun _ h => dd_setrow HS203 0 rfl rfl (H203.ev 14 rfl) (H203.ev 102 rfl) (by kernel_rfl) (rfl : #[.string (strB p202), .slice B202 m202 c202].size = 2) (rfl : #[.string (⟨#[]⟩), .slice none 0 0].size = 2) (one_l (ao_cons rfl (ao_cons rfl ao_nil))) h) fun W204 HS204 => ln_ <| ?_
  clear H200 HSb190 H201 HS203
  have H205 := H203.sel [5, 6, 14] rfl
  refine nx <| sq_ <| rl_ <| wl_ <| i_ H205 rfl (v := .agg (bs Qb)) (dd_loadR (HR190_0 _ HS204.below) rfl (H205.ev 5 rfl) (slab_whole _) Tryd.underlying23 rfl (by rw [show (bs Qb).size = 32 from ((size_bs _).trans hQb)]; kernel_rfl)) fun _ H206 => wl_ <| i_ H206 rfl (xf 0 0 rfl (H206.ev 14 rfl)) fun _ H207 => wl_ <| i_ H207 rfl (dd_get HS204 0 0 rfl rfl (H207.ev 105 rfl) rfl Tryd.underlying9 rfl) fun _ H208 => ?_
  clear H203 H205 H206 H207
  have hf2 : findI p202 M = _ := find_good hGM hg202
  have hG2 : goodT (goneL M p202) = true := by rw [goneL_is hf2]; exact erase_good hGM hg202
  have hS2 : (sumT (goneL M p202) : Int) = sumT M - (m202 : Int) := by rw [goneL_is hf2, erase_sum hg202, hm202]
  obtain ⟨_, hx1, hx4⟩ := goodT_each hGM (List.mem_of_getElem? hg202)
  simp only [hm202] at hx1 hx4
  obtain ⟨mp, hmp⟩ : ∃ mp, mm = mp + 1 := ⟨mm - 1, by omega⟩
  have hgl : (goneL M p202).length = mp := by rw [goneL_is hf2, List.length_eraseIdx_of_lt (by omega)]; omega
  have hlo := free_left hGM
  have hm2 : makeE (goneL M p202) [110#8, 101#8, 119#8] m202 = 0 := (make_E_full hG2 (by decide +kernel) (nm_new (by rw [goneL_is hf2]; exact nm_erase hnm)) (by omega) (by omega)).trans (if_pos (by omega))
  have hT2 : (takeT (goneL M p202) m202).length = m202 := by have := (make_T hm2).1; omega
  have hPl2 : (makeP (goneL M p202) [110#8, 101#8, 119#8] m202).length = m202 + 1 := by rw [make_P hm2, List.length_append, List.length_map, hT2]; rfl
  have hgE : goneE (decLT Qb) p202 = 0 := by rw [hdM]; exact gone_E0 (by omega)
  have hgP : goneP (decLT Qb) p202 = [(0, encT (goneL M p202))] := by rw [hdM]; exact gone_P0 (by omega)
  refine wl_ <| d_ H208 rfl (R := fun v w9 => ∃ gp210 cp210 cbp210, v = .tuple #[.slice (some ⟨gp210, 0, none⟩) 1 cp210, .int .i64 0] ∧ (W204.heap.size ≤ gp210) ∧ (Row w9 gp210 51 cbp210) ∧ (OwnC cbp210 cp210 1 33 (((([(0, encT (goneL M p202))] : List Pt)).map pcell).flatten)) ∧ Below W204.heap.size W204 w9) (dc_ Tryd.func18 rfl (args2 (H208.ev 104 rfl) (H208.ev 106 rfl)) (gone_any Qb p202 W204 hQb) (fun _ w9 ⟨v9, he, ho, hb⟩ => by rw [hgE] at he; rw [hgP] at ho; obtain ⟨g9, c9, cb9, rfl, h1, h2, h3⟩ := ownc_pos ho (Nat.succ_pos _); exact ⟨_, he, g9, c9, cb9, rfl, h1, h2, h3, hb⟩)) ?_
  rintro _ W209 ⟨gp210, cp210, cbp210, rfl, hg210, hr210, Op210, hb209⟩ a209 H209
  have HS209 := HS204.same hb209
  clear H208
  have HS209j : St W188 noF [⟨g14, 56, #[.string (strB p202), .slice B202 m202 c202]⟩, ⟨gp210, 51, cbp210⟩] W209 := HS204.joins hb209 hr210 hg210
  clear HS209 hr210 hg210
  clear HS204 hb209
  refine wl_ <| p_ H209 rfl rfl fun _ H211 => wl_ <| i_ H211 rfl (v := .slice (some ⟨gp210, 0, none⟩) 1 cp210) (dd_ext rfl (H211.ev 103 rfl) rfl) fun _ H212 => wl_ <| i_ H212 rfl (v := .int .i64 0) (dd_ext rfl (H212.ev 103 rfl) rfl) fun _ H213 => q_ H213 2 rfl fun _ H214 => ln_ <| nx <| sq_ <| sq_ <| rl_ <| wl_ <| p_ H214 rfl rfl fun _ H215 => wl_ <| i_ H215 rfl (dd_cmp rfl (H215.ev 110 rfl) rfl (ne_f (by decide))) fun _ H216 => wl_ <| p_ H216 rfl rfl fun _ H217 => wl_ <| ig H217 (wg_ H217 rfl rfl rfl rfl) rfl (dd_mv rfl (H217.ev 15 rfl)) fun _ H218 => ?_
  clear H209 H211 H212 H213 H214 H215 H216
  refine wl_ <| ig H218 (wg_ H218 rfl rfl rfl rfl) rfl (v := .int .i64 1) (dd_len rfl (H218.ev 113 rfl) Tryd.underlying35) fun _ H219 => wl_ <| ig H219 (wg_ H219 rfl rfl rfl rfl) rfl (dd_cmp rfl (H219.ev 114 rfl) rfl (ne_f (by decide))) fun _ H220 => q_ H220 2 rfl fun _ H221 => wl_ <| ig H221 (wg_ H221 rfl rfl rfl rfl) rfl (dd_mv rfl (H221.ev 15 rfl)) fun _ H222 => wl_ <| ig H222 (wg_ H222 rfl rfl rfl rfl) rfl (xS 33 0 rfl (H222.ev 118 rfl) rfl) fun _ H223 => wl_ <| ig H223 (wg_ H223 rfl rfl rfl rfl) rfl (xf 0 0 rfl (H223.ev 119 rfl)) fun _ H224 => wl_ <| ig H224 (wg_ H224 rfl rfl rfl rfl) rfl (dd_get HS209j 1 0 rfl rfl (H224.ev 120 rfl) (put_at Op210 0 rfl (pt_cons (length_encT _) pt_nil)) Tryd.underlying3 rfl) fun _ H225 => wl_ <| ig H225 (wg_ H225 rfl rfl rfl rfl) rfl (dd_cmp rfl (H225.ev 121 rfl) rfl (ne_f (by decide))) fun _ H226 => ?_
  clear H217 H218 H219 H220 H221 H222 H223 H224
  refine wl_ <| p_ H226 rfl rfl fun _ H227 => ln_ <| ?_
  clear H225 H226
  have H228 := H227.sel [6, 14, 15, 123] rfl
  refine nx <| cf_ H228 rfl <| wp_skip <| nx <| sq_ <| ?_
  clear H227
  refine wi_ HS209j [0] rfl [0, 1] rfl fun HSh229 hx229 => hp_ H228 0 hx229 rfl rfl rfl fun _ H230 => ht_ H230 1 hx229 rfl rfl (fun _ _ _ => xS 33 0 rfl (H230.ev 125 rfl) rfl) fun _ H231 => ht_ H231 2 hx229 rfl rfl (fun _ _ _ => xf 1 1 rfl (H231.ev 126 rfl)) fun _ H232 => ht_ H232 4 hx229 rfl rfl (fun _ _ _ => xf 1 1 rfl (H232.ev 14 rfl)) fun _ H233 => ht_ H233 5 hx229 rfl rfl (fun _ _ HS9 => dd_get HS9 0 1 rfl rfl (H233.ev 129 rfl) rfl Tryd.underlying54 rfl) fun _ H234 => ht_ H234 6 hx229 rfl rfl (v := .int .i64 m202) (fun _ _ _ => dd_len rfl (H234.ev 130 rfl) Tryd.underlying54) fun _ H235 => h1_ 3 rfl <| i_ H235 rfl (v := .agg (bs (encT (goneL M p202)))) (dd_load HSh229 1 1 rfl rfl (H235.ev 127 rfl) (put_dat Op210 0 rfl (length_encT _) (pt_cons (length_encT _) pt_nil)) Tryd.underlying23 rfl (by rw [show (bs (encT (goneL M p202))).size = 32 from ((size_bs _).trans (length_encT _))]; kernel_rfl)) fun _ H236 => ?_
  clear HS209j H228 H230 H231 H232 H233 H234
  refine sx_ (sxi HSh229 [0, 1] rfl) fun hx237 => ?_
  clear H235 hx229
  refine h1_ 7 rfl <| d_ H236 rfl (R := fun v w9 => ∃ gp239 cp239 cbp239, v = .tuple #[.slice (some ⟨gp239, 0, none⟩) (m202 + 1) cp239, .int .i64 0] ∧ (W209.drew.heap.size ≤ gp239) ∧ (Row w9 gp239 51 cbp239) ∧ (OwnC cbp239 cp239 (m202 + 1) 33 (((makeP (goneL M p202) [110#8, 101#8, 119#8] m202).map pcell).flatten)) ∧ Below W209.drew.heap.size W209.drew w9) (dc_ Tryd.func16 rfl (args3 (H236.ev 128 rfl) rfl (H236.ev 131 rfl)) (make_any (encT (goneL M p202)) [110#8, 101#8, 119#8] m202 W209.drew (length_encT _) (by decide)) (fun _ w9 ⟨v9, he, ho, hb⟩ => by rw [(tab_back hG2).1] at he ho; rw [hm2] at he; rw [hPl2] at ho; obtain ⟨g9, c9, cb9, rfl, h1, h2, h3⟩ := ownc_pos ho (Nat.succ_pos _); exact ⟨_, he, g9, c9, cb9, rfl, h1, h2, h3, hb⟩)) ?_
  rintro _ W238 ⟨gp239, cp239, cbp239, rfl, hg239, hr239, Op239, hb238⟩ a238 H238
  have HS238 := HSh229.same hb238
  clear H236
  have HS238j : St W188 noF [⟨g14, 56, #[.string (strB p202), .slice B202 m202 c202]⟩, ⟨gp210, 51, cbp210⟩, ⟨gp239, 51, cbp239⟩] W238 := HSh229.joins hb238 hr239 hg239
  clear HS238 hr239 hg239
  clear HSh229 hb238
  refine sx_ (sxi HS238j [0, 1, 2] rfl) fun hx240 => hp_ H238 8 hx240 rfl rfl rfl fun _ H241 => ht_ H241 9 hx240 rfl rfl (v := .slice (some ⟨gp239, 0, none⟩) (m202 + 1) cp239) (fun _ _ _ => dd_ext rfl (H241.ev 124 rfl) rfl) fun _ H242 => ht_ H242 10 hx240 rfl rfl (v := .int .i64 0) (fun _ _ _ => dd_ext rfl (H242.ev 124 rfl) rfl) fun _ H243 => hp_ H243 11 hx240 rfl rfl rfl fun _ H244 => hp_ H244 12 hx240 rfl rfl rfl fun _ H245 => ?_
  clear hx237 H238 H241 H242 H243 H244
  refine wpAnyH_done (by kernel_rfl) ?_ _
  clear hx240
  refine nx <| sq_ <| rl_ <| wl_ <| p_ H245 rfl rfl fun _ H246 => wl_ <| i_ H246 rfl (dd_cmp rfl (H246.ev 135 rfl) rfl (eq_t (by decide))) fun _ H247 => wl_ <| p_ H247 rfl rfl fun _ H248 => wl_ <| ig H248 (wg_ H248 rfl rfl rfl rfl) rfl (dd_mv rfl (H248.ev 17 rfl)) fun _ H249 => wl_ <| ig H249 (wg_ H249 rfl rfl rfl rfl) rfl (v := .int .i64 (m202 + 1)) (dd_len rfl (H249.ev 138 rfl) Tryd.underlying35) fun _ H250 => wl_ <| ig H250 (wg_ H250 rfl rfl rfl rfl) rfl (xf 1 1 rfl (H250.ev 14 rfl)) fun _ H251 => wl_ <| ig H251 (wg_ H251 rfl rfl rfl rfl) rfl (dd_get HS238j 0 1 rfl rfl (H251.ev 140 rfl) rfl Tryd.underlying54 rfl) fun _ H252 => wl_ <| ig H252 (wg_ H252 rfl rfl rfl rfl) rfl (v := .int .i64 m202) (dd_len rfl (H252.ev 141 rfl) Tryd.underlying54) fun _ H253 => ?_
  clear H245 H246 H247 H248 H249 H250 H251
  refine wl_ <| ig H253 (wg_ H253 rfl rfl rfl rfl) rfl (v := .int .i64 (m202 + 1)) (dd_ari rfl (H253.ev 142 rfl) rfl rfl (i64_of (by first | omega | (have := bd_lo; omega)) (by omega))) fun _ H254 => wl_ <| ig H254 (wg_ H254 rfl rfl rfl rfl) rfl (dd_cmp rfl (H254.ev 139 rfl) (H254.ev 143 rfl) (eq_t rfl)) fun _ H255 => q_ H255 2 rfl fun _ H256 => wl_ <| ig H256 (wg_ H256 rfl rfl rfl rfl) rfl (dd_mv rfl (H256.ev 15 rfl)) fun _ H257 => wl_ <| ig H257 (wg_ H257 rfl rfl rfl rfl) rfl (xS 33 0 rfl (H257.ev 147 rfl) rfl) fun _ H258 => wl_ <| ig H258 (wg_ H258 rfl rfl rfl rfl) rfl (xf 1 1 rfl (H258.ev 148 rfl)) fun _ H259 => wl_ <| ig H259 (wg_ H259 rfl rfl rfl rfl) rfl (v := .agg (bs (encT (goneL M p202)))) (dd_load HS238j 1 1 rfl rfl (H259.ev 149 rfl) (put_dat Op210 0 rfl (length_encT _) (pt_cons (length_encT _) pt_nil)) Tryd.underlying23 rfl (by rw [show (bs (encT (goneL M p202))).size = 32 from ((size_bs _).trans (length_encT _))]; kernel_rfl)) fun _ H260 => ?_
  clear H252 H253 H254 H255 H256 H257 H258 H259
  refine wl_ <| dr_ H260 (wg_ H260 rfl rfl rfl rfl) rfl (R := fun v w9 => ∃ Av262 Cv262, v = .slice Av262 mp Cv262 ∧ Below W238.heap.size W238 w9) (dc_ Tryd.func11 rfl (args1 (H260.ev 150 rfl)) (volumes_any (encT (goneL M p202)) W238 (length_encT _)) (fun _ w9 ⟨v9, B9, he, _, _, ho, hb⟩ => by obtain ⟨A9, n9, c9, rfl, h1, _⟩ := OV.form2 ho; rw [len_volL, ((by rw [(tab_back hG2).1]; omega) : (decLT (encT (goneL M p202))).length = mp)] at h1; obtain rfl : n9 = mp := h1.symm; exact ⟨_, he, A9, c9, rfl, hb⟩)) ?_
  rintro _ W261 ⟨Av262, Cv262, rfl, hb261⟩ a261 H261
  have HS261 := HS238j.same hb261
  clear H260
  clear HS238j hb261
  refine wl_ <| ig H261 (wg_ H261 rfl rfl rfl rfl) rfl (v := .int .i64 mp) (dd_len rfl (H261.ev 151 rfl) Tryd.underlying33) fun _ H263 => wl_ <| ig H263 (wg_ H263 rfl rfl rfl rfl) rfl (dd_mv rfl (H263.ev 6 rfl)) fun _ H264 => wl_ <| ig H264 (wg_ H264 rfl rfl rfl rfl) rfl (v := .int .i64 (mm - 1)) (dd_ari rfl (H264.ev 153 rfl) rfl rfl (i64_of (by first | omega | (have := bd_lo; omega)) (by omega))) fun _ H265 => wl_ <| ig H265 (wg_ H265 rfl rfl rfl rfl) rfl (dd_cmp rfl (H265.ev 152 rfl) (H265.ev 154 rfl) (eq_t (by omega))) fun _ H266 => q_ H266 2 rfl fun _ H267 => wl_ <| cg H267 (wg_ H267 rfl rfl rfl rfl) rfl HS261 (dcs Tryd.func7 rfl (args0 ) (opwakes_any W261) (.bool true)) fun _ HS268 _ H268 => q_ H268 2 rfl fun _ H269 => ln_ <| ?_
  clear H261 H263 H264 H265 H266 H267 HS261 H268
  have H270 := H269.sel [4] rfl
  refine nx <| wp_ret <| ret_run H270.env0 (res_t Tryd.results6 (H270.get 4 rfl)) <| ?_
  clear H269
  exact ⟨rfl, (HBs190.trans (HS268.below.mono HBs190.size))⟩
set_option maxHeartbeats 800000 in
theorem opfull_zero (A : Option Addr) (c : Nat) (z : BitVec 8) (w : World) : Calls Tryd.prog 6 #[.slice A 0 c, .int .u8 (bd z)] w fun e w' => e = .returned (.bool true) ∧ Below w.heap.size w w' := by
  have HS := St.nil w noF
  refine enter_en Tryd.func6 rfl Tryd.ntmps6 (Nat.le_of_ble_eq_true rfl) fun a0 (HA0 : En 160 [(0, .slice A 0 c), (1, .int .u8 (bd z))] a0) => ?_
  refine sq_ <| rl_ <| wl_ <| p_ HA0 rfl rfl fun _ H1 => ln_ <| nx <| sq_ <| sq_ <| rl_ <| wl_ <| p_ H1 rfl rfl fun _ H2 => wl_ <| i_ H2 rfl (v := .int .i64 0) (dd_len rfl (H2.ev 19 rfl) Tryd.underlying60) fun _ H3 => wl_ <| i_ H3 rfl (dd_cmp rfl (H3.ev 20 rfl) rfl (gt_f (by decide))) fun _ H4 => ln_ <| nx <| cf_ H4 rfl <| wp_skip <| nx <| sq_ <| rl_ <| wl_ <| i_ H4 rfl (v := .agg (bs (zer 32))) (dd_bldk rfl (ps := []) (pr0) (cs := bs (zer 32)) (by kernel_rfl)) fun _ H5 => wl_ <| n_ H5 rfl (fun _ h => dd_new HS (bs (zer 32)) rfl (z := .agg (bs (zer 32))) (by kernel_rfl) rfl h) fun _ _ HS6 _ H6 => wl_ <| t_ rfl (fun _ h => dd_setrow HS6 0 rfl rfl (H6.ev 5 rfl) (H6.ev 23 rfl) (by kernel_rfl) (((size_bs _).trans (length_zer 32)) : (bs (zer 32)).size = 32) (((size_bs _).trans (length_zer 32)) : (bs (zer 32)).size = 32) (one_bs _) h) fun W7 HS7 => ln_ <| nx <| sq_ <| rl_ <| q_ H6 2 rfl fun _ H8 => ?_
  clear HA0 H1 H2 H3 H4 HS H5 HS6
  refine ln_ <| nx <| sq_ <| sq_ <| rl_ <| wl_ <| p_ H8 rfl rfl fun _ H9 => ln_ <| nx <| wp_block <| wp_unr 1 <| unr_go <| sq_ <| sq_ <| rl_ <| q_ H9 2 rfl fun _ H10 => wl_ <| i_ H10 rfl (v := .int .i64 0) (dd_len rfl (H10.ev 25 rfl) Tryd.underlying60) fun _ H11 => wl_ <| i_ H11 rfl (dd_cmp rfl (H11.ev 24 rfl) (H11.ev 26 rfl) (lt_f (by decide))) fun _ H12 => ln_ <| nx <| cf_ H12 rfl <| wp_exit <| tx <| tx <| bx <| nx <| sq_ <| rl_ <| wl_ <| i_ H12 rfl (v := .agg (bs (zer 32))) (dd_load HS7 0 0 rfl rfl (H12.ev 5 rfl) (slab_whole _) Tryd.underlying23 rfl (by rw [show (bs (zer 32)).size = 32 from ((size_bs _).trans (length_zer 32))]; kernel_rfl)) fun _ H13 => ?_
  clear H6 H8 H9 H10 H11 H12
  refine wl_ <| d_ H13 rfl (R := fun v w9 => ∃ Av15 Cv15, v = .slice Av15 0 Cv15 ∧ Below W7.heap.size W7 w9) (dc_ Tryd.func11 rfl (args1 (H13.ev 89 rfl)) (volumes_any (zer 32) W7 (length_zer 32)) (fun _ w9 ⟨v9, B9, he, _, _, ho, hb⟩ => by obtain ⟨A9, n9, c9, rfl, h1, _⟩ := OV.form2 ho; rw [len_volL, (by rw [wk_z2]; rfl : (decLT (zer 32)).length = 0)] at h1; obtain rfl : n9 = 0 := h1.symm; exact ⟨_, he, A9, c9, rfl, hb⟩)) ?_
  rintro _ W14 ⟨Av15, Cv15, rfl, hb14⟩ a14 H14
  have HS14 := HS7.same hb14
  clear H13
  clear HS7 hb14
  refine wl_ <| p_ H14 rfl rfl fun _ H16 => ln_ <| nx <| sq_ <| sq_ <| rl_ <| wl_ <| p_ H16 rfl rfl fun _ H17 => wl_ <| i_ H17 rfl (v := .int .i64 0) (dd_len rfl (H17.ev 91 rfl) Tryd.underlying33) fun _ H18 => wl_ <| i_ H18 rfl (dd_cmp rfl (H18.ev 92 rfl) rfl (eq_t (by decide))) fun _ H19 => ln_ <| ?_
  clear H14 H16 H17 H18
  have H20 := H19.sel [1, 5, 6, 13, 93] rfl
  refine nx <| ct_ H20 rfl <| sq_ <| rl_ <| wl_ <| c_ H20 rfl HS14 (dcs Tryd.func7 rfl (args0 ) (opwakes_any W14) (.bool true)) fun _ HS21 _ H21 => wl_ <| p_ H21 rfl rfl fun _ H22 => ln_ <| nx <| wp_ret <| tr <| ret_run H22.env0 (res_t Tryd.results6 (H22.get 4 rfl)) <| ?_
  clear H19 H20 HS14 H21
  exact ⟨rfl, HS21.below⟩
theorem opfull_walk (A : Option Addr) (c : Nat) (q : List (BitVec 8)) (z : BitVec 8) (w : World) (hs : Slice w (.slice A q.length c) q) (_ : A = none → c = 0) (_ : q.length ≤ maxLen) : Calls Tryd.prog 6 #[.slice A q.length c, .int .u8 (bd z)] w fun e w' => e = .returned (.bool true) ∧ Below w.heap.size w w' := by
  by_cases hz : q.length = 0
  · rw [hz]; exact opfull_zero A c z w
  · obtain ⟨g, o, rfl, hb, _⟩ := slice_bat hs (by omega)
    exact opfull_pos g o q.length c q z w rfl hb (by omega)
end Go.Proofs.YtlfliojadjgplaaDoor

/- OpsFull, as its tied card: for every slice of bytes and byte the call returns true and changes nothing that it was handed. Conditions: those of the row (the tables of runes lie as the program's text lays them, which the card ties to the pruned copy). -/
set_option maxRecDepth 4000
namespace Go.Proofs.YtlfliojadjgplaaDoor.opsFull
open Go Go.ChangeShapes Go.WideShapes Go.ChangeAt Go.RowKit

theorem contract (H : Type) (enc : TypeId × Value → H) (W : World) (base : Nat) (args : Array Value) (ds gs : List (DataW H)) (before : List MemPlace)
    (hval : ∀ (j : Nat) t v, Tryd.f6.params[j]? = some t → args[j]? = some v → Value.okWide Tryd.prog W .any base t v)
    (hW : DataW.Whole enc Tryd.prog Tryd.f6.params.toList Rows.opsFullSpec.vars false W args.toList ds gs before) (_ : laidMetH Tryd.prog Rows.opsFullRow.laid W) :
    Calls Tryd.prog 6 args W fun e W' => ∃ v, e = .returned v ∧ Rows.opsFullSpec.post enc Tryd.prog Tryd.f6 false true false false W args v W' := by
  have hW' := hW
  obtain ⟨p, q, hA0, hV, rfl, _, _⟩ := hW
  have hA : DataW.TrodAll enc Tryd.prog W 0 (fun _ => true) true Tryd.f6.params.toList args.toList ds p := hA0
  rw [Tryd.params6] at hA hval
  obtain ⟨v0, vs0, d0, ds0, p0, q0, hargs, rfl, rfl, h0, r0⟩ := trodAll_cons hA
  obtain ⟨v1, vs1, d1, ds1, p1, q1, rfl, rfl, rfl, h1, r1⟩ := trodAll_cons r0
  obtain ⟨rfl, rfl, rfl⟩ := trodAll_nil r1
  obtain rfl : args = #[v0, v1] := by cases args; simp_all
  obtain ⟨rfl, rfl⟩ := trodVars_none hV
  have hlt0 : ∀ x ∈ p0, x.block < W.heap.size := fun x hx => hW'.lt x (by simp [hx])
  have hlt1 : ∀ x ∈ p1, x.block < W.heap.size := fun x hx => hW'.lt x (by simp [hx])
  obtain ⟨A0, c0, b0, rfl, hS0, hN0, hm0⟩ := open_bytes (hval 0 60 v0 rfl rfl) h0 hlt0
  obtain ⟨n1, rfl⟩ := open_argU8 Tryd.underlying5 (hval 1 5 v1 rfl rfl) h1 hlt1
  refine (opfull_walk A0 c0 b0 n1 W hS0 hN0 hm0 ).mono fun e W' ⟨he, hb⟩ => ?_
  subst he
  exact ⟨_, rfl, [d0, d1], [], _, [], _, [], hW', trodAll_cons_mk (shut_bool Tryd.underlying4 _) trodAll_mk0, trodAll_cons_mk (Below.trod laidOutT (by kernel_rfl) (of_decide_eq_true (by kernel_rfl)) h0 hb hlt0) (trodAll_cons_mk (Below.trod laidOutT (by kernel_rfl) (of_decide_eq_true (by kernel_rfl)) h1 hb hlt1) trodAll_mk0), rfl, hb.frame _, fun h => by cases h⟩

theorem laid_met (os : Os) : laidMet Tryd.prog Rows.opsFullRow.laid ((laidWorld os).forCall (fun _ _ => 0) ⟨#[], #[.slice none 0 0, .int .u8 0], []⟩).memory :=
  laidMet_of_run' 8 (by kernel_rfl) (by kernel_rfl)
theorem reads (os : Os) {H : Type} (enc : TypeId × Value → H) : ∃ places, DataW.whole enc Tryd.prog ((laidWorld os).forCall (fun _ _ => 0) ⟨#[], #[.slice none 0 0, .int .u8 0], []⟩).memory Tryd.f6.params.toList Rows.opsFullSpec.vars false #[(Value.slice none 0 0), (Value.int .u8 0)].toList 8 = some ([.nil, .lit (.int .u8 0)], [], places) :=
  ⟨[], by kernel_rfl⟩

set_option maxRecDepth 100000 in
theorem lifted (os : Os) (started : os.Started) (H : Type) (enc : TypeId × Value → H) (F : Stop.Interp) :
    ReturnsInHanded {} Tryd.checked os 6 .any ((OpenSpec.ofChange Rows.opsFullSpec).preRow enc Tryd.prog Tryd.f6 Rows.opsFullRow.domain false Rows.opsFullRow.laid) (((OpenSpec.ofChange Rows.opsFullSpec).at F).post enc Tryd.prog Tryd.f6 false true false false) := by
  obtain ⟨places, hx⟩ := reads os enc
  refine returnsInHanded_of_row (C := Tryd.checked) (s := OpenSpec.ofChange Rows.opsFullSpec) ownK started (by kernel_rfl) Tryd.func6
    (witness_row_at (enc := enc) (C := Tryd.checked) false (laidWorld os) #[.slice none 0 0, .int .u8 0] rfl (by kernel_rfl) (by kernel_rfl) (by kernel_rfl)
      (OpenSpec.preRow_of_cond 8 hx (by kernel_rfl) (fun k hk => by cases hk) (by kernel_rfl) (laid_met os))) ?_
  intro W base args ds gs before hval hW _ _ _ hL _ _
  exact contract H enc W base args ds gs before hval hW hL

theorem said : Rows.OpsFullSaid :=
  OpenClaim.holds_of_cond 6 Tryd.f6 rfl rfl rfl rfl rfl rfl rfl ⟨rfl, rfl, rfl, rfl, rfl⟩ rfl rfl rfl rfl rfl (by kernel_rfl) Tryd.func6 (by kernel_rfl)
    (of_decide_eq_true (by kernel_rfl)) (by unfold Func.isWrapper; first | (rw [if_pos (by decide +kernel)]; kernel_rfl) | (rw [if_neg (by decide +kernel)]; exact ⟨rfl, rfl⟩))
    (fun os started H enc _ F => by rw [OpenClaim.pre_eq_preRow]; exact lifted os started H enc F)

theorem plain (f : FuncId) (fn : Func) (hf : Tryd.pinned.checked.prog.funcNamed Rows.opsFullRow.func = some f) (hfn : Tryd.pinned.checked.prog.funcs[f]? = some fn) :
    false = Tryd.pinned.checked.prog.looks [] ∧ ∀ (j : Nat) t, fn.params[j]? = some t → Tryd.pinned.checked.prog.wantsStandIn t = false := by
  obtain rfl : f = 6 := Option.some.inj ((show Tryd.prog.funcNamed Rows.opsFullRow.func = some 6 by kernel_rfl).symm.trans hf) |>.symm
  obtain rfl : fn = Tryd.f6 := (Option.some.inj (Tryd.func6.symm.trans hfn)).symm
  refine ⟨by kernel_rfl, fun j t ht => ?_⟩
  rw [Tryd.params6] at ht
  have hm : t = 60 ∨ t = 5 := by simpa using Array.mem_of_getElem? ht
  rcases hm with rfl | rfl
  · exact (show Tryd.prog.wantsStandIn 60 = false by kernel_rfl)
  · exact (show Tryd.prog.wantsStandIn 5 = false by kernel_rfl)

theorem card : Rows.OpsFullCardSaid :=
  Claim7.holds_tied_plain_at .later [] _ _ _ _ said (fun _ h => by cases h) (by kernel_rfl) (fun _ h => by cases h) opsFull_row_tie rfl ⟨rfl, rfl⟩ (by kernel_rfl) rfl plain (by kernel_rfl)
end Go.Proofs.YtlfliojadjgplaaDoor.opsFull
