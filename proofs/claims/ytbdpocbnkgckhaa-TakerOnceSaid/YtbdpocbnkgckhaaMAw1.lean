/- Merged: PktDec PktSame PktPure PktWk PkTurn PkPlc PktRef TkPrg NdWk TkWk TkNone NNone NdLabs NKeeps NdRecs NBlocks NStale TkLasts TkRecs. -/
import Derived.Test.YtbdpocbnkgckhaaMAw0
import Derived.Test.YtbdpocbnkgckhaaMWal0
import Derived.Test.YtbdpocbnkgckhaaMStr0
import Derived.Test.YtbdpocbnkgckhaaMGen0
import Derived.Test.YtbdpocbnkgckhaaMSeal0
import Derived.Test.YtbdpocbnkgckhaaMLabel0
import Derived.Test.YtbdpocbnkgckhaaMDisk0
import Derived.Test.YtbdpocbnkgckhaaMNode0
/- The packet of bytes. -/
set_option maxRecDepth 4000
namespace Go.Proofs.Ytbdpocbnkgckhaa
open Go Go.RowKit
theorem enc_pos (p : Pkt) : 0 < (encP p).length := by unfold encP bodyP; rw [List.length_append, List.length_append, length_hdB]; omega
theorem pkdec_short (A : Option Addr) (n c : Nat) (w : World) (hn : n < 12) : Calls Try.prog 21 #[.slice A n c] w fun x w' => x = .returned (.tuple #[.agg #[.int .i64 0, .int .u32 0, .int .u32 0, .slice none 0 0], .int .i64 11]) ∧ Below w.heap.size w w' := by
  have HS := St.nil w noF
  refine enter_en Try.func21 rfl Try.ntmps21 (Nat.le_of_ble_eq_true rfl) fun a0 (HA0 : En 53 [(0, .slice A n c)] a0) => ?_
  refine sq_ <| rl_ <| wl_ <| n_ HA0 rfl (fun _ h => dd_new HS #[.int .i64 0, .int .u32 0, .int .u32 0, .slice none 0 0] rfl (z := .agg #[.int .i64 0, .int .u32 0, .int .u32 0, .slice none 0 0]) (by kernel_rfl) rfl h) fun _ _ HS1 _ H1 => wl_ <| p_ H1 rfl rfl fun _ H2 => ln_ <| nx <| sq_ <| sq_ <| rl_ <| wl_ <| p_ H2 rfl rfl fun _ H3 => wl_ <| i_ H3 rfl (v := .int .i64 n) (dd_len rfl (H3.ev 8 rfl) Try.underlying23) fun _ H4 => wl_ <| i_ H4 rfl (dd_cmp rfl (H4.ev 9 rfl) rfl (lt_t (by omega))) fun _ H5 => ln_ <| nx <| ct_ H5 rfl <| sq_ <| rl_ <| wl_ <| i_ H5 rfl (v := .agg #[.int .i64 0, .int .u32 0, .int .u32 0, .slice none 0 0]) (dd_bld rfl (ps := []) (pr0) (Lz := [[.int .i64 0], [.int .u32 0], [.int .u32 0], [.slice none 0 0]]) (by kernel_rfl) (lens_cons rfl (lens_cons rfl (lens_cons rfl (lens_cons rfl (lens_nil))))) (fit_nil) (cs := #[.int .i64 0, .int .u32 0, .int .u32 0, .slice none 0 0]) rfl) fun _ H6 => wl_ <| t_ rfl (fun _ h => dd_setrow HS1 0 rfl rfl (H6.ev 2 rfl) (H6.ev 11 rfl) (by kernel_rfl) (rfl : #[.int .i64 0, .int .u32 0, .int .u32 0, .slice none 0 0].size = 4) (rfl : #[.int .i64 0, .int .u32 0, .int .u32 0, .slice none 0 0].size = 4) (one_l (ao_cons rfl (ao_cons rfl (ao_cons rfl (ao_cons rfl ao_nil))))) h) fun _ HS7 => wl_ <| p_ H6 rfl rfl fun _ H8 => ?_
  clear HS HA0 H1 H2 H3 H4 H5 HS1
  refine ln_ <| nx <| wp_ret <| tr <| ret_run H8.env0 (res_ct Try.results21 (H8.get 2 rfl) (HS7.row 0 rfl) Try.underlying29 rfl (by kernel_rfl) (H8.get 3 rfl)) <| ?_
  clear H6
  exact ⟨rfl, HS7.below⟩
set_option maxHeartbeats 1600000 in
theorem pkdec_walk (b off n c nC nP : Nat) (q : List (BitVec 8)) (w : World) (hB : BAt w b off q) (hq : q.length = n) (hn : 12 ≤ n) (hc : n ≤ c) (hnC : nC = cntP q) (hC : bd (q.getD 9 0#8) = (nC : Int)) (hC9 : nC ≤ 255) (hP : nP = n - 2) (hlq : n = 12 + 33 * nC → ∀ x ∈ (List.range nC).map (chunkP ((q.drop 10).take (33 * nC))), x.2.length = 32 ∧ -9223372036854775808 ≤ x.1 ∧ x.1 < 9223372036854775808) : Calls Try.prog 21 #[.slice (some ⟨b, off, none⟩) n c] w fun x w' => (pkOk q = false ∧ x = .returned (.tuple #[.agg #[.int .i64 0, .int .u32 0, .int .u32 0, .slice none 0 0], .int .i64 11]) ∧ Below w.heap.size w w') ∨ (pkOk q = true ∧ ∃ sl, x = .returned (.tuple #[.agg #[.int .i64 (bd (q.getD 0 0#8)), .int .u32 (wd (lv 1 q)), .int .u32 (wd (lv 5 q)), sl], .int .i64 0]) ∧ OwnP w w' sl nC ((List.range nC).map (chunkP ((q.drop 10).take (33 * nC)))) ∧ Below w.heap.size w w') := by
  have HS := St.nil w noF
  have HB : ∀ W, Below w.heap.size w W → BAt W b off q := fun W hb => hB.call hb
  have hPN : pktP q = pktN q nC := by rw [hnC]; rfl
  refine enter_en Try.func21 rfl Try.ntmps21 (Nat.le_of_ble_eq_true rfl) fun a0 (HA0 : En 53 [(0, .slice (some ⟨b, off, none⟩) n c)] a0) => ?_
  refine sq_ <| rl_ <| wl_ <| n_ HA0 rfl (fun _ h => dd_new HS #[.int .i64 0, .int .u32 0, .int .u32 0, .slice none 0 0] rfl (z := .agg #[.int .i64 0, .int .u32 0, .int .u32 0, .slice none 0 0]) (by kernel_rfl) rfl h) fun g2 W1 HS1 _ H1 => wl_ <| p_ H1 rfl rfl fun _ H2 => ln_ <| nx <| sq_ <| sq_ <| rl_ <| wl_ <| p_ H2 rfl rfl fun _ H3 => wl_ <| i_ H3 rfl (v := .int .i64 n) (dd_len rfl (H3.ev 8 rfl) Try.underlying23) fun _ H4 => wl_ <| i_ H4 rfl (dd_cmp rfl (H4.ev 9 rfl) rfl (lt_f (by omega))) fun _ H5 => ln_ <| nx <| cf_ H5 rfl <| wp_skip <| nx <| sq_ <| rl_ <| wl_ <| p_ H5 rfl rfl fun _ H6 => wl_ <| c_ H6 rfl HS1 (v := .agg #[.int .i64 (bd (q.getD 0 0#8)), .int .u32 (wd (lv 1 q)), .int .u32 (wd (lv 5 q)), .int .i64 nC]) (dc_ Try.func33 rfl (args1 (H6.ev 12 rfl)) (headfrom_any b off n c q W1 (HB _ HS1.below) hq (by omega) hc) (fun _ w9 h9 => ⟨_, h9.1, by rw [hC], h9.2⟩)) fun _ HS7 _ H7 => wl_ <| n_ H7 rfl (fun _ h => dd_new HS7 #[.int .i64 0, .int .u32 0, .int .u32 0, .int .i64 0] rfl (z := .agg #[.int .i64 0, .int .u32 0, .int .u32 0, .int .i64 0]) (by kernel_rfl) rfl h) fun g4 _ HS8 _ H8 => ?_
  clear HS HA0 H1 H2 H3 H4 H5 H6 HS1
  refine wl_ <| t_ rfl (fun _ h => dd_setrow HS8 1 rfl rfl (H8.ev 4 rfl) (H8.ev 13 rfl) (by kernel_rfl) (rfl : #[.int .i64 (bd (q.getD 0 0#8)), .int .u32 (wd (lv 1 q)), .int .u32 (wd (lv 5 q)), .int .i64 nC].size = 4) (rfl : #[.int .i64 0, .int .u32 0, .int .u32 0, .int .i64 0].size = 4) (one_l (ao_cons rfl (ao_cons rfl (ao_cons rfl (ao_cons rfl ao_nil))))) h) fun W9 HS9 => ln_ <| nx <| sq_ <| sq_ <| rl_ <| wl_ <| p_ H8 rfl rfl fun _ H10 => wl_ <| i_ H10 rfl (v := .int .i64 n) (dd_len rfl (H10.ev 14 rfl) Try.underlying23) fun _ H11 => wl_ <| i_ H11 rfl (xf 3 3 rfl (H11.ev 4 rfl)) fun _ H12 => wl_ <| i_ H12 rfl (dd_get HS9 1 3 rfl rfl (H12.ev 16 rfl) rfl Try.underlying3 rfl) fun _ H13 => wl_ <| i_ H13 rfl (v := .int .i64 (nC * 33)) (dd_ari rfl (H13.ev 17 rfl) rfl rfl (i64_of (by first | omega | (have := bd_lo; omega)) (by omega))) fun _ H14 => wl_ <| i_ H14 rfl (v := .int .i64 (10 + (nC * 33))) (dd_ari rfl rfl (H14.ev 18 rfl) rfl (i64_of (by first | omega | (have := bd_lo; omega)) (by omega))) fun _ H15 => wl_ <| i_ H15 rfl (v := .int .i64 ((10 + (nC * 33)) + 2)) (dd_ari rfl (H15.ev 19 rfl) rfl rfl (i64_of (by first | omega | (have := bd_lo; omega)) (by omega))) fun _ H16 => ?_
  clear HS7 H7 HS8 H8 H10 H11 H12 H13 H14
  clear H15
  by_cases hc18 : (n : Int) = (10 + (nC * 33)) + 2
  ·
   refine wl_ <| i_ H16 rfl (dd_cmp rfl (H16.ev 15 rfl) (H16.ev 20 rfl) (ne_f hc18)) fun _ H19 => ln_ <| nx <| cf_ H19 rfl <| wp_skip <| nx <| sq_ <| ?_
   clear H16
   by_cases hc35 : (nC : Int) = 0
   ·
    refine wp_cut (fun a9 w9 => ∃ g5 : Nat, En 53 [(5, .pointer (some ⟨g5, 0, none⟩)), (2, .pointer (some ⟨g2, 0, none⟩)), (0, .slice (some ⟨b, off, none⟩) n c)] a9 ∧ St w noF [⟨g2, 29, #[.int .i64 0, .int .u32 0, .int .u32 0, .slice none 0 0]⟩, ⟨g4, 88, #[.int .i64 (bd (q.getD 0 0#8)), .int .u32 (wd (lv 1 q)), .int .u32 (wd (lv 5 q)), .int .i64 nC]⟩, ⟨g5, 29, #[.int .i64 (bd (q.getD 0 0#8)), .int .u32 (wd (lv 1 q)), .int .u32 (wd (lv 5 q)), .slice none 0 0]⟩] w9) ?_ ?_
    ·
     refine wi_ HS9 [0, 1] rfl [0, 1] rfl fun HSh36 hx36 => ht_ H19 0 hx36 rfl rfl (fun _ _ _ => xf 0 0 rfl (H19.ev 4 rfl)) fun _ H37 => ht_ H37 1 hx36 rfl rfl (fun _ _ HS9 => dd_get HS9 1 0 rfl rfl (H37.ev 23 rfl) rfl Try.underlying3 rfl) fun _ H38 => ht_ H38 2 hx36 rfl rfl (fun _ _ _ => xf 1 1 rfl (H38.ev 4 rfl)) fun _ H39 => ht_ H39 3 hx36 rfl rfl (fun _ _ _ => xf 0 1 rfl (H39.ev 25 rfl)) fun _ H40 => ht_ H40 4 hx36 rfl rfl (fun _ _ HS9 => dd_get HS9 1 1 rfl rfl (H40.ev 26 rfl) rfl Try.underlying26 rfl) fun _ H41 => ht_ H41 5 hx36 rfl rfl (fun _ _ _ => xf 1 1 rfl (H41.ev 4 rfl)) fun _ H42 => ht_ H42 6 hx36 rfl rfl (fun _ _ _ => xf 1 2 rfl (H42.ev 28 rfl)) fun _ H43 => ?_
     clear HS9 H19 H37 H38 H39 H40 H41
     refine ht_ H43 7 hx36 rfl rfl (fun _ _ HS9 => dd_get HS9 1 2 rfl rfl (H43.ev 29 rfl) rfl Try.underlying26 rfl) fun _ H44 => hp_ H44 8 hx36 rfl rfl rfl fun _ H45 => hp_ H45 9 hx36 rfl rfl rfl fun _ H46 => ht_ H46 10 hx36 rfl rfl (v := .int .i64 n) (fun _ _ _ => dd_len rfl (H46.ev 32 rfl) Try.underlying23) fun _ H47 => ht_ H47 11 hx36 rfl rfl (v := .int .i64 nP) (fun _ _ _ => dd_ari rfl (H47.ev 33 rfl) rfl rfl (by rw [i64_id _ (by omega) (by omega)]; omega)) fun _ H48 => ht_ H48 12 hx36 rfl rfl (v := .slice (some ⟨b, off + 10, none⟩) (nP - 10) (c - 10)) (fun _ _ _ => dd_sllh (l := 10) (u := nP) (sz := 1) rfl (H48.ev 31 rfl) rfl (H48.ev 34 rfl) (by kernel_rfl) (by omega) (by omega) (by omega) rfl rfl rfl) fun _ H49 => ?_
     clear H42 H43 H44 H45 H46 H47 H48
     refine wpAnyH_all (rs := [13, 15]) (by kernel_rfl) (by decide) (hm_cons ?_ (hm_cons ?_ hm_nil))
     ·
      refine ho_ rfl <| c_ H49 rfl HSh36 (dcs Try.func34 rfl (args1 (H49.ev 35 rfl)) (putsfrom_0 b (off + 10) (nP - 10) (c - 10) _ W9.drew (by omega) (by omega) (((HB _ HSh36.below).drop 10).take (33 * nC)) (by rw [List.length_take, List.length_drop, hq]; omega)) (.slice none 0 0)) fun _ HS50 _ H50 => sx_ (sxi HS50 [0, 1] rfl) fun hx51 => ht_ H50 14 hx51 rfl rfl (v := .agg #[.int .i64 (bd (q.getD 0 0#8)), .int .u32 (wd (lv 1 q)), .int .u32 (wd (lv 5 q)), .slice none 0 0]) (fun _ _ _ => dd_bld rfl (ps := [(0, .int .i64 (bd (q.getD 0 0#8))), (1, .int .u32 (wd (lv 1 q))), (2, .int .u32 (wd (lv 5 q))), (3, .slice none 0 0)]) (pr1 (H50.ev 24 rfl) (pr1 (H50.ev 27 rfl) (pr1 (H50.ev 30 rfl) (pr1 (H50.ev 36 rfl) (pr0))))) (Lz := [[.int .i64 0], [.int .u32 0], [.int .u32 0], [.slice none 0 0]]) (by kernel_rfl) (lens_cons rfl (lens_cons rfl (lens_cons rfl (lens_cons rfl (lens_nil))))) (fit_cons (i := 0) rfl rfl (fit_cons (i := 1) rfl rfl (fit_cons (i := 2) rfl rfl (fit_cons (i := 3) rfl rfl (fit_nil))))) (cs := #[.int .i64 (bd (q.getD 0 0#8)), .int .u32 (wd (lv 1 q)), .int .u32 (wd (lv 5 q)), .slice none 0 0]) rfl) fun _ H52 => h1_ 15 rfl <| n_ H52 rfl (fun _ h => dd_new HS50 #[.int .i64 0, .int .u32 0, .int .u32 0, .slice none 0 0] rfl (z := .agg #[.int .i64 0, .int .u32 0, .int .u32 0, .slice none 0 0]) (by kernel_rfl) rfl h) fun g5 _ HS53 _ H53 => sx_ (sxi HS53 [0, 1, 2] rfl) fun hx54 => h1_ 16 rfl <| t_ rfl (S := [⟨g2, 29, #[.int .i64 0, .int .u32 0, .int .u32 0, .slice none 0 0]⟩, ⟨g4, 88, #[.int .i64 (bd (q.getD 0 0#8)), .int .u32 (wd (lv 1 q)), .int .u32 (wd (lv 5 q)), .int .i64 nC]⟩, ⟨g5, 29, #[.int .i64 (bd (q.getD 0 0#8)), .int .u32 (wd (lv 1 q)), .int .u32 (wd (lv 5 q)), .slice none 0 0]⟩]) (fun _ h => dd_setrow HS53 2 rfl rfl (H53.ev 5 rfl) (H53.ev 37 rfl) (by kernel_rfl) (rfl : #[.int .i64 (bd (q.getD 0 0#8)), .int .u32 (wd (lv 1 q)), .int .u32 (wd (lv 5 q)), .slice none 0 0].size = 4) (rfl : #[.int .i64 0, .int .u32 0, .int .u32 0, .slice none 0 0].size = 4) (one_l (ao_cons rfl (ao_cons rfl (ao_cons rfl (ao_cons rfl ao_nil))))) h) fun _ HS55 => sx_ (sxi HS55 [0, 1, 2] rfl) fun hx56 => ?_
      clear H49 HSh36 H50 HS50 H52 hx51 HS53 hx54
      refine wpAnyH_done (by kernel_rfl) ?_ _
      clear hx56
      exact nx ⟨g5, H53.sel [0, 2, 5] rfl, ss HS55 [0, 1, 2]⟩
     refine ho_ rfl <| n_ H49 rfl (fun _ h => dd_new HSh36 #[.int .i64 0, .int .u32 0, .int .u32 0, .slice none 0 0] rfl (z := .agg #[.int .i64 0, .int .u32 0, .int .u32 0, .slice none 0 0]) (by kernel_rfl) rfl h) fun g5 W57 HS57 _ H57 => sx_ (sxi HS57 [0, 1, 2] rfl) fun hx58 => h1_ 13 rfl <| c_ H57 rfl HS57 (dcs Try.func34 rfl (args1 (H57.ev 35 rfl)) (putsfrom_0 b (off + 10) (nP - 10) (c - 10) _ W57 (by omega) (by omega) (((HB _ HS57.below).drop 10).take (33 * nC)) (by rw [List.length_take, List.length_drop, hq]; omega)) (.slice none 0 0)) fun _ HS59 _ H59 => sx_ (sxi HS59 [0, 1, 2] rfl) fun hx60 => ht_ H59 14 hx60 rfl rfl (v := .agg #[.int .i64 (bd (q.getD 0 0#8)), .int .u32 (wd (lv 1 q)), .int .u32 (wd (lv 5 q)), .slice none 0 0]) (fun _ _ _ => dd_bld rfl (ps := [(0, .int .i64 (bd (q.getD 0 0#8))), (1, .int .u32 (wd (lv 1 q))), (2, .int .u32 (wd (lv 5 q))), (3, .slice none 0 0)]) (pr1 (H59.ev 24 rfl) (pr1 (H59.ev 27 rfl) (pr1 (H59.ev 30 rfl) (pr1 (H59.ev 36 rfl) (pr0))))) (Lz := [[.int .i64 0], [.int .u32 0], [.int .u32 0], [.slice none 0 0]]) (by kernel_rfl) (lens_cons rfl (lens_cons rfl (lens_cons rfl (lens_cons rfl (lens_nil))))) (fit_cons (i := 0) rfl rfl (fit_cons (i := 1) rfl rfl (fit_cons (i := 2) rfl rfl (fit_cons (i := 3) rfl rfl (fit_nil))))) (cs := #[.int .i64 (bd (q.getD 0 0#8)), .int .u32 (wd (lv 1 q)), .int .u32 (wd (lv 5 q)), .slice none 0 0]) rfl) fun _ H61 => h1_ 16 rfl <| t_ rfl (S := [⟨g2, 29, #[.int .i64 0, .int .u32 0, .int .u32 0, .slice none 0 0]⟩, ⟨g4, 88, #[.int .i64 (bd (q.getD 0 0#8)), .int .u32 (wd (lv 1 q)), .int .u32 (wd (lv 5 q)), .int .i64 nC]⟩, ⟨g5, 29, #[.int .i64 (bd (q.getD 0 0#8)), .int .u32 (wd (lv 1 q)), .int .u32 (wd (lv 5 q)), .slice none 0 0]⟩]) (fun _ h => dd_setrow HS59 2 rfl rfl (H61.ev 5 rfl) (H61.ev 37 rfl) (by kernel_rfl) (rfl : #[.int .i64 (bd (q.getD 0 0#8)), .int .u32 (wd (lv 1 q)), .int .u32 (wd (lv 5 q)), .slice none 0 0].size = 4) (rfl : #[.int .i64 0, .int .u32 0, .int .u32 0, .slice none 0 0].size = 4) (one_l (ao_cons rfl (ao_cons rfl (ao_cons rfl (ao_cons rfl ao_nil))))) h) fun _ HS62 => sx_ (sxi HS62 [0, 1, 2] rfl) fun hx63 => ?_
     clear HSh36 H49 H57 HS57 hx58 H59 HS59 hx60
     refine wpAnyH_done (by kernel_rfl) ?_ _
     clear hx63
     exact nx ⟨g5, H61.sel [0, 2, 5] rfl, ss HS62 [0, 1, 2]⟩
    rintro aj36 wj36 ⟨g5, Hj36, HSj36⟩
    refine nx <| sq_ <| sq_ <| rl_ <| wl_ <| i_ Hj36 rfl (v := .agg #[.int .i64 (bd (q.getD 0 0#8)), .int .u32 (wd (lv 1 q)), .int .u32 (wd (lv 5 q)), .slice none 0 0]) (dd_load HSj36 2 0 rfl rfl (Hj36.ev 5 rfl) (slab_whole _) Try.underlying29 rfl (by kernel_rfl)) fun _ H65 => ?_
    clear Hj36
    cases hb67 : mayP (pktN q nC)
    ·
     refine wl_ <| c_ H65 rfl HSj36 (dcs Try.func35 rfl (args1 (H65.ev 39 rfl)) (pktenc_bad (pktN q nC) (.slice none 0 0) wj36 (pn_nil (by omega)) (by rw [pn_len]; unfold maxLen; omega) hb67) (.tuple #[.slice none 0 0, .int .i64 11])) fun _ HS68 _ H68 => wl_ <| p_ H68 rfl rfl fun _ H69 => wl_ <| i_ H69 rfl (v := .slice none 0 0) (dd_ext rfl (H69.ev 38 rfl) rfl) fun _ H70 => wl_ <| i_ H70 rfl (v := .int .i64 11) (dd_ext rfl (H70.ev 38 rfl) rfl) fun _ H71 => q_ H71 2 rfl fun _ H72 => ln_ <| nx <| sq_ <| rl_ <| wl_ <| p_ H72 rfl rfl fun _ H73 => wl_ <| i_ H73 rfl (dd_cmp rfl (H73.ev 43 rfl) rfl (ne_t (by decide))) fun _ H74 => wl_ <| p_ H74 rfl rfl fun _ H75 => ?_
     clear H65 HSj36 H68 H69 H70 H71 H72 H73
     refine wl_ <| k_ H75 (wg_ H75 rfl rfl rfl rfl) rfl fun _ H76 => wl_ <| k_ H76 (wg_ H76 rfl rfl rfl rfl) rfl fun _ H77 => wl_ <| k_ H77 (wg_ H77 rfl rfl rfl rfl) rfl fun _ H78 => wl_ <| k_ H78 (wg_ H78 rfl rfl rfl rfl) rfl fun _ H79 => wl_ <| p_ H79 rfl rfl fun _ H80 => ln_ <| nx <| ct_ H80 rfl <| sq_ <| rl_ <| wl_ <| i_ H80 rfl (v := .agg #[.int .i64 0, .int .u32 0, .int .u32 0, .slice none 0 0]) (dd_bld rfl (ps := []) (pr0) (Lz := [[.int .i64 0], [.int .u32 0], [.int .u32 0], [.slice none 0 0]]) (by kernel_rfl) (lens_cons rfl (lens_cons rfl (lens_cons rfl (lens_cons rfl (lens_nil))))) (fit_nil) (cs := #[.int .i64 0, .int .u32 0, .int .u32 0, .slice none 0 0]) rfl) fun _ H81 => wl_ <| t_ rfl (fun _ h => dd_setrow HS68 0 rfl rfl (H81.ev 2 rfl) (H81.ev 51 rfl) (by kernel_rfl) (rfl : #[.int .i64 0, .int .u32 0, .int .u32 0, .slice none 0 0].size = 4) (rfl : #[.int .i64 0, .int .u32 0, .int .u32 0, .slice none 0 0].size = 4) (one_l (ao_cons rfl (ao_cons rfl (ao_cons rfl (ao_cons rfl ao_nil))))) h) fun _ HS82 => wl_ <| p_ H81 rfl rfl fun _ H83 => ?_
     clear H74 H75 H76 H77 H78 H79 H80 HS68
     refine ln_ <| ?_
     clear H81
     have H84 := H83.sel [2, 3] rfl
     refine nx <| wp_ret <| tr <| ret_run H84.env0 (res_ct Try.results21 (H84.get 2 rfl) (HS82.row 0 rfl) Try.underlying29 rfl (by kernel_rfl) (H84.get 3 rfl)) <| ?_
     clear H83
     exact .inl ⟨(pk_no3 (by rw [hPN]; exact hb67)), rfl, HS82.below⟩
    refine wl_ <| d_ H65 rfl (R := fun v w9 => ∃ gc86 cc86 cbc86, v = .tuple #[.slice (some ⟨gc86, 0, none⟩) ((encP (pktN q nC)).length) cc86, .int .i64 0] ∧ (wj36.heap.size ≤ gc86) ∧ (Row w9 gc86 5 cbc86) ∧ (OwnC cbc86 cc86 ((encP (pktN q nC)).length) 1 (bytesV (encP (pktN q nC)))) ∧ Below wj36.heap.size wj36 w9) (dc_ Try.func35 rfl (args1 (H65.ev 39 rfl)) (pktenc_good (pktN q nC) (.slice none 0 0) wj36 (pn_nil (by omega)) hb67) (fun _ w9 ⟨v9, he, ho, hb⟩ => by obtain ⟨g9, c9, cb9, rfl, h1, h2, h3⟩ := ownc_pos ho (enc_pos _); exact ⟨_, he, g9, c9, cb9, rfl, h1, h2, h3, hb⟩)) ?_
    rintro _ W85 ⟨gc86, cc86, cbc86, rfl, hg86, hr86, Oc86, hb85⟩ a85 H85
    have HS85 := HSj36.same hb85
    clear H65
    have HS85j : St w noF [⟨g2, 29, #[.int .i64 0, .int .u32 0, .int .u32 0, .slice none 0 0]⟩, ⟨g4, 88, #[.int .i64 (bd (q.getD 0 0#8)), .int .u32 (wd (lv 1 q)), .int .u32 (wd (lv 5 q)), .int .i64 nC]⟩, ⟨g5, 29, #[.int .i64 (bd (q.getD 0 0#8)), .int .u32 (wd (lv 1 q)), .int .u32 (wd (lv 5 q)), .slice none 0 0]⟩, ⟨gc86, 5, cbc86⟩] W85 := HSj36.joins hb85 hr86 hg86
    clear HS85 hr86 hg86
    clear HSj36 hb85
    refine wl_ <| p_ H85 rfl rfl fun _ H87 => wl_ <| i_ H87 rfl (v := .slice (some ⟨gc86, 0, none⟩) ((encP (pktN q nC)).length) cc86) (dd_ext rfl (H87.ev 38 rfl) rfl) fun _ H88 => wl_ <| i_ H88 rfl (v := .int .i64 0) (dd_ext rfl (H88.ev 38 rfl) rfl) fun _ H89 => q_ H89 2 rfl fun _ H90 => ln_ <| nx <| sq_ <| rl_ <| wl_ <| p_ H90 rfl rfl fun _ H91 => wl_ <| i_ H91 rfl (dd_cmp rfl (H91.ev 43 rfl) rfl (ne_f (by decide))) fun _ H92 => wl_ <| p_ H92 rfl rfl fun _ H93 => wl_ <| ig H93 (wg_ H93 rfl rfl rfl rfl) rfl (dd_mv rfl (H93.ev 6 rfl)) fun _ H94 => ?_
    clear H85 H87 H88 H89 H90 H91 H92
    refine wl_ <| ig H94 (wg_ H94 rfl rfl rfl rfl) rfl (dd_mv rfl (H94.ev 0 rfl)) fun _ H95 => ?_
    clear H93 H94
    cases hb97 : decide (encP (pktN q nC) = q)
    ·
     refine wl_ <| icg H95 (wg_ H95 rfl rfl rfl rfl) rfl (v := .bool false) (dc_ Try.func36 rfl (args2 (H95.ev 46 rfl) (H95.ev 47 rfl)) (equal_any (encP (pktN q nC)) q _ _ W85 (slice_own (HS85j.row 3 rfl) Oc86 rfl) ((HB _ HS85j.below).slice hq (by omega))) (fun _ w9 h9 => ⟨_, h9.1, by rw [hb97], h9.2.symm⟩)) fun _ H98 => wl_ <| ig H98 (wg_ H98 rfl rfl rfl rfl) rfl (v := .bool true) (dd_nt rfl (H98.ev 48 rfl) rfl) fun _ H99 => wl_ <| p_ H99 rfl rfl fun _ H100 => ln_ <| nx <| ct_ H100 rfl <| sq_ <| rl_ <| wl_ <| i_ H100 rfl (v := .agg #[.int .i64 0, .int .u32 0, .int .u32 0, .slice none 0 0]) (dd_bld rfl (ps := []) (pr0) (Lz := [[.int .i64 0], [.int .u32 0], [.int .u32 0], [.slice none 0 0]]) (by kernel_rfl) (lens_cons rfl (lens_cons rfl (lens_cons rfl (lens_cons rfl (lens_nil))))) (fit_nil) (cs := #[.int .i64 0, .int .u32 0, .int .u32 0, .slice none 0 0]) rfl) fun _ H101 => wl_ <| t_ rfl (fun _ h => dd_setrow HS85j 0 rfl rfl (H101.ev 2 rfl) (H101.ev 51 rfl) (by kernel_rfl) (rfl : #[.int .i64 0, .int .u32 0, .int .u32 0, .slice none 0 0].size = 4) (rfl : #[.int .i64 0, .int .u32 0, .int .u32 0, .slice none 0 0].size = 4) (one_l (ao_cons rfl (ao_cons rfl (ao_cons rfl (ao_cons rfl ao_nil))))) h) fun _ HS102 => wl_ <| p_ H101 rfl rfl fun _ H103 => ln_ <| ?_
     clear H95 H98 H99 H100 HS85j H101
     have H104 := H103.sel [2, 3] rfl
     refine nx <| wp_ret <| tr <| ret_run H104.env0 (res_ct Try.results21 (H104.get 2 rfl) (HS102.row 0 rfl) Try.underlying29 rfl (by kernel_rfl) (H104.get 3 rfl)) <| ?_
     clear H103
     exact .inl ⟨(pk_no4 (by rw [hPN]; exact hb97)), rfl, HS102.below⟩
    refine wl_ <| icg H95 (wg_ H95 rfl rfl rfl rfl) rfl (v := .bool true) (dc_ Try.func36 rfl (args2 (H95.ev 46 rfl) (H95.ev 47 rfl)) (equal_any (encP (pktN q nC)) q _ _ W85 (slice_own (HS85j.row 3 rfl) Oc86 rfl) ((HB _ HS85j.below).slice hq (by omega))) (fun _ w9 h9 => ⟨_, h9.1, by rw [hb97], h9.2.symm⟩)) fun _ H105 => wl_ <| ig H105 (wg_ H105 rfl rfl rfl rfl) rfl (v := .bool false) (dd_nt rfl (H105.ev 48 rfl) rfl) fun _ H106 => wl_ <| p_ H106 rfl rfl fun _ H107 => ln_ <| nx <| cf_ H107 rfl <| wp_skip <| nx <| sq_ <| rl_ <| wl_ <| i_ H107 rfl (v := .agg #[.int .i64 (bd (q.getD 0 0#8)), .int .u32 (wd (lv 1 q)), .int .u32 (wd (lv 5 q)), .slice none 0 0]) (dd_load HS85j 2 0 rfl rfl (H107.ev 5 rfl) (slab_whole _) Try.underlying29 rfl (by kernel_rfl)) fun _ H108 => wl_ <| t_ rfl (fun _ h => dd_setrow HS85j 0 rfl rfl (H108.ev 2 rfl) (H108.ev 52 rfl) (by kernel_rfl) (rfl : #[.int .i64 (bd (q.getD 0 0#8)), .int .u32 (wd (lv 1 q)), .int .u32 (wd (lv 5 q)), .slice none 0 0].size = 4) (rfl : #[.int .i64 0, .int .u32 0, .int .u32 0, .slice none 0 0].size = 4) (one_l (ao_cons rfl (ao_cons rfl (ao_cons rfl (ao_cons rfl ao_nil))))) h) fun _ HS109 => wl_ <| p_ H108 rfl rfl fun _ H110 => ln_ <| ?_
    clear H95 H105 H106 H107 HS85j H108
    have H111 := H110.sel [2, 3] rfl
    refine nx <| wp_ret <| ret_run H111.env0 (res_ct Try.results21 (H111.get 2 rfl) (HS109.row 0 rfl) Try.underlying29 rfl (by kernel_rfl) (H111.get 3 rfl)) <| ?_
    clear H110
    exact .inr ⟨pk_yes hq (by omega) (by have := hnC; omega) (by rw [hPN]; exact hb67) (by rw [hPN]; exact hb97), _, rfl, .inl ⟨by omega, rfl⟩, HS109.below⟩
   refine wp_cut (fun a9 w9 => ∃ g5 : Nat, ∃ gc127 : Nat, ∃ cbc127 : Array Value, ∃ cc127 : Nat, OwnC cbc127 cc127 nC 33 ((((List.range nC).map (chunkP ((q.drop 10).take (33 * nC)))).map pcell).flatten) ∧ En 53 [(5, .pointer (some ⟨g5, 0, none⟩)), (2, .pointer (some ⟨g2, 0, none⟩)), (0, .slice (some ⟨b, off, none⟩) n c)] a9 ∧ St w noF [⟨g2, 29, #[.int .i64 0, .int .u32 0, .int .u32 0, .slice none 0 0]⟩, ⟨g4, 88, #[.int .i64 (bd (q.getD 0 0#8)), .int .u32 (wd (lv 1 q)), .int .u32 (wd (lv 5 q)), .int .i64 nC]⟩, ⟨gc127, 43, cbc127⟩, ⟨g5, 29, #[.int .i64 (bd (q.getD 0 0#8)), .int .u32 (wd (lv 1 q)), .int .u32 (wd (lv 5 q)), .slice (some ⟨gc127, 0, none⟩) nC cc127]⟩] w9) ?_ ?_
   ·
    refine wi_ HS9 [0, 1] rfl [0, 1] rfl fun HSh112 hx112 => ht_ H19 0 hx112 rfl rfl (fun _ _ _ => xf 0 0 rfl (H19.ev 4 rfl)) fun _ H113 => ht_ H113 1 hx112 rfl rfl (fun _ _ HS9 => dd_get HS9 1 0 rfl rfl (H113.ev 23 rfl) rfl Try.underlying3 rfl) fun _ H114 => ht_ H114 2 hx112 rfl rfl (fun _ _ _ => xf 1 1 rfl (H114.ev 4 rfl)) fun _ H115 => ht_ H115 3 hx112 rfl rfl (fun _ _ _ => xf 0 1 rfl (H115.ev 25 rfl)) fun _ H116 => ht_ H116 4 hx112 rfl rfl (fun _ _ HS9 => dd_get HS9 1 1 rfl rfl (H116.ev 26 rfl) rfl Try.underlying26 rfl) fun _ H117 => ht_ H117 5 hx112 rfl rfl (fun _ _ _ => xf 1 1 rfl (H117.ev 4 rfl)) fun _ H118 => ht_ H118 6 hx112 rfl rfl (fun _ _ _ => xf 1 2 rfl (H118.ev 28 rfl)) fun _ H119 => ?_
    clear HS9 H19 H113 H114 H115 H116 H117
    refine ht_ H119 7 hx112 rfl rfl (fun _ _ HS9 => dd_get HS9 1 2 rfl rfl (H119.ev 29 rfl) rfl Try.underlying26 rfl) fun _ H120 => hp_ H120 8 hx112 rfl rfl rfl fun _ H121 => hp_ H121 9 hx112 rfl rfl rfl fun _ H122 => ht_ H122 10 hx112 rfl rfl (v := .int .i64 n) (fun _ _ _ => dd_len rfl (H122.ev 32 rfl) Try.underlying23) fun _ H123 => ht_ H123 11 hx112 rfl rfl (v := .int .i64 nP) (fun _ _ _ => dd_ari rfl (H123.ev 33 rfl) rfl rfl (by rw [i64_id _ (by omega) (by omega)]; omega)) fun _ H124 => ht_ H124 12 hx112 rfl rfl (v := .slice (some ⟨b, off + 10, none⟩) (nP - 10) (c - 10)) (fun _ _ _ => dd_sllh (l := 10) (u := nP) (sz := 1) rfl (H124.ev 31 rfl) rfl (H124.ev 34 rfl) (by kernel_rfl) (by omega) (by omega) (by omega) rfl rfl rfl) fun _ H125 => ?_
    clear H118 H119 H120 H121 H122 H123 H124
    refine wpAnyH_all (rs := [13, 15]) (by kernel_rfl) (by decide) (hm_cons ?_ (hm_cons ?_ hm_nil))
    ·
     refine ho_ rfl <| d_ H125 rfl (R := fun v w9 => ∃ gc127 cc127 cbc127, v = .slice (some ⟨gc127, 0, none⟩) nC cc127 ∧ (W9.drew.heap.size ≤ gc127) ∧ (Row w9 gc127 43 cbc127) ∧ (OwnC cbc127 cc127 nC 33 ((((List.range nC).map (chunkP ((q.drop 10).take (33 * nC)))).map pcell).flatten)) ∧ Below W9.drew.heap.size W9.drew w9) (dc_ Try.func34 rfl (args1 (H125.ev 35 rfl)) (putsfrom_S b (off + 10) (nP - 10) (c - 10) nC _ W9.drew (by omega) (by omega) (by omega) (by omega) (((HB _ HSh112.below).drop 10).take (33 * nC)) (by rw [List.length_take, List.length_drop, hq]; omega)) (fun _ w9 ⟨g9, c9, cb9, he, h1, h2, h3, hb⟩ => ⟨_, he, g9, c9, cb9, rfl, h1, h2, h3, hb⟩)) ?_
     rintro _ W126 ⟨gc127, cc127, cbc127, rfl, hg127, hr127, Oc127, hb126⟩ a126 H126
     have HS126 := HSh112.same hb126
     clear H125
     have HS126j : St w noF [⟨g2, 29, #[.int .i64 0, .int .u32 0, .int .u32 0, .slice none 0 0]⟩, ⟨g4, 88, #[.int .i64 (bd (q.getD 0 0#8)), .int .u32 (wd (lv 1 q)), .int .u32 (wd (lv 5 q)), .int .i64 nC]⟩, ⟨gc127, 43, cbc127⟩] W126 := HSh112.joins hb126 hr127 hg127
     clear HS126 hr127 hg127
     clear HSh112 hb126
     refine sx_ (sxi HS126j [0, 1, 2] rfl) fun hx128 => ht_ H126 14 hx128 rfl rfl (v := .agg #[.int .i64 (bd (q.getD 0 0#8)), .int .u32 (wd (lv 1 q)), .int .u32 (wd (lv 5 q)), .slice (some ⟨gc127, 0, none⟩) nC cc127]) (fun _ _ _ => dd_bld rfl (ps := [(0, .int .i64 (bd (q.getD 0 0#8))), (1, .int .u32 (wd (lv 1 q))), (2, .int .u32 (wd (lv 5 q))), (3, .slice (some ⟨gc127, 0, none⟩) nC cc127)]) (pr1 (H126.ev 24 rfl) (pr1 (H126.ev 27 rfl) (pr1 (H126.ev 30 rfl) (pr1 (H126.ev 36 rfl) (pr0))))) (Lz := [[.int .i64 0], [.int .u32 0], [.int .u32 0], [.slice none 0 0]]) (by kernel_rfl) (lens_cons rfl (lens_cons rfl (lens_cons rfl (lens_cons rfl (lens_nil))))) (fit_cons (i := 0) rfl rfl (fit_cons (i := 1) rfl rfl (fit_cons (i := 2) rfl rfl (fit_cons (i := 3) rfl rfl (fit_nil))))) (cs := #[.int .i64 (bd (q.getD 0 0#8)), .int .u32 (wd (lv 1 q)), .int .u32 (wd (lv 5 q)), .slice (some ⟨gc127, 0, none⟩) nC cc127]) rfl) fun _ H129 => h1_ 15 rfl <| n_ H129 rfl (fun _ h => dd_new HS126j #[.int .i64 0, .int .u32 0, .int .u32 0, .slice none 0 0] rfl (z := .agg #[.int .i64 0, .int .u32 0, .int .u32 0, .slice none 0 0]) (by kernel_rfl) rfl h) fun g5 _ HS130 _ H130 => sx_ (sxi HS130 [0, 1, 2, 3] rfl) fun hx131 => h1_ 16 rfl <| t_ rfl (S := [⟨g2, 29, #[.int .i64 0, .int .u32 0, .int .u32 0, .slice none 0 0]⟩, ⟨g4, 88, #[.int .i64 (bd (q.getD 0 0#8)), .int .u32 (wd (lv 1 q)), .int .u32 (wd (lv 5 q)), .int .i64 nC]⟩, ⟨gc127, 43, cbc127⟩, ⟨g5, 29, #[.int .i64 (bd (q.getD 0 0#8)), .int .u32 (wd (lv 1 q)), .int .u32 (wd (lv 5 q)), .slice (some ⟨gc127, 0, none⟩) nC cc127]⟩]) (fun _ h => dd_setrow HS130 3 rfl rfl (H130.ev 5 rfl) (H130.ev 37 rfl) (by kernel_rfl) (rfl : #[.int .i64 (bd (q.getD 0 0#8)), .int .u32 (wd (lv 1 q)), .int .u32 (wd (lv 5 q)), .slice (some ⟨gc127, 0, none⟩) nC cc127].size = 4) (rfl : #[.int .i64 0, .int .u32 0, .int .u32 0, .slice none 0 0].size = 4) (one_l (ao_cons rfl (ao_cons rfl (ao_cons rfl (ao_cons rfl ao_nil))))) h) fun _ HS132 => sx_ (sxi HS132 [0, 1, 2, 3] rfl) fun hx133 => ?_
     clear H126 HS126j H129 hx128 HS130 hx131
     refine wpAnyH_done (by kernel_rfl) ?_ _
     clear hx133
     exact nx ⟨g5, gc127, cbc127, cc127, Oc127, H130.sel [0, 2, 5] rfl, ss HS132 [0, 1, 2, 3]⟩
    refine ho_ rfl <| n_ H125 rfl (fun _ h => dd_new HSh112 #[.int .i64 0, .int .u32 0, .int .u32 0, .slice none 0 0] rfl (z := .agg #[.int .i64 0, .int .u32 0, .int .u32 0, .slice none 0 0]) (by kernel_rfl) rfl h) fun g5 W134 HS134 _ H134 => sx_ (sxi HS134 [0, 1, 2] rfl) fun hx135 => ?_
    clear HSh112 H125
    refine h1_ 13 rfl <| d_ H134 rfl (R := fun v w9 => ∃ gc137 cc137 cbc137, v = .slice (some ⟨gc137, 0, none⟩) nC cc137 ∧ (W134.heap.size ≤ gc137) ∧ (Row w9 gc137 43 cbc137) ∧ (OwnC cbc137 cc137 nC 33 ((((List.range nC).map (chunkP ((q.drop 10).take (33 * nC)))).map pcell).flatten)) ∧ Below W134.heap.size W134 w9) (dc_ Try.func34 rfl (args1 (H134.ev 35 rfl)) (putsfrom_S b (off + 10) (nP - 10) (c - 10) nC _ W134 (by omega) (by omega) (by omega) (by omega) (((HB _ HS134.below).drop 10).take (33 * nC)) (by rw [List.length_take, List.length_drop, hq]; omega)) (fun _ w9 ⟨g9, c9, cb9, he, h1, h2, h3, hb⟩ => ⟨_, he, g9, c9, cb9, rfl, h1, h2, h3, hb⟩)) ?_
    rintro _ W136 ⟨gc137, cc137, cbc137, rfl, hg137, hr137, Oc137, hb136⟩ a136 H136
    have HS136 := HS134.same hb136
    clear H134
    have HS136j : St w noF [⟨g2, 29, #[.int .i64 0, .int .u32 0, .int .u32 0, .slice none 0 0]⟩, ⟨g4, 88, #[.int .i64 (bd (q.getD 0 0#8)), .int .u32 (wd (lv 1 q)), .int .u32 (wd (lv 5 q)), .int .i64 nC]⟩, ⟨g5, 29, #[.int .i64 0, .int .u32 0, .int .u32 0, .slice none 0 0]⟩, ⟨gc137, 43, cbc137⟩] W136 := HS134.joins hb136 hr137 hg137
    clear HS136 hr137 hg137
    clear HS134 hb136
    refine sx_ (sxi HS136j [0, 1, 2, 3] rfl) fun hx138 => ht_ H136 14 hx138 rfl rfl (v := .agg #[.int .i64 (bd (q.getD 0 0#8)), .int .u32 (wd (lv 1 q)), .int .u32 (wd (lv 5 q)), .slice (some ⟨gc137, 0, none⟩) nC cc137]) (fun _ _ _ => dd_bld rfl (ps := [(0, .int .i64 (bd (q.getD 0 0#8))), (1, .int .u32 (wd (lv 1 q))), (2, .int .u32 (wd (lv 5 q))), (3, .slice (some ⟨gc137, 0, none⟩) nC cc137)]) (pr1 (H136.ev 24 rfl) (pr1 (H136.ev 27 rfl) (pr1 (H136.ev 30 rfl) (pr1 (H136.ev 36 rfl) (pr0))))) (Lz := [[.int .i64 0], [.int .u32 0], [.int .u32 0], [.slice none 0 0]]) (by kernel_rfl) (lens_cons rfl (lens_cons rfl (lens_cons rfl (lens_cons rfl (lens_nil))))) (fit_cons (i := 0) rfl rfl (fit_cons (i := 1) rfl rfl (fit_cons (i := 2) rfl rfl (fit_cons (i := 3) rfl rfl (fit_nil))))) (cs := #[.int .i64 (bd (q.getD 0 0#8)), .int .u32 (wd (lv 1 q)), .int .u32 (wd (lv 5 q)), .slice (some ⟨gc137, 0, none⟩) nC cc137]) rfl) fun _ H139 => h1_ 16 rfl <| t_ rfl (S := [⟨g2, 29, #[.int .i64 0, .int .u32 0, .int .u32 0, .slice none 0 0]⟩, ⟨g4, 88, #[.int .i64 (bd (q.getD 0 0#8)), .int .u32 (wd (lv 1 q)), .int .u32 (wd (lv 5 q)), .int .i64 nC]⟩, ⟨g5, 29, #[.int .i64 (bd (q.getD 0 0#8)), .int .u32 (wd (lv 1 q)), .int .u32 (wd (lv 5 q)), .slice (some ⟨gc137, 0, none⟩) nC cc137]⟩, ⟨gc137, 43, cbc137⟩]) (fun _ h => dd_setrow HS136j 2 rfl rfl (H139.ev 5 rfl) (H139.ev 37 rfl) (by kernel_rfl) (rfl : #[.int .i64 (bd (q.getD 0 0#8)), .int .u32 (wd (lv 1 q)), .int .u32 (wd (lv 5 q)), .slice (some ⟨gc137, 0, none⟩) nC cc137].size = 4) (rfl : #[.int .i64 0, .int .u32 0, .int .u32 0, .slice none 0 0].size = 4) (one_l (ao_cons rfl (ao_cons rfl (ao_cons rfl (ao_cons rfl ao_nil))))) h) fun _ HS140 => sx_ (sxi HS140 [0, 1, 2, 3] rfl) fun hx141 => ?_
    clear hx135 H136 HS136j hx138
    refine wpAnyH_done (by kernel_rfl) ?_ _
    clear hx141
    exact nx ⟨g5, gc137, cbc137, cc137, Oc137, H139.sel [0, 2, 5] rfl, ss HS140 [0, 1, 3, 2]⟩
   rintro aj112 wj112 ⟨g5, gc127, cbc127, cc127, Oc127, Hj112, HSj112⟩
   refine nx <| sq_ <| sq_ <| rl_ <| wl_ <| i_ Hj112 rfl (v := .agg #[.int .i64 (bd (q.getD 0 0#8)), .int .u32 (wd (lv 1 q)), .int .u32 (wd (lv 5 q)), .slice (some ⟨gc127, 0, none⟩) nC cc127]) (dd_load HSj112 3 0 rfl rfl (Hj112.ev 5 rfl) (slab_whole _) Try.underlying29 rfl (by kernel_rfl)) fun _ H143 => ?_
   clear Hj112
   cases hb145 : mayP (pktN q nC)
   ·
    refine wl_ <| c_ H143 rfl HSj112 (dcs Try.func35 rfl (args1 (H143.ev 39 rfl)) (pktenc_bad (pktN q nC) (.slice (some ⟨gc127, 0, none⟩) nC cc127) wj112 (puts_ownl (pn_len _ _) (ownc_to (HSj112.row 2 rfl) Oc127 (Nat.zero_le _)) (hlq (by omega))) (by rw [pn_len]; unfold maxLen; omega) hb145) (.tuple #[.slice none 0 0, .int .i64 11])) fun _ HS146 _ H146 => wl_ <| p_ H146 rfl rfl fun _ H147 => wl_ <| i_ H147 rfl (v := .slice none 0 0) (dd_ext rfl (H147.ev 38 rfl) rfl) fun _ H148 => wl_ <| i_ H148 rfl (v := .int .i64 11) (dd_ext rfl (H148.ev 38 rfl) rfl) fun _ H149 => q_ H149 2 rfl fun _ H150 => ln_ <| nx <| sq_ <| rl_ <| wl_ <| p_ H150 rfl rfl fun _ H151 => wl_ <| i_ H151 rfl (dd_cmp rfl (H151.ev 43 rfl) rfl (ne_t (by decide))) fun _ H152 => wl_ <| p_ H152 rfl rfl fun _ H153 => ?_
    clear H143 HSj112 H146 H147 H148 H149 H150 H151
    refine wl_ <| k_ H153 (wg_ H153 rfl rfl rfl rfl) rfl fun _ H154 => wl_ <| k_ H154 (wg_ H154 rfl rfl rfl rfl) rfl fun _ H155 => wl_ <| k_ H155 (wg_ H155 rfl rfl rfl rfl) rfl fun _ H156 => wl_ <| k_ H156 (wg_ H156 rfl rfl rfl rfl) rfl fun _ H157 => wl_ <| p_ H157 rfl rfl fun _ H158 => ln_ <| nx <| ct_ H158 rfl <| sq_ <| rl_ <| wl_ <| i_ H158 rfl (v := .agg #[.int .i64 0, .int .u32 0, .int .u32 0, .slice none 0 0]) (dd_bld rfl (ps := []) (pr0) (Lz := [[.int .i64 0], [.int .u32 0], [.int .u32 0], [.slice none 0 0]]) (by kernel_rfl) (lens_cons rfl (lens_cons rfl (lens_cons rfl (lens_cons rfl (lens_nil))))) (fit_nil) (cs := #[.int .i64 0, .int .u32 0, .int .u32 0, .slice none 0 0]) rfl) fun _ H159 => wl_ <| t_ rfl (fun _ h => dd_setrow HS146 0 rfl rfl (H159.ev 2 rfl) (H159.ev 51 rfl) (by kernel_rfl) (rfl : #[.int .i64 0, .int .u32 0, .int .u32 0, .slice none 0 0].size = 4) (rfl : #[.int .i64 0, .int .u32 0, .int .u32 0, .slice none 0 0].size = 4) (one_l (ao_cons rfl (ao_cons rfl (ao_cons rfl (ao_cons rfl ao_nil))))) h) fun _ HS160 => wl_ <| p_ H159 rfl rfl fun _ H161 => ?_
    clear H152 H153 H154 H155 H156 H157 H158 HS146
    refine ln_ <| ?_
    clear H159
    have H162 := H161.sel [2, 3] rfl
    refine nx <| wp_ret <| tr <| ret_run H162.env0 (res_ct Try.results21 (H162.get 2 rfl) (HS160.row 0 rfl) Try.underlying29 rfl (by kernel_rfl) (H162.get 3 rfl)) <| ?_
    clear H161
    exact .inl ⟨(pk_no3 (by rw [hPN]; exact hb145)), rfl, HS160.below⟩
   refine wl_ <| d_ H143 rfl (R := fun v w9 => ∃ gc164 cc164 cbc164, v = .tuple #[.slice (some ⟨gc164, 0, none⟩) ((encP (pktN q nC)).length) cc164, .int .i64 0] ∧ (wj112.heap.size ≤ gc164) ∧ (Row w9 gc164 5 cbc164) ∧ (OwnC cbc164 cc164 ((encP (pktN q nC)).length) 1 (bytesV (encP (pktN q nC)))) ∧ Below wj112.heap.size wj112 w9) (dc_ Try.func35 rfl (args1 (H143.ev 39 rfl)) (pktenc_good (pktN q nC) (.slice (some ⟨gc127, 0, none⟩) nC cc127) wj112 (puts_ownl (pn_len _ _) (ownc_to (HSj112.row 2 rfl) Oc127 (Nat.zero_le _)) (hlq (by omega))) hb145) (fun _ w9 ⟨v9, he, ho, hb⟩ => by obtain ⟨g9, c9, cb9, rfl, h1, h2, h3⟩ := ownc_pos ho (enc_pos _); exact ⟨_, he, g9, c9, cb9, rfl, h1, h2, h3, hb⟩)) ?_
   rintro _ W163 ⟨gc164, cc164, cbc164, rfl, hg164, hr164, Oc164, hb163⟩ a163 H163
   have HS163 := HSj112.same hb163
   clear H143
   have HS163j : St w noF [⟨g2, 29, #[.int .i64 0, .int .u32 0, .int .u32 0, .slice none 0 0]⟩, ⟨g4, 88, #[.int .i64 (bd (q.getD 0 0#8)), .int .u32 (wd (lv 1 q)), .int .u32 (wd (lv 5 q)), .int .i64 nC]⟩, ⟨gc127, 43, cbc127⟩, ⟨g5, 29, #[.int .i64 (bd (q.getD 0 0#8)), .int .u32 (wd (lv 1 q)), .int .u32 (wd (lv 5 q)), .slice (some ⟨gc127, 0, none⟩) nC cc127]⟩, ⟨gc164, 5, cbc164⟩] W163 := HSj112.joins hb163 hr164 hg164
   clear HS163 hr164 hg164
   clear HSj112 hb163
   refine wl_ <| p_ H163 rfl rfl fun _ H165 => wl_ <| i_ H165 rfl (v := .slice (some ⟨gc164, 0, none⟩) ((encP (pktN q nC)).length) cc164) (dd_ext rfl (H165.ev 38 rfl) rfl) fun _ H166 => wl_ <| i_ H166 rfl (v := .int .i64 0) (dd_ext rfl (H166.ev 38 rfl) rfl) fun _ H167 => q_ H167 2 rfl fun _ H168 => ln_ <| nx <| sq_ <| rl_ <| wl_ <| p_ H168 rfl rfl fun _ H169 => wl_ <| i_ H169 rfl (dd_cmp rfl (H169.ev 43 rfl) rfl (ne_f (by decide))) fun _ H170 => wl_ <| p_ H170 rfl rfl fun _ H171 => wl_ <| ig H171 (wg_ H171 rfl rfl rfl rfl) rfl (dd_mv rfl (H171.ev 6 rfl)) fun _ H172 => ?_
   clear H163 H165 H166 H167 H168 H169 H170
   refine wl_ <| ig H172 (wg_ H172 rfl rfl rfl rfl) rfl (dd_mv rfl (H172.ev 0 rfl)) fun _ H173 => ?_
   clear H171 H172
   cases hb175 : decide (encP (pktN q nC) = q)
   ·
    refine wl_ <| icg H173 (wg_ H173 rfl rfl rfl rfl) rfl (v := .bool false) (dc_ Try.func36 rfl (args2 (H173.ev 46 rfl) (H173.ev 47 rfl)) (equal_any (encP (pktN q nC)) q _ _ W163 (slice_own (HS163j.row 4 rfl) Oc164 rfl) ((HB _ HS163j.below).slice hq (by omega))) (fun _ w9 h9 => ⟨_, h9.1, by rw [hb175], h9.2.symm⟩)) fun _ H176 => wl_ <| ig H176 (wg_ H176 rfl rfl rfl rfl) rfl (v := .bool true) (dd_nt rfl (H176.ev 48 rfl) rfl) fun _ H177 => wl_ <| p_ H177 rfl rfl fun _ H178 => ln_ <| nx <| ct_ H178 rfl <| sq_ <| rl_ <| wl_ <| i_ H178 rfl (v := .agg #[.int .i64 0, .int .u32 0, .int .u32 0, .slice none 0 0]) (dd_bld rfl (ps := []) (pr0) (Lz := [[.int .i64 0], [.int .u32 0], [.int .u32 0], [.slice none 0 0]]) (by kernel_rfl) (lens_cons rfl (lens_cons rfl (lens_cons rfl (lens_cons rfl (lens_nil))))) (fit_nil) (cs := #[.int .i64 0, .int .u32 0, .int .u32 0, .slice none 0 0]) rfl) fun _ H179 => wl_ <| t_ rfl (fun _ h => dd_setrow HS163j 0 rfl rfl (H179.ev 2 rfl) (H179.ev 51 rfl) (by kernel_rfl) (rfl : #[.int .i64 0, .int .u32 0, .int .u32 0, .slice none 0 0].size = 4) (rfl : #[.int .i64 0, .int .u32 0, .int .u32 0, .slice none 0 0].size = 4) (one_l (ao_cons rfl (ao_cons rfl (ao_cons rfl (ao_cons rfl ao_nil))))) h) fun _ HS180 => wl_ <| p_ H179 rfl rfl fun _ H181 => ln_ <| ?_
    clear H173 H176 H177 H178 HS163j H179
    have H182 := H181.sel [2, 3] rfl
    refine nx <| wp_ret <| tr <| ret_run H182.env0 (res_ct Try.results21 (H182.get 2 rfl) (HS180.row 0 rfl) Try.underlying29 rfl (by kernel_rfl) (H182.get 3 rfl)) <| ?_
    clear H181
    exact .inl ⟨(pk_no4 (by rw [hPN]; exact hb175)), rfl, HS180.below⟩
   refine wl_ <| icg H173 (wg_ H173 rfl rfl rfl rfl) rfl (v := .bool true) (dc_ Try.func36 rfl (args2 (H173.ev 46 rfl) (H173.ev 47 rfl)) (equal_any (encP (pktN q nC)) q _ _ W163 (slice_own (HS163j.row 4 rfl) Oc164 rfl) ((HB _ HS163j.below).slice hq (by omega))) (fun _ w9 h9 => ⟨_, h9.1, by rw [hb175], h9.2.symm⟩)) fun _ H183 => wl_ <| ig H183 (wg_ H183 rfl rfl rfl rfl) rfl (v := .bool false) (dd_nt rfl (H183.ev 48 rfl) rfl) fun _ H184 => wl_ <| p_ H184 rfl rfl fun _ H185 => ln_ <| nx <| cf_ H185 rfl <| wp_skip <| nx <| sq_ <| rl_ <| wl_ <| i_ H185 rfl (v := .agg #[.int .i64 (bd (q.getD 0 0#8)), .int .u32 (wd (lv 1 q)), .int .u32 (wd (lv 5 q)), .slice (some ⟨gc127, 0, none⟩) nC cc127]) (dd_load HS163j 3 0 rfl rfl (H185.ev 5 rfl) (slab_whole _) Try.underlying29 rfl (by kernel_rfl)) fun _ H186 => wl_ <| t_ rfl (fun _ h => dd_setrow HS163j 0 rfl rfl (H186.ev 2 rfl) (H186.ev 52 rfl) (by kernel_rfl) (rfl : #[.int .i64 (bd (q.getD 0 0#8)), .int .u32 (wd (lv 1 q)), .int .u32 (wd (lv 5 q)), .slice (some ⟨gc127, 0, none⟩) nC cc127].size = 4) (rfl : #[.int .i64 0, .int .u32 0, .int .u32 0, .slice none 0 0].size = 4) (one_l (ao_cons rfl (ao_cons rfl (ao_cons rfl (ao_cons rfl ao_nil))))) h) fun _ HS187 => wl_ <| p_ H186 rfl rfl fun _ H188 => ln_ <| ?_
   clear H173 H183 H184 H185 HS163j H186
   have H189 := H188.sel [2, 3] rfl
   refine nx <| wp_ret <| ret_run H189.env0 (res_ct Try.results21 (H189.get 2 rfl) (HS187.row 0 rfl) Try.underlying29 rfl (by kernel_rfl) (H189.get 3 rfl)) <| ?_
   clear H188
   exact .inr ⟨pk_yes hq (by omega) (by have := hnC; omega) (by rw [hPN]; exact hb145) (by rw [hPN]; exact hb175), _, rfl, .inr ⟨by omega, gc127, cc127, cbc127, rfl, (st_fresh2 HS187 2 rfl), HS187.row 2 rfl, Oc127⟩, HS187.below⟩
  refine wl_ <| i_ H16 rfl (dd_cmp rfl (H16.ev 15 rfl) (H16.ev 20 rfl) (ne_t hc18)) fun _ H190 => ln_ <| nx <| ct_ H190 rfl <| sq_ <| rl_ <| wl_ <| i_ H190 rfl (v := .agg #[.int .i64 0, .int .u32 0, .int .u32 0, .slice none 0 0]) (dd_bld rfl (ps := []) (pr0) (Lz := [[.int .i64 0], [.int .u32 0], [.int .u32 0], [.slice none 0 0]]) (by kernel_rfl) (lens_cons rfl (lens_cons rfl (lens_cons rfl (lens_cons rfl (lens_nil))))) (fit_nil) (cs := #[.int .i64 0, .int .u32 0, .int .u32 0, .slice none 0 0]) rfl) fun _ H191 => wl_ <| t_ rfl (fun _ h => dd_setrow HS9 0 rfl rfl (H191.ev 2 rfl) (H191.ev 22 rfl) (by kernel_rfl) (rfl : #[.int .i64 0, .int .u32 0, .int .u32 0, .slice none 0 0].size = 4) (rfl : #[.int .i64 0, .int .u32 0, .int .u32 0, .slice none 0 0].size = 4) (one_l (ao_cons rfl (ao_cons rfl (ao_cons rfl (ao_cons rfl ao_nil))))) h) fun _ HS192 => wl_ <| p_ H191 rfl rfl fun _ H193 => ln_ <| ?_
  clear H16 H190 HS9 H191
  have H194 := H193.sel [2, 3] rfl
  refine nx <| wp_ret <| tr <| ret_run H194.env0 (res_ct Try.results21 (H194.get 2 rfl) (HS192.row 0 rfl) Try.underlying29 rfl (by kernel_rfl) (H194.get 3 rfl)) <| ?_
  clear H193
  exact .inl ⟨(pk_no2 hq (by have := hnC; omega)), rfl, HS192.below⟩
theorem pkdec_any (A : Option Addr) (n c : Nat) (q : List (BitVec 8)) (w : World) (hs : Slice w (.slice A n c) q) : Calls Try.prog 21 #[.slice A n c] w fun x w' => (pkOk q = false ∧ x = .returned (.tuple #[.agg #[.int .i64 0, .int .u32 0, .int .u32 0, .slice none 0 0], .int .i64 11]) ∧ Below w.heap.size w w') ∨ (pkOk q = true ∧ ∃ sl, x = .returned (.tuple #[.agg #[.int .i64 (bd (q.getD 0 0#8)), .int .u32 (wd (lv 1 q)), .int .u32 (wd (lv 5 q)), sl], .int .i64 0]) ∧ OwnP w w' sl (cntP q) (lP q) ∧ Below w.heap.size w w') := by
  obtain ⟨A', c', e, hc, h3⟩ := id hs
  injection e with e1 e2 e3
  subst e1 e2 e3
  by_cases hn : q.length < 12
  · refine (pkdec_short A q.length c w hn).mono ?_
    rintro x w' ⟨rfl, hb⟩
    exact .inl ⟨pk_no1 rfl hn, rfl, hb⟩
  · obtain ⟨b, off, rfl, hB, _⟩ := slice_bat hs (by omega)
    have h9 : cntP q ≤ 255 := by unfold cntP; have := (q.getD 9 0#8).isLt; omega
    exact pkdec_walk b off q.length c (cntP q) (q.length - 2) q w hB rfl (by omega) hc rfl rfl h9 rfl (fun h => lP_ok h)
theorem pkdec_bad (A : Option Addr) (n c : Nat) (q : List (BitVec 8)) (w : World) (hs : Slice w (.slice A n c) q) (h : pkOk q = false) : Calls Try.prog 21 #[.slice A n c] w fun x w' => x = .returned (.tuple #[.agg #[.int .i64 0, .int .u32 0, .int .u32 0, .slice none 0 0], .int .i64 11]) ∧ Below w.heap.size w w' := by
  refine (pkdec_any A n c q w hs).mono ?_
  rintro x w' (⟨_, k⟩ | ⟨k, _⟩)
  · exact k
  · rw [h] at k; cases k
theorem pkdec_good (A : Option Addr) (n c : Nat) (q : List (BitVec 8)) (w : World) (hs : Slice w (.slice A n c) q) (h : pkOk q = true) : Calls Try.prog 21 #[.slice A n c] w fun x w' => ∃ sl, x = .returned (.tuple #[.agg #[.int .i64 (bd (q.getD 0 0#8)), .int .u32 (wd (lv 1 q)), .int .u32 (wd (lv 5 q)), sl], .int .i64 0]) ∧ OwnP w w' sl (cntP q) (lP q) ∧ Below w.heap.size w w' := by
  refine (pkdec_any A n c q w hs).mono ?_
  rintro x w' (⟨k, _⟩ | ⟨_, k⟩)
  · rw [h] at k; cases k
  · exact k
end Go.Proofs.Ytbdpocbnkgckhaa

/- Whether two packets are alike. -/
set_option maxRecDepth 4000
namespace Go.Proofs.Ytbdpocbnkgckhaa
open Go Go.RowKit
theorem pc_at {w : World} {b o : Nat} {x : Pt} (h : w.rangeAt b o (pcell x)) : w.cell? ⟨b, o, none⟩ = some (.int .i64 x.1) := h 0 _ rfl
theorem puts_cells {w W : World} {b o n c : Nat} {l : List Pt} (h : PutsAt w (.slice (some ⟨b, o, none⟩) n c) l) (hb : Below w.heap.size w W) : ∀ (k : Nat) (x : Pt), l[k]? = some x → W.rangeAt b (o + k * 33) (pcell x) := fun k x hx => by
  obtain ⟨A, c', e, _, _, h4⟩ := h
  injection e with e1 e2 e3
  obtain ⟨b', o', e4, h5, h6⟩ := h4 (by rintro rfl; cases hx)
  rw [← e1] at e4
  injection e4 with e4; injection e4 with e5 e6; subst e5 e6
  exact fun j v hv => (hb.cell (p := ⟨b, o + k * 33 + j, none⟩) h5).trans (h6 k x hx j v hv)
end Go.Proofs.Ytbdpocbnkgckhaa

/- Packets and their bytes: there and back, one byte turned, one fewer, one more. -/
set_option maxRecDepth 4000
namespace Go.Proofs.Ytbdpocbnkgckhaa
open Go Go.RowKit
theorem bd_byteP {z : Int} (h0 : 0 ≤ z) (h1 : z < 256) : bd (byteP z) = z := (bd_of z h0 h1).symm
theorem good_at {l : List Int} (h : goodB l = true) : l.length ≤ 5 ∧ ∀ x ∈ l, 0 ≤ x ∧ x < 12 := by
  unfold goodB at h
  rw [Bool.and_eq_true, Bool.and_eq_true] at h
  refine ⟨of_decide_eq_true h.2.2, fun x hx => ?_⟩
  obtain ⟨k, hk, e⟩ := List.getElem_of_mem hx
  have h1 := of_decide_eq_true h.1 k hk
  have e2 : l.getD k 0 = x := by rw [List.getD_eq_getElem?_getD, List.getElem?_eq_getElem hk, e]; rfl
  rw [← e2]
  exact ⟨h1.1, h1.2.1⟩
theorem mayP_of {p : Pkt} (h : mayP p = true) : (1 ≤ p.k ∧ p.k ≤ 4) ∧ p.l.length ≤ 5 ∧ ∀ x ∈ p.l, 0 ≤ x.1 ∧ x.1 < 12 := by
  have h5 := mayP_len h
  unfold mayP at h
  split at h
  · have hg := good_at h
    exact ⟨by omega, h5, fun x hx => hg.2 x.1 (List.mem_map_of_mem hx)⟩
  · split at h
    · have := of_decide_eq_true h
      exact ⟨by omega, h5, fun x hx => by rw [List.eq_nil_of_length_eq_zero this] at hx; cases hx⟩
    · cases h
theorem len_putB {x : Pt} (h : x.2.length = 32) : (putB x).length = 33 := by unfold putB; rw [List.length_cons, h]
theorem pk_puts {l : List Pt} (h : ∀ x ∈ l, x.2.length = 32 ∧ 0 ≤ x.1 ∧ x.1 < 256) : (List.range l.length).map (chunkP (l.map putB).flatten) = l := by
  apply List.ext_getElem?
  intro k
  by_cases hk : k < l.length
  · obtain ⟨x, hx⟩ : ∃ x, l[k]? = some x := ⟨_, List.getElem?_eq_getElem hk⟩
    have h1 := h x (List.mem_of_getElem? hx)
    have key : ∀ j, j < 33 → ((l.map putB).flatten)[k * 33 + j]? = (putB x)[j]? := fun j hj => flat_get (sz := 33) (l.map putB) (fun c hc => by
      obtain ⟨y, hy, rfl⟩ := List.mem_map.1 hc
      exact len_putB (h y hy).1) k j (putB x) (by rw [List.getElem?_map, hx]; rfl) hj
    rw [List.getElem?_map, List.getElem?_range hk, hx]
    show some (chunkP _ k) = some x
    congr 1
    have e1 : ((l.map putB).flatten).getD (33 * k) 0#8 = byteP x.1 := by
      rw [List.getD_eq_getElem?_getD, show 33 * k = k * 33 + 0 by omega, key 0 (by decide)]
      rfl
    have e2 : (((l.map putB).flatten).drop (33 * k + 1)).take 32 = x.2 := by
      apply List.ext_getElem?
      intro j
      by_cases hj : j < 32
      · rw [List.getElem?_take_of_lt hj, List.getElem?_drop, show 33 * k + 1 + j = k * 33 + (j + 1) by omega, key (j + 1) (by omega)]
        rfl
      · rw [List.getElem?_eq_none (by rw [List.length_take]; omega), List.getElem?_eq_none (by omega)]
    unfold chunkP
    rw [e1, e2, bd_byteP h1.2.1 h1.2.2]
  · rw [List.getElem?_eq_none (by rw [List.length_map, List.length_range]; omega), List.getElem?_eq_none (by omega)]
def Pw (p : Pkt) : Prop := ∀ x ∈ p.l, x.2.length = 32
theorem hd_split (p : Pkt) : encP p = byteP p.k :: (four p.e ++ (four p.s ++ (byteP p.l.length :: ((p.l.map putB).flatten ++ two (crcOf (bodyP p)))))) := by
  unfold encP
  generalize two (crcOf (bodyP p)) = t
  unfold bodyP hdB
  simp
theorem len_four (v : BitVec 32) : (four v).length = 4 := rfl
theorem enc_at0 (p : Pkt) : (encP p).getD 0 0#8 = byteP p.k := by rw [hd_split]; rfl
theorem enc_at9 (p : Pkt) : (encP p).getD 9 0#8 = byteP p.l.length := by rw [hd_split]; rfl
theorem enc_e (p : Pkt) : lv 1 (encP p) = p.e := by
  have hl : 10 ≤ (encP p).length := by rw [hd_split]; simp [len_four]; omega
  rw [lv_num _ _ (by omega), hd_split]
  show num ((four p.e ++ _).take 4) = _
  rw [List.take_left' (len_four _), four_le, num_le4]
theorem enc_s (p : Pkt) : lv 5 (encP p) = p.s := by
  have hl : 10 ≤ (encP p).length := by rw [hd_split]; simp [len_four]; omega
  rw [lv_num _ _ (by omega), hd_split]
  show num (((four p.e ++ _).drop 4).take 4) = _
  rw [List.drop_left' (len_four _), List.take_left' (len_four _), four_le, num_le4]
theorem enc_cnt {p : Pkt} (h : mayP p = true) : cntP (encP p) = p.l.length := by
  have h5 := mayP_len h
  unfold cntP
  rw [enc_at9]
  have h1 := bd_byteP (z := (p.l.length : Int)) (by omega) (by omega)
  unfold bd at h1
  omega
theorem enc_l {p : Pkt} (h : mayP p = true) (hw : Pw p) : lP (encP p) = p.l := by
  unfold lP
  rw [enc_cnt h]
  have e : ((encP p).drop 10).take (33 * p.l.length) = (p.l.map putB).flatten := by
    rw [hd_split]
    show ((((four p.e ++ (four p.s ++ (byteP p.l.length :: ((p.l.map putB).flatten ++ two (crcOf (bodyP p))))))).drop 4).drop 5).take _ = _
    rw [List.drop_left' (len_four _)]
    show (((four p.s ++ (byteP p.l.length :: ((p.l.map putB).flatten ++ two (crcOf (bodyP p))))).drop 4).drop 1).take _ = _
    rw [List.drop_left' (len_four _), List.drop_one, List.tail_cons, List.take_left' (length_putsB hw)]
  rw [e]
  have hm := mayP_of h
  exact pk_puts fun x hx => ⟨hw x hx, by have := hm.2.2 x hx; omega, by have := hm.2.2 x hx; omega⟩
theorem pk_back {p : Pkt} (h : mayP p = true) (hw : Pw p) : pktP (encP p) = p := by
  have hk := (mayP_of h).1
  unfold pktP
  rw [enc_at0, enc_e, enc_s, enc_l h hw, bd_byteP (by omega) (by omega)]
theorem pk_okE {p : Pkt} (h : mayP p = true) (hw : Pw p) : pkOk (encP p) = true := by
  have hl := length_encP hw
  refine pk_yes rfl (by omega) (by rw [enc_cnt h]; exact hl) (by rw [pk_back h hw]; exact h) (by rw [pk_back h hw]; exact decide_eq_true rfl)
end Go.Proofs.Ytbdpocbnkgckhaa

/- The statements' wakes of packets. -/
set_option maxRecDepth 4000
namespace Go.Proofs.Ytbdpocbnkgckhaa
open Go Go.RowKit
attribute [local irreducible] blk encP
end Go.Proofs.Ytbdpocbnkgckhaa

/- The statement PacketTurns: its walk. -/
set_option maxRecDepth 4000
namespace Go.Proofs.Ytbdpocbnkgckhaa
open Go Go.RowKit
end Go.Proofs.Ytbdpocbnkgckhaa

/- The statement PacketPlaces: its walk. -/
set_option maxRecDepth 4000
namespace Go.Proofs.Ytbdpocbnkgckhaa
open Go Go.RowKit
theorem put_slA {w : World} {b o : Nat} {x : Pt} (hb : b < w.heap.size) (h : w.rangeAt b o (pcell x)) (hx : x.2.length = 32) : Slice w (.slice (some ⟨b, o + 1, none⟩) 32 32) x.2 := by
  refine ⟨some ⟨b, o + 1, none⟩, 32, by rw [hx], by rw [hx]; exact Nat.le_refl _, fun _ => ⟨b, o + 1, rfl, hb, fun j y hy => ?_⟩⟩
  have h9 := h (j + 1) (.int .u8 (bd y)) (by
    unfold pcell bytesV
    rw [List.getElem?_cons_succ, List.getElem?_map, hy]
    rfl)
  rw [show o + 1 + j = o + (j + 1) by omega]
  exact h9
end Go.Proofs.Ytbdpocbnkgckhaa

/- The document's packets: which may be, their bytes. -/
set_option maxRecDepth 4000
namespace Go.Proofs.Ytbdpocbnkgckhaa
open Go Go.RowKit
theorem rg_12 {p : Pkt} {b : Bool} (h : p.k = 1 ∨ p.k = 2) (hb : goodB (p.l.map (·.1)) = b) : mayP p = b := by unfold mayP; rw [if_pos h, hb]
theorem rg_34 {p : Pkt} {b : Bool} {n : Nat} (h : ¬ (p.k = 1 ∨ p.k = 2)) (h2 : p.k = 3 ∨ p.k = 4) (hn : p.l.length = n) (hb : decide (n = 0) = b) : mayP p = b := by unfold mayP; rw [if_neg h, if_pos h2, hn, hb]
theorem rg_no {p : Pkt} (h : ¬ (p.k = 1 ∨ p.k = 2)) (h2 : ¬ (p.k = 3 ∨ p.k = 4)) : mayP p = false := by unfold mayP; rw [if_neg h, if_neg h2]
theorem rpgood_any (p : Pkt) (A : Option Addr) (n c : Nat) (w : World) (hp : PutsAt w (.slice A n c) p.l) (hpn : p.l.length = n) (hnm : n ≤ maxLen) : Calls Try.prog 39 #[.agg #[.int .i64 p.k, .int .u32 (wd p.e), .int .u32 (wd p.s), .slice A n c]] w fun x w' => x = .returned (.bool (mayP p)) ∧ Below w.heap.size w w' := by
  have HS := St.nil w noF
  have HP : ∀ W, Below w.heap.size w W → PutsAt W (.slice A n c) p.l := fun W hb => hp.below hb (Nat.le_refl _)
  refine enter_en Try.func39 rfl Try.ntmps39 (Nat.le_of_ble_eq_true rfl) fun a0 (HA0 : En 18 [(0, .agg #[.int .i64 p.k, .int .u32 (wd p.e), .int .u32 (wd p.s), .slice A n c])] a0) => ?_
  refine sq_ <| rl_ <| wl_ <| n_ HA0 rfl (fun _ h => dd_box HS rfl (HA0.ev 0 rfl) (cs := #[.int .i64 p.k, .int .u32 (wd p.e), .int .u32 (wd p.s), .slice A n c]) rfl h) fun _ W1 HS1 _ H1 => wl_ <| p_ H1 rfl rfl fun _ H2 => ln_ <| nx <| sq_ <| sq_ <| rl_ <| wl_ <| i_ H2 rfl (xf 0 0 rfl (H2.ev 1 rfl)) fun _ H3 => wl_ <| i_ H3 rfl (dd_get HS1 0 0 rfl rfl (H3.ev 3 rfl) rfl Try.underlying3 rfl) fun _ H4 => ln_ <| nx <| wp_block <| sq_ <| sq_ <| rl_ <| ?_
  clear HS HA0 H1 H2 H3
  by_cases hc6 : (p.k : Int) = 1
  ·
   refine wl_ <| i_ H4 rfl (dd_cmp rfl (H4.ev 4 rfl) rfl (eq_t hc6)) fun _ H7 => wl_ <| p_ H7 rfl rfl fun _ H8 => ln_ <| nx <| ct_ H8 rfl <| wp_skip <| nx <| ct_ H8 rfl <| sq_ <| rl_ <| wl_ <| i_ H8 rfl (xf 3 3 rfl (H8.ev 1 rfl)) fun _ H9 => wl_ <| i_ H9 rfl (dd_get HS1 0 3 rfl rfl (H9.ev 8 rfl) rfl Try.underlying27 rfl) fun _ H10 => ?_
   clear H4 H7 H8 H9
   cases hb12 : goodB (p.l.map (·.1))
   ·
    refine wl_ <| c_ H10 rfl HS1 (v := .bool false) (dc_ Try.func7 rfl (args1 (H10.ev 9 rfl)) (refgood_any p.l _ W1 (HP _ HS1.below) (by rw [hpn]; exact hnm)) (fun _ w9 h9 => ⟨_, h9.1, by rw [hb12], h9.2⟩)) fun _ HS13 _ H13 => wl_ <| p_ H13 rfl rfl fun _ H14 => ln_ <| nx <| wp_ret <| br_ <| tr <| ret_run H14.env0 (res_t Try.results39 (H14.get 2 rfl)) <| ?_
    clear H10 HS1 H13
    exact ⟨by rw [rg_12 (by omega) hb12], HS13.below⟩
   refine wl_ <| c_ H10 rfl HS1 (v := .bool true) (dc_ Try.func7 rfl (args1 (H10.ev 9 rfl)) (refgood_any p.l _ W1 (HP _ HS1.below) (by rw [hpn]; exact hnm)) (fun _ w9 h9 => ⟨_, h9.1, by rw [hb12], h9.2⟩)) fun _ HS15 _ H15 => wl_ <| p_ H15 rfl rfl fun _ H16 => ln_ <| nx <| wp_ret <| br_ <| tr <| ret_run H16.env0 (res_t Try.results39 (H16.get 2 rfl)) <| ?_
   clear H10 HS1 H15
   exact ⟨by rw [rg_12 (by omega) hb12], HS15.below⟩
  refine wl_ <| i_ H4 rfl (dd_cmp rfl (H4.ev 4 rfl) rfl (eq_f hc6)) fun _ H17 => wl_ <| p_ H17 rfl rfl fun _ H18 => ln_ <| nx <| cf_ H18 rfl <| rl_ <| ?_
  clear H4 H17
  by_cases hc20 : (p.k : Int) = 2
  ·
   refine wl_ <| i_ H18 rfl (dd_cmp rfl (H18.ev 4 rfl) rfl (eq_t hc20)) fun _ H21 => wl_ <| p_ H21 rfl rfl fun _ H22 => ln_ <| nx <| ct_ H22 rfl <| sq_ <| rl_ <| wl_ <| i_ H22 rfl (xf 3 3 rfl (H22.ev 1 rfl)) fun _ H23 => wl_ <| i_ H23 rfl (dd_get HS1 0 3 rfl rfl (H23.ev 8 rfl) rfl Try.underlying27 rfl) fun _ H24 => ?_
   clear H18 H21 H22 H23
   cases hb26 : goodB (p.l.map (·.1))
   ·
    refine wl_ <| c_ H24 rfl HS1 (v := .bool false) (dc_ Try.func7 rfl (args1 (H24.ev 9 rfl)) (refgood_any p.l _ W1 (HP _ HS1.below) (by rw [hpn]; exact hnm)) (fun _ w9 h9 => ⟨_, h9.1, by rw [hb26], h9.2⟩)) fun _ HS27 _ H27 => wl_ <| p_ H27 rfl rfl fun _ H28 => ln_ <| nx <| wp_ret <| br_ <| tr <| ret_run H28.env0 (res_t Try.results39 (H28.get 2 rfl)) <| ?_
    clear H24 HS1 H27
    exact ⟨by rw [rg_12 (by omega) hb26], HS27.below⟩
   refine wl_ <| c_ H24 rfl HS1 (v := .bool true) (dc_ Try.func7 rfl (args1 (H24.ev 9 rfl)) (refgood_any p.l _ W1 (HP _ HS1.below) (by rw [hpn]; exact hnm)) (fun _ w9 h9 => ⟨_, h9.1, by rw [hb26], h9.2⟩)) fun _ HS29 _ H29 => wl_ <| p_ H29 rfl rfl fun _ H30 => ln_ <| nx <| wp_ret <| br_ <| tr <| ret_run H30.env0 (res_t Try.results39 (H30.get 2 rfl)) <| ?_
   clear H24 HS1 H29
   exact ⟨by rw [rg_12 (by omega) hb26], HS29.below⟩
  refine wl_ <| i_ H18 rfl (dd_cmp rfl (H18.ev 4 rfl) rfl (eq_f hc20)) fun _ H31 => wl_ <| p_ H31 rfl rfl fun _ H32 => ln_ <| nx <| cf_ H32 rfl <| sq_ <| sq_ <| rl_ <| ?_
  clear H18 H31
  by_cases hc34 : (p.k : Int) = 3
  ·
   refine wl_ <| i_ H32 rfl (dd_cmp rfl (H32.ev 4 rfl) rfl (eq_t hc34)) fun _ H35 => wl_ <| p_ H35 rfl rfl fun _ H36 => ln_ <| nx <| ct_ H36 rfl <| wp_skip <| nx <| ct_ H36 rfl <| sq_ <| rl_ <| wl_ <| i_ H36 rfl (xf 3 3 rfl (H36.ev 1 rfl)) fun _ H37 => wl_ <| i_ H37 rfl (dd_get HS1 0 3 rfl rfl (H37.ev 14 rfl) rfl Try.underlying27 rfl) fun _ H38 => wl_ <| i_ H38 rfl (v := .int .i64 n) (dd_len rfl (H38.ev 15 rfl) Try.underlying27) fun _ H39 => ?_
   clear H32 H35 H36 H37 H38
   by_cases hc41 : (n : Int) = 0
   ·
    refine wl_ <| i_ H39 rfl (dd_cmp rfl (H39.ev 16 rfl) rfl (eq_t hc41)) fun _ H42 => wl_ <| p_ H42 rfl rfl fun _ H43 => ln_ <| nx <| wp_ret <| br_ <| tr <| ret_run H43.env0 (res_t Try.results39 (H43.get 2 rfl)) <| ?_
    clear H39 H42
    exact ⟨by rw [rg_34 (by omega) (by omega) hpn (b := true) (by exact decide_eq_true (by omega))], HS1.below⟩
   refine wl_ <| i_ H39 rfl (dd_cmp rfl (H39.ev 16 rfl) rfl (eq_f hc41)) fun _ H44 => wl_ <| p_ H44 rfl rfl fun _ H45 => ln_ <| nx <| wp_ret <| br_ <| tr <| ret_run H45.env0 (res_t Try.results39 (H45.get 2 rfl)) <| ?_
   clear H39 H44
   exact ⟨by rw [rg_34 (by omega) (by omega) hpn (b := false) (by exact decide_eq_false (by omega))], HS1.below⟩
  refine wl_ <| i_ H32 rfl (dd_cmp rfl (H32.ev 4 rfl) rfl (eq_f hc34)) fun _ H46 => wl_ <| p_ H46 rfl rfl fun _ H47 => ln_ <| nx <| cf_ H47 rfl <| rl_ <| ?_
  clear H32 H46
  by_cases hc49 : (p.k : Int) = 4
  ·
   refine wl_ <| i_ H47 rfl (dd_cmp rfl (H47.ev 4 rfl) rfl (eq_t hc49)) fun _ H50 => wl_ <| p_ H50 rfl rfl fun _ H51 => ln_ <| nx <| ct_ H51 rfl <| sq_ <| rl_ <| wl_ <| i_ H51 rfl (xf 3 3 rfl (H51.ev 1 rfl)) fun _ H52 => wl_ <| i_ H52 rfl (dd_get HS1 0 3 rfl rfl (H52.ev 14 rfl) rfl Try.underlying27 rfl) fun _ H53 => wl_ <| i_ H53 rfl (v := .int .i64 n) (dd_len rfl (H53.ev 15 rfl) Try.underlying27) fun _ H54 => ?_
   clear H47 H50 H51 H52 H53
   by_cases hc56 : (n : Int) = 0
   ·
    refine wl_ <| i_ H54 rfl (dd_cmp rfl (H54.ev 16 rfl) rfl (eq_t hc56)) fun _ H57 => wl_ <| p_ H57 rfl rfl fun _ H58 => ln_ <| nx <| wp_ret <| br_ <| tr <| ret_run H58.env0 (res_t Try.results39 (H58.get 2 rfl)) <| ?_
    clear H54 H57
    exact ⟨by rw [rg_34 (by omega) (by omega) hpn (b := true) (by exact decide_eq_true (by omega))], HS1.below⟩
   refine wl_ <| i_ H54 rfl (dd_cmp rfl (H54.ev 16 rfl) rfl (eq_f hc56)) fun _ H59 => wl_ <| p_ H59 rfl rfl fun _ H60 => ln_ <| nx <| wp_ret <| br_ <| tr <| ret_run H60.env0 (res_t Try.results39 (H60.get 2 rfl)) <| ?_
   clear H54 H59
   exact ⟨by rw [rg_34 (by omega) (by omega) hpn (b := false) (by exact decide_eq_false (by omega))], HS1.below⟩
  refine wl_ <| i_ H47 rfl (dd_cmp rfl (H47.ev 4 rfl) rfl (eq_f hc49)) fun _ H61 => wl_ <| p_ H61 rfl rfl fun _ H62 => ln_ <| nx <| cf_ H62 rfl <| wp_skip <| bn <| nx <| sq_ <| rl_ <| wl_ <| p_ H62 rfl rfl fun _ H63 => ln_ <| nx <| wp_ret <| ret_run H63.env0 (res_t Try.results39 (H63.get 2 rfl)) <| ?_
  clear H47 H61 H62
  exact ⟨by rw [rg_no (by omega) (by omega)], HS1.below⟩
def preP (p : Pkt) (i : Nat) : List (BitVec 8) := hdB p.k p.e p.s p.l.length ++ ((p.l.take i).map putB).flatten
theorem len_pre {p : Pkt} {i n : Nat} (hw : Pw p) (hi : i ≤ p.l.length) (hn : n = 10 + 33 * i) : (preP p i).length = n := by
  unfold preP
  rw [List.length_append, length_hdB, length_putsB (fun x hx => hw x (List.mem_of_mem_take hx)), List.length_take, hn]
  congr 2; omega
theorem pre_0 {p : Pkt} {n c : Nat} {cb : Array Value} (hn : p.l.length = n) (O : OwnC cb c 10 1 (bytesV ((([byteP p.k] ++ four p.e) ++ four p.s) ++ [byteP n]))) : OwnC cb c 10 1 (bytesV (preP p 0)) := by
  unfold preP hdB
  rw [List.take_zero, List.map_nil, List.flatten_nil, List.append_nil, hn]
  exact O
theorem pre_S {p : Pkt} {i n c : Nat} {cb : Array Value} {x : Pt} (hx : p.l[i]? = some x) (O : OwnC cb c n 1 (bytesV ((preP p i ++ [byteP x.1]) ++ x.2))) : OwnC cb c n 1 (bytesV (preP p (i + 1))) := by
  obtain ⟨h1, h2⟩ := List.getElem?_eq_some_iff.1 hx
  have e : preP p (i + 1) = (preP p i ++ [byteP x.1]) ++ x.2 := by
    unfold preP
    rw [List.take_succ_eq_append_getElem h1, h2, List.map_append, List.flatten_append, ← List.append_assoc, List.append_assoc _ [byteP x.1]]
    congr 1
    simp [putB]
  rw [e]
  exact O
theorem pre_all {p : Pkt} {i : Nat} (hi : i = p.l.length) : preP p i ++ crcTail (preP p i) = encP p := by
  have e : preP p i = bodyP p := by unfold preP bodyP; rw [hi, List.take_length]
  rw [e]
  rfl
theorem pre_z {p : Pkt} (hn : p.l.length = 0) : ((([byteP p.k] ++ four p.e) ++ four p.s) ++ [byteP 0]) ++ crcTail ((([byteP p.k] ++ four p.e) ++ four p.s) ++ [byteP 0]) = encP p := by
  have e : bodyP p = (([byteP p.k] ++ four p.e) ++ four p.s) ++ [byteP 0] := by
    unfold bodyP hdB
    rw [List.eq_nil_of_length_eq_zero hn, List.map_nil, List.flatten_nil, List.append_nil]
    rfl
  rw [← e]
  rfl
set_option maxHeartbeats 800000 in
theorem rpenc_0 (p : Pkt) (A : Option Addr) (c : Nat) (nB : Nat) (w : World) (hp : PutsAt w (.slice A 0 c) p.l) (hpn : p.l.length = 0) (_ : Pw p) (_ : ∀ x ∈ p.l, x.2.length = 32 ∧ -9223372036854775808 ≤ x.1 ∧ x.1 < 9223372036854775808) (hnm : 0 ≤ maxLen) (hnB : nB = 12 + 33 * 0) (hEl : (encP p).length = nB) (_ : mayP p = true → 0 ≤ 5) : Calls Try.prog 25 #[.agg #[.int .i64 p.k, .int .u32 (wd p.e), .int .u32 (wd p.s), .slice A 0 c]] w fun x w' => (mayP p = false ∧ x = .returned (.tuple #[.slice none 0 0, .int .i64 11]) ∧ Below w.heap.size w w') ∨ (mayP p = true ∧ ∃ g c' cb, x = .returned (.tuple #[.slice (some ⟨g, 0, none⟩) nB c', .int .i64 0]) ∧ w.heap.size ≤ g ∧ Row w' g 5 cb ∧ OwnC cb c' nB 1 (bytesV (encP p)) ∧ Below w.heap.size w w') := by
  have HS := St.nil w noF
  have HP : ∀ W, Below w.heap.size w W → PutsAt W (.slice A 0 c) p.l := fun W hb => hp.below hb (Nat.le_refl _)
  refine enter_en Try.func25 rfl Try.ntmps25 (Nat.le_of_ble_eq_true rfl) fun a0 (HA0 : En 54 [(0, .agg #[.int .i64 p.k, .int .u32 (wd p.e), .int .u32 (wd p.s), .slice A 0 c])] a0) => ?_
  refine sq_ <| rl_ <| wl_ <| n_ HA0 rfl (fun _ h => dd_box HS rfl (HA0.ev 0 rfl) (cs := #[.int .i64 p.k, .int .u32 (wd p.e), .int .u32 (wd p.s), .slice A 0 c]) rfl h) fun g1 W1 HS1 _ H1 => q_ H1 2 rfl fun _ H2 => ln_ <| nx <| sq_ <| sq_ <| rl_ <| wl_ <| i_ H2 rfl (v := .agg #[.int .i64 p.k, .int .u32 (wd p.e), .int .u32 (wd p.s), .slice A 0 c]) (dd_load HS1 0 0 rfl rfl (H2.ev 1 rfl) (slab_whole _) Try.underlying29 rfl (by kernel_rfl)) fun _ H3 => ?_
  clear HS HA0 H1 H2
  cases hb5 : mayP p
  ·
   refine wl_ <| c_ H3 rfl HS1 (v := .bool false) (dc_ Try.func39 rfl (args1 (H3.ev 6 rfl)) (rpgood_any p A 0 c W1 (HP _ HS1.below) hpn hnm) (fun _ w9 h9 => ⟨_, h9.1, by rw [hb5], h9.2⟩)) fun _ HS6 _ H6 => wl_ <| i_ H6 rfl (v := .bool true) (dd_nt rfl (H6.ev 7 rfl) rfl) fun _ H7 => ln_ <| nx <| ct_ H7 rfl <| sq_ <| rl_ <| q_ H7 2 rfl fun _ H8 => ln_ <| nx <| wp_ret <| tr <| ret_run H8.env0 (res_tt Try.results25 (H8.get 2 rfl) (H8.get 3 rfl)) <| ?_
   clear H3 HS1 H6 H7
   exact .inl ⟨rfl, rfl, HS6.below⟩
  refine wl_ <| c_ H3 rfl HS1 (v := .bool true) (dc_ Try.func39 rfl (args1 (H3.ev 6 rfl)) (rpgood_any p A 0 c W1 (HP _ HS1.below) hpn hnm) (fun _ w9 h9 => ⟨_, h9.1, by rw [hb5], h9.2⟩)) fun W9 HS9 a9 H9 => wl_ <| i_ H9 rfl (v := .bool false) (dd_nt rfl (H9.ev 7 rfl) rfl) fun _ H10 => ln_ <| nx <| cf_ H10 rfl <| wp_skip <| nx <| sq_ <| ?_
  clear H3 HS1 H9
  refine wp_cut (fun a9 w9 => ∃ g16_23 : Nat, ∃ c16_23 : Nat, ∃ cb16_23 : Array Value, OwnC cb16_23 c16_23 5 1 (bytesV (([(byteP p.k)]) ++ (four p.e))) ∧ En 54 [(4, .slice (some ⟨g16_23, 0, none⟩) 5 c16_23), (1, .pointer (some ⟨g1, 0, none⟩))] a9 ∧ St w noF [⟨g1, 29, #[.int .i64 p.k, .int .u32 (wd p.e), .int .u32 (wd p.s), .slice A 0 c]⟩, ⟨g16_23, 5, cb16_23⟩] w9) ?_ ?_
  ·
   refine wi_ HS9 [0] rfl [0] rfl fun HSh11 hx11 => ht_ H10 0 hx11 rfl rfl (fun _ _ _ => xf 0 0 rfl (H10.ev 1 rfl)) fun _ H12 => ht_ H12 1 hx11 rfl rfl (fun _ _ HS9 => dd_get HS9 0 0 rfl rfl (H12.ev 9 rfl) rfl Try.underlying3 rfl) fun _ H13 => ht_ H13 2 hx11 rfl rfl (v := .int .u8 (bd (byteP p.k))) (fun _ _ _ => dd_conv (k := .u8) rfl (H13.ev 10 rfl) Try.underlying3 (by kernel_rfl) (wrap_u8_bd _)) fun _ H14 => ht_ H14 4 hx11 rfl rfl (fun _ _ _ => xf 1 1 rfl (H14.ev 1 rfl)) fun _ H15 => ht_ H15 5 hx11 rfl rfl (fun _ _ HS9 => dd_get HS9 0 1 rfl rfl (H15.ev 13 rfl) rfl Try.underlying26 rfl) fun _ H16 => ?_
   clear HS9 H10 H12 H13 H14 H15
   refine wpAnyH_all (rs := [3, 6]) (by kernel_rfl) (by decide) (hm_cons ?_ (hm_cons ?_ hm_nil))
   ·
    refine ho_ rfl <| n_ H16 rfl (fun _ h => dd_lits HSh11 #[.int .u8 (bd (byteP p.k))] rfl (ps := [(0, .int .u8 (bd (byteP p.k)))]) (pr1 (H16.ev 11 rfl) (pr0)) (z := .int .u8 0) (sz := 1) Try.underlying23 (by kernel_rfl) rfl rfl (by kernel_rfl) h) fun g12 W17 HS17 _ H17 => sx_ (sxi HS17 [0, 1] rfl) fun hx18 => ?_
    clear HSh11 H16
    refine h1_ 6 rfl <| d_ H17 rfl (R := fun v w9 => ∃ gc20 cc20 cbc20, v = .slice (some ⟨gc20, 0, none⟩) 4 cc20 ∧ (W17.heap.size ≤ gc20) ∧ (Row w9 gc20 5 cbc20) ∧ (OwnC cbc20 cc20 4 1 (bytesV (four p.e))) ∧ Below W17.heap.size W17 w9) (dc_ Try.func40 rfl (args2 (H17.ev 14 rfl) rfl) (refput_any p.e 4 W17 (by decide)) (fun _ w9 ⟨v9, he, ho, hb⟩ => by rw [← four_le] at ho; obtain ⟨g9, c9, cb9, rfl, h1, h2, h3⟩ := ownc_pos ho (by decide); exact ⟨_, he, g9, c9, cb9, rfl, h1, h2, h3, hb⟩)) ?_
    rintro _ W19 ⟨gc20, cc20, cbc20, rfl, hg20, hr20, Oc20, hb19⟩ a19 H19
    have HS19 := HS17.same hb19
    clear H17
    have HS19j : St w noF [⟨g1, 29, #[.int .i64 p.k, .int .u32 (wd p.e), .int .u32 (wd p.s), .slice A 0 c]⟩, ⟨g12, 5, #[.int .u8 (bd (byteP p.k))]⟩, ⟨gc20, 5, cbc20⟩] W19 := HS17.joins hb19 hr20 hg20
    clear HS19 hr20 hg20
    clear HS17 hb19
    refine sx_ (sxi HS19j [0, 1, 2] rfl) fun hx21 => h1_ 7 rfl <| a_ H19 rfl (fun g16_23 c16_23 => .slice (some ⟨g16_23, 0, none⟩) 5 c16_23) (T := fun _ c16_23 cb16_23 => OwnC cb16_23 c16_23 5 1 (bytesV (([(byteP p.k)]) ++ (four p.e)))) (fun _ h => dd_appB HS19j 1 rfl (⟨Nat.le_refl _, by decide, rfl, rfl, rfl⟩ : OwnC #[.int .u8 (bd (byteP p.k))] 1 1 1 (bytesV [(byteP p.k)])) rfl (H19.ev 12 rfl) (H19.ev 15 rfl) (slice_own (HS19j.row 2 rfl) Oc20 (len_four _)) (fun h9 => by cases h9) rfl rfl (by unfold maxLen; omega) (by omega) h) fun g16_23 c16_23 cb16_23 _ O16_23 HS22 _ H22 => sx_ (sxi HS22 [0, 1, 2] rfl) fun hx24 => hp_ H22 8 hx24 rfl rfl rfl fun _ H25 => ?_
    clear hx18 HS19j H19 hx21 H22
    refine wpAnyH_done (by kernel_rfl) ?_ _
    clear hx24
    exact nx ⟨g16_23, c16_23, cb16_23, O16_23, H25.sel [1, 4] rfl, ss HS22 [0, 2]⟩
   refine ho_ rfl <| d_ H16 rfl (R := fun v w9 => ∃ gc27 cc27 cbc27, v = .slice (some ⟨gc27, 0, none⟩) 4 cc27 ∧ (W9.drew.heap.size ≤ gc27) ∧ (Row w9 gc27 5 cbc27) ∧ (OwnC cbc27 cc27 4 1 (bytesV (four p.e))) ∧ Below W9.drew.heap.size W9.drew w9) (dc_ Try.func40 rfl (args2 (H16.ev 14 rfl) rfl) (refput_any p.e 4 W9.drew (by decide)) (fun _ w9 ⟨v9, he, ho, hb⟩ => by rw [← four_le] at ho; obtain ⟨g9, c9, cb9, rfl, h1, h2, h3⟩ := ownc_pos ho (by decide); exact ⟨_, he, g9, c9, cb9, rfl, h1, h2, h3, hb⟩)) ?_
   rintro _ W26 ⟨gc27, cc27, cbc27, rfl, hg27, hr27, Oc27, hb26⟩ a26 H26
   have HS26 := HSh11.same hb26
   clear H16
   have HS26j : St w noF [⟨g1, 29, #[.int .i64 p.k, .int .u32 (wd p.e), .int .u32 (wd p.s), .slice A 0 c]⟩, ⟨gc27, 5, cbc27⟩] W26 := HSh11.joins hb26 hr27 hg27
   clear HS26 hr27 hg27
   clear HSh11 hb26
   refine sx_ (sxi HS26j [0, 1] rfl) fun hx28 => h1_ 3 rfl <| n_ H26 rfl (fun _ h => dd_lits HS26j #[.int .u8 (bd (byteP p.k))] rfl (ps := [(0, .int .u8 (bd (byteP p.k)))]) (pr1 (H26.ev 11 rfl) (pr0)) (z := .int .u8 0) (sz := 1) Try.underlying23 (by kernel_rfl) rfl rfl (by kernel_rfl) h) fun g12 _ HS29 _ H29 => sx_ (sxi HS29 [0, 1, 2] rfl) fun hx30 => h1_ 7 rfl <| a_ H29 rfl (fun g16_32 c16_32 => .slice (some ⟨g16_32, 0, none⟩) 5 c16_32) (T := fun _ c16_32 cb16_32 => OwnC cb16_32 c16_32 5 1 (bytesV (([(byteP p.k)]) ++ (four p.e)))) (fun _ h => dd_appB HS29 2 rfl (⟨Nat.le_refl _, by decide, rfl, rfl, rfl⟩ : OwnC #[.int .u8 (bd (byteP p.k))] 1 1 1 (bytesV [(byteP p.k)])) rfl (H29.ev 12 rfl) (H29.ev 15 rfl) (slice_own (HS29.row 1 rfl) Oc27 (len_four _)) (fun h9 => by cases h9) rfl rfl (by unfold maxLen; omega) (by omega) h) fun g16_32 c16_32 cb16_32 _ O16_32 HS31 _ H31 => sx_ (sxi HS31 [0, 1, 2] rfl) fun hx33 => hp_ H31 8 hx33 rfl rfl rfl fun _ H34 => ?_
   clear HS26j H26 hx28 HS29 H29 hx30 H31
   refine wpAnyH_done (by kernel_rfl) ?_ _
   clear hx33
   exact nx ⟨g16_32, c16_32, cb16_32, O16_32, H34.sel [1, 4] rfl, ss HS31 [0, 2]⟩
  rintro aj11 wj11 ⟨g16_23, c16_23, cb16_23, O16_23, Hj11, HSj11⟩
  refine nx <| sq_ <| ?_
  refine wp_cut (fun a9 w9 => ∃ g27_53 : Nat, ∃ c27_53 : Nat, ∃ cb27_53 : Array Value, OwnC cb27_53 c27_53 10 1 (bytesV (((([(byteP p.k)]) ++ (four p.e)) ++ (four p.s)) ++ ([(byteP 0)]))) ∧ En 54 [(4, .slice (some ⟨g27_53, 0, none⟩) 10 c27_53), (1, .pointer (some ⟨g1, 0, none⟩))] a9 ∧ St w noF [⟨g1, 29, #[.int .i64 p.k, .int .u32 (wd p.e), .int .u32 (wd p.s), .slice A 0 c]⟩, ⟨g27_53, 5, cb27_53⟩] w9) ?_ ?_
  ·
   refine wi_ HSj11 [0] rfl [0, 1] rfl fun HSh36 hx36 => hp_ Hj11 0 hx36 rfl rfl rfl fun _ H37 => ht_ H37 1 hx36 rfl rfl (fun _ _ _ => xf 2 2 rfl (H37.ev 1 rfl)) fun _ H38 => ht_ H38 2 hx36 rfl rfl (fun _ _ HS9 => dd_get HS9 0 2 rfl rfl (H38.ev 18 rfl) rfl Try.underlying26 rfl) fun _ H39 => ht_ H39 5 hx36 rfl rfl (fun _ _ _ => xf 3 3 rfl (H39.ev 1 rfl)) fun _ H40 => ht_ H40 6 hx36 rfl rfl (fun _ _ HS9 => dd_get HS9 0 3 rfl rfl (H40.ev 22 rfl) rfl Try.underlying27 rfl) fun _ H41 => ht_ H41 7 hx36 rfl rfl (v := .int .i64 0) (fun _ _ _ => dd_len rfl (H41.ev 23 rfl) Try.underlying27) fun _ H42 => ht_ H42 8 hx36 rfl rfl (v := .int .u8 (bd (byteP 0))) (fun _ _ _ => dd_conv (k := .u8) rfl (H42.ev 24 rfl) Try.underlying3 (by kernel_rfl) (wrap_u8_bd _)) fun _ H43 => ?_
   clear HSj11 Hj11 H37 H38 H39 H40 H41
   clear H42
   refine wpAnyH_all (rs := [3, 9]) (by kernel_rfl) (by decide) (hm_cons ?_ (hm_cons ?_ hm_nil))
   ·
    refine ho_ rfl <| d_ H43 rfl (R := fun v w9 => ∃ gc45 cc45 cbc45, v = .slice (some ⟨gc45, 0, none⟩) 4 cc45 ∧ (wj11.drew.heap.size ≤ gc45) ∧ (Row w9 gc45 5 cbc45) ∧ (OwnC cbc45 cc45 4 1 (bytesV (four p.s))) ∧ Below wj11.drew.heap.size wj11.drew w9) (dc_ Try.func40 rfl (args2 (H43.ev 19 rfl) rfl) (refput_any p.s 4 wj11.drew (by decide)) (fun _ w9 ⟨v9, he, ho, hb⟩ => by rw [← four_le] at ho; obtain ⟨g9, c9, cb9, rfl, h1, h2, h3⟩ := ownc_pos ho (by decide); exact ⟨_, he, g9, c9, cb9, rfl, h1, h2, h3, hb⟩)) ?_
    rintro _ W44 ⟨gc45, cc45, cbc45, rfl, hg45, hr45, Oc45, hb44⟩ a44 H44
    have HS44 := HSh36.same hb44
    clear H43
    have HS44j : St w noF [⟨g1, 29, #[.int .i64 p.k, .int .u32 (wd p.e), .int .u32 (wd p.s), .slice A 0 c]⟩, ⟨g16_23, 5, cb16_23⟩, ⟨gc45, 5, cbc45⟩] W44 := HSh36.joins hb44 hr45 hg45
    clear HS44 hr45 hg45
    clear HSh36 hb44
    refine sx_ (sxi HS44j [0, 1, 2] rfl) fun _ => ?_
    refine wpAnyH_all (rs := [4, 9]) (by kernel_rfl) (by decide) (hm_cons ?_ (hm_cons ?_ hm_nil))
    ·
     refine ho_ rfl <| a_ H44 rfl (S := fun g21_48 cb21_48 => [⟨g1, 29, #[.int .i64 p.k, .int .u32 (wd p.e), .int .u32 (wd p.s), .slice A 0 c]⟩, ⟨gc45, 5, cbc45⟩, ⟨g21_48, 5, cb21_48⟩]) (fun g21_48 c21_48 => .slice (some ⟨g21_48, 0, none⟩) 9 c21_48) (T := fun _ c21_48 cb21_48 => OwnC cb21_48 c21_48 9 1 (bytesV ((([(byteP p.k)]) ++ (four p.e)) ++ (four p.s)))) (fun _ h => dd_appB HS44j 1 rfl O16_23 rfl (H44.ev 17 rfl) (H44.ev 20 rfl) (slice_own (HS44j.row 2 rfl) Oc45 (len_four _)) (fun h9 => by cases h9) rfl rfl (by unfold maxLen; omega) (by omega) h) fun g21_48 c21_48 cb21_48 _ O21_48 HS47 _ H47 => sx_ (sxi HS47 [0, 1, 2] rfl) fun hx49 => h1_ 9 rfl <| n_ H47 rfl (fun _ h => dd_lits HS47 #[.int .u8 (bd (byteP 0))] rfl (ps := [(0, .int .u8 (bd (byteP 0)))]) (pr1 (H47.ev 25 rfl) (pr0)) (z := .int .u8 0) (sz := 1) Try.underlying23 (by kernel_rfl) rfl rfl (by kernel_rfl) h) fun g26 _ HS50 _ H50 => sx_ (sxi HS50 [0, 1, 2, 3] rfl) fun hx51 => h1_ 10 rfl <| a_ H50 rfl (fun g27_53 c27_53 => .slice (some ⟨g27_53, 0, none⟩) 10 c27_53) (T := fun _ c27_53 cb27_53 => OwnC cb27_53 c27_53 10 1 (bytesV (((([(byteP p.k)]) ++ (four p.e)) ++ (four p.s)) ++ ([(byteP 0)])))) (fun _ h => dd_appB HS50 2 rfl O21_48 rfl (H50.ev 21 rfl) (H50.ev 26 rfl) (slice_own (HS50.row 3 rfl) (⟨Nat.le_refl _, by decide, rfl, rfl, rfl⟩ : OwnC #[.int .u8 (bd (byteP 0))] 1 1 1 (bytesV [(byteP 0)])) (show ([(byteP 0)] : List (BitVec 8)).length = 1 from rfl)) (fun h9 => by cases h9) rfl rfl (by unfold maxLen; omega) (by omega) h) fun g27_53 c27_53 cb27_53 _ O27_53 HS52 _ H52 => sx_ (sxi HS52 [0, 1, 2, 3] rfl) fun hx54 => hp_ H52 11 hx54 rfl rfl rfl fun _ H55 => ?_
     clear HS44j H44 HS47 H47 hx49 HS50 H50 hx51 H52
     refine wpAnyH_done (by kernel_rfl) ?_ _
     clear hx54
     exact nx ⟨g27_53, c27_53, cb27_53, O27_53, H55.sel [1, 4] rfl, ss HS52 [0, 3]⟩
    refine ho_ rfl <| n_ H44 rfl (S := fun g26 => [⟨g1, 29, #[.int .i64 p.k, .int .u32 (wd p.e), .int .u32 (wd p.s), .slice A 0 c]⟩, ⟨g16_23, 5, cb16_23⟩, ⟨gc45, 5, cbc45⟩, ⟨g26, 5, #[.int .u8 (bd (byteP 0))]⟩]) (fun _ h => dd_lits HS44j #[.int .u8 (bd (byteP 0))] rfl (ps := [(0, .int .u8 (bd (byteP 0)))]) (pr1 (H44.ev 25 rfl) (pr0)) (z := .int .u8 0) (sz := 1) Try.underlying23 (by kernel_rfl) rfl rfl (by kernel_rfl) h) fun g26 _ HS56 _ H56 => sx_ (sxi HS56 [0, 1, 2, 3] rfl) fun hx57 => h1_ 4 rfl <| a_ H56 rfl (fun g21_59 c21_59 => .slice (some ⟨g21_59, 0, none⟩) 9 c21_59) (T := fun _ c21_59 cb21_59 => OwnC cb21_59 c21_59 9 1 (bytesV ((([(byteP p.k)]) ++ (four p.e)) ++ (four p.s)))) (fun _ h => dd_appB HS56 1 rfl O16_23 rfl (H56.ev 17 rfl) (H56.ev 20 rfl) (slice_own (HS56.row 2 rfl) Oc45 (len_four _)) (fun h9 => by cases h9) rfl rfl (by unfold maxLen; omega) (by omega) h) fun g21_59 c21_59 cb21_59 _ O21_59 HS58 _ H58 => sx_ (sxi HS58 [0, 1, 2, 3] rfl) fun hx60 => h1_ 10 rfl <| a_ H58 rfl (fun g27_62 c27_62 => .slice (some ⟨g27_62, 0, none⟩) 10 c27_62) (T := fun _ c27_62 cb27_62 => OwnC cb27_62 c27_62 10 1 (bytesV (((([(byteP p.k)]) ++ (four p.e)) ++ (four p.s)) ++ ([(byteP 0)])))) (fun _ h => dd_appB HS58 3 rfl O21_59 rfl (H58.ev 21 rfl) (H58.ev 26 rfl) (slice_own (HS58.row 2 rfl) (⟨Nat.le_refl _, by decide, rfl, rfl, rfl⟩ : OwnC #[.int .u8 (bd (byteP 0))] 1 1 1 (bytesV [(byteP 0)])) (show ([(byteP 0)] : List (BitVec 8)).length = 1 from rfl)) (fun h9 => by cases h9) rfl rfl (by unfold maxLen; omega) (by omega) h) fun g27_62 c27_62 cb27_62 _ O27_62 HS61 _ H61 => sx_ (sxi HS61 [0, 1, 2, 3] rfl) fun hx63 => hp_ H61 11 hx63 rfl rfl rfl fun _ H64 => ?_
    clear HS44j H44 HS56 H56 hx57 HS58 H58 hx60 H61
    refine wpAnyH_done (by kernel_rfl) ?_ _
    clear hx63
    exact nx ⟨g27_62, c27_62, cb27_62, O27_62, H64.sel [1, 4] rfl, ss HS61 [0, 3]⟩
   refine ho_ rfl <| n_ H43 rfl (S := fun g26 => [⟨g1, 29, #[.int .i64 p.k, .int .u32 (wd p.e), .int .u32 (wd p.s), .slice A 0 c]⟩, ⟨g16_23, 5, cb16_23⟩, ⟨g26, 5, #[.int .u8 (bd (byteP 0))]⟩]) (fun _ h => dd_lits HSh36 #[.int .u8 (bd (byteP 0))] rfl (ps := [(0, .int .u8 (bd (byteP 0)))]) (pr1 (H43.ev 25 rfl) (pr0)) (z := .int .u8 0) (sz := 1) Try.underlying23 (by kernel_rfl) rfl rfl (by kernel_rfl) h) fun g26 W65 HS65 _ H65 => sx_ (sxi HS65 [0, 1, 2] rfl) fun hx66 => ?_
   clear HSh36 H43
   refine h1_ 3 rfl <| d_ H65 rfl (R := fun v w9 => ∃ gc68 cc68 cbc68, v = .slice (some ⟨gc68, 0, none⟩) 4 cc68 ∧ (W65.heap.size ≤ gc68) ∧ (Row w9 gc68 5 cbc68) ∧ (OwnC cbc68 cc68 4 1 (bytesV (four p.s))) ∧ Below W65.heap.size W65 w9) (dc_ Try.func40 rfl (args2 (H65.ev 19 rfl) rfl) (refput_any p.s 4 W65 (by decide)) (fun _ w9 ⟨v9, he, ho, hb⟩ => by rw [← four_le] at ho; obtain ⟨g9, c9, cb9, rfl, h1, h2, h3⟩ := ownc_pos ho (by decide); exact ⟨_, he, g9, c9, cb9, rfl, h1, h2, h3, hb⟩)) ?_
   rintro _ W67 ⟨gc68, cc68, cbc68, rfl, hg68, hr68, Oc68, hb67⟩ a67 H67
   have HS67 := HS65.same hb67
   clear H65
   have HS67j : St w noF [⟨g1, 29, #[.int .i64 p.k, .int .u32 (wd p.e), .int .u32 (wd p.s), .slice A 0 c]⟩, ⟨g16_23, 5, cb16_23⟩, ⟨g26, 5, #[.int .u8 (bd (byteP 0))]⟩, ⟨gc68, 5, cbc68⟩] W67 := HS65.joins hb67 hr68 hg68
   clear HS67 hr68 hg68
   clear HS65 hb67
   refine sx_ (sxi HS67j [0, 1, 2, 3] rfl) fun hx69 => h1_ 4 rfl <| a_ H67 rfl (fun g21_71 c21_71 => .slice (some ⟨g21_71, 0, none⟩) 9 c21_71) (T := fun _ c21_71 cb21_71 => OwnC cb21_71 c21_71 9 1 (bytesV ((([(byteP p.k)]) ++ (four p.e)) ++ (four p.s)))) (fun _ h => dd_appB HS67j 1 rfl O16_23 rfl (H67.ev 17 rfl) (H67.ev 20 rfl) (slice_own (HS67j.row 3 rfl) Oc68 (len_four _)) (fun h9 => by cases h9) rfl rfl (by unfold maxLen; omega) (by omega) h) fun g21_71 c21_71 cb21_71 _ O21_71 HS70 _ H70 => sx_ (sxi HS70 [0, 1, 2, 3] rfl) fun hx72 => h1_ 10 rfl <| a_ H70 rfl (fun g27_74 c27_74 => .slice (some ⟨g27_74, 0, none⟩) 10 c27_74) (T := fun _ c27_74 cb27_74 => OwnC cb27_74 c27_74 10 1 (bytesV (((([(byteP p.k)]) ++ (four p.e)) ++ (four p.s)) ++ ([(byteP 0)])))) (fun _ h => dd_appB HS70 3 rfl O21_71 rfl (H70.ev 21 rfl) (H70.ev 26 rfl) (slice_own (HS70.row 1 rfl) (⟨Nat.le_refl _, by decide, rfl, rfl, rfl⟩ : OwnC #[.int .u8 (bd (byteP 0))] 1 1 1 (bytesV [(byteP 0)])) (show ([(byteP 0)] : List (BitVec 8)).length = 1 from rfl)) (fun h9 => by cases h9) rfl rfl (by unfold maxLen; omega) (by omega) h) fun g27_74 c27_74 cb27_74 _ O27_74 HS73 _ H73 => sx_ (sxi HS73 [0, 1, 2, 3] rfl) fun hx75 => hp_ H73 11 hx75 rfl rfl rfl fun _ H76 => ?_
   clear hx66 HS67j H67 hx69 HS70 H70 hx72 H73
   refine wpAnyH_done (by kernel_rfl) ?_ _
   clear hx75
   exact nx ⟨g27_74, c27_74, cb27_74, O27_74, H76.sel [1, 4] rfl, ss HS73 [0, 3]⟩
  rintro aj36 wj36 ⟨g27_53, c27_53, cb27_53, O27_53, Hj36, HSj36⟩
  refine nx <| sq_ <| sq_ <| rl_ <| wl_ <| p_ Hj36 rfl rfl fun _ H78 => ln_ <| nx <| wp_block <| wp_unr 1 <| unr_go <| sq_ <| sq_ <| rl_ <| wl_ <| p_ H78 rfl rfl fun _ H79 => wl_ <| i_ H79 rfl (xf 3 3 rfl (H79.ev 1 rfl)) fun _ H80 => wl_ <| i_ H80 rfl (dd_get HSj36 0 3 rfl rfl (H80.ev 29 rfl) rfl Try.underlying27 rfl) fun _ H81 => wl_ <| i_ H81 rfl (v := .int .i64 0) (dd_len rfl (H81.ev 30 rfl) Try.underlying27) fun _ H82 => wl_ <| i_ H82 rfl (dd_cmp rfl (H82.ev 28 rfl) (H82.ev 31 rfl) (lt_f (by decide))) fun _ H83 => ln_ <| nx <| cf_ H83 rfl <| wp_exit <| tx <| tx <| bx <| nx <| sq_ <| rl_ <| wl_ <| p_ H83 rfl rfl fun _ H84 => ?_
  clear Hj36 H78 H79 H80 H81 H82 H83
  refine wl_ <| d_ H84 rfl (R := fun v w9 => ∃ gc86 cc86 cbc86, v = .slice (some ⟨gc86, 0, none⟩) nB cc86 ∧ (wj36.heap.size ≤ gc86) ∧ (Row w9 gc86 5 cbc86) ∧ (OwnC cbc86 cc86 nB 1 (bytesV (encP p))) ∧ Below wj36.heap.size wj36 w9) (dc_ Try.func41 rfl (args1 (H84.ev 52 rfl)) (refsealed_any _ _ wj36 (item_own (HSj36.row 1 rfl) O27_53 (len_app (len_app (len_app (show ([(byteP p.k)] : List (BitVec 8)).length = 1 from rfl) (len_four _)) (len_four _)) (show ([(byteP 0)] : List (BitVec 8)).length = 1 from rfl))) (by rw [(len_app (len_app (len_app (show ([(byteP p.k)] : List (BitVec 8)).length = 1 from rfl) (len_four _)) (len_four _)) (show ([(byteP 0)] : List (BitVec 8)).length = 1 from rfl))]; omega)) (fun _ w9 ⟨v9, he, ho, hb⟩ => by rw [(pre_z hpn), hEl] at ho; obtain ⟨g9, c9, cb9, rfl, h1, h2, h3⟩ := ownc_pos ho (by omega); exact ⟨_, he, g9, c9, cb9, rfl, h1, h2, h3, hb⟩)) ?_
  rintro _ W85 ⟨gc86, cc86, cbc86, rfl, hg86, hr86, Oc86, hb85⟩ a85 H85
  have HS85 := HSj36.same hb85
  clear H84
  have HS85j : St w noF [⟨g1, 29, #[.int .i64 p.k, .int .u32 (wd p.e), .int .u32 (wd p.s), .slice A 0 c]⟩, ⟨g27_53, 5, cb27_53⟩, ⟨gc86, 5, cbc86⟩] W85 := HSj36.joins hb85 hr86 hg86
  clear HS85 hr86 hg86
  clear HSj36 hb85
  refine q_ H85 2 rfl fun _ H87 => ln_ <| nx <| wp_ret <| ret_run H87.env0 (res_tt Try.results25 (H87.get 2 rfl) (H87.get 3 rfl)) <| ?_
  clear H85
  exact .inr ⟨rfl, gc86, cc86, cbc86, rfl, st_fresh2 HS85j 2 rfl, HS85j.row 2 rfl, Oc86, HS85j.below⟩
set_option maxHeartbeats 800000 in
theorem rpenc_S (p : Pkt) (bp op n c : Nat) (nB : Nat) (w : World) (hp : PutsAt w (.slice (some ⟨bp, op, none⟩) n c) p.l) (hpn : p.l.length = n) (hw : Pw p) (hpo : ∀ x ∈ p.l, x.2.length = 32 ∧ -9223372036854775808 ≤ x.1 ∧ x.1 < 9223372036854775808) (hnm : n ≤ maxLen) (hnB : nB = 12 + 33 * n) (hEl : (encP p).length = nB) (hm5 : mayP p = true → n ≤ 5) (HPC : ∀ W, Below w.heap.size w W → ∀ (k : Nat) (x : Pt), p.l[k]? = some x → W.rangeAt bp (op + k * 33) (pcell x)) (hbp : bp < w.heap.size) : Calls Try.prog 25 #[.agg #[.int .i64 p.k, .int .u32 (wd p.e), .int .u32 (wd p.s), .slice (some ⟨bp, op, none⟩) n c]] w fun x w' => (mayP p = false ∧ x = .returned (.tuple #[.slice none 0 0, .int .i64 11]) ∧ Below w.heap.size w w') ∨ (mayP p = true ∧ ∃ g c' cb, x = .returned (.tuple #[.slice (some ⟨g, 0, none⟩) nB c', .int .i64 0]) ∧ w.heap.size ≤ g ∧ Row w' g 5 cb ∧ OwnC cb c' nB 1 (bytesV (encP p)) ∧ Below w.heap.size w w') := by
  have HS := St.nil w noF
  have HP : ∀ W, Below w.heap.size w W → PutsAt W (.slice (some ⟨bp, op, none⟩) n c) p.l := fun W hb => hp.below hb (Nat.le_refl _)
  refine enter_en Try.func25 rfl Try.ntmps25 (Nat.le_of_ble_eq_true rfl) fun a0 (HA0 : En 54 [(0, .agg #[.int .i64 p.k, .int .u32 (wd p.e), .int .u32 (wd p.s), .slice (some ⟨bp, op, none⟩) n c])] a0) => ?_
  refine sq_ <| rl_ <| wl_ <| n_ HA0 rfl (fun _ h => dd_box HS rfl (HA0.ev 0 rfl) (cs := #[.int .i64 p.k, .int .u32 (wd p.e), .int .u32 (wd p.s), .slice (some ⟨bp, op, none⟩) n c]) rfl h) fun g1 W1 HS1 _ H1 => q_ H1 2 rfl fun _ H2 => ln_ <| nx <| sq_ <| sq_ <| rl_ <| wl_ <| i_ H2 rfl (v := .agg #[.int .i64 p.k, .int .u32 (wd p.e), .int .u32 (wd p.s), .slice (some ⟨bp, op, none⟩) n c]) (dd_load HS1 0 0 rfl rfl (H2.ev 1 rfl) (slab_whole _) Try.underlying29 rfl (by kernel_rfl)) fun _ H3 => ?_
  clear HS HA0 H1 H2
  cases hb5 : mayP p
  ·
   refine wl_ <| c_ H3 rfl HS1 (v := .bool false) (dc_ Try.func39 rfl (args1 (H3.ev 6 rfl)) (rpgood_any p (some ⟨bp, op, none⟩) n c W1 (HP _ HS1.below) hpn hnm) (fun _ w9 h9 => ⟨_, h9.1, by rw [hb5], h9.2⟩)) fun _ HS6 _ H6 => wl_ <| i_ H6 rfl (v := .bool true) (dd_nt rfl (H6.ev 7 rfl) rfl) fun _ H7 => ln_ <| nx <| ct_ H7 rfl <| sq_ <| rl_ <| q_ H7 2 rfl fun _ H8 => ln_ <| nx <| wp_ret <| tr <| ret_run H8.env0 (res_tt Try.results25 (H8.get 2 rfl) (H8.get 3 rfl)) <| ?_
   clear H3 HS1 H6 H7
   exact .inl ⟨rfl, rfl, HS6.below⟩
  refine wl_ <| c_ H3 rfl HS1 (v := .bool true) (dc_ Try.func39 rfl (args1 (H3.ev 6 rfl)) (rpgood_any p (some ⟨bp, op, none⟩) n c W1 (HP _ HS1.below) hpn hnm) (fun _ w9 h9 => ⟨_, h9.1, by rw [hb5], h9.2⟩)) fun W9 HS9 a9 H9 => wl_ <| i_ H9 rfl (v := .bool false) (dd_nt rfl (H9.ev 7 rfl) rfl) fun _ H10 => ln_ <| nx <| cf_ H10 rfl <| wp_skip <| nx <| sq_ <| ?_
  clear H3 HS1 H9
  refine wp_cut (fun a9 w9 => ∃ g16_23 : Nat, ∃ c16_23 : Nat, ∃ cb16_23 : Array Value, OwnC cb16_23 c16_23 5 1 (bytesV (([(byteP p.k)]) ++ (four p.e))) ∧ En 54 [(4, .slice (some ⟨g16_23, 0, none⟩) 5 c16_23), (1, .pointer (some ⟨g1, 0, none⟩))] a9 ∧ St w noF [⟨g1, 29, #[.int .i64 p.k, .int .u32 (wd p.e), .int .u32 (wd p.s), .slice (some ⟨bp, op, none⟩) n c]⟩, ⟨g16_23, 5, cb16_23⟩] w9) ?_ ?_
  ·
   refine wi_ HS9 [0] rfl [0] rfl fun HSh11 hx11 => ht_ H10 0 hx11 rfl rfl (fun _ _ _ => xf 0 0 rfl (H10.ev 1 rfl)) fun _ H12 => ht_ H12 1 hx11 rfl rfl (fun _ _ HS9 => dd_get HS9 0 0 rfl rfl (H12.ev 9 rfl) rfl Try.underlying3 rfl) fun _ H13 => ht_ H13 2 hx11 rfl rfl (v := .int .u8 (bd (byteP p.k))) (fun _ _ _ => dd_conv (k := .u8) rfl (H13.ev 10 rfl) Try.underlying3 (by kernel_rfl) (wrap_u8_bd _)) fun _ H14 => ht_ H14 4 hx11 rfl rfl (fun _ _ _ => xf 1 1 rfl (H14.ev 1 rfl)) fun _ H15 => ht_ H15 5 hx11 rfl rfl (fun _ _ HS9 => dd_get HS9 0 1 rfl rfl (H15.ev 13 rfl) rfl Try.underlying26 rfl) fun _ H16 => ?_
   clear HS9 H10 H12 H13 H14 H15
   refine wpAnyH_all (rs := [3, 6]) (by kernel_rfl) (by decide) (hm_cons ?_ (hm_cons ?_ hm_nil))
   ·
    refine ho_ rfl <| n_ H16 rfl (fun _ h => dd_lits HSh11 #[.int .u8 (bd (byteP p.k))] rfl (ps := [(0, .int .u8 (bd (byteP p.k)))]) (pr1 (H16.ev 11 rfl) (pr0)) (z := .int .u8 0) (sz := 1) Try.underlying23 (by kernel_rfl) rfl rfl (by kernel_rfl) h) fun g12 W17 HS17 _ H17 => sx_ (sxi HS17 [0, 1] rfl) fun hx18 => ?_
    clear HSh11 H16
    refine h1_ 6 rfl <| d_ H17 rfl (R := fun v w9 => ∃ gc20 cc20 cbc20, v = .slice (some ⟨gc20, 0, none⟩) 4 cc20 ∧ (W17.heap.size ≤ gc20) ∧ (Row w9 gc20 5 cbc20) ∧ (OwnC cbc20 cc20 4 1 (bytesV (four p.e))) ∧ Below W17.heap.size W17 w9) (dc_ Try.func40 rfl (args2 (H17.ev 14 rfl) rfl) (refput_any p.e 4 W17 (by decide)) (fun _ w9 ⟨v9, he, ho, hb⟩ => by rw [← four_le] at ho; obtain ⟨g9, c9, cb9, rfl, h1, h2, h3⟩ := ownc_pos ho (by decide); exact ⟨_, he, g9, c9, cb9, rfl, h1, h2, h3, hb⟩)) ?_
    rintro _ W19 ⟨gc20, cc20, cbc20, rfl, hg20, hr20, Oc20, hb19⟩ a19 H19
    have HS19 := HS17.same hb19
    clear H17
    have HS19j : St w noF [⟨g1, 29, #[.int .i64 p.k, .int .u32 (wd p.e), .int .u32 (wd p.s), .slice (some ⟨bp, op, none⟩) n c]⟩, ⟨g12, 5, #[.int .u8 (bd (byteP p.k))]⟩, ⟨gc20, 5, cbc20⟩] W19 := HS17.joins hb19 hr20 hg20
    clear HS19 hr20 hg20
    clear HS17 hb19
    refine sx_ (sxi HS19j [0, 1, 2] rfl) fun hx21 => h1_ 7 rfl <| a_ H19 rfl (fun g16_23 c16_23 => .slice (some ⟨g16_23, 0, none⟩) 5 c16_23) (T := fun _ c16_23 cb16_23 => OwnC cb16_23 c16_23 5 1 (bytesV (([(byteP p.k)]) ++ (four p.e)))) (fun _ h => dd_appB HS19j 1 rfl (⟨Nat.le_refl _, by decide, rfl, rfl, rfl⟩ : OwnC #[.int .u8 (bd (byteP p.k))] 1 1 1 (bytesV [(byteP p.k)])) rfl (H19.ev 12 rfl) (H19.ev 15 rfl) (slice_own (HS19j.row 2 rfl) Oc20 (len_four _)) (fun h9 => by cases h9) rfl rfl (by unfold maxLen; omega) (by omega) h) fun g16_23 c16_23 cb16_23 _ O16_23 HS22 _ H22 => sx_ (sxi HS22 [0, 1, 2] rfl) fun hx24 => hp_ H22 8 hx24 rfl rfl rfl fun _ H25 => ?_
    clear hx18 HS19j H19 hx21 H22
    refine wpAnyH_done (by kernel_rfl) ?_ _
    clear hx24
    exact nx ⟨g16_23, c16_23, cb16_23, O16_23, H25.sel [1, 4] rfl, ss HS22 [0, 2]⟩
   refine ho_ rfl <| d_ H16 rfl (R := fun v w9 => ∃ gc27 cc27 cbc27, v = .slice (some ⟨gc27, 0, none⟩) 4 cc27 ∧ (W9.drew.heap.size ≤ gc27) ∧ (Row w9 gc27 5 cbc27) ∧ (OwnC cbc27 cc27 4 1 (bytesV (four p.e))) ∧ Below W9.drew.heap.size W9.drew w9) (dc_ Try.func40 rfl (args2 (H16.ev 14 rfl) rfl) (refput_any p.e 4 W9.drew (by decide)) (fun _ w9 ⟨v9, he, ho, hb⟩ => by rw [← four_le] at ho; obtain ⟨g9, c9, cb9, rfl, h1, h2, h3⟩ := ownc_pos ho (by decide); exact ⟨_, he, g9, c9, cb9, rfl, h1, h2, h3, hb⟩)) ?_
   rintro _ W26 ⟨gc27, cc27, cbc27, rfl, hg27, hr27, Oc27, hb26⟩ a26 H26
   have HS26 := HSh11.same hb26
   clear H16
   have HS26j : St w noF [⟨g1, 29, #[.int .i64 p.k, .int .u32 (wd p.e), .int .u32 (wd p.s), .slice (some ⟨bp, op, none⟩) n c]⟩, ⟨gc27, 5, cbc27⟩] W26 := HSh11.joins hb26 hr27 hg27
   clear HS26 hr27 hg27
   clear HSh11 hb26
   refine sx_ (sxi HS26j [0, 1] rfl) fun hx28 => h1_ 3 rfl <| n_ H26 rfl (fun _ h => dd_lits HS26j #[.int .u8 (bd (byteP p.k))] rfl (ps := [(0, .int .u8 (bd (byteP p.k)))]) (pr1 (H26.ev 11 rfl) (pr0)) (z := .int .u8 0) (sz := 1) Try.underlying23 (by kernel_rfl) rfl rfl (by kernel_rfl) h) fun g12 _ HS29 _ H29 => sx_ (sxi HS29 [0, 1, 2] rfl) fun hx30 => h1_ 7 rfl <| a_ H29 rfl (fun g16_32 c16_32 => .slice (some ⟨g16_32, 0, none⟩) 5 c16_32) (T := fun _ c16_32 cb16_32 => OwnC cb16_32 c16_32 5 1 (bytesV (([(byteP p.k)]) ++ (four p.e)))) (fun _ h => dd_appB HS29 2 rfl (⟨Nat.le_refl _, by decide, rfl, rfl, rfl⟩ : OwnC #[.int .u8 (bd (byteP p.k))] 1 1 1 (bytesV [(byteP p.k)])) rfl (H29.ev 12 rfl) (H29.ev 15 rfl) (slice_own (HS29.row 1 rfl) Oc27 (len_four _)) (fun h9 => by cases h9) rfl rfl (by unfold maxLen; omega) (by omega) h) fun g16_32 c16_32 cb16_32 _ O16_32 HS31 _ H31 => sx_ (sxi HS31 [0, 1, 2] rfl) fun hx33 => hp_ H31 8 hx33 rfl rfl rfl fun _ H34 => ?_
   clear HS26j H26 hx28 HS29 H29 hx30 H31
   refine wpAnyH_done (by kernel_rfl) ?_ _
   clear hx33
   exact nx ⟨g16_32, c16_32, cb16_32, O16_32, H34.sel [1, 4] rfl, ss HS31 [0, 2]⟩
  rintro aj11 wj11 ⟨g16_23, c16_23, cb16_23, O16_23, Hj11, HSj11⟩
  refine nx <| sq_ <| ?_
  refine wp_cut (fun a9 w9 => ∃ g27_53 : Nat, ∃ c27_53 : Nat, ∃ cb27_53 : Array Value, OwnC cb27_53 c27_53 10 1 (bytesV (((([(byteP p.k)]) ++ (four p.e)) ++ (four p.s)) ++ ([(byteP n)]))) ∧ En 54 [(4, .slice (some ⟨g27_53, 0, none⟩) 10 c27_53), (1, .pointer (some ⟨g1, 0, none⟩))] a9 ∧ St w noF [⟨g1, 29, #[.int .i64 p.k, .int .u32 (wd p.e), .int .u32 (wd p.s), .slice (some ⟨bp, op, none⟩) n c]⟩, ⟨g27_53, 5, cb27_53⟩] w9) ?_ ?_
  ·
   refine wi_ HSj11 [0] rfl [0, 1] rfl fun HSh36 hx36 => hp_ Hj11 0 hx36 rfl rfl rfl fun _ H37 => ht_ H37 1 hx36 rfl rfl (fun _ _ _ => xf 2 2 rfl (H37.ev 1 rfl)) fun _ H38 => ht_ H38 2 hx36 rfl rfl (fun _ _ HS9 => dd_get HS9 0 2 rfl rfl (H38.ev 18 rfl) rfl Try.underlying26 rfl) fun _ H39 => ht_ H39 5 hx36 rfl rfl (fun _ _ _ => xf 3 3 rfl (H39.ev 1 rfl)) fun _ H40 => ht_ H40 6 hx36 rfl rfl (fun _ _ HS9 => dd_get HS9 0 3 rfl rfl (H40.ev 22 rfl) rfl Try.underlying27 rfl) fun _ H41 => ht_ H41 7 hx36 rfl rfl (v := .int .i64 n) (fun _ _ _ => dd_len rfl (H41.ev 23 rfl) Try.underlying27) fun _ H42 => ht_ H42 8 hx36 rfl rfl (v := .int .u8 (bd (byteP n))) (fun _ _ _ => dd_conv (k := .u8) rfl (H42.ev 24 rfl) Try.underlying3 (by kernel_rfl) (wrap_u8_bd _)) fun _ H43 => ?_
   clear HSj11 Hj11 H37 H38 H39 H40 H41
   clear H42
   refine wpAnyH_all (rs := [3, 9]) (by kernel_rfl) (by decide) (hm_cons ?_ (hm_cons ?_ hm_nil))
   ·
    refine ho_ rfl <| d_ H43 rfl (R := fun v w9 => ∃ gc45 cc45 cbc45, v = .slice (some ⟨gc45, 0, none⟩) 4 cc45 ∧ (wj11.drew.heap.size ≤ gc45) ∧ (Row w9 gc45 5 cbc45) ∧ (OwnC cbc45 cc45 4 1 (bytesV (four p.s))) ∧ Below wj11.drew.heap.size wj11.drew w9) (dc_ Try.func40 rfl (args2 (H43.ev 19 rfl) rfl) (refput_any p.s 4 wj11.drew (by decide)) (fun _ w9 ⟨v9, he, ho, hb⟩ => by rw [← four_le] at ho; obtain ⟨g9, c9, cb9, rfl, h1, h2, h3⟩ := ownc_pos ho (by decide); exact ⟨_, he, g9, c9, cb9, rfl, h1, h2, h3, hb⟩)) ?_
    rintro _ W44 ⟨gc45, cc45, cbc45, rfl, hg45, hr45, Oc45, hb44⟩ a44 H44
    have HS44 := HSh36.same hb44
    clear H43
    have HS44j : St w noF [⟨g1, 29, #[.int .i64 p.k, .int .u32 (wd p.e), .int .u32 (wd p.s), .slice (some ⟨bp, op, none⟩) n c]⟩, ⟨g16_23, 5, cb16_23⟩, ⟨gc45, 5, cbc45⟩] W44 := HSh36.joins hb44 hr45 hg45
    clear HS44 hr45 hg45
    clear HSh36 hb44
    refine sx_ (sxi HS44j [0, 1, 2] rfl) fun _ => ?_
    refine wpAnyH_all (rs := [4, 9]) (by kernel_rfl) (by decide) (hm_cons ?_ (hm_cons ?_ hm_nil))
    ·
     refine ho_ rfl <| a_ H44 rfl (S := fun g21_48 cb21_48 => [⟨g1, 29, #[.int .i64 p.k, .int .u32 (wd p.e), .int .u32 (wd p.s), .slice (some ⟨bp, op, none⟩) n c]⟩, ⟨gc45, 5, cbc45⟩, ⟨g21_48, 5, cb21_48⟩]) (fun g21_48 c21_48 => .slice (some ⟨g21_48, 0, none⟩) 9 c21_48) (T := fun _ c21_48 cb21_48 => OwnC cb21_48 c21_48 9 1 (bytesV ((([(byteP p.k)]) ++ (four p.e)) ++ (four p.s)))) (fun _ h => dd_appB HS44j 1 rfl O16_23 rfl (H44.ev 17 rfl) (H44.ev 20 rfl) (slice_own (HS44j.row 2 rfl) Oc45 (len_four _)) (fun h9 => by cases h9) rfl rfl (by unfold maxLen; omega) (by omega) h) fun g21_48 c21_48 cb21_48 _ O21_48 HS47 _ H47 => sx_ (sxi HS47 [0, 1, 2] rfl) fun hx49 => h1_ 9 rfl <| n_ H47 rfl (fun _ h => dd_lits HS47 #[.int .u8 (bd (byteP n))] rfl (ps := [(0, .int .u8 (bd (byteP n)))]) (pr1 (H47.ev 25 rfl) (pr0)) (z := .int .u8 0) (sz := 1) Try.underlying23 (by kernel_rfl) rfl rfl (by kernel_rfl) h) fun g26 _ HS50 _ H50 => sx_ (sxi HS50 [0, 1, 2, 3] rfl) fun hx51 => h1_ 10 rfl <| a_ H50 rfl (fun g27_53 c27_53 => .slice (some ⟨g27_53, 0, none⟩) 10 c27_53) (T := fun _ c27_53 cb27_53 => OwnC cb27_53 c27_53 10 1 (bytesV (((([(byteP p.k)]) ++ (four p.e)) ++ (four p.s)) ++ ([(byteP n)])))) (fun _ h => dd_appB HS50 2 rfl O21_48 rfl (H50.ev 21 rfl) (H50.ev 26 rfl) (slice_own (HS50.row 3 rfl) (⟨Nat.le_refl _, by decide, rfl, rfl, rfl⟩ : OwnC #[.int .u8 (bd (byteP n))] 1 1 1 (bytesV [(byteP n)])) (show ([(byteP n)] : List (BitVec 8)).length = 1 from rfl)) (fun h9 => by cases h9) rfl rfl (by unfold maxLen; omega) (by omega) h) fun g27_53 c27_53 cb27_53 _ O27_53 HS52 _ H52 => sx_ (sxi HS52 [0, 1, 2, 3] rfl) fun hx54 => hp_ H52 11 hx54 rfl rfl rfl fun _ H55 => ?_
     clear HS44j H44 HS47 H47 hx49 HS50 H50 hx51 H52
     refine wpAnyH_done (by kernel_rfl) ?_ _
     clear hx54
     exact nx ⟨g27_53, c27_53, cb27_53, O27_53, H55.sel [1, 4] rfl, ss HS52 [0, 3]⟩
    refine ho_ rfl <| n_ H44 rfl (S := fun g26 => [⟨g1, 29, #[.int .i64 p.k, .int .u32 (wd p.e), .int .u32 (wd p.s), .slice (some ⟨bp, op, none⟩) n c]⟩, ⟨g16_23, 5, cb16_23⟩, ⟨gc45, 5, cbc45⟩, ⟨g26, 5, #[.int .u8 (bd (byteP n))]⟩]) (fun _ h => dd_lits HS44j #[.int .u8 (bd (byteP n))] rfl (ps := [(0, .int .u8 (bd (byteP n)))]) (pr1 (H44.ev 25 rfl) (pr0)) (z := .int .u8 0) (sz := 1) Try.underlying23 (by kernel_rfl) rfl rfl (by kernel_rfl) h) fun g26 _ HS56 _ H56 => sx_ (sxi HS56 [0, 1, 2, 3] rfl) fun hx57 => h1_ 4 rfl <| a_ H56 rfl (fun g21_59 c21_59 => .slice (some ⟨g21_59, 0, none⟩) 9 c21_59) (T := fun _ c21_59 cb21_59 => OwnC cb21_59 c21_59 9 1 (bytesV ((([(byteP p.k)]) ++ (four p.e)) ++ (four p.s)))) (fun _ h => dd_appB HS56 1 rfl O16_23 rfl (H56.ev 17 rfl) (H56.ev 20 rfl) (slice_own (HS56.row 2 rfl) Oc45 (len_four _)) (fun h9 => by cases h9) rfl rfl (by unfold maxLen; omega) (by omega) h) fun g21_59 c21_59 cb21_59 _ O21_59 HS58 _ H58 => sx_ (sxi HS58 [0, 1, 2, 3] rfl) fun hx60 => h1_ 10 rfl <| a_ H58 rfl (fun g27_62 c27_62 => .slice (some ⟨g27_62, 0, none⟩) 10 c27_62) (T := fun _ c27_62 cb27_62 => OwnC cb27_62 c27_62 10 1 (bytesV (((([(byteP p.k)]) ++ (four p.e)) ++ (four p.s)) ++ ([(byteP n)])))) (fun _ h => dd_appB HS58 3 rfl O21_59 rfl (H58.ev 21 rfl) (H58.ev 26 rfl) (slice_own (HS58.row 2 rfl) (⟨Nat.le_refl _, by decide, rfl, rfl, rfl⟩ : OwnC #[.int .u8 (bd (byteP n))] 1 1 1 (bytesV [(byteP n)])) (show ([(byteP n)] : List (BitVec 8)).length = 1 from rfl)) (fun h9 => by cases h9) rfl rfl (by unfold maxLen; omega) (by omega) h) fun g27_62 c27_62 cb27_62 _ O27_62 HS61 _ H61 => sx_ (sxi HS61 [0, 1, 2, 3] rfl) fun hx63 => hp_ H61 11 hx63 rfl rfl rfl fun _ H64 => ?_
    clear HS44j H44 HS56 H56 hx57 HS58 H58 hx60 H61
    refine wpAnyH_done (by kernel_rfl) ?_ _
    clear hx63
    exact nx ⟨g27_62, c27_62, cb27_62, O27_62, H64.sel [1, 4] rfl, ss HS61 [0, 3]⟩
   refine ho_ rfl <| n_ H43 rfl (S := fun g26 => [⟨g1, 29, #[.int .i64 p.k, .int .u32 (wd p.e), .int .u32 (wd p.s), .slice (some ⟨bp, op, none⟩) n c]⟩, ⟨g16_23, 5, cb16_23⟩, ⟨g26, 5, #[.int .u8 (bd (byteP n))]⟩]) (fun _ h => dd_lits HSh36 #[.int .u8 (bd (byteP n))] rfl (ps := [(0, .int .u8 (bd (byteP n)))]) (pr1 (H43.ev 25 rfl) (pr0)) (z := .int .u8 0) (sz := 1) Try.underlying23 (by kernel_rfl) rfl rfl (by kernel_rfl) h) fun g26 W65 HS65 _ H65 => sx_ (sxi HS65 [0, 1, 2] rfl) fun hx66 => ?_
   clear HSh36 H43
   refine h1_ 3 rfl <| d_ H65 rfl (R := fun v w9 => ∃ gc68 cc68 cbc68, v = .slice (some ⟨gc68, 0, none⟩) 4 cc68 ∧ (W65.heap.size ≤ gc68) ∧ (Row w9 gc68 5 cbc68) ∧ (OwnC cbc68 cc68 4 1 (bytesV (four p.s))) ∧ Below W65.heap.size W65 w9) (dc_ Try.func40 rfl (args2 (H65.ev 19 rfl) rfl) (refput_any p.s 4 W65 (by decide)) (fun _ w9 ⟨v9, he, ho, hb⟩ => by rw [← four_le] at ho; obtain ⟨g9, c9, cb9, rfl, h1, h2, h3⟩ := ownc_pos ho (by decide); exact ⟨_, he, g9, c9, cb9, rfl, h1, h2, h3, hb⟩)) ?_
   rintro _ W67 ⟨gc68, cc68, cbc68, rfl, hg68, hr68, Oc68, hb67⟩ a67 H67
   have HS67 := HS65.same hb67
   clear H65
   have HS67j : St w noF [⟨g1, 29, #[.int .i64 p.k, .int .u32 (wd p.e), .int .u32 (wd p.s), .slice (some ⟨bp, op, none⟩) n c]⟩, ⟨g16_23, 5, cb16_23⟩, ⟨g26, 5, #[.int .u8 (bd (byteP n))]⟩, ⟨gc68, 5, cbc68⟩] W67 := HS65.joins hb67 hr68 hg68
   clear HS67 hr68 hg68
   clear HS65 hb67
   refine sx_ (sxi HS67j [0, 1, 2, 3] rfl) fun hx69 => h1_ 4 rfl <| a_ H67 rfl (fun g21_71 c21_71 => .slice (some ⟨g21_71, 0, none⟩) 9 c21_71) (T := fun _ c21_71 cb21_71 => OwnC cb21_71 c21_71 9 1 (bytesV ((([(byteP p.k)]) ++ (four p.e)) ++ (four p.s)))) (fun _ h => dd_appB HS67j 1 rfl O16_23 rfl (H67.ev 17 rfl) (H67.ev 20 rfl) (slice_own (HS67j.row 3 rfl) Oc68 (len_four _)) (fun h9 => by cases h9) rfl rfl (by unfold maxLen; omega) (by omega) h) fun g21_71 c21_71 cb21_71 _ O21_71 HS70 _ H70 => sx_ (sxi HS70 [0, 1, 2, 3] rfl) fun hx72 => h1_ 10 rfl <| a_ H70 rfl (fun g27_74 c27_74 => .slice (some ⟨g27_74, 0, none⟩) 10 c27_74) (T := fun _ c27_74 cb27_74 => OwnC cb27_74 c27_74 10 1 (bytesV (((([(byteP p.k)]) ++ (four p.e)) ++ (four p.s)) ++ ([(byteP n)])))) (fun _ h => dd_appB HS70 3 rfl O21_71 rfl (H70.ev 21 rfl) (H70.ev 26 rfl) (slice_own (HS70.row 1 rfl) (⟨Nat.le_refl _, by decide, rfl, rfl, rfl⟩ : OwnC #[.int .u8 (bd (byteP n))] 1 1 1 (bytesV [(byteP n)])) (show ([(byteP n)] : List (BitVec 8)).length = 1 from rfl)) (fun h9 => by cases h9) rfl rfl (by unfold maxLen; omega) (by omega) h) fun g27_74 c27_74 cb27_74 _ O27_74 HS73 _ H73 => sx_ (sxi HS73 [0, 1, 2, 3] rfl) fun hx75 => hp_ H73 11 hx75 rfl rfl rfl fun _ H76 => ?_
   clear hx66 HS67j H67 hx69 HS70 H70 hx72 H73
   refine wpAnyH_done (by kernel_rfl) ?_ _
   clear hx75
   exact nx ⟨g27_74, c27_74, cb27_74, O27_74, H76.sel [1, 4] rfl, ss HS73 [0, 3]⟩
  rintro aj36 wj36 ⟨g27_53, c27_53, cb27_53, O27_53, Hj36, HSj36⟩
  refine nx <| sq_ <| sq_ <| rl_ <| ?_
  have hn5 := hm5 hb5
  have hn5 := hm5 hb5
  refine wl_ <| p_ Hj36 rfl rfl fun _ H78 => ln_ <| nx <| wp_block <| ?_
  clear Hj36
  refine wp_loopG (ι := Nat) (fun i a9 w9 => ∃ gb1 : Nat, ∃ cb1 : Nat, ∃ cbb1 : Array Value, ∃ nI : Nat, (i ≤ n) ∧ (nI = 10 + 33 * i) ∧ (OwnC cbb1 cb1 nI 1 (bytesV (preP p i))) ∧ En 54 [(5, .int .i64 i), (4, .slice (some ⟨gb1, 0, none⟩) nI cb1), (1, .pointer (some ⟨g1, 0, none⟩))] a9 ∧ St w noF [⟨g1, 29, #[.int .i64 p.k, .int .u32 (wd p.e), .int .u32 (wd p.s), .slice (some ⟨bp, op, none⟩) n c]⟩, ⟨gb1, 5, cbb1⟩] w9) (fun i => n - i) (0) ⟨g27_53, c27_53, cb27_53, 10, (Nat.zero_le _), (by omega), (pre_0 hpn O27_53), H78.sel [1, 4, 5] rfl, ss HSj36 [0, 1]⟩ ?_
  clear H78 HSj36
  rintro i aL79 wL79 ⟨gb1, cb1, cbb1, nI, hj, hnI, Ob1, HL79, HSL79⟩
  refine sq_ <| sq_ <| rl_ <| wl_ <| p_ HL79 rfl rfl fun _ H80 => wl_ <| i_ H80 rfl (xf 3 3 rfl (H80.ev 1 rfl)) fun _ H81 => wl_ <| i_ H81 rfl (dd_get HSL79 0 3 rfl rfl (H81.ev 29 rfl) rfl Try.underlying27 rfl) fun _ H82 => wl_ <| i_ H82 rfl (v := .int .i64 n) (dd_len rfl (H82.ev 30 rfl) Try.underlying27) fun _ H83 => ?_
  clear HL79 H80 H81 H82
  by_cases hc85 : (i : Int) < n
  ·
   refine wl_ <| i_ H83 rfl (dd_cmp rfl (H83.ev 28 rfl) (H83.ev 31 rfl) (lt_t hc85)) fun _ H86 => ln_ <| nx <| ct_ H86 rfl <| wp_skip <| nx <| sq_ <| wp_block <| ?_
   clear H83
   refine wi_ HSL79 [0] rfl [0, 1] rfl fun HSh87 hx87 => ?_
   clear HSL79
   obtain ⟨xi, hxi⟩ : ∃ x, p.l[i]? = some x := ⟨_, List.getElem?_eq_getElem (by rw [hpn]; omega)⟩
   have hwxi := hpo xi (List.mem_of_getElem? hxi)
   refine hp_ H86 0 hx87 rfl rfl rfl fun _ H88 => ht_ H88 1 hx87 rfl rfl (fun _ _ _ => xf 3 3 rfl (H88.ev 1 rfl)) fun _ H89 => ht_ H89 2 hx87 rfl rfl (fun _ _ HS9 => dd_get HS9 0 3 rfl rfl (H89.ev 36 rfl) rfl Try.underlying27 rfl) fun _ H90 => hp_ H90 3 hx87 rfl rfl rfl fun _ H91 => ht_ H91 4 hx87 rfl rfl (fun _ _ _ => xSo 33 (op + i * 33) rfl (H91.ev 37 rfl) (H91.ev 38 rfl)) fun _ H92 => ht_ H92 5 hx87 rfl rfl (fun _ _ _ => xf 0 (op + i * 33) rfl (H92.ev 39 rfl)) fun _ H93 => ht_ H93 6 hx87 rfl rfl (fun _ _ HS9 => dd_at rfl (H93.ev 40 rfl) (pc_at (HPC _ HS9.below i xi hxi)) Try.underlying3 rfl) fun _ H94 => ht_ H94 7 hx87 rfl rfl (v := .int .u8 (bd (byteP xi.1))) (fun _ _ _ => dd_conv (k := .u8) rfl (H94.ev 41 rfl) Try.underlying3 (by kernel_rfl) (wrap_u8_bd _)) fun _ H95 => ?_
   clear H86 H88 H89 H90 H91 H92 H93
   refine ht_ H95 10 hx87 rfl rfl (fun _ _ _ => xf 3 3 rfl (H95.ev 1 rfl)) fun _ H96 => ht_ H96 11 hx87 rfl rfl (fun _ _ HS9 => dd_get HS9 0 3 rfl rfl (H96.ev 45 rfl) rfl Try.underlying27 rfl) fun _ H97 => hp_ H97 12 hx87 rfl rfl rfl fun _ H98 => ht_ H98 13 hx87 rfl rfl (fun _ _ _ => xSo 33 (op + i * 33) rfl (H98.ev 46 rfl) (H98.ev 47 rfl)) fun _ H99 => ht_ H99 14 hx87 rfl rfl (fun _ _ _ => xf 1 (op + i * 33 + 1) rfl (H99.ev 48 rfl)) fun _ H100 => ht_ H100 15 hx87 rfl rfl (v := .slice (some ⟨bp, op + i * 33 + 1, none⟩) 32 32) (fun _ _ _ => dd_slA (n := 32) (sz := 1) rfl (H100.ev 49 rfl) (by kernel_rfl)) fun _ H101 => h1_ 8 rfl <| n_ H101 rfl (fun _ h => dd_lits HSh87 #[.int .u8 (bd (byteP xi.1))] rfl (ps := [(0, .int .u8 (bd (byteP xi.1)))]) (pr1 (H101.ev 42 rfl) (pr0)) (z := .int .u8 0) (sz := 1) Try.underlying23 (by kernel_rfl) rfl rfl (by kernel_rfl) h) fun g43 _ HS102 _ H102 => sx_ (sxi HS102 [0, 1, 2] rfl) fun hx103 => ?_
   clear H94 H95 H96 H97 H98 H99 H100 HSh87 H101
   refine h1_ 9 rfl <| a_ H102 rfl (S := fun g44_105 cb44_105 => [⟨g1, 29, #[.int .i64 p.k, .int .u32 (wd p.e), .int .u32 (wd p.s), .slice (some ⟨bp, op, none⟩) n c]⟩, ⟨g43, 5, #[.int .u8 (bd (byteP xi.1))]⟩, ⟨g44_105, 5, cb44_105⟩]) (fun g44_105 c44_105 => .slice (some ⟨g44_105, 0, none⟩) (nI + 1) c44_105) (T := fun _ c44_105 cb44_105 => OwnC cb44_105 c44_105 (nI + 1) 1 (bytesV ((preP p i) ++ ([(byteP xi.1)])))) (fun _ h => dd_appB HS102 1 rfl Ob1 rfl (H102.ev 35 rfl) (H102.ev 43 rfl) (slice_own (HS102.row 2 rfl) (⟨Nat.le_refl _, by decide, rfl, rfl, rfl⟩ : OwnC #[.int .u8 (bd (byteP xi.1))] 1 1 1 (bytesV [(byteP xi.1)])) (show ([(byteP xi.1)] : List (BitVec 8)).length = 1 from rfl)) (fun h9 => by cases h9) rfl rfl (by unfold maxLen; omega) (by omega) h) fun g44_105 c44_105 cb44_105 _ O44_105 HS104 _ H104 => sx_ (sxi HS104 [0, 1, 2] rfl) fun hx106 => h1_ 16 rfl <| a_ H104 rfl (fun g51_108 c51_108 => .slice (some ⟨g51_108, 0, none⟩) (nI + 1 + 32) c51_108) (T := fun _ c51_108 cb51_108 => OwnC cb51_108 c51_108 (nI + 1 + 32) 1 (bytesV (((preP p i) ++ ([(byteP xi.1)])) ++ xi.2))) (fun _ h => dd_appB HS104 2 rfl O44_105 rfl (H104.ev 44 rfl) (H104.ev 50 rfl) (put_slA (Nat.lt_of_lt_of_le hbp HS104.below.size) (HPC _ HS104.below i xi hxi) hwxi.1) (fun h9 => by cases h9) rfl rfl (by unfold maxLen; omega) (by omega) h) fun g51_108 c51_108 cb51_108 _ O51_108 HS107 _ H107 => sx_ (sxi HS107 [0, 1, 2] rfl) fun hx109 => hp_ H107 17 hx109 rfl rfl rfl fun _ H110 => ?_
   clear hx87 HS102 H102 hx103 HS104 H104 hx106 H107
   refine wpAnyH_done (by kernel_rfl) ?_ _
   clear hx109
   refine bn <| nx <| rl_ <| wl_ <| p_ H110 rfl rfl fun _ H111 => wl_ <| i_ H111 rfl (v := .int .i64 (i + 1)) (dd_ari rfl (H111.ev 33 rfl) rfl rfl (i64_of (by first | omega | (have := bd_lo; omega)) (by omega))) fun _ H112 => wl_ <| p_ H112 rfl rfl fun _ H113 => ln_ <| ?_
   clear H110 H111 H112
   have H114 := H113.sel [1, 4, 5] rfl
   clear H113
   refine nx ⟨i + 1, ⟨g51_108, c51_108, cb51_108, (nI + 1 + 32), (by omega), (by omega), (pre_S hxi O51_108), H114.sel [1, 4, 5] rfl, ss HS107 [0, 2]⟩, (by omega)⟩
  refine wl_ <| i_ H83 rfl (dd_cmp rfl (H83.ev 28 rfl) (H83.ev 31 rfl) (lt_f hc85)) fun _ H115 => ln_ <| nx <| cf_ H115 rfl <| wp_exit <| tx <| tx <| bx <| nx <| sq_ <| rl_ <| wl_ <| p_ H115 rfl rfl fun _ H116 => ?_
  clear H83 H115
  refine wl_ <| d_ H116 rfl (R := fun v w9 => ∃ gc118 cc118 cbc118, v = .slice (some ⟨gc118, 0, none⟩) nB cc118 ∧ (wL79.heap.size ≤ gc118) ∧ (Row w9 gc118 5 cbc118) ∧ (OwnC cbc118 cc118 nB 1 (bytesV (encP p))) ∧ Below wL79.heap.size wL79 w9) (dc_ Try.func41 rfl (args1 (H116.ev 52 rfl)) (refsealed_any _ _ wL79 (item_own (HSL79.row 1 rfl) Ob1 (len_pre hw (by omega) hnI)) (by rw [(len_pre hw (by omega) hnI)]; omega)) (fun _ w9 ⟨v9, he, ho, hb⟩ => by rw [(pre_all (p := p) (i := i) (by omega)), hEl] at ho; obtain ⟨g9, c9, cb9, rfl, h1, h2, h3⟩ := ownc_pos ho (by omega); exact ⟨_, he, g9, c9, cb9, rfl, h1, h2, h3, hb⟩)) ?_
  rintro _ W117 ⟨gc118, cc118, cbc118, rfl, hg118, hr118, Oc118, hb117⟩ a117 H117
  have HS117 := HSL79.same hb117
  clear H116
  have HS117j : St w noF [⟨g1, 29, #[.int .i64 p.k, .int .u32 (wd p.e), .int .u32 (wd p.s), .slice (some ⟨bp, op, none⟩) n c]⟩, ⟨gb1, 5, cbb1⟩, ⟨gc118, 5, cbc118⟩] W117 := HSL79.joins hb117 hr118 hg118
  clear HS117 hr118 hg118
  clear HSL79 hb117
  refine q_ H117 2 rfl fun _ H119 => ln_ <| nx <| wp_ret <| ret_run H119.env0 (res_tt Try.results25 (H119.get 2 rfl) (H119.get 3 rfl)) <| ?_
  clear H117
  exact .inr ⟨rfl, gc118, cc118, cbc118, rfl, st_fresh2 HS117j 2 rfl, HS117j.row 2 rfl, Oc118, HS117j.below⟩
theorem rpenc_any (p : Pkt) (A : Option Addr) (n c : Nat) (w : World) (hp : PutsAt w (.slice A n c) p.l) (hpn : p.l.length = n) (hpo : ∀ x ∈ p.l, x.2.length = 32 ∧ -9223372036854775808 ≤ x.1 ∧ x.1 < 9223372036854775808) (hnm : n ≤ maxLen) : ∀ nB, (encP p).length = nB → Calls Try.prog 25 #[.agg #[.int .i64 p.k, .int .u32 (wd p.e), .int .u32 (wd p.s), .slice A n c]] w fun x w' => (mayP p = false ∧ x = .returned (.tuple #[.slice none 0 0, .int .i64 11]) ∧ Below w.heap.size w w') ∨ (mayP p = true ∧ ∃ g c' cb, x = .returned (.tuple #[.slice (some ⟨g, 0, none⟩) nB c', .int .i64 0]) ∧ w.heap.size ≤ g ∧ Row w' g 5 cb ∧ OwnC cb c' nB 1 (bytesV (encP p)) ∧ Below w.heap.size w w') := by
  intro nB hnB
  have hw : Pw p := fun x hx => (hpo x hx).1
  have hl := length_encP hw
  rw [hpn, hnB] at hl
  have h5 : mayP p = true → n ≤ 5 := fun h => by have := mayP_len h; omega
  by_cases h0 : n = 0
  · subst h0
    exact rpenc_0 p A c nB w hp hpn hw hpo hnm hl hnB h5
  · obtain ⟨_, _, e, _, _, h9⟩ := id hp
    obtain ⟨b, o, e2, hb, _⟩ := h9 (by intro e3; rw [e3] at hpn; exact h0 hpn.symm)
    injection e with e _ _
    rw [e2] at e
    subst e
    exact rpenc_S p b o n c nB w hp hpn hw hpo hnm hl hnB h5 (fun W hb => puts_cells hp hb) hb
theorem rpenc_good (p : Pkt) (A : Option Addr) (n c nB : Nat) (w : World) (hp : PutsAt w (.slice A n c) p.l) (hpn : p.l.length = n) (hpo : ∀ x ∈ p.l, x.2.length = 32 ∧ -9223372036854775808 ≤ x.1 ∧ x.1 < 9223372036854775808) (hnm : n ≤ maxLen) (h : mayP p = true) (hnB : (encP p).length = nB) : Calls Try.prog 25 #[.agg #[.int .i64 p.k, .int .u32 (wd p.e), .int .u32 (wd p.s), .slice A n c]] w fun x w' => ∃ g c' cb, x = .returned (.tuple #[.slice (some ⟨g, 0, none⟩) nB c', .int .i64 0]) ∧ w.heap.size ≤ g ∧ Row w' g 5 cb ∧ OwnC cb c' nB 1 (bytesV (encP p)) ∧ Below w.heap.size w w' := by
  refine (rpenc_any p A n c w hp hpn hpo hnm nB hnB).mono ?_
  rintro x w' (⟨k, _⟩ | ⟨_, k⟩)
  · rw [h] at k; cases k
  · exact k
end Go.Proofs.Ytbdpocbnkgckhaa

/- The program's taker: what Take answers, and does. -/
set_option maxRecDepth 4000
namespace Go.Proofs.Ytbdpocbnkgckhaa
open Go Go.RowKit
abbrev pkR (pk : Pkt) : Rec := ⟨pk.e, pk.s, pk.l⟩
theorem wd_eqI {a b : BitVec 32} (h : wd a = wd b) : a = b := BitVec.eq_of_toNat_eq (Int.ofNat_inj.1 h)
theorem tk_dec (pk : Pkt) (Ab : Option Addr) (nb cb : Nat) (w : World) (hs : Slice w (.slice Ab nb cb) (encP pk)) (hmay : mayP pk = true) (hw : Pw pk) : Calls Try.prog 21 #[.slice Ab nb cb] w fun x w' => ∃ A9 c9, x = .returned (.tuple #[.agg #[.int .i64 pk.k, .int .u32 (wd pk.e), .int .u32 (wd pk.s), .slice A9 pk.l.length c9], .int .i64 0]) ∧ PutsAt w' (.slice A9 pk.l.length c9) pk.l ∧ Below w.heap.size w w' ∧ ∀ k, (Value.slice A9 pk.l.length c9).ownBlock = some k → w.heap.size ≤ k := by
  have hm := mayP_of hmay
  have hpo : ∀ x ∈ pk.l, x.2.length = 32 ∧ -9223372036854775808 ≤ x.1 ∧ x.1 < 9223372036854775808 := fun x hx => ⟨hw x hx, by have := hm.2.2 x hx; omega, by have := hm.2.2 x hx; omega⟩
  refine (pkdec_good Ab nb cb (encP pk) w hs (pk_okE hmay hw)).mono ?_
  rintro x w' ⟨sl, rfl, ho, hb⟩
  rw [enc_at0, bd_byteP (by omega) (by omega), enc_e, enc_s]
  rw [enc_cnt hmay, enc_l hmay hw] at ho
  rcases ho with ⟨h0, rfl⟩ | ⟨h0, g, c, cb', rfl, h1, h2, h3⟩
  · have e0 : pk.l = [] := List.length_eq_zero_iff.1 h0
    refine ⟨none, 0, by rw [h0], ?_, hb, fun k hk => by cases hk⟩
    rw [e0]; exact puts_nil _
  · exact ⟨_, c, rfl, puts_ownl rfl (ownc_to h2 h3 h1) hpo, hb, fun k hk => by obtain rfl : g = k := Option.some.inj hk; exact h1⟩
theorem tkrec_any (e s : BitVec 32) (A : Option Addr) (n c : Nat) (w : World) : Calls Try.prog 24 #[.int .u32 (wd e), .int .u32 (wd s), .slice A n c] w fun x w' => x = .returned (.agg #[.int .u32 (wd e), .int .u32 (wd s), .slice A n c]) ∧ Below w.heap.size w w' := by
  have HS := St.nil w noF
  have HX : Rs w noF [] [] w := Rs.of HS
  clear HS
  obtain ⟨G1, HZ1, HS1⟩ := HX.anchor
  clear HX
  refine enter_en Try.func24 rfl Try.ntmps24 (Nat.le_of_ble_eq_true rfl) fun a0 (HA0 : En 11 [(0, .int .u32 (wd e)), (1, .int .u32 (wd s)), (2, .slice A n c)] a0) => ?_
  refine sq_ <| rl_ <| wl_ <| n_ HA0 rfl (fun _ h => dd_new HS1 #[.int .u32 0, .int .u32 0, .slice none 0 0] rfl (z := .agg #[.int .u32 0, .int .u32 0, .slice none 0 0]) (by kernel_rfl) rfl h) fun _ _ HS2 _ H2 => ln_ <| nx <| sq_ <| rl_ <| q_ H2 3 rfl fun _ H3 => wl_ <| i_ H3 rfl (v := .agg #[.int .u32 (wd e), .int .u32 (wd s), .slice A n c]) (dd_bld rfl (ps := [(0, .int .u32 (wd e)), (1, .int .u32 (wd s)), (2, .slice A n c)]) (pr1 (H3.ev 7 rfl) (pr1 (H3.ev 8 rfl) (pr1 (H3.ev 9 rfl) (pr0)))) (Lz := [[.int .u32 0], [.int .u32 0], [.slice none 0 0]]) (by kernel_rfl) (lens_cons rfl (lens_cons rfl (lens_cons rfl (lens_nil)))) (fit_cons (i := 0) rfl rfl (fit_cons (i := 1) rfl rfl (fit_cons (i := 2) rfl rfl (fit_nil)))) (cs := #[.int .u32 (wd e), .int .u32 (wd s), .slice A n c]) rfl) fun _ H4 => wl_ <| t_ rfl (fun _ h => dd_setrow HS2 0 rfl rfl (H4.ev 6 rfl) (H4.ev 10 rfl) (by kernel_rfl) (rfl : #[.int .u32 (wd e), .int .u32 (wd s), .slice A n c].size = 3) (rfl : #[.int .u32 0, .int .u32 0, .slice none 0 0].size = 3) (one_l (ao_cons rfl (ao_cons rfl (ao_cons rfl ao_nil)))) h) fun _ HS5 => ln_ <| nx <| wp_ret <| ret_run H4.env0 (res_c Try.results24 (H4.get 6 rfl) (HS5.row 0 rfl) Try.underlying67 rfl (by kernel_rfl)) <| ?_
  clear HS1 HA0 H2 H3 HS2
  exact ⟨rfl, (HZ1.bel HS5)⟩
theorem tk_bad (g : Nat) (Ab : Option Addr) (nb cb : Nat) (q : List (BitVec 8)) (w : World) (hs : Slice w (.slice Ab nb cb) q) (hbad : pkOk q = false) : Calls Try.prog 10 #[.pointer (some ⟨g, 0, none⟩), .slice Ab nb cb] w fun x w' => x = .returned (.tuple #[.agg #[.int .i64 0, .int .u32 0, .int .u32 0, .slice none 0 0], .int .i64 11]) ∧ Below w.heap.size w w' := by
  have HS := St.nil w noF
  have HX : Rs w noF [] [] w := Rs.of HS
  clear HS
  obtain ⟨G1, HZ1, HS1⟩ := HX.anchor
  clear HX
  refine enter_en Try.func10 rfl Try.ntmps10 (Nat.le_of_ble_eq_true rfl) fun a0 (HA0 : En 81 [(0, .pointer (some ⟨g, 0, none⟩)), (1, .slice Ab nb cb)] a0) => ?_
  refine sq_ <| rl_ <| wl_ <| n_ HA0 rfl (fun _ h => dd_new HS1 #[.int .i64 0, .int .u32 0, .int .u32 0, .slice none 0 0] rfl (z := .agg #[.int .i64 0, .int .u32 0, .int .u32 0, .slice none 0 0]) (by kernel_rfl) rfl h) fun _ W2 HS2 _ H2 => wl_ <| p_ H2 rfl rfl fun _ H3 => ln_ <| nx <| sq_ <| sq_ <| rl_ <| wl_ <| p_ H3 rfl rfl fun _ H4 => wl_ <| i_ H4 rfl (v := .bool false) (dd_eqp rfl (H4.ev 10 rfl) rfl Try.underlying30 rfl) fun _ H5 => ln_ <| nx <| cf_ H5 rfl <| wp_skip <| nx <| sq_ <| rl_ <| wl_ <| p_ H5 rfl rfl fun _ H6 => wl_ <| c_ H6 rfl HS2 (v := .tuple #[.agg #[.int .i64 0, .int .u32 0, .int .u32 0, .slice none 0 0], .int .i64 11]) (dc_ Try.func21 rfl (args1 (H6.ev 14 rfl)) (pkdec_bad Ab nb cb q W2 (hs.below (HZ1.bel HS2) (Nat.le_refl _)) hbad) (fun _ w9 h9 => ⟨_, h9.1, rfl, h9.2⟩)) fun _ HS7 _ H7 => wl_ <| p_ H7 rfl rfl fun _ H8 => wl_ <| i_ H8 rfl (v := .agg #[.int .i64 0, .int .u32 0, .int .u32 0, .slice none 0 0]) (dd_ext rfl (H8.ev 13 rfl) rfl) fun _ H9 => ?_
  clear HS1 HA0 H2 H3 H4 H5 H6 HS2 H7
  refine wl_ <| i_ H9 rfl (v := .int .i64 11) (dd_ext rfl (H9.ev 13 rfl) rfl) fun _ H10 => wl_ <| n_ H10 rfl (fun _ h => dd_new HS7 #[.int .i64 0, .int .u32 0, .int .u32 0, .slice none 0 0] rfl (z := .agg #[.int .i64 0, .int .u32 0, .int .u32 0, .slice none 0 0]) (by kernel_rfl) rfl h) fun _ _ HS11 _ H11 => wl_ <| t_ rfl (fun _ h => dd_setrow HS11 1 rfl rfl (H11.ev 6 rfl) (H11.ev 16 rfl) (by kernel_rfl) (rfl : #[.int .i64 0, .int .u32 0, .int .u32 0, .slice none 0 0].size = 4) (rfl : #[.int .i64 0, .int .u32 0, .int .u32 0, .slice none 0 0].size = 4) (one_l (ao_cons rfl (ao_cons rfl (ao_cons rfl (ao_cons rfl ao_nil))))) h) fun _ HS12 => wl_ <| p_ H11 rfl rfl fun _ H13 => ln_ <| nx <| sq_ <| sq_ <| rl_ <| wl_ <| p_ H13 rfl rfl fun _ H14 => wl_ <| i_ H14 rfl (dd_cmp rfl (H14.ev 18 rfl) rfl (ne_t (by decide))) fun _ H15 => wl_ <| p_ H15 rfl rfl fun _ H16 => wl_ <| k_ H16 (wg_ H16 rfl rfl rfl rfl) rfl fun _ H17 => ?_
  clear H8 H9 HS7 H10 HS11 H11 H13 H14 H15
  refine wl_ <| k_ H17 (wg_ H17 rfl rfl rfl rfl) rfl fun _ H18 => wl_ <| k_ H18 (wg_ H18 rfl rfl rfl rfl) rfl fun _ H19 => wl_ <| k_ H19 (wg_ H19 rfl rfl rfl rfl) rfl fun _ H20 => wl_ <| k_ H20 (wu_ H20 rfl rfl rfl) rfl fun _ H21 => wl_ <| k_ H21 (wu_ H21 rfl rfl rfl) rfl fun _ H22 => wl_ <| k_ H22 (wu_ H22 rfl rfl rfl) rfl fun _ H23 => wl_ <| k_ H23 (wg_ H23 rfl rfl rfl rfl) rfl fun _ H24 => wl_ <| p_ H24 rfl rfl fun _ H25 => ?_
  clear H16 H17 H18 H19 H20 H21 H22 H23
  refine ln_ <| ?_
  clear H24
  have H26 := H25.sel [0, 4, 6, 29] rfl
  refine nx <| ct_ H26 rfl <| sq_ <| rl_ <| wl_ <| i_ H26 rfl (v := .agg #[.int .i64 0, .int .u32 0, .int .u32 0, .slice none 0 0]) (dd_bld rfl (ps := []) (pr0) (Lz := [[.int .i64 0], [.int .u32 0], [.int .u32 0], [.slice none 0 0]]) (by kernel_rfl) (lens_cons rfl (lens_cons rfl (lens_cons rfl (lens_cons rfl (lens_nil))))) (fit_nil) (cs := #[.int .i64 0, .int .u32 0, .int .u32 0, .slice none 0 0]) rfl) fun _ H27 => wl_ <| t_ rfl (fun _ h => dd_setrow HS12 0 rfl rfl (H27.ev 4 rfl) (H27.ev 30 rfl) (by kernel_rfl) (rfl : #[.int .i64 0, .int .u32 0, .int .u32 0, .slice none 0 0].size = 4) (rfl : #[.int .i64 0, .int .u32 0, .int .u32 0, .slice none 0 0].size = 4) (one_l (ao_cons rfl (ao_cons rfl (ao_cons rfl (ao_cons rfl ao_nil))))) h) fun _ HS28 => wl_ <| p_ H27 rfl rfl fun _ H29 => ln_ <| nx <| wp_ret <| tr <| ret_run H29.env0 (res_ct Try.results10 (H29.get 4 rfl) (HS28.row 0 rfl) Try.underlying29 rfl (by kernel_rfl) (H29.get 5 rfl)) <| ?_
  clear H25 H26 HS12 H27
  exact ⟨rfl, (HZ1.bel HS28)⟩
section
variable (D : DiskOps) (O : WalOps D)
include O in
set_option maxHeartbeats 800000 in
theorem tk_take (F : Nat → Prop) (g : Nat) (p : Value) (s : Secs) (L : Lab) (B : Bks) (pk : Pkt) (Ab : Option Addr) (nb cb : Nat) (w : World) (HX : Rs w F [⟨g, 59, ndCells p L⟩] [dskT D p (rest s (-1))] w) (hN : Nds s L B) (hs : Slice w (.slice Ab nb cb) (encP pk)) (hF : ∀ k, (Value.slice Ab nb cb).ownBlock = some k → ¬ F k) (hmay : mayP pk = true) (hpw : Pw pk) (hk : pk.k = 1 ∨ pk.k = 2) :
    Calls Try.prog 10 #[.pointer (some ⟨g, 0, none⟩), .slice Ab nb cb] w fun x w' => (ndLater L (pkR pk) = true ∧ ∃ s4, x = .returned (.tuple #[.agg #[.int .i64 3, .int .u32 (wd pk.e), .int .u32 (wd pk.s), .slice none 0 0], .int .i64 0]) ∧ Nds s4 (doneLab L (pkR pk) L.d) (updB pk.l B) ∧ Rs w F [⟨g, 59, ndCells p (doneLab L (pkR pk) L.d)⟩] [dskT D p (rest s4 (-1))] w') ∨
      (ndLater L (pkR pk) = false ∧ (pk.e = L.e ∧ pk.s = L.s) ∧ x = .returned (.tuple #[.agg #[.int .i64 3, .int .u32 (wd pk.e), .int .u32 (wd pk.s), .slice none 0 0], .int .i64 0]) ∧ Rs w F [⟨g, 59, ndCells p L⟩] [dskT D p (rest s (-1))] w') ∨ (ndLater L (pkR pk) = false ∧ ¬ (pk.e = L.e ∧ pk.s = L.s) ∧ x = .returned (.tuple #[.agg #[.int .i64 4, .int .u32 (wd L.e), .int .u32 (wd pk.s), .slice none 0 0], .int .i64 0]) ∧ Rs w F [⟨g, 59, ndCells p L⟩] [dskT D p (rest s (-1))] w') := by
  have HB : ∀ W, Chg F w W → Slice W (.slice Ab nb cb) (encP pk) := fun W k => hs.chg k fun ad e hf => hF ad.block (by rw [e]; rfl) hf
  have hgd : goodB (pkR pk).ats = true := by unfold mayP at hmay; rw [if_pos hk] at hmay; exact hmay
  obtain ⟨G1, HZ1, HS1⟩ := HX.anchor
  clear HX
  refine enter_en Try.func10 rfl Try.ntmps10 (Nat.le_of_ble_eq_true rfl) fun a0 (HA0 : En 81 [(0, .pointer (some ⟨g, 0, none⟩)), (1, .slice Ab nb cb)] a0) => ?_
  refine sq_ <| rl_ <| wl_ <| n_ HA0 rfl (fun _ h => dd_new HS1 #[.int .i64 0, .int .u32 0, .int .u32 0, .slice none 0 0] rfl (z := .agg #[.int .i64 0, .int .u32 0, .int .u32 0, .slice none 0 0]) (by kernel_rfl) rfl h) fun g4 W2 HS2 _ H2 => wl_ <| p_ H2 rfl rfl fun _ H3 => ln_ <| nx <| sq_ <| sq_ <| rl_ <| wl_ <| p_ H3 rfl rfl fun _ H4 => wl_ <| i_ H4 rfl (v := .bool false) (dd_eqp rfl (H4.ev 10 rfl) rfl Try.underlying30 rfl) fun _ H5 => ln_ <| nx <| cf_ H5 rfl <| wp_skip <| nx <| sq_ <| rl_ <| wl_ <| p_ H5 rfl rfl fun _ H6 => ?_
  clear HS1 HA0 H2 H3 H4 H5
  refine wl_ <| d_ H6 rfl (R := fun v w9 => ∃ A9 c9, v = .tuple #[.agg #[.int .i64 pk.k, .int .u32 (wd pk.e), .int .u32 (wd pk.s), .slice A9 pk.l.length c9], .int .i64 0] ∧ (PutsAt w9 (.slice A9 pk.l.length c9) pk.l) ∧ (∀ k, (Value.slice A9 pk.l.length c9).ownBlock = some k → W2.heap.size ≤ k) ∧ Below W2.heap.size W2 w9) (dc_ Try.func21 rfl (args1 (H6.ev 14 rfl)) (tk_dec pk Ab nb cb W2 (HB _ (HZ1.move HS2).st.chg) hmay hpw) (fun _ w9 ⟨A9, c9, he, hp, hb, ho⟩ => ⟨_, he, A9, c9, rfl, hp, ho, hb⟩)) ?_
  rintro _ W7 ⟨A9, c9, rfl, hp9, ho9, hb7⟩ a7 H7
  have HS7 := HS2.same hb7
  clear H6
  obtain ⟨f9, hf9, hfb9⟩ := putsT_new hp9 ho9
  have HXt7 := Rs.addT (HZ1.move HS2) hb7 hf9 hfb9
  clear HS7 HZ1
  obtain ⟨G8, HZ8, HS8⟩ := HXt7.anchor
  clear HXt7
  clear HS2 hb7
  refine wl_ <| p_ H7 rfl rfl fun _ H9 => wl_ <| i_ H9 rfl (v := .agg #[.int .i64 pk.k, .int .u32 (wd pk.e), .int .u32 (wd pk.s), .slice A9 pk.l.length c9]) (dd_ext rfl (H9.ev 13 rfl) rfl) fun _ H10 => wl_ <| i_ H10 rfl (v := .int .i64 0) (dd_ext rfl (H10.ev 13 rfl) rfl) fun _ H11 => wl_ <| n_ H11 rfl (fun _ h => dd_new HS8 #[.int .i64 0, .int .u32 0, .int .u32 0, .slice none 0 0] rfl (z := .agg #[.int .i64 0, .int .u32 0, .int .u32 0, .slice none 0 0]) (by kernel_rfl) rfl h) fun g6 _ HS12 _ H12 => wl_ <| t_ rfl (fun _ h => dd_setrow HS12 2 rfl rfl (H12.ev 6 rfl) (H12.ev 16 rfl) (by kernel_rfl) (rfl : #[.int .i64 pk.k, .int .u32 (wd pk.e), .int .u32 (wd pk.s), .slice A9 pk.l.length c9].size = 4) (rfl : #[.int .i64 0, .int .u32 0, .int .u32 0, .slice none 0 0].size = 4) (one_l (ao_cons rfl (ao_cons rfl (ao_cons rfl (ao_cons rfl ao_nil))))) h) fun W13 HS13 => wl_ <| p_ H12 rfl rfl fun _ H14 => ln_ <| nx <| sq_ <| sq_ <| rl_ <| wl_ <| p_ H14 rfl rfl fun _ H15 => wl_ <| i_ H15 rfl (dd_cmp rfl (H15.ev 18 rfl) rfl (ne_f (by decide))) fun _ H16 => ?_
  clear H7 H9 H10 HS8 H11 HS12 H12 H14
  refine wl_ <| p_ H16 rfl rfl fun _ H17 => wl_ <| ig H17 (wg_ H17 rfl rfl rfl rfl) rfl (xf 0 0 rfl (H17.ev 6 rfl)) fun _ H18 => wl_ <| ig H18 (wg_ H18 rfl rfl rfl rfl) rfl (dd_get HS13 2 0 rfl rfl (H18.ev 21 rfl) rfl Try.underlying3 rfl) fun _ H19 => ?_
  clear H15 H16 H17 H18
  by_cases hc21 : (pk.k : Int) = 1
  ·
   refine wl_ <| ig H19 (wg_ H19 rfl rfl rfl rfl) rfl (dd_cmp rfl (H19.ev 22 rfl) rfl (ne_f hc21)) fun _ H22 => wl_ <| ig H22 (wg_ H22 rfl rfl rfl rfl) rfl (dd_mv rfl (H22.ev 23 rfl)) fun _ H23 => wl_ <| k_ H23 (wg_ H23 rfl rfl rfl rfl) rfl fun _ H24 => wl_ <| k_ H24 (wg_ H24 rfl rfl rfl rfl) rfl fun _ H25 => wl_ <| k_ H25 (wg_ H25 rfl rfl rfl rfl) rfl fun _ H26 => wl_ <| ig H26 (wg_ H26 rfl rfl rfl rfl) rfl (dd_pickF rfl (H26.ev 24 rfl) rfl) fun _ H27 => wl_ <| p_ H27 rfl rfl fun _ H28 => ln_ <| ?_
   clear H19 H22 H23 H24 H25 H26 H27
   have H29 := H28.sel [0, 4, 6, 29] rfl
   refine nx <| cf_ H29 rfl <| wp_skip <| nx <| sq_ <| rl_ <| wl_ <| p_ H29 rfl rfl fun _ H30 => wl_ <| c_ H30 rfl HS13 (dcs Try.func12 rfl (args1 (H30.ev 31 rfl)) (ndlabel_at g _ L W13 (HS13.row 0 rfl)) (.agg #[.int .u32 (wd L.e), .int .u32 (wd L.s), .int .u32 (wd L.n), .int .u16 (hd L.d), .int .u16 (hd L.l)])) fun _ HS31 _ H31 => wl_ <| n_ H31 rfl (fun _ h => dd_new HS31 #[.int .u32 0, .int .u32 0, .int .u32 0, .int .u16 0, .int .u16 0] rfl (z := .agg #[.int .u32 0, .int .u32 0, .int .u32 0, .int .u16 0, .int .u16 0]) (by kernel_rfl) rfl h) fun g8 _ HS32 _ H32 => wl_ <| t_ rfl (S := [⟨g, 59, #[p, .int .u32 (wd L.e), .int .u32 (wd L.s), .int .u32 (wd L.n), .int .u16 (hd L.d), .int .u16 (hd L.l)]⟩, ⟨g4, 29, #[.int .i64 0, .int .u32 0, .int .u32 0, .slice none 0 0]⟩, ⟨g6, 29, #[.int .i64 pk.k, .int .u32 (wd pk.e), .int .u32 (wd pk.s), .slice A9 pk.l.length c9]⟩, ⟨g8, 46, #[.int .u32 (wd L.e), .int .u32 (wd L.s), .int .u32 (wd L.n), .int .u16 (hd L.d), .int .u16 (hd L.l)]⟩]) (fun _ h => dd_setrow HS32 3 rfl rfl (H32.ev 8 rfl) (H32.ev 32 rfl) (by kernel_rfl) (rfl : #[.int .u32 (wd L.e), .int .u32 (wd L.s), .int .u32 (wd L.n), .int .u16 (hd L.d), .int .u16 (hd L.l)].size = 5) (rfl : #[.int .u32 0, .int .u32 0, .int .u32 0, .int .u16 0, .int .u16 0].size = 5) (one_l (ao_cons rfl (ao_cons rfl (ao_cons rfl (ao_cons rfl (ao_cons rfl ao_nil)))))) h) fun W33 HS33 => ln_ <| nx <| sq_ <| wp_block <| sq_ <| rl_ <| wl_ <| i_ H32 rfl (xf 1 1 rfl (H32.ev 6 rfl)) fun _ H34 => wl_ <| i_ H34 rfl (dd_get HS33 2 1 rfl rfl (H34.ev 34 rfl) rfl Try.underlying26 rfl) fun _ H35 => wl_ <| i_ H35 rfl (xf 2 2 rfl (H35.ev 6 rfl)) fun _ H36 => wl_ <| i_ H36 rfl (dd_get HS33 2 2 rfl rfl (H36.ev 36 rfl) rfl Try.underlying26 rfl) fun _ H37 => ?_
   clear H28 H29 H30 HS13 HS31 H31 HS32 H32 H34 H35
   refine wl_ <| i_ H37 rfl (xf 0 0 rfl (H37.ev 8 rfl)) fun _ H38 => wl_ <| i_ H38 rfl (dd_get HS33 3 0 rfl rfl (H38.ev 38 rfl) rfl Try.underlying26 rfl) fun _ H39 => wl_ <| i_ H39 rfl (xf 1 1 rfl (H39.ev 8 rfl)) fun _ H40 => wl_ <| i_ H40 rfl (dd_get HS33 3 1 rfl rfl (H40.ev 40 rfl) rfl Try.underlying26 rfl) fun _ H41 => ?_
   clear H36 H37 H38 H39 H40
   cases hb42 : ndLater L (pkR pk)
   ·
    refine wl_ <| c_ H41 rfl HS33 (v := .bool false) (dc_ Try.func22 rfl (args4 (H41.ev 35 rfl) (H41.ev 37 rfl) (H41.ev 39 rfl) (H41.ev 41 rfl)) (later_any pk.e pk.s L.e L.s W33) (fun _ w9 h9 => ⟨_, h9.1, by rw [show laterB pk.e pk.s L.e L.s = false from hb42], h9.2⟩)) fun _ HS43 _ H43 => wl_ <| p_ H43 rfl rfl fun _ H44 => ln_ <| nx <| cf_ H44 rfl <| sq_ <| rl_ <| wl_ <| i_ H44 rfl (xf 1 1 rfl (H44.ev 6 rfl)) fun _ H45 => wl_ <| i_ H45 rfl (dd_get HS43 2 1 rfl rfl (H45.ev 59 rfl) rfl Try.underlying26 rfl) fun _ H46 => wl_ <| i_ H46 rfl (xf 0 0 rfl (H46.ev 8 rfl)) fun _ H47 => wl_ <| i_ H47 rfl (dd_get HS43 3 0 rfl rfl (H47.ev 61 rfl) rfl Try.underlying26 rfl) fun _ H48 => ?_
    clear H41 HS33 H43 H44 H45 H46 H47
    by_cases hc50 : (wd pk.e : Int) = wd L.e
    ·
     refine wl_ <| i_ H48 rfl (dd_cmp rfl (H48.ev 60 rfl) (H48.ev 62 rfl) (ne_f hc50)) fun _ H51 => wl_ <| p_ H51 rfl rfl fun _ H52 => wl_ <| ig H52 (wg_ H52 rfl rfl rfl rfl) rfl (xf 2 2 rfl (H52.ev 6 rfl)) fun _ H53 => wl_ <| ig H53 (wg_ H53 rfl rfl rfl rfl) rfl (dd_get HS43 2 2 rfl rfl (H53.ev 65 rfl) rfl Try.underlying26 rfl) fun _ H54 => wl_ <| ig H54 (wg_ H54 rfl rfl rfl rfl) rfl (xf 1 1 rfl (H54.ev 8 rfl)) fun _ H55 => wl_ <| ig H55 (wg_ H55 rfl rfl rfl rfl) rfl (dd_get HS43 3 1 rfl rfl (H55.ev 67 rfl) rfl Try.underlying26 rfl) fun _ H56 => ?_
     clear H48 H51 H52 H53 H54 H55
     by_cases hc58 : (wd pk.s : Int) = wd L.s
     ·
      refine wl_ <| ig H56 (wg_ H56 rfl rfl rfl rfl) rfl (dd_cmp rfl (H56.ev 66 rfl) (H56.ev 68 rfl) (ne_f hc58)) fun _ H59 => q_ H59 2 rfl fun _ H60 => ln_ <| ?_
      clear H56 H59
      have H61 := H60.sel [4, 6, 8, 58] rfl
      refine nx <| cf_ H61 rfl <| wp_skip <| bn <| nx <| sq_ <| rl_ <| wl_ <| i_ H61 rfl (xf 1 1 rfl (H61.ev 6 rfl)) fun _ H62 => wl_ <| i_ H62 rfl (dd_get HS43 2 1 rfl rfl (H62.ev 76 rfl) rfl Try.underlying26 rfl) fun _ H63 => wl_ <| i_ H63 rfl (xf 2 2 rfl (H63.ev 6 rfl)) fun _ H64 => wl_ <| i_ H64 rfl (dd_get HS43 2 2 rfl rfl (H64.ev 78 rfl) rfl Try.underlying26 rfl) fun _ H65 => wl_ <| i_ H65 rfl (v := .agg #[.int .i64 3, .int .u32 (wd pk.e), .int .u32 (wd pk.s), .slice none 0 0]) (dd_bld rfl (ps := [(0, .int .i64 3), (1, .int .u32 (wd pk.e)), (2, .int .u32 (wd pk.s))]) (pr1 rfl (pr1 (H65.ev 77 rfl) (pr1 (H65.ev 79 rfl) (pr0)))) (Lz := [[.int .i64 0], [.int .u32 0], [.int .u32 0], [.slice none 0 0]]) (by kernel_rfl) (lens_cons rfl (lens_cons rfl (lens_cons rfl (lens_cons rfl (lens_nil))))) (fit_cons (i := 0) rfl rfl (fit_cons (i := 1) rfl rfl (fit_cons (i := 2) rfl rfl (fit_nil)))) (cs := #[.int .i64 3, .int .u32 (wd pk.e), .int .u32 (wd pk.s), .slice none 0 0]) rfl) fun _ H66 => wl_ <| t_ rfl (fun _ h => dd_setrow HS43 1 rfl rfl (H66.ev 4 rfl) (H66.ev 80 rfl) (by kernel_rfl) (rfl : #[.int .i64 3, .int .u32 (wd pk.e), .int .u32 (wd pk.s), .slice none 0 0].size = 4) (rfl : #[.int .i64 0, .int .u32 0, .int .u32 0, .slice none 0 0].size = 4) (one_l (ao_cons rfl (ao_cons rfl (ao_cons rfl (ao_cons rfl ao_nil))))) h) fun _ HS67 => wl_ <| p_ H66 rfl rfl fun _ H68 => ln_ <| nx <| wp_ret <| ret_run H68.env0 (res_ct Try.results10 (H68.get 4 rfl) (HS67.row 1 rfl) Try.underlying29 rfl (by kernel_rfl) (H68.get 5 rfl)) <| ?_
      clear H60 H61 H62 H63 H64 H65 HS43 H66
      exact .inr (.inl ⟨rfl, ⟨wd_eqI hc50, wd_eqI hc58⟩, rfl, ((HZ8.move HS67).sel [0] [1])⟩)
     refine wl_ <| ig H56 (wg_ H56 rfl rfl rfl rfl) rfl (dd_cmp rfl (H56.ev 66 rfl) (H56.ev 68 rfl) (ne_t hc58)) fun _ H69 => q_ H69 2 rfl fun _ H70 => ln_ <| ?_
     clear H56 H69
     have H71 := H70.sel [4, 6, 8, 58] rfl
     refine nx <| ct_ H71 rfl <| sq_ <| rl_ <| wl_ <| i_ H71 rfl (xf 0 0 rfl (H71.ev 8 rfl)) fun _ H72 => wl_ <| i_ H72 rfl (dd_get HS43 3 0 rfl rfl (H72.ev 71 rfl) rfl Try.underlying26 rfl) fun _ H73 => wl_ <| i_ H73 rfl (xf 2 2 rfl (H73.ev 6 rfl)) fun _ H74 => wl_ <| i_ H74 rfl (dd_get HS43 2 2 rfl rfl (H74.ev 73 rfl) rfl Try.underlying26 rfl) fun _ H75 => wl_ <| i_ H75 rfl (v := .agg #[.int .i64 4, .int .u32 (wd L.e), .int .u32 (wd pk.s), .slice none 0 0]) (dd_bld rfl (ps := [(0, .int .i64 4), (1, .int .u32 (wd L.e)), (2, .int .u32 (wd pk.s))]) (pr1 rfl (pr1 (H75.ev 72 rfl) (pr1 (H75.ev 74 rfl) (pr0)))) (Lz := [[.int .i64 0], [.int .u32 0], [.int .u32 0], [.slice none 0 0]]) (by kernel_rfl) (lens_cons rfl (lens_cons rfl (lens_cons rfl (lens_cons rfl (lens_nil))))) (fit_cons (i := 0) rfl rfl (fit_cons (i := 1) rfl rfl (fit_cons (i := 2) rfl rfl (fit_nil)))) (cs := #[.int .i64 4, .int .u32 (wd L.e), .int .u32 (wd pk.s), .slice none 0 0]) rfl) fun _ H76 => wl_ <| t_ rfl (fun _ h => dd_setrow HS43 1 rfl rfl (H76.ev 4 rfl) (H76.ev 75 rfl) (by kernel_rfl) (rfl : #[.int .i64 4, .int .u32 (wd L.e), .int .u32 (wd pk.s), .slice none 0 0].size = 4) (rfl : #[.int .i64 0, .int .u32 0, .int .u32 0, .slice none 0 0].size = 4) (one_l (ao_cons rfl (ao_cons rfl (ao_cons rfl (ao_cons rfl ao_nil))))) h) fun _ HS77 => wl_ <| p_ H76 rfl rfl fun _ H78 => ln_ <| nx <| wp_ret <| br_ <| tr <| ret_run H78.env0 (res_ct Try.results10 (H78.get 4 rfl) (HS77.row 1 rfl) Try.underlying29 rfl (by kernel_rfl) (H78.get 5 rfl)) <| ?_
     clear H70 H71 H72 H73 H74 H75 HS43 H76
     exact .inr (.inr ⟨rfl, (fun h9 => hc58 (congrArg wd h9.2)), rfl, ((HZ8.move HS77).sel [0] [1])⟩)
    refine wl_ <| i_ H48 rfl (dd_cmp rfl (H48.ev 60 rfl) (H48.ev 62 rfl) (ne_t hc50)) fun _ H79 => wl_ <| p_ H79 rfl rfl fun _ H80 => wl_ <| k_ H80 (wg_ H80 rfl rfl rfl rfl) rfl fun _ H81 => wl_ <| k_ H81 (wg_ H81 rfl rfl rfl rfl) rfl fun _ H82 => wl_ <| k_ H82 (wg_ H82 rfl rfl rfl rfl) rfl fun _ H83 => wl_ <| k_ H83 (wg_ H83 rfl rfl rfl rfl) rfl fun _ H84 => wl_ <| k_ H84 (wg_ H84 rfl rfl rfl rfl) rfl fun _ H85 => q_ H85 2 rfl fun _ H86 => ?_
    clear H48 H79 H80 H81 H82 H83 H84
    refine ln_ <| ?_
    clear H85
    have H87 := H86.sel [4, 6, 8, 58] rfl
    refine nx <| ct_ H87 rfl <| sq_ <| rl_ <| wl_ <| i_ H87 rfl (xf 0 0 rfl (H87.ev 8 rfl)) fun _ H88 => wl_ <| i_ H88 rfl (dd_get HS43 3 0 rfl rfl (H88.ev 71 rfl) rfl Try.underlying26 rfl) fun _ H89 => wl_ <| i_ H89 rfl (xf 2 2 rfl (H89.ev 6 rfl)) fun _ H90 => wl_ <| i_ H90 rfl (dd_get HS43 2 2 rfl rfl (H90.ev 73 rfl) rfl Try.underlying26 rfl) fun _ H91 => wl_ <| i_ H91 rfl (v := .agg #[.int .i64 4, .int .u32 (wd L.e), .int .u32 (wd pk.s), .slice none 0 0]) (dd_bld rfl (ps := [(0, .int .i64 4), (1, .int .u32 (wd L.e)), (2, .int .u32 (wd pk.s))]) (pr1 rfl (pr1 (H91.ev 72 rfl) (pr1 (H91.ev 74 rfl) (pr0)))) (Lz := [[.int .i64 0], [.int .u32 0], [.int .u32 0], [.slice none 0 0]]) (by kernel_rfl) (lens_cons rfl (lens_cons rfl (lens_cons rfl (lens_cons rfl (lens_nil))))) (fit_cons (i := 0) rfl rfl (fit_cons (i := 1) rfl rfl (fit_cons (i := 2) rfl rfl (fit_nil)))) (cs := #[.int .i64 4, .int .u32 (wd L.e), .int .u32 (wd pk.s), .slice none 0 0]) rfl) fun _ H92 => wl_ <| t_ rfl (fun _ h => dd_setrow HS43 1 rfl rfl (H92.ev 4 rfl) (H92.ev 75 rfl) (by kernel_rfl) (rfl : #[.int .i64 4, .int .u32 (wd L.e), .int .u32 (wd pk.s), .slice none 0 0].size = 4) (rfl : #[.int .i64 0, .int .u32 0, .int .u32 0, .slice none 0 0].size = 4) (one_l (ao_cons rfl (ao_cons rfl (ao_cons rfl (ao_cons rfl ao_nil))))) h) fun _ HS93 => wl_ <| p_ H92 rfl rfl fun _ H94 => ln_ <| nx <| wp_ret <| br_ <| tr <| ret_run H94.env0 (res_ct Try.results10 (H94.get 4 rfl) (HS93.row 1 rfl) Try.underlying29 rfl (by kernel_rfl) (H94.get 5 rfl)) <| ?_
    clear H86 H87 H88 H89 H90 H91 HS43 H92
    exact .inr (.inr ⟨rfl, (fun h9 => hc50 (congrArg wd h9.1)), rfl, ((HZ8.move HS93).sel [0] [1])⟩)
   refine wl_ <| c_ H41 rfl HS33 (v := .bool true) (dc_ Try.func22 rfl (args4 (H41.ev 35 rfl) (H41.ev 37 rfl) (H41.ev 39 rfl) (H41.ev 41 rfl)) (later_any pk.e pk.s L.e L.s W33) (fun _ w9 h9 => ⟨_, h9.1, by rw [show laterB pk.e pk.s L.e L.s = true from hb42], h9.2⟩)) fun W95 HS95 _ H95 => wl_ <| p_ H95 rfl rfl fun _ H96 => ln_ <| nx <| ct_ H96 rfl <| sq_ <| ?_
   clear H41 HS33 H95
   refine wr_ (HZ8.move HS95) [1, 2, 3] [1, 2, 3, 0] rfl rfl fun HXd98 hx97 => ?_
   obtain ⟨G99, HZ99, HS99⟩ := HXd98.anchor
   clear HXd98
   refine hp_ H96 0 hx97 rfl rfl rfl fun _ H100 => ht_ H100 1 hx97 rfl rfl (fun _ _ _ => xf 1 1 rfl (H100.ev 6 rfl)) fun _ H101 => ht_ H101 2 hx97 rfl rfl (fun _ _ HS9 => dd_get HS9 1 1 rfl rfl (H101.ev 44 rfl) rfl Try.underlying26 rfl) fun _ H102 => ht_ H102 3 hx97 rfl rfl (fun _ _ _ => xf 2 2 rfl (H102.ev 6 rfl)) fun _ H103 => ht_ H103 4 hx97 rfl rfl (fun _ _ HS9 => dd_get HS9 1 2 rfl rfl (H103.ev 46 rfl) rfl Try.underlying26 rfl) fun _ H104 => ht_ H104 5 hx97 rfl rfl (fun _ _ _ => xf 3 3 rfl (H104.ev 6 rfl)) fun _ H105 => ht_ H105 6 hx97 rfl rfl (fun _ _ HS9 => dd_get HS9 1 3 rfl rfl (H105.ev 48 rfl) rfl Try.underlying27 rfl) fun _ H106 => ht_ H106 8 hx97 rfl rfl (fun _ _ _ => xf 3 3 rfl (H106.ev 8 rfl)) fun _ H107 => ?_
   clear H96 H100 H101 H102 H103 H104 H105
   refine ht_ H107 9 hx97 rfl rfl (fun _ _ HS9 => dd_get HS9 2 3 rfl rfl (H107.ev 51 rfl) rfl Try.underlying44 rfl) fun _ H108 => h1_ 7 rfl <| c_ H108 rfl HS99 (dcs Try.func24 rfl (args3 (H108.ev 45 rfl) (H108.ev 47 rfl) (H108.ev 49 rfl)) (tkrec_any pk.e pk.s A9 _ c9 W95.drew) (.agg #[.int .u32 (wd (pkR pk).e), .int .u32 (wd (pkR pk).s), .slice A9 pk.l.length c9])) fun _ HS109 _ H109 => sx_ (sxi (HZ99.move HS109).st [1, 2, 3, 0] rfl) fun hx110 => ?_
   clear H106 H107 H108 HS99 hx97
   obtain ⟨Gc111, hc111, hf111, hk111, hq111⟩ := Rs.reframe (R1 := [⟨g, 59, #[p, .int .u32 (wd L.e), .int .u32 (wd L.s), .int .u32 (wd L.n), .int .u16 (hd L.d), .int .u16 (hd L.l)]⟩]) (R2 := [⟨g4, 29, #[.int .i64 0, .int .u32 0, .int .u32 0, .slice none 0 0]⟩, ⟨g6, 29, #[.int .i64 pk.k, .int .u32 (wd pk.e), .int .u32 (wd pk.s), .slice A9 pk.l.length c9]⟩, ⟨g8, 46, #[.int .u32 (wd L.e), .int .u32 (wd L.s), .int .u32 (wd L.n), .int .u16 (hd L.d), .int .u16 (hd L.l)]⟩]) (Q1 := [dskT D p (rest s (-1))]) (Q2 := [putsT (.slice A9 pk.l.length c9) pk.l]) ((HZ99.move HS109).sel [0, 1, 2, 3] [1, 0])
   obtain ⟨fp111, hfp111, hfd111⟩ := hq111 0 _ rfl
   refine h1_ 10 rfl <| d_ H109 rfl (R := fun v9 w9 => ∃ s4 : Secs, v9 = .int .i64 0 ∧ (Nds s4 (doneLab L (pkR pk) L.d) (updB pk.l B)) ∧ (at0 s4 1 = headB (pkR pk).e (pkR pk).s (pkR pk).ats) ∧ Rs w F [⟨g, 59, #[p, .int .u32 (wd (doneLab L (pkR pk) L.d).e), .int .u32 (wd (doneLab L (pkR pk) L.d).s), .int .u32 (wd (doneLab L (pkR pk) L.d).n), .int .u16 (hd (doneLab L (pkR pk) L.d).d), .int .u16 (hd (doneLab L (pkR pk) L.d).l)]⟩, ⟨g4, 29, #[.int .i64 0, .int .u32 0, .int .u32 0, .slice none 0 0]⟩, ⟨g6, 29, #[.int .i64 pk.k, .int .u32 (wd pk.e), .int .u32 (wd pk.s), .slice A9 pk.l.length c9]⟩, ⟨g8, 46, #[.int .u32 (wd L.e), .int .u32 (wd L.s), .int .u32 (wd L.n), .int .u16 (hd L.d), .int .u16 (hd L.l)]⟩] [dskT D p (rest s4 (-1)), putsT (.slice A9 pk.l.length c9) pk.l] w9) (dc_ Try.func23 rfl (args3 (H109.ev 43 rfl) (H109.ev 50 rfl) (H109.ev 52 rfl)) (lw_apply (O := O) (pkR pk) L.d hc111 hN (by decide) hgd hb42 hfp111.1 (fun hne9 k9 hk9 => ⟨hfp111.2.1 k9 (hfp111.2.2 hne9 k9 hk9), hfd111 k9 (hfp111.2.2 hne9 k9 hk9)⟩)) (fun _ w9 ⟨s4, he, hN4, hh4, hX⟩ => ⟨_, he, s4, rfl, hN4, hh4, hk111 _ _ _ hX⟩)) ?_
   rintro _ W111 ⟨s4, rfl, hN4, hh4, HX111⟩ a111 H111
   clear hc111 hk111 hf111 hq111 HS109 HZ99
   clear H109
   obtain ⟨G112, HZ112, HS112⟩ := HX111.anchor
   clear HX111
   refine sx_ (sxi (HZ112.move HS112).st [1, 2, 3, 0] rfl) fun hx113 => hp_ H111 11 hx113 rfl rfl rfl fun _ H114 => ?_
   clear hx110 H111
   refine wpAnyH_done (by kernel_rfl) ?_ _
   clear hx113
   refine nx <| sq_ <| rl_ <| wl_ <| p_ H114 rfl rfl fun _ H115 => wl_ <| i_ H115 rfl (dd_cmp rfl (H115.ev 54 rfl) rfl (ne_f (by decide))) fun _ H116 => ln_ <| ?_
   clear H114 H115
   have H117 := H116.sel [4, 6, 9, 55] rfl
   refine nx <| cf_ H117 rfl <| wp_skip <| bn <| nx <| sq_ <| rl_ <| wl_ <| i_ H117 rfl (xf 1 1 rfl (H117.ev 6 rfl)) fun _ H118 => wl_ <| i_ H118 rfl (dd_get HS112 2 1 rfl rfl (H118.ev 76 rfl) rfl Try.underlying26 rfl) fun _ H119 => wl_ <| i_ H119 rfl (xf 2 2 rfl (H119.ev 6 rfl)) fun _ H120 => wl_ <| i_ H120 rfl (dd_get HS112 2 2 rfl rfl (H120.ev 78 rfl) rfl Try.underlying26 rfl) fun _ H121 => wl_ <| i_ H121 rfl (v := .agg #[.int .i64 3, .int .u32 (wd pk.e), .int .u32 (wd pk.s), .slice none 0 0]) (dd_bld rfl (ps := [(0, .int .i64 3), (1, .int .u32 (wd pk.e)), (2, .int .u32 (wd pk.s))]) (pr1 rfl (pr1 (H121.ev 77 rfl) (pr1 (H121.ev 79 rfl) (pr0)))) (Lz := [[.int .i64 0], [.int .u32 0], [.int .u32 0], [.slice none 0 0]]) (by kernel_rfl) (lens_cons rfl (lens_cons rfl (lens_cons rfl (lens_cons rfl (lens_nil))))) (fit_cons (i := 0) rfl rfl (fit_cons (i := 1) rfl rfl (fit_cons (i := 2) rfl rfl (fit_nil)))) (cs := #[.int .i64 3, .int .u32 (wd pk.e), .int .u32 (wd pk.s), .slice none 0 0]) rfl) fun _ H122 => wl_ <| t_ rfl (fun _ h => dd_setrow HS112 1 rfl rfl (H122.ev 4 rfl) (H122.ev 80 rfl) (by kernel_rfl) (rfl : #[.int .i64 3, .int .u32 (wd pk.e), .int .u32 (wd pk.s), .slice none 0 0].size = 4) (rfl : #[.int .i64 0, .int .u32 0, .int .u32 0, .slice none 0 0].size = 4) (one_l (ao_cons rfl (ao_cons rfl (ao_cons rfl (ao_cons rfl ao_nil))))) h) fun _ HS123 => wl_ <| p_ H122 rfl rfl fun _ H124 => ln_ <| nx <| wp_ret <| ret_run H124.env0 (res_ct Try.results10 (H124.get 4 rfl) (HS123.row 1 rfl) Try.underlying29 rfl (by kernel_rfl) (H124.get 5 rfl)) <| ?_
   clear H116 H117 H118 H119 H120 H121 HS112 H122
   exact .inl ⟨rfl, s4, rfl, hN4, ((HZ112.move HS123).sel [0] [0])⟩
  refine wl_ <| ig H19 (wg_ H19 rfl rfl rfl rfl) rfl (dd_cmp rfl (H19.ev 22 rfl) rfl (ne_t hc21)) fun _ H125 => wl_ <| ig H125 (wg_ H125 rfl rfl rfl rfl) rfl (dd_mv rfl (H125.ev 23 rfl)) fun _ H126 => wl_ <| ig H126 (wg_ H126 rfl rfl rfl rfl) rfl (xf 0 0 rfl (H126.ev 6 rfl)) fun _ H127 => wl_ <| ig H127 (wg_ H127 rfl rfl rfl rfl) rfl (dd_get HS13 2 0 rfl rfl (H127.ev 25 rfl) rfl Try.underlying3 rfl) fun _ H128 => wl_ <| ig H128 (wg_ H128 rfl rfl rfl rfl) rfl (dd_cmp rfl (H128.ev 26 rfl) rfl (ne_f (by omega))) fun _ H129 => wl_ <| ig H129 (wg_ H129 rfl rfl rfl rfl) rfl (dd_pickT rfl (H129.ev 24 rfl) (H129.ev 27 rfl)) fun _ H130 => wl_ <| p_ H130 rfl rfl fun _ H131 => ln_ <| ?_
  clear H19 H125 H126 H127 H128 H129 H130
  have H132 := H131.sel [0, 4, 6, 29] rfl
  refine nx <| cf_ H132 rfl <| wp_skip <| nx <| sq_ <| rl_ <| wl_ <| p_ H132 rfl rfl fun _ H133 => wl_ <| c_ H133 rfl HS13 (dcs Try.func12 rfl (args1 (H133.ev 31 rfl)) (ndlabel_at g _ L W13 (HS13.row 0 rfl)) (.agg #[.int .u32 (wd L.e), .int .u32 (wd L.s), .int .u32 (wd L.n), .int .u16 (hd L.d), .int .u16 (hd L.l)])) fun _ HS134 _ H134 => wl_ <| n_ H134 rfl (fun _ h => dd_new HS134 #[.int .u32 0, .int .u32 0, .int .u32 0, .int .u16 0, .int .u16 0] rfl (z := .agg #[.int .u32 0, .int .u32 0, .int .u32 0, .int .u16 0, .int .u16 0]) (by kernel_rfl) rfl h) fun g8 _ HS135 _ H135 => wl_ <| t_ rfl (S := [⟨g, 59, #[p, .int .u32 (wd L.e), .int .u32 (wd L.s), .int .u32 (wd L.n), .int .u16 (hd L.d), .int .u16 (hd L.l)]⟩, ⟨g4, 29, #[.int .i64 0, .int .u32 0, .int .u32 0, .slice none 0 0]⟩, ⟨g6, 29, #[.int .i64 pk.k, .int .u32 (wd pk.e), .int .u32 (wd pk.s), .slice A9 pk.l.length c9]⟩, ⟨g8, 46, #[.int .u32 (wd L.e), .int .u32 (wd L.s), .int .u32 (wd L.n), .int .u16 (hd L.d), .int .u16 (hd L.l)]⟩]) (fun _ h => dd_setrow HS135 3 rfl rfl (H135.ev 8 rfl) (H135.ev 32 rfl) (by kernel_rfl) (rfl : #[.int .u32 (wd L.e), .int .u32 (wd L.s), .int .u32 (wd L.n), .int .u16 (hd L.d), .int .u16 (hd L.l)].size = 5) (rfl : #[.int .u32 0, .int .u32 0, .int .u32 0, .int .u16 0, .int .u16 0].size = 5) (one_l (ao_cons rfl (ao_cons rfl (ao_cons rfl (ao_cons rfl (ao_cons rfl ao_nil)))))) h) fun W136 HS136 => ln_ <| nx <| sq_ <| wp_block <| sq_ <| rl_ <| wl_ <| i_ H135 rfl (xf 1 1 rfl (H135.ev 6 rfl)) fun _ H137 => wl_ <| i_ H137 rfl (dd_get HS136 2 1 rfl rfl (H137.ev 34 rfl) rfl Try.underlying26 rfl) fun _ H138 => wl_ <| i_ H138 rfl (xf 2 2 rfl (H138.ev 6 rfl)) fun _ H139 => wl_ <| i_ H139 rfl (dd_get HS136 2 2 rfl rfl (H139.ev 36 rfl) rfl Try.underlying26 rfl) fun _ H140 => ?_
  clear H131 H132 H133 HS13 HS134 H134 HS135 H135 H137 H138
  refine wl_ <| i_ H140 rfl (xf 0 0 rfl (H140.ev 8 rfl)) fun _ H141 => wl_ <| i_ H141 rfl (dd_get HS136 3 0 rfl rfl (H141.ev 38 rfl) rfl Try.underlying26 rfl) fun _ H142 => wl_ <| i_ H142 rfl (xf 1 1 rfl (H142.ev 8 rfl)) fun _ H143 => wl_ <| i_ H143 rfl (dd_get HS136 3 1 rfl rfl (H143.ev 40 rfl) rfl Try.underlying26 rfl) fun _ H144 => ?_
  clear H139 H140 H141 H142 H143
  cases hb145 : ndLater L (pkR pk)
  ·
   refine wl_ <| c_ H144 rfl HS136 (v := .bool false) (dc_ Try.func22 rfl (args4 (H144.ev 35 rfl) (H144.ev 37 rfl) (H144.ev 39 rfl) (H144.ev 41 rfl)) (later_any pk.e pk.s L.e L.s W136) (fun _ w9 h9 => ⟨_, h9.1, by rw [show laterB pk.e pk.s L.e L.s = false from hb145], h9.2⟩)) fun _ HS146 _ H146 => wl_ <| p_ H146 rfl rfl fun _ H147 => ln_ <| nx <| cf_ H147 rfl <| sq_ <| rl_ <| wl_ <| i_ H147 rfl (xf 1 1 rfl (H147.ev 6 rfl)) fun _ H148 => wl_ <| i_ H148 rfl (dd_get HS146 2 1 rfl rfl (H148.ev 59 rfl) rfl Try.underlying26 rfl) fun _ H149 => wl_ <| i_ H149 rfl (xf 0 0 rfl (H149.ev 8 rfl)) fun _ H150 => wl_ <| i_ H150 rfl (dd_get HS146 3 0 rfl rfl (H150.ev 61 rfl) rfl Try.underlying26 rfl) fun _ H151 => ?_
   clear H144 HS136 H146 H147 H148 H149 H150
   by_cases hc153 : (wd pk.e : Int) = wd L.e
   ·
    refine wl_ <| i_ H151 rfl (dd_cmp rfl (H151.ev 60 rfl) (H151.ev 62 rfl) (ne_f hc153)) fun _ H154 => wl_ <| p_ H154 rfl rfl fun _ H155 => wl_ <| ig H155 (wg_ H155 rfl rfl rfl rfl) rfl (xf 2 2 rfl (H155.ev 6 rfl)) fun _ H156 => wl_ <| ig H156 (wg_ H156 rfl rfl rfl rfl) rfl (dd_get HS146 2 2 rfl rfl (H156.ev 65 rfl) rfl Try.underlying26 rfl) fun _ H157 => wl_ <| ig H157 (wg_ H157 rfl rfl rfl rfl) rfl (xf 1 1 rfl (H157.ev 8 rfl)) fun _ H158 => wl_ <| ig H158 (wg_ H158 rfl rfl rfl rfl) rfl (dd_get HS146 3 1 rfl rfl (H158.ev 67 rfl) rfl Try.underlying26 rfl) fun _ H159 => ?_
    clear H151 H154 H155 H156 H157 H158
    by_cases hc161 : (wd pk.s : Int) = wd L.s
    ·
     refine wl_ <| ig H159 (wg_ H159 rfl rfl rfl rfl) rfl (dd_cmp rfl (H159.ev 66 rfl) (H159.ev 68 rfl) (ne_f hc161)) fun _ H162 => q_ H162 2 rfl fun _ H163 => ln_ <| ?_
     clear H159 H162
     have H164 := H163.sel [4, 6, 8, 58] rfl
     refine nx <| cf_ H164 rfl <| wp_skip <| bn <| nx <| sq_ <| rl_ <| wl_ <| i_ H164 rfl (xf 1 1 rfl (H164.ev 6 rfl)) fun _ H165 => wl_ <| i_ H165 rfl (dd_get HS146 2 1 rfl rfl (H165.ev 76 rfl) rfl Try.underlying26 rfl) fun _ H166 => wl_ <| i_ H166 rfl (xf 2 2 rfl (H166.ev 6 rfl)) fun _ H167 => wl_ <| i_ H167 rfl (dd_get HS146 2 2 rfl rfl (H167.ev 78 rfl) rfl Try.underlying26 rfl) fun _ H168 => wl_ <| i_ H168 rfl (v := .agg #[.int .i64 3, .int .u32 (wd pk.e), .int .u32 (wd pk.s), .slice none 0 0]) (dd_bld rfl (ps := [(0, .int .i64 3), (1, .int .u32 (wd pk.e)), (2, .int .u32 (wd pk.s))]) (pr1 rfl (pr1 (H168.ev 77 rfl) (pr1 (H168.ev 79 rfl) (pr0)))) (Lz := [[.int .i64 0], [.int .u32 0], [.int .u32 0], [.slice none 0 0]]) (by kernel_rfl) (lens_cons rfl (lens_cons rfl (lens_cons rfl (lens_cons rfl (lens_nil))))) (fit_cons (i := 0) rfl rfl (fit_cons (i := 1) rfl rfl (fit_cons (i := 2) rfl rfl (fit_nil)))) (cs := #[.int .i64 3, .int .u32 (wd pk.e), .int .u32 (wd pk.s), .slice none 0 0]) rfl) fun _ H169 => wl_ <| t_ rfl (fun _ h => dd_setrow HS146 1 rfl rfl (H169.ev 4 rfl) (H169.ev 80 rfl) (by kernel_rfl) (rfl : #[.int .i64 3, .int .u32 (wd pk.e), .int .u32 (wd pk.s), .slice none 0 0].size = 4) (rfl : #[.int .i64 0, .int .u32 0, .int .u32 0, .slice none 0 0].size = 4) (one_l (ao_cons rfl (ao_cons rfl (ao_cons rfl (ao_cons rfl ao_nil))))) h) fun _ HS170 => wl_ <| p_ H169 rfl rfl fun _ H171 => ln_ <| nx <| wp_ret <| ret_run H171.env0 (res_ct Try.results10 (H171.get 4 rfl) (HS170.row 1 rfl) Try.underlying29 rfl (by kernel_rfl) (H171.get 5 rfl)) <| ?_
     clear H163 H164 H165 H166 H167 H168 HS146 H169
     exact .inr (.inl ⟨rfl, ⟨wd_eqI hc153, wd_eqI hc161⟩, rfl, ((HZ8.move HS170).sel [0] [1])⟩)
    refine wl_ <| ig H159 (wg_ H159 rfl rfl rfl rfl) rfl (dd_cmp rfl (H159.ev 66 rfl) (H159.ev 68 rfl) (ne_t hc161)) fun _ H172 => q_ H172 2 rfl fun _ H173 => ln_ <| ?_
    clear H159 H172
    have H174 := H173.sel [4, 6, 8, 58] rfl
    refine nx <| ct_ H174 rfl <| sq_ <| rl_ <| wl_ <| i_ H174 rfl (xf 0 0 rfl (H174.ev 8 rfl)) fun _ H175 => wl_ <| i_ H175 rfl (dd_get HS146 3 0 rfl rfl (H175.ev 71 rfl) rfl Try.underlying26 rfl) fun _ H176 => wl_ <| i_ H176 rfl (xf 2 2 rfl (H176.ev 6 rfl)) fun _ H177 => wl_ <| i_ H177 rfl (dd_get HS146 2 2 rfl rfl (H177.ev 73 rfl) rfl Try.underlying26 rfl) fun _ H178 => wl_ <| i_ H178 rfl (v := .agg #[.int .i64 4, .int .u32 (wd L.e), .int .u32 (wd pk.s), .slice none 0 0]) (dd_bld rfl (ps := [(0, .int .i64 4), (1, .int .u32 (wd L.e)), (2, .int .u32 (wd pk.s))]) (pr1 rfl (pr1 (H178.ev 72 rfl) (pr1 (H178.ev 74 rfl) (pr0)))) (Lz := [[.int .i64 0], [.int .u32 0], [.int .u32 0], [.slice none 0 0]]) (by kernel_rfl) (lens_cons rfl (lens_cons rfl (lens_cons rfl (lens_cons rfl (lens_nil))))) (fit_cons (i := 0) rfl rfl (fit_cons (i := 1) rfl rfl (fit_cons (i := 2) rfl rfl (fit_nil)))) (cs := #[.int .i64 4, .int .u32 (wd L.e), .int .u32 (wd pk.s), .slice none 0 0]) rfl) fun _ H179 => wl_ <| t_ rfl (fun _ h => dd_setrow HS146 1 rfl rfl (H179.ev 4 rfl) (H179.ev 75 rfl) (by kernel_rfl) (rfl : #[.int .i64 4, .int .u32 (wd L.e), .int .u32 (wd pk.s), .slice none 0 0].size = 4) (rfl : #[.int .i64 0, .int .u32 0, .int .u32 0, .slice none 0 0].size = 4) (one_l (ao_cons rfl (ao_cons rfl (ao_cons rfl (ao_cons rfl ao_nil))))) h) fun _ HS180 => wl_ <| p_ H179 rfl rfl fun _ H181 => ln_ <| nx <| wp_ret <| br_ <| tr <| ret_run H181.env0 (res_ct Try.results10 (H181.get 4 rfl) (HS180.row 1 rfl) Try.underlying29 rfl (by kernel_rfl) (H181.get 5 rfl)) <| ?_
    clear H173 H174 H175 H176 H177 H178 HS146 H179
    exact .inr (.inr ⟨rfl, (fun h9 => hc161 (congrArg wd h9.2)), rfl, ((HZ8.move HS180).sel [0] [1])⟩)
   refine wl_ <| i_ H151 rfl (dd_cmp rfl (H151.ev 60 rfl) (H151.ev 62 rfl) (ne_t hc153)) fun _ H182 => wl_ <| p_ H182 rfl rfl fun _ H183 => wl_ <| k_ H183 (wg_ H183 rfl rfl rfl rfl) rfl fun _ H184 => wl_ <| k_ H184 (wg_ H184 rfl rfl rfl rfl) rfl fun _ H185 => wl_ <| k_ H185 (wg_ H185 rfl rfl rfl rfl) rfl fun _ H186 => wl_ <| k_ H186 (wg_ H186 rfl rfl rfl rfl) rfl fun _ H187 => wl_ <| k_ H187 (wg_ H187 rfl rfl rfl rfl) rfl fun _ H188 => q_ H188 2 rfl fun _ H189 => ?_
   clear H151 H182 H183 H184 H185 H186 H187
   refine ln_ <| ?_
   clear H188
   have H190 := H189.sel [4, 6, 8, 58] rfl
   refine nx <| ct_ H190 rfl <| sq_ <| rl_ <| wl_ <| i_ H190 rfl (xf 0 0 rfl (H190.ev 8 rfl)) fun _ H191 => wl_ <| i_ H191 rfl (dd_get HS146 3 0 rfl rfl (H191.ev 71 rfl) rfl Try.underlying26 rfl) fun _ H192 => wl_ <| i_ H192 rfl (xf 2 2 rfl (H192.ev 6 rfl)) fun _ H193 => wl_ <| i_ H193 rfl (dd_get HS146 2 2 rfl rfl (H193.ev 73 rfl) rfl Try.underlying26 rfl) fun _ H194 => wl_ <| i_ H194 rfl (v := .agg #[.int .i64 4, .int .u32 (wd L.e), .int .u32 (wd pk.s), .slice none 0 0]) (dd_bld rfl (ps := [(0, .int .i64 4), (1, .int .u32 (wd L.e)), (2, .int .u32 (wd pk.s))]) (pr1 rfl (pr1 (H194.ev 72 rfl) (pr1 (H194.ev 74 rfl) (pr0)))) (Lz := [[.int .i64 0], [.int .u32 0], [.int .u32 0], [.slice none 0 0]]) (by kernel_rfl) (lens_cons rfl (lens_cons rfl (lens_cons rfl (lens_cons rfl (lens_nil))))) (fit_cons (i := 0) rfl rfl (fit_cons (i := 1) rfl rfl (fit_cons (i := 2) rfl rfl (fit_nil)))) (cs := #[.int .i64 4, .int .u32 (wd L.e), .int .u32 (wd pk.s), .slice none 0 0]) rfl) fun _ H195 => wl_ <| t_ rfl (fun _ h => dd_setrow HS146 1 rfl rfl (H195.ev 4 rfl) (H195.ev 75 rfl) (by kernel_rfl) (rfl : #[.int .i64 4, .int .u32 (wd L.e), .int .u32 (wd pk.s), .slice none 0 0].size = 4) (rfl : #[.int .i64 0, .int .u32 0, .int .u32 0, .slice none 0 0].size = 4) (one_l (ao_cons rfl (ao_cons rfl (ao_cons rfl (ao_cons rfl ao_nil))))) h) fun _ HS196 => wl_ <| p_ H195 rfl rfl fun _ H197 => ln_ <| nx <| wp_ret <| br_ <| tr <| ret_run H197.env0 (res_ct Try.results10 (H197.get 4 rfl) (HS196.row 1 rfl) Try.underlying29 rfl (by kernel_rfl) (H197.get 5 rfl)) <| ?_
   clear H189 H190 H191 H192 H193 H194 HS146 H195
   exact .inr (.inr ⟨rfl, (fun h9 => hc153 (congrArg wd h9.1)), rfl, ((HZ8.move HS196).sel [0] [1])⟩)
  refine wl_ <| c_ H144 rfl HS136 (v := .bool true) (dc_ Try.func22 rfl (args4 (H144.ev 35 rfl) (H144.ev 37 rfl) (H144.ev 39 rfl) (H144.ev 41 rfl)) (later_any pk.e pk.s L.e L.s W136) (fun _ w9 h9 => ⟨_, h9.1, by rw [show laterB pk.e pk.s L.e L.s = true from hb145], h9.2⟩)) fun W198 HS198 _ H198 => wl_ <| p_ H198 rfl rfl fun _ H199 => ln_ <| nx <| ct_ H199 rfl <| sq_ <| ?_
  clear H144 HS136 H198
  refine wr_ (HZ8.move HS198) [1, 2, 3] [1, 2, 3, 0] rfl rfl fun HXd201 hx200 => ?_
  obtain ⟨G202, HZ202, HS202⟩ := HXd201.anchor
  clear HXd201
  refine hp_ H199 0 hx200 rfl rfl rfl fun _ H203 => ht_ H203 1 hx200 rfl rfl (fun _ _ _ => xf 1 1 rfl (H203.ev 6 rfl)) fun _ H204 => ht_ H204 2 hx200 rfl rfl (fun _ _ HS9 => dd_get HS9 1 1 rfl rfl (H204.ev 44 rfl) rfl Try.underlying26 rfl) fun _ H205 => ht_ H205 3 hx200 rfl rfl (fun _ _ _ => xf 2 2 rfl (H205.ev 6 rfl)) fun _ H206 => ht_ H206 4 hx200 rfl rfl (fun _ _ HS9 => dd_get HS9 1 2 rfl rfl (H206.ev 46 rfl) rfl Try.underlying26 rfl) fun _ H207 => ht_ H207 5 hx200 rfl rfl (fun _ _ _ => xf 3 3 rfl (H207.ev 6 rfl)) fun _ H208 => ht_ H208 6 hx200 rfl rfl (fun _ _ HS9 => dd_get HS9 1 3 rfl rfl (H208.ev 48 rfl) rfl Try.underlying27 rfl) fun _ H209 => ht_ H209 8 hx200 rfl rfl (fun _ _ _ => xf 3 3 rfl (H209.ev 8 rfl)) fun _ H210 => ?_
  clear H199 H203 H204 H205 H206 H207 H208
  refine ht_ H210 9 hx200 rfl rfl (fun _ _ HS9 => dd_get HS9 2 3 rfl rfl (H210.ev 51 rfl) rfl Try.underlying44 rfl) fun _ H211 => h1_ 7 rfl <| c_ H211 rfl HS202 (dcs Try.func24 rfl (args3 (H211.ev 45 rfl) (H211.ev 47 rfl) (H211.ev 49 rfl)) (tkrec_any pk.e pk.s A9 _ c9 W198.drew) (.agg #[.int .u32 (wd (pkR pk).e), .int .u32 (wd (pkR pk).s), .slice A9 pk.l.length c9])) fun _ HS212 _ H212 => sx_ (sxi (HZ202.move HS212).st [1, 2, 3, 0] rfl) fun hx213 => ?_
  clear H209 H210 H211 HS202 hx200
  obtain ⟨Gc214, hc214, hf214, hk214, hq214⟩ := Rs.reframe (R1 := [⟨g, 59, #[p, .int .u32 (wd L.e), .int .u32 (wd L.s), .int .u32 (wd L.n), .int .u16 (hd L.d), .int .u16 (hd L.l)]⟩]) (R2 := [⟨g4, 29, #[.int .i64 0, .int .u32 0, .int .u32 0, .slice none 0 0]⟩, ⟨g6, 29, #[.int .i64 pk.k, .int .u32 (wd pk.e), .int .u32 (wd pk.s), .slice A9 pk.l.length c9]⟩, ⟨g8, 46, #[.int .u32 (wd L.e), .int .u32 (wd L.s), .int .u32 (wd L.n), .int .u16 (hd L.d), .int .u16 (hd L.l)]⟩]) (Q1 := [dskT D p (rest s (-1))]) (Q2 := [putsT (.slice A9 pk.l.length c9) pk.l]) ((HZ202.move HS212).sel [0, 1, 2, 3] [1, 0])
  obtain ⟨fp214, hfp214, hfd214⟩ := hq214 0 _ rfl
  refine h1_ 10 rfl <| d_ H212 rfl (R := fun v9 w9 => ∃ s4 : Secs, v9 = .int .i64 0 ∧ (Nds s4 (doneLab L (pkR pk) L.d) (updB pk.l B)) ∧ (at0 s4 1 = headB (pkR pk).e (pkR pk).s (pkR pk).ats) ∧ Rs w F [⟨g, 59, #[p, .int .u32 (wd (doneLab L (pkR pk) L.d).e), .int .u32 (wd (doneLab L (pkR pk) L.d).s), .int .u32 (wd (doneLab L (pkR pk) L.d).n), .int .u16 (hd (doneLab L (pkR pk) L.d).d), .int .u16 (hd (doneLab L (pkR pk) L.d).l)]⟩, ⟨g4, 29, #[.int .i64 0, .int .u32 0, .int .u32 0, .slice none 0 0]⟩, ⟨g6, 29, #[.int .i64 pk.k, .int .u32 (wd pk.e), .int .u32 (wd pk.s), .slice A9 pk.l.length c9]⟩, ⟨g8, 46, #[.int .u32 (wd L.e), .int .u32 (wd L.s), .int .u32 (wd L.n), .int .u16 (hd L.d), .int .u16 (hd L.l)]⟩] [dskT D p (rest s4 (-1)), putsT (.slice A9 pk.l.length c9) pk.l] w9) (dc_ Try.func23 rfl (args3 (H212.ev 43 rfl) (H212.ev 50 rfl) (H212.ev 52 rfl)) (lw_apply (O := O) (pkR pk) L.d hc214 hN (by decide) hgd hb145 hfp214.1 (fun hne9 k9 hk9 => ⟨hfp214.2.1 k9 (hfp214.2.2 hne9 k9 hk9), hfd214 k9 (hfp214.2.2 hne9 k9 hk9)⟩)) (fun _ w9 ⟨s4, he, hN4, hh4, hX⟩ => ⟨_, he, s4, rfl, hN4, hh4, hk214 _ _ _ hX⟩)) ?_
  rintro _ W214 ⟨s4, rfl, hN4, hh4, HX214⟩ a214 H214
  clear hc214 hk214 hf214 hq214 HS212 HZ202
  clear H212
  obtain ⟨G215, HZ215, HS215⟩ := HX214.anchor
  clear HX214
  refine sx_ (sxi (HZ215.move HS215).st [1, 2, 3, 0] rfl) fun hx216 => hp_ H214 11 hx216 rfl rfl rfl fun _ H217 => ?_
  clear hx213 H214
  refine wpAnyH_done (by kernel_rfl) ?_ _
  clear hx216
  refine nx <| sq_ <| rl_ <| wl_ <| p_ H217 rfl rfl fun _ H218 => wl_ <| i_ H218 rfl (dd_cmp rfl (H218.ev 54 rfl) rfl (ne_f (by decide))) fun _ H219 => ln_ <| ?_
  clear H217 H218
  have H220 := H219.sel [4, 6, 9, 55] rfl
  refine nx <| cf_ H220 rfl <| wp_skip <| bn <| nx <| sq_ <| rl_ <| wl_ <| i_ H220 rfl (xf 1 1 rfl (H220.ev 6 rfl)) fun _ H221 => wl_ <| i_ H221 rfl (dd_get HS215 2 1 rfl rfl (H221.ev 76 rfl) rfl Try.underlying26 rfl) fun _ H222 => wl_ <| i_ H222 rfl (xf 2 2 rfl (H222.ev 6 rfl)) fun _ H223 => wl_ <| i_ H223 rfl (dd_get HS215 2 2 rfl rfl (H223.ev 78 rfl) rfl Try.underlying26 rfl) fun _ H224 => wl_ <| i_ H224 rfl (v := .agg #[.int .i64 3, .int .u32 (wd pk.e), .int .u32 (wd pk.s), .slice none 0 0]) (dd_bld rfl (ps := [(0, .int .i64 3), (1, .int .u32 (wd pk.e)), (2, .int .u32 (wd pk.s))]) (pr1 rfl (pr1 (H224.ev 77 rfl) (pr1 (H224.ev 79 rfl) (pr0)))) (Lz := [[.int .i64 0], [.int .u32 0], [.int .u32 0], [.slice none 0 0]]) (by kernel_rfl) (lens_cons rfl (lens_cons rfl (lens_cons rfl (lens_cons rfl (lens_nil))))) (fit_cons (i := 0) rfl rfl (fit_cons (i := 1) rfl rfl (fit_cons (i := 2) rfl rfl (fit_nil)))) (cs := #[.int .i64 3, .int .u32 (wd pk.e), .int .u32 (wd pk.s), .slice none 0 0]) rfl) fun _ H225 => wl_ <| t_ rfl (fun _ h => dd_setrow HS215 1 rfl rfl (H225.ev 4 rfl) (H225.ev 80 rfl) (by kernel_rfl) (rfl : #[.int .i64 3, .int .u32 (wd pk.e), .int .u32 (wd pk.s), .slice none 0 0].size = 4) (rfl : #[.int .i64 0, .int .u32 0, .int .u32 0, .slice none 0 0].size = 4) (one_l (ao_cons rfl (ao_cons rfl (ao_cons rfl (ao_cons rfl ao_nil))))) h) fun _ HS226 => wl_ <| p_ H225 rfl rfl fun _ H227 => ln_ <| nx <| wp_ret <| ret_run H227.env0 (res_ct Try.results10 (H227.get 4 rfl) (HS226.row 1 rfl) Try.underlying29 rfl (by kernel_rfl) (H227.get 5 rfl)) <| ?_
  clear H219 H220 H221 H222 H223 H224 HS215 H225
  exact .inl ⟨rfl, s4, rfl, hN4, ((HZ215.move HS226).sel [0] [0])⟩
variable {D} {O} {F : Nat → Prop} {g : Nat} {p : Value} {s : Secs} {L : Lab} {B : Bks} {Ab : Option Addr} {nb cb : Nat} {w : World}
include O in
theorem tk_done (pk : Pkt) (HX : Rs w F [⟨g, 59, ndCells p L⟩] [dskT D p (rest s (-1))] w) (hN : Nds s L B) (hs : Slice w (.slice Ab nb cb) (encP pk)) (hF : ∀ k, (Value.slice Ab nb cb).ownBlock = some k → ¬ F k) (hmay : mayP pk = true) (hpw : Pw pk) (hk : pk.k = 1 ∨ pk.k = 2) (hl : ndLater L (pkR pk) = true) :
    Calls Try.prog 10 #[.pointer (some ⟨g, 0, none⟩), .slice Ab nb cb] w fun x w' => ∃ s4, x = .returned (.tuple #[.agg #[.int .i64 3, .int .u32 (wd pk.e), .int .u32 (wd pk.s), .slice none 0 0], .int .i64 0]) ∧ Nds s4 (doneLab L (pkR pk) L.d) (updB pk.l B) ∧ Rs w F [⟨g, 59, ndCells p (doneLab L (pkR pk) L.d)⟩] [dskT D p (rest s4 (-1))] w' := by
  refine (tk_take D O F g p s L B pk Ab nb cb w HX hN hs hF hmay hpw hk).mono ?_
  rintro x w' (⟨_, h⟩ | ⟨h, _⟩ | ⟨h, _⟩)
  · exact h
  · rw [hl] at h; cases h
  · rw [hl] at h; cases h
include O in
theorem tk_same (pk : Pkt) (HX : Rs w F [⟨g, 59, ndCells p L⟩] [dskT D p (rest s (-1))] w) (hN : Nds s L B) (hs : Slice w (.slice Ab nb cb) (encP pk)) (hF : ∀ k, (Value.slice Ab nb cb).ownBlock = some k → ¬ F k) (hmay : mayP pk = true) (hpw : Pw pk) (hk : pk.k = 1 ∨ pk.k = 2) (hl : pk.e = L.e ∧ pk.s = L.s) :
    Calls Try.prog 10 #[.pointer (some ⟨g, 0, none⟩), .slice Ab nb cb] w fun x w' => x = .returned (.tuple #[.agg #[.int .i64 3, .int .u32 (wd pk.e), .int .u32 (wd pk.s), .slice none 0 0], .int .i64 0]) ∧ Rs w F [⟨g, 59, ndCells p L⟩] [dskT D p (rest s (-1))] w' := by
  have h0 : ndLater L (pkR pk) = false := by show laterB pk.e pk.s L.e L.s = false; rw [hl.1, hl.2]; exact later_self _ _
  refine (tk_take D O F g p s L B pk Ab nb cb w HX hN hs hF hmay hpw hk).mono ?_
  rintro x w' (⟨h, _⟩ | ⟨_, _, h⟩ | ⟨_, h, _⟩)
  · rw [h0] at h; cases h
  · exact h
  · exact absurd hl h
include O in
theorem tk_stale (pk : Pkt) (HX : Rs w F [⟨g, 59, ndCells p L⟩] [dskT D p (rest s (-1))] w) (hN : Nds s L B) (hs : Slice w (.slice Ab nb cb) (encP pk)) (hF : ∀ k, (Value.slice Ab nb cb).ownBlock = some k → ¬ F k) (hmay : mayP pk = true) (hpw : Pw pk) (hk : pk.k = 1 ∨ pk.k = 2) (hl : ndLater L (pkR pk) = false) (hne : ¬ (pk.e = L.e ∧ pk.s = L.s)) :
    Calls Try.prog 10 #[.pointer (some ⟨g, 0, none⟩), .slice Ab nb cb] w fun x w' => x = .returned (.tuple #[.agg #[.int .i64 4, .int .u32 (wd L.e), .int .u32 (wd pk.s), .slice none 0 0], .int .i64 0]) ∧ Rs w F [⟨g, 59, ndCells p L⟩] [dskT D p (rest s (-1))] w' := by
  refine (tk_take D O F g p s L B pk Ab nb cb w HX hN hs hF hmay hpw hk).mono ?_
  rintro x w' (⟨h, _⟩ | ⟨_, h, _⟩ | ⟨_, _, h⟩)
  · rw [hl] at h; cases h
  · exact absurd h hne
  · exact h
end
end Go.Proofs.Ytbdpocbnkgckhaa

/- The statements' own wakes. -/
set_option maxRecDepth 4000
namespace Go.Proofs.Ytbdpocbnkgckhaa
open Go Go.RowKit
theorem nfill7 (w : World) : Calls Try.prog 15 #[.int .u8 7] w fun e w' => e = .returned (.agg (bs (blk 7#8))) ∧ Below w.heap.size w w' := by
  have h := fill_any 7#8 w
  rwa [show bd 7#8 = 7 from by decide] at h
theorem wn_b : updB [(3, blk 7#8)] (fun _ => blk 0#8) 3 = blk 7#8 := by rfl
attribute [local irreducible] blk zer spl updB
variable (D : DiskOps) (O : WalOps D)
end Go.Proofs.Ytbdpocbnkgckhaa

/- The statements' own Pkt and wakes, over the taker. -/
set_option maxRecDepth 4000
namespace Go.Proofs.Ytbdpocbnkgckhaa
open Go Go.RowKit
theorem dd_fld {P : Program} {o : Oper} {a : Act} {w : World} {ty : TypeId} {x : Operand} {f : Nat} {cs : Array Value} {z : Value} (ho : o.op = .field ty x f) (hx : a.eval x = .agg cs) (hr : (Instr.field ty (.agg cs) f).run P w = .ok z w) : (execOp a.eval o).run P w = .ok (.value z) w := by
  simp [execOp, ho, hx, hr]
theorem Rs.newrow {w w' : World} {F : Nat → Prop} {g : Nat} {t : TypeId} {cb : Array Value} (hb : Below w.heap.size w w') (hr : Row w' g t cb) (hg : w.heap.size ≤ g) : Rs w F [⟨g, t, cb⟩] [] w' := Rs.of ((St.nil w F).joins hb hr hg)
theorem tk_enc (F : Nat → Prop) (pk : Pkt) (A : Option Addr) (n c nB : Nat) (w : World) (hp : PutsAt w (.slice A n c) pk.l) (hpw : Pw pk) (hnm : n ≤ maxLen) (hmay : mayP pk = true) (hnB : (encP pk).length = nB) : Calls Try.prog 25 #[.agg #[.int .i64 pk.k, .int .u32 (wd pk.e), .int .u32 (wd pk.s), .slice A n c]] w fun x w' => ∃ g c' cb, x = .returned (.tuple #[.slice (some ⟨g, 0, none⟩) nB c', .int .i64 0]) ∧ OwnC cb c' nB 1 (bytesV (encP pk)) ∧ Rs w F [⟨g, 5, cb⟩] [] w' := by
  have hm := mayP_of hmay
  have hpo : ∀ x ∈ pk.l, x.2.length = 32 ∧ -9223372036854775808 ≤ x.1 ∧ x.1 < 9223372036854775808 := fun x hx => ⟨hpw x hx, by have := hm.2.2 x hx; omega, by have := hm.2.2 x hx; omega⟩
  exact (rpenc_good pk A n c nB w hp (puts_open hp).1 hpo hnm hmay hnB).mono fun x w' ⟨g, c', cb, he, hg, hr, ho, hb⟩ => ⟨g, c', cb, he, ho, Rs.newrow hb hr hg⟩
theorem tk_pkt0 (pk : Pkt) (A : Option Addr) (n c nB : Nat) (w : World) (hp : PutsAt w (.slice A n c) pk.l) (hpw : Pw pk) (hnm : n ≤ maxLen) (hmay : mayP pk = true) (hnB : (encP pk).length = nB) : Calls Try.prog 11 #[.agg #[.int .i64 pk.k, .int .u32 (wd pk.e), .int .u32 (wd pk.s), .slice A n c]] w fun x w' => ∃ g c' cb, x = .returned (.slice (some ⟨g, 0, none⟩) nB c') ∧ OwnC cb c' nB 1 (bytesV (encP pk)) ∧ Rs w noF [⟨g, 5, cb⟩] [] w' := by
  have HS := St.nil w noF
  have HX : Rs w noF [] [] w := Rs.of HS
  clear HS
  obtain ⟨G1, HZ1, HS1⟩ := HX.anchor
  clear HX
  refine enter_en Try.func11 rfl Try.ntmps11 (Nat.le_of_ble_eq_true rfl) fun a0 (HA0 : En 11 [(0, .agg #[.int .i64 pk.k, .int .u32 (wd pk.e), .int .u32 (wd pk.s), .slice A n c])] a0) => ?_
  refine sq_ <| rl_ <| wl_ <| n_ HA0 rfl (fun _ h => dd_box HS1 rfl (HA0.ev 0 rfl) (cs := #[.int .i64 pk.k, .int .u32 (wd pk.e), .int .u32 (wd pk.s), .slice A n c]) rfl h) fun g1 W2 HS2 _ H2 => wl_ <| p_ H2 rfl rfl fun _ H3 => ln_ <| nx <| sq_ <| rl_ <| wl_ <| i_ H3 rfl (v := .agg #[.int .i64 pk.k, .int .u32 (wd pk.e), .int .u32 (wd pk.s), .slice A n c]) (dd_load HS2 0 0 rfl rfl (H3.ev 1 rfl) (slab_whole _) Try.underlying29 rfl (by kernel_rfl)) fun _ H4 => ?_
  clear HS1 HA0 H2 H3
  obtain ⟨Gc5, hc5, hf5, hk5, hq5⟩ := Rs.reframe (R1 := []) (R2 := [⟨g1, 29, #[.int .i64 pk.k, .int .u32 (wd pk.e), .int .u32 (wd pk.s), .slice A n c]⟩]) (Q1 := []) (Q2 := []) ((HZ1.move HS2).sel [0] [])
  refine wl_ <| d_ H4 rfl (R := fun v9 w9 => ∃ ge : Nat, ∃ ce : Nat, ∃ cbe : Array Value, v9 = .tuple #[.slice (some ⟨ge, 0, none⟩) nB ce, .int .i64 0] ∧ (OwnC cbe ce nB 1 (bytesV (encP pk))) ∧ Rs w noF [⟨ge, 5, cbe⟩, ⟨g1, 29, #[.int .i64 pk.k, .int .u32 (wd pk.e), .int .u32 (wd pk.s), .slice A n c]⟩] [] w9) (dc_ Try.func25 rfl (args1 (H4.ev 6 rfl)) (tk_enc Gc5 pk A n c nB W2 (hp.below (HZ1.bel HS2) (Nat.le_refl _)) hpw hnm hmay hnB) (fun _ w9 ⟨ge, ce, cbe, he, Oe, hX⟩ => ⟨_, he, ge, ce, cbe, rfl, Oe, hk5 _ _ _ hX⟩)) ?_
  rintro _ W5 ⟨ge, ce, cbe, rfl, Oe, HX5⟩ a5 H5
  clear hc5 hk5 hf5 hq5 HS2 HZ1
  clear H4
  obtain ⟨G6, HZ6, HS6⟩ := HX5.anchor
  clear HX5
  refine wl_ <| p_ H5 rfl rfl fun _ H7 => wl_ <| i_ H7 rfl (v := .slice (some ⟨ge, 0, none⟩) nB ce) (dd_ext rfl (H7.ev 5 rfl) rfl) fun _ H8 => wl_ <| i_ H8 rfl (v := .int .i64 0) (dd_ext rfl (H8.ev 5 rfl) rfl) fun _ H9 => q_ H9 2 rfl fun _ H10 => ln_ <| nx <| sq_ <| rl_ <| q_ H10 2 rfl fun _ H11 => ln_ <| nx <| wp_ret <| ret_run H11.env0 (res_t Try.results11 (H11.get 2 rfl)) <| ?_
  clear H5 H7 H8 H9 H10
  exact ⟨_, _, _, rfl, Oe, ((HZ6.move HS6).sel [0] [])⟩
theorem tk_pkt (F : Nat → Prop) (pk : Pkt) (A : Option Addr) (n c nB : Nat) (w : World) (hp : PutsAt w (.slice A n c) pk.l) (hpw : Pw pk) (hnm : n ≤ maxLen) (hmay : mayP pk = true) (hnB : (encP pk).length = nB) : Calls Try.prog 11 #[.agg #[.int .i64 pk.k, .int .u32 (wd pk.e), .int .u32 (wd pk.s), .slice A n c]] w fun x w' => ∃ g c' cb, x = .returned (.slice (some ⟨g, 0, none⟩) nB c') ∧ OwnC cb c' nB 1 (bytesV (encP pk)) ∧ Rs w F [⟨g, 5, cb⟩] [] w' := (tk_pkt0 pk A n c nB w hp hpw hnm hmay hnB).mono fun _ _ ⟨g, c', cb, he, ho, hr⟩ => ⟨g, c', cb, he, ho, Rs.newrow hr.st.below (hr.st.row 0 rfl) (st_fresh2 hr.st 0 rfl)⟩
theorem tk_pw1 (k : Int) (e s : BitVec 32) : Pw (⟨k, e, s, [(3, blk 7#8)]⟩ : Pkt) := fun x hx => by
  obtain rfl : x = (3, blk 7#8) := by simpa using hx
  exact length_blk _
attribute [local irreducible] blk zer spl updB
variable (D : DiskOps) (O : WalOps D)
include O in
set_option maxHeartbeats 1600000 in
theorem tkwakes (w : World) : Calls Try.prog 6 #[] w fun x w' => x = .returned (.bool true) ∧ Below w.heap.size w w' := by
  have HS := St.nil w noF
  have HX : Rs w noF [] [] w := Rs.of HS
  clear HS
  obtain ⟨G1, HZ1, HS1⟩ := HX.anchor
  clear HX
  refine enter_en Try.func6 rfl Try.ntmps6 (Nat.le_of_ble_eq_true rfl) fun a0 (HA0 : En 116 [] a0) => ?_
  refine sq_ <| rl_ <| wl_ <| p_ HA0 rfl rfl fun _ H2 => ln_ <| nx <| sq_ <| rl_ <| ?_
  clear HA0
  obtain ⟨Gc4, hc4, hf4, hk4, hq4⟩ := Rs.reframe (R1 := []) (R2 := []) (Q1 := []) (Q2 := []) ((HZ1.move HS1).sel [] [])
  refine wl_ <| d_ H2 rfl (R := fun v9 w9 => ∃ gd3 : Nat, v9 = .pointer (some ⟨gd3, 0, none⟩) ∧ Rs w noF [] [dskT D (.pointer (some ⟨gd3, 0, none⟩)) (rest (List.replicate 19 (blk 0#8)) (-1))] w9) (dc_ Try.func9 rfl (args0) (nd_new D Gc4 w) (fun _ w9 ⟨gd3, he, hX⟩ => ⟨_, he, gd3, rfl, hk4 _ _ _ hX⟩)) ?_
  rintro _ W4 ⟨gd3, rfl, HX4⟩ a4 H4
  clear hc4 hk4 hf4 hq4 HS1 HZ1
  clear H2
  obtain ⟨G5, HZ5, HS5⟩ := HX4.anchor
  clear HX4
  obtain ⟨Gc7, hc7, hf7, hk7, hq7⟩ := Rs.reframe (R1 := []) (R2 := []) (Q1 := [dskT D (.pointer (some ⟨gd3, 0, none⟩)) (rest (List.replicate 19 (blk 0#8)) (-1))]) (Q2 := []) ((HZ5.move HS5).sel [] [0])
  refine wl_ <| d_ H4 rfl (R := fun v9 w9 => ∃ gn6 : Nat, v9 = .tuple #[.pointer (some ⟨gn6, 0, none⟩), .int .i64 0] ∧ Rs w noF [⟨gn6, 59, #[.pointer (some ⟨gd3, 0, none⟩), .int .u32 (wd lab0.e), .int .u32 (wd lab0.s), .int .u32 (wd lab0.n), .int .u16 (hd lab0.d), .int .u16 (hd lab0.l)]⟩] [dskT D (.pointer (some ⟨gd3, 0, none⟩)) (rest (List.replicate 19 (blk 0#8)) (-1))] w9) (dc_ Try.func8 rfl (args1 (H4.ev 15 rfl)) (lw_open (O := O) hc7 nds_new) (fun _ w9 ⟨gn6, he, hX⟩ => ⟨_, he, gn6, rfl, hk7 _ _ _ hX⟩)) ?_
  rintro _ W7 ⟨gn6, rfl, HX7⟩ a7 H7
  clear hc7 hk7 hf7 hq7 HS5 HZ5
  clear H4
  obtain ⟨G8, HZ8, HS8⟩ := HX7.anchor
  clear HX7
  refine wl_ <| p_ H7 rfl rfl fun _ H9 => wl_ <| i_ H9 rfl (v := .pointer (some ⟨gn6, 0, none⟩)) (dd_ext rfl (H9.ev 14 rfl) rfl) fun _ H10 => wl_ <| i_ H10 rfl (v := .int .i64 0) (dd_ext rfl (H10.ev 14 rfl) rfl) fun _ H11 => q_ H11 2 rfl fun _ H12 => ln_ <| nx <| sq_ <| rl_ <| wl_ <| c_ H12 rfl HS8 (v := .agg (bs (blk 7#8))) (dc_ Try.func15 rfl (args1 rfl) (nfill7 W7) (fun _ w9 h9 => ⟨_, h9.1, rfl, h9.2⟩)) fun _ HS13 _ H13 => wl_ <| i_ H13 rfl (v := .agg (catA [[.int .i64 3], bytesV (blk 7#8)])) (dd_bld rfl (ps := [(0, .int .i64 3), (1, .agg (bs (blk 7#8)))]) (pr1 rfl (pr1 (H13.ev 19 rfl) (pr0))) (Lz := [[.int .i64 0], bytesV (zer 32)]) (by kernel_rfl) (lens_cons rfl (lens_cons (len_bv (length_zer 32)) (lens_nil))) (fit_cons (i := 0) rfl rfl (fit_cons (i := 1) rfl ((size_bs _).trans (length_blk _)) (fit_nil))) (cs := catA [[.int .i64 3], bytesV (blk 7#8)]) rfl) fun _ H14 => wl_ <| n_ H14 rfl (fun _ h => dd_lit1 HS13 (z := .agg (catA [[.int .i64 0], bytesV (zer 32)])) (sz := 33) rfl (H14.ev 20 rfl) Try.underlying27 (by kernel_rfl) (cat_size (lens_cons rfl (lens_cons (len_bv (length_blk _)) (lens_nil)))) rfl rfl h) fun g21 _ HS15 _ H15 => wl_ <| i_ H15 rfl (v := .agg #[.int .i64 1, .int .u32 2, .int .u32 5, .slice (some ⟨g21, 0, none⟩) 1 1]) (dd_bld rfl (ps := [(0, .int .i64 1), (1, .int .u32 2), (2, .int .u32 5), (3, .slice (some ⟨g21, 0, none⟩) 1 1)]) (pr1 rfl (pr1 rfl (pr1 rfl (pr1 (H15.ev 21 rfl) (pr0))))) (Lz := [[.int .i64 0], [.int .u32 0], [.int .u32 0], [.slice none 0 0]]) (by kernel_rfl) (lens_cons rfl (lens_cons rfl (lens_cons rfl (lens_cons rfl (lens_nil))))) (fit_cons (i := 0) rfl rfl (fit_cons (i := 1) rfl rfl (fit_cons (i := 2) rfl rfl (fit_cons (i := 3) rfl rfl (fit_nil))))) (cs := #[.int .i64 1, .int .u32 2, .int .u32 5, .slice (some ⟨g21, 0, none⟩) 1 1]) rfl) fun _ H16 => ?_
  clear H7 H9 H10 H11 H12 HS8 H13 HS13 H14
  refine wl_ <| n_ H16 rfl (fun _ h => dd_new HS15 #[.int .i64 0, .int .u32 0, .int .u32 0, .slice none 0 0] rfl (z := .agg #[.int .i64 0, .int .u32 0, .int .u32 0, .slice none 0 0]) (by kernel_rfl) rfl h) fun g3 _ HS17 _ H17 => wl_ <| t_ rfl (fun _ h => dd_setrow HS17 2 rfl rfl (H17.ev 3 rfl) (H17.ev 22 rfl) (by kernel_rfl) (rfl : #[.int .i64 1, .int .u32 2, .int .u32 5, .slice (some ⟨g21, 0, none⟩) 1 1].size = 4) (rfl : #[.int .i64 0, .int .u32 0, .int .u32 0, .slice none 0 0].size = 4) (one_l (ao_cons rfl (ao_cons rfl (ao_cons rfl (ao_cons rfl ao_nil))))) h) fun W18 HS18 => ln_ <| nx <| sq_ <| rl_ <| wl_ <| p_ H17 rfl rfl fun _ H19 => wl_ <| i_ H19 rfl (v := .agg #[.int .i64 1, .int .u32 2, .int .u32 5, .slice (some ⟨g21, 0, none⟩) 1 1]) (dd_load HS18 2 0 rfl rfl (H19.ev 3 rfl) (slab_whole _) Try.underlying29 rfl (by kernel_rfl)) fun _ H20 => ?_
  clear H15 HS15 H16 HS17 H17 H19
  obtain ⟨nB21, hnB21⟩ : ∃ n, (encP (⟨1, 2#32, 5#32, [(3, blk 7#8)]⟩ : Pkt)).length = n := ⟨_, rfl⟩
  obtain ⟨Gc22, hc22, hf22, hk22, hq22⟩ := Rs.reframe (R1 := []) (R2 := [⟨gn6, 59, #[.pointer (some ⟨gd3, 0, none⟩), .int .u32 (wd lab0.e), .int .u32 (wd lab0.s), .int .u32 (wd lab0.n), .int .u16 (hd lab0.d), .int .u16 (hd lab0.l)]⟩, ⟨g21, 43, catA [[.int .i64 3], bytesV (blk 7#8)]⟩, ⟨g3, 29, #[.int .i64 1, .int .u32 2, .int .u32 5, .slice (some ⟨g21, 0, none⟩) 1 1]⟩]) (Q1 := []) (Q2 := [dskT D (.pointer (some ⟨gd3, 0, none⟩)) (rest (List.replicate 19 (blk 0#8)) (-1))]) ((HZ8.move HS18).sel [0, 1, 2] [0])
  refine wl_ <| d_ H20 rfl (R := fun v9 w9 => ∃ gp21 : Nat, ∃ cp21 : Nat, ∃ cbp21 : Array Value, v9 = .slice (some ⟨gp21, 0, none⟩) nB21 cp21 ∧ (OwnC cbp21 cp21 nB21 1 (bytesV (encP (⟨1, 2#32, 5#32, [(3, blk 7#8)]⟩ : Pkt)))) ∧ Rs w noF [⟨gp21, 5, cbp21⟩, ⟨gn6, 59, #[.pointer (some ⟨gd3, 0, none⟩), .int .u32 (wd lab0.e), .int .u32 (wd lab0.s), .int .u32 (wd lab0.n), .int .u16 (hd lab0.d), .int .u16 (hd lab0.l)]⟩, ⟨g21, 43, catA [[.int .i64 3], bytesV (blk 7#8)]⟩, ⟨g3, 29, #[.int .i64 1, .int .u32 2, .int .u32 5, .slice (some ⟨g21, 0, none⟩) 1 1]⟩] [dskT D (.pointer (some ⟨gd3, 0, none⟩)) (rest (List.replicate 19 (blk 0#8)) (-1))] w9) (dc_ Try.func11 rfl (args1 (H20.ev 25 rfl)) (tk_pkt Gc22 (⟨1, 2#32, 5#32, [(3, blk 7#8)]⟩ : Pkt) _ _ _ nB21 W18 (puts_one (HS18.row 1 rfl) (length_blk _) (by decide)) (tk_pw1 _ _ _) (by decide) (by decide) hnB21) (fun _ w9 ⟨gp21, cp21, cbp21, he, Op21, hX⟩ => ⟨_, he, gp21, cp21, cbp21, rfl, Op21, hk22 _ _ _ hX⟩)) ?_
  rintro _ W22 ⟨gp21, cp21, cbp21, rfl, Op21, HX22⟩ a22 H22
  clear hc22 hk22 hf22 hq22 HS18 HZ8
  clear H20
  obtain ⟨G23, HZ23, HS23⟩ := HX22.anchor
  clear HX22
  obtain ⟨Gc25, hc25, hf25, hk25, hq25⟩ := Rs.reframe (R1 := [⟨gn6, 59, #[.pointer (some ⟨gd3, 0, none⟩), .int .u32 (wd lab0.e), .int .u32 (wd lab0.s), .int .u32 (wd lab0.n), .int .u16 (hd lab0.d), .int .u16 (hd lab0.l)]⟩]) (R2 := [⟨gp21, 5, cbp21⟩, ⟨g21, 43, catA [[.int .i64 3], bytesV (blk 7#8)]⟩, ⟨g3, 29, #[.int .i64 1, .int .u32 2, .int .u32 5, .slice (some ⟨g21, 0, none⟩) 1 1]⟩]) (Q1 := [dskT D (.pointer (some ⟨gd3, 0, none⟩)) (rest (List.replicate 19 (blk 0#8)) (-1))]) (Q2 := []) ((HZ23.move HS23).sel [1, 0, 2, 3] [0])
  refine wl_ <| d_ H22 rfl (R := fun v9 w9 => ∃ s24 : Secs, v9 = .tuple #[.agg #[.int .i64 3, .int .u32 2, .int .u32 5, .slice none 0 0], .int .i64 0] ∧ (Nds s24 (doneLab lab0 (pkR (⟨1, 2#32, 5#32, [(3, blk 7#8)]⟩ : Pkt)) lab0.d) (updB ([(3, blk 7#8)]) (fun _ => blk 0#8))) ∧ Rs w noF [⟨gn6, 59, #[.pointer (some ⟨gd3, 0, none⟩), .int .u32 (wd (doneLab lab0 (pkR (⟨1, 2#32, 5#32, [(3, blk 7#8)]⟩ : Pkt)) lab0.d).e), .int .u32 (wd (doneLab lab0 (pkR (⟨1, 2#32, 5#32, [(3, blk 7#8)]⟩ : Pkt)) lab0.d).s), .int .u32 (wd (doneLab lab0 (pkR (⟨1, 2#32, 5#32, [(3, blk 7#8)]⟩ : Pkt)) lab0.d).n), .int .u16 (hd (doneLab lab0 (pkR (⟨1, 2#32, 5#32, [(3, blk 7#8)]⟩ : Pkt)) lab0.d).d), .int .u16 (hd (doneLab lab0 (pkR (⟨1, 2#32, 5#32, [(3, blk 7#8)]⟩ : Pkt)) lab0.d).l)]⟩, ⟨gp21, 5, cbp21⟩, ⟨g21, 43, catA [[.int .i64 3], bytesV (blk 7#8)]⟩, ⟨g3, 29, #[.int .i64 1, .int .u32 2, .int .u32 5, .slice (some ⟨g21, 0, none⟩) 1 1]⟩] [dskT D (.pointer (some ⟨gd3, 0, none⟩)) (rest s24 (-1))] w9) (dc_ Try.func10 rfl (args2 (H22.ev 24 rfl) (H22.ev 26 rfl)) (tk_done (O := O) (⟨1, 2#32, 5#32, [(3, blk 7#8)]⟩ : Pkt) hc25 nds_new (slice_own (HS23.row 0 rfl) Op21 hnB21) (own_off1 hf25 0 rfl rfl) (by decide) (tk_pw1 _ _ _) (.inl rfl) (by decide)) (fun _ w9 ⟨s24, he, hN24, hX⟩ => ⟨_, he, s24, rfl, hN24, hk25 _ _ _ hX⟩)) ?_
  rintro _ W25 ⟨s24, rfl, hN24, HX25⟩ a25 H25
  clear hc25 hk25 hf25 hq25 HS23 HZ23
  clear H22
  obtain ⟨G26, HZ26, HS26⟩ := HX25.anchor
  clear HX25
  refine wl_ <| p_ H25 rfl rfl fun _ H27 => wl_ <| i_ H27 rfl (v := .agg #[.int .i64 3, .int .u32 2, .int .u32 5, .slice none 0 0]) (dd_ext rfl (H27.ev 23 rfl) rfl) fun _ H28 => wl_ <| i_ H28 rfl (v := .int .i64 0) (dd_ext rfl (H28.ev 23 rfl) rfl) fun _ H29 => wl_ <| n_ H29 rfl (fun _ h => dd_new HS26 #[.int .i64 0, .int .u32 0, .int .u32 0, .slice none 0 0] rfl (z := .agg #[.int .i64 0, .int .u32 0, .int .u32 0, .slice none 0 0]) (by kernel_rfl) rfl h) fun g4 _ HS30 _ H30 => wl_ <| t_ rfl (S := [⟨gn6, 59, #[.pointer (some ⟨gd3, 0, none⟩), .int .u32 (wd (doneLab lab0 (pkR (⟨1, 2#32, 5#32, [(3, blk 7#8)]⟩ : Pkt)) lab0.d).e), .int .u32 (wd (doneLab lab0 (pkR (⟨1, 2#32, 5#32, [(3, blk 7#8)]⟩ : Pkt)) lab0.d).s), .int .u32 (wd (doneLab lab0 (pkR (⟨1, 2#32, 5#32, [(3, blk 7#8)]⟩ : Pkt)) lab0.d).n), .int .u16 (hd (doneLab lab0 (pkR (⟨1, 2#32, 5#32, [(3, blk 7#8)]⟩ : Pkt)) lab0.d).d), .int .u16 (hd (doneLab lab0 (pkR (⟨1, 2#32, 5#32, [(3, blk 7#8)]⟩ : Pkt)) lab0.d).l)]⟩, ⟨gp21, 5, cbp21⟩, ⟨g21, 43, catA [[.int .i64 3], bytesV (blk 7#8)]⟩, ⟨g3, 29, #[.int .i64 1, .int .u32 2, .int .u32 5, .slice (some ⟨g21, 0, none⟩) 1 1]⟩, ⟨g4, 29, #[.int .i64 3, .int .u32 2, .int .u32 5, .slice none 0 0]⟩]) (fun _ h => dd_setrow HS30 4 rfl rfl (H30.ev 4 rfl) (H30.ev 28 rfl) (by kernel_rfl) (rfl : #[.int .i64 3, .int .u32 2, .int .u32 5, .slice none 0 0].size = 4) (rfl : #[.int .i64 0, .int .u32 0, .int .u32 0, .slice none 0 0].size = 4) (one_l (ao_cons rfl (ao_cons rfl (ao_cons rfl (ao_cons rfl ao_nil))))) h) fun W31 HS31 => wl_ <| p_ H30 rfl rfl fun _ H32 => ln_ <| ?_
  clear H25 H27 H28 HS26 H29 HS30 H30
  have H33 := H32.sel [1, 2, 3, 4, 5] rfl
  refine nx <| sq_ <| rl_ <| wl_ <| p_ H33 rfl rfl fun _ H34 => wl_ <| i_ H34 rfl (v := .agg #[.int .i64 1, .int .u32 2, .int .u32 5, .slice (some ⟨g21, 0, none⟩) 1 1]) (dd_load HS31 3 0 rfl rfl (H34.ev 3 rfl) (slab_whole _) Try.underlying29 rfl (by kernel_rfl)) fun _ H35 => ?_
  clear H32 H33 H34
  obtain ⟨nB36, hnB36⟩ : ∃ n, (encP (⟨1, 2#32, 5#32, [(3, blk 7#8)]⟩ : Pkt)).length = n := ⟨_, rfl⟩
  obtain ⟨Gc37, hc37, hf37, hk37, hq37⟩ := Rs.reframe (R1 := []) (R2 := [⟨gn6, 59, #[.pointer (some ⟨gd3, 0, none⟩), .int .u32 (wd (doneLab lab0 (pkR (⟨1, 2#32, 5#32, [(3, blk 7#8)]⟩ : Pkt)) lab0.d).e), .int .u32 (wd (doneLab lab0 (pkR (⟨1, 2#32, 5#32, [(3, blk 7#8)]⟩ : Pkt)) lab0.d).s), .int .u32 (wd (doneLab lab0 (pkR (⟨1, 2#32, 5#32, [(3, blk 7#8)]⟩ : Pkt)) lab0.d).n), .int .u16 (hd (doneLab lab0 (pkR (⟨1, 2#32, 5#32, [(3, blk 7#8)]⟩ : Pkt)) lab0.d).d), .int .u16 (hd (doneLab lab0 (pkR (⟨1, 2#32, 5#32, [(3, blk 7#8)]⟩ : Pkt)) lab0.d).l)]⟩, ⟨gp21, 5, cbp21⟩, ⟨g21, 43, catA [[.int .i64 3], bytesV (blk 7#8)]⟩, ⟨g3, 29, #[.int .i64 1, .int .u32 2, .int .u32 5, .slice (some ⟨g21, 0, none⟩) 1 1]⟩, ⟨g4, 29, #[.int .i64 3, .int .u32 2, .int .u32 5, .slice none 0 0]⟩]) (Q1 := []) (Q2 := [dskT D (.pointer (some ⟨gd3, 0, none⟩)) (rest s24 (-1))]) ((HZ26.move HS31).sel [0, 1, 2, 3, 4] [0])
  refine wl_ <| d_ H35 rfl (R := fun v9 w9 => ∃ gp36 : Nat, ∃ cp36 : Nat, ∃ cbp36 : Array Value, v9 = .slice (some ⟨gp36, 0, none⟩) nB36 cp36 ∧ (OwnC cbp36 cp36 nB36 1 (bytesV (encP (⟨1, 2#32, 5#32, [(3, blk 7#8)]⟩ : Pkt)))) ∧ Rs w noF [⟨gp36, 5, cbp36⟩, ⟨gn6, 59, #[.pointer (some ⟨gd3, 0, none⟩), .int .u32 (wd (doneLab lab0 (pkR (⟨1, 2#32, 5#32, [(3, blk 7#8)]⟩ : Pkt)) lab0.d).e), .int .u32 (wd (doneLab lab0 (pkR (⟨1, 2#32, 5#32, [(3, blk 7#8)]⟩ : Pkt)) lab0.d).s), .int .u32 (wd (doneLab lab0 (pkR (⟨1, 2#32, 5#32, [(3, blk 7#8)]⟩ : Pkt)) lab0.d).n), .int .u16 (hd (doneLab lab0 (pkR (⟨1, 2#32, 5#32, [(3, blk 7#8)]⟩ : Pkt)) lab0.d).d), .int .u16 (hd (doneLab lab0 (pkR (⟨1, 2#32, 5#32, [(3, blk 7#8)]⟩ : Pkt)) lab0.d).l)]⟩, ⟨gp21, 5, cbp21⟩, ⟨g21, 43, catA [[.int .i64 3], bytesV (blk 7#8)]⟩, ⟨g3, 29, #[.int .i64 1, .int .u32 2, .int .u32 5, .slice (some ⟨g21, 0, none⟩) 1 1]⟩, ⟨g4, 29, #[.int .i64 3, .int .u32 2, .int .u32 5, .slice none 0 0]⟩] [dskT D (.pointer (some ⟨gd3, 0, none⟩)) (rest s24 (-1))] w9) (dc_ Try.func11 rfl (args1 (H35.ev 32 rfl)) (tk_pkt Gc37 (⟨1, 2#32, 5#32, [(3, blk 7#8)]⟩ : Pkt) _ _ _ nB36 W31 (puts_one (HS31.row 2 rfl) (length_blk _) (by decide)) (tk_pw1 _ _ _) (by decide) (by decide) hnB36) (fun _ w9 ⟨gp36, cp36, cbp36, he, Op36, hX⟩ => ⟨_, he, gp36, cp36, cbp36, rfl, Op36, hk37 _ _ _ hX⟩)) ?_
  rintro _ W37 ⟨gp36, cp36, cbp36, rfl, Op36, HX37⟩ a37 H37
  clear hc37 hk37 hf37 hq37 HS31 HZ26
  clear H35
  obtain ⟨G38, HZ38, HS38⟩ := HX37.anchor
  clear HX37
  obtain ⟨Gc40, hc40, hf40, hk40, hq40⟩ := Rs.reframe (R1 := [⟨gn6, 59, #[.pointer (some ⟨gd3, 0, none⟩), .int .u32 (wd (doneLab lab0 (pkR (⟨1, 2#32, 5#32, [(3, blk 7#8)]⟩ : Pkt)) lab0.d).e), .int .u32 (wd (doneLab lab0 (pkR (⟨1, 2#32, 5#32, [(3, blk 7#8)]⟩ : Pkt)) lab0.d).s), .int .u32 (wd (doneLab lab0 (pkR (⟨1, 2#32, 5#32, [(3, blk 7#8)]⟩ : Pkt)) lab0.d).n), .int .u16 (hd (doneLab lab0 (pkR (⟨1, 2#32, 5#32, [(3, blk 7#8)]⟩ : Pkt)) lab0.d).d), .int .u16 (hd (doneLab lab0 (pkR (⟨1, 2#32, 5#32, [(3, blk 7#8)]⟩ : Pkt)) lab0.d).l)]⟩]) (R2 := [⟨gp36, 5, cbp36⟩, ⟨gp21, 5, cbp21⟩, ⟨g21, 43, catA [[.int .i64 3], bytesV (blk 7#8)]⟩, ⟨g3, 29, #[.int .i64 1, .int .u32 2, .int .u32 5, .slice (some ⟨g21, 0, none⟩) 1 1]⟩, ⟨g4, 29, #[.int .i64 3, .int .u32 2, .int .u32 5, .slice none 0 0]⟩]) (Q1 := [dskT D (.pointer (some ⟨gd3, 0, none⟩)) (rest s24 (-1))]) (Q2 := []) ((HZ38.move HS38).sel [1, 0, 2, 3, 4, 5] [0])
  refine wl_ <| d_ H37 rfl (R := fun v9 w9 => v9 = .tuple #[.agg #[.int .i64 3, .int .u32 2, .int .u32 5, .slice none 0 0], .int .i64 0] ∧ Rs w noF [⟨gn6, 59, #[.pointer (some ⟨gd3, 0, none⟩), .int .u32 (wd (doneLab lab0 (pkR (⟨1, 2#32, 5#32, [(3, blk 7#8)]⟩ : Pkt)) lab0.d).e), .int .u32 (wd (doneLab lab0 (pkR (⟨1, 2#32, 5#32, [(3, blk 7#8)]⟩ : Pkt)) lab0.d).s), .int .u32 (wd (doneLab lab0 (pkR (⟨1, 2#32, 5#32, [(3, blk 7#8)]⟩ : Pkt)) lab0.d).n), .int .u16 (hd (doneLab lab0 (pkR (⟨1, 2#32, 5#32, [(3, blk 7#8)]⟩ : Pkt)) lab0.d).d), .int .u16 (hd (doneLab lab0 (pkR (⟨1, 2#32, 5#32, [(3, blk 7#8)]⟩ : Pkt)) lab0.d).l)]⟩, ⟨gp36, 5, cbp36⟩, ⟨gp21, 5, cbp21⟩, ⟨g21, 43, catA [[.int .i64 3], bytesV (blk 7#8)]⟩, ⟨g3, 29, #[.int .i64 1, .int .u32 2, .int .u32 5, .slice (some ⟨g21, 0, none⟩) 1 1]⟩, ⟨g4, 29, #[.int .i64 3, .int .u32 2, .int .u32 5, .slice none 0 0]⟩] [dskT D (.pointer (some ⟨gd3, 0, none⟩)) (rest s24 (-1))] w9) (dc_ Try.func10 rfl (args2 (H37.ev 31 rfl) (H37.ev 33 rfl)) (tk_same (O := O) (⟨1, 2#32, 5#32, [(3, blk 7#8)]⟩ : Pkt) hc40 hN24 (slice_own (HS38.row 0 rfl) Op36 hnB36) (own_off1 hf40 0 rfl rfl) (by decide) (tk_pw1 _ _ _) (.inl rfl) ⟨rfl, rfl⟩) (fun _ w9 ⟨he, hX⟩ => ⟨_, he, rfl, hk40 _ _ _ hX⟩)) ?_
  rintro _ W40 ⟨rfl, HX40⟩ a40 H40
  clear hc40 hk40 hf40 hq40 HS38 HZ38
  clear H37
  obtain ⟨G41, HZ41, HS41⟩ := HX40.anchor
  clear HX40
  refine wl_ <| p_ H40 rfl rfl fun _ H42 => wl_ <| i_ H42 rfl (v := .agg #[.int .i64 3, .int .u32 2, .int .u32 5, .slice none 0 0]) (dd_ext rfl (H42.ev 30 rfl) rfl) fun _ H43 => wl_ <| i_ H43 rfl (v := .int .i64 0) (dd_ext rfl (H43.ev 30 rfl) rfl) fun _ H44 => wl_ <| n_ H44 rfl (fun _ h => dd_new HS41 #[.int .i64 0, .int .u32 0, .int .u32 0, .slice none 0 0] rfl (z := .agg #[.int .i64 0, .int .u32 0, .int .u32 0, .slice none 0 0]) (by kernel_rfl) rfl h) fun g6 _ HS45 _ H45 => wl_ <| t_ rfl (fun _ h => dd_setrow HS45 6 rfl rfl (H45.ev 6 rfl) (H45.ev 35 rfl) (by kernel_rfl) (rfl : #[.int .i64 3, .int .u32 2, .int .u32 5, .slice none 0 0].size = 4) (rfl : #[.int .i64 0, .int .u32 0, .int .u32 0, .slice none 0 0].size = 4) (one_l (ao_cons rfl (ao_cons rfl (ao_cons rfl (ao_cons rfl ao_nil))))) h) fun _ HS46 => wl_ <| p_ H45 rfl rfl fun _ H47 => ln_ <| nx <| sq_ <| rl_ <| wl_ <| i_ H47 rfl (xf 2 2 rfl (H47.ev 3 rfl)) fun _ H48 => wl_ <| t_ rfl (fun _ h => dd_put (cs := #[.int .i64 1, .int .u32 2, .int .u32 4, .slice (some ⟨g21, 0, none⟩) 1 1]) HS46 4 2 rfl rfl (H48.ev 37 rfl) rfl (by kernel_rfl) rfl rfl rfl rfl h) fun W49 HS49 => ?_
  clear H40 H42 H43 HS41 H44 HS45 H45 H47
  refine ln_ <| nx <| sq_ <| rl_ <| wl_ <| p_ H48 rfl rfl fun _ H50 => wl_ <| i_ H50 rfl (v := .agg #[.int .i64 1, .int .u32 2, .int .u32 4, .slice (some ⟨g21, 0, none⟩) 1 1]) (dd_load HS49 4 0 rfl rfl (H50.ev 3 rfl) (slab_whole _) Try.underlying29 rfl (by kernel_rfl)) fun _ H51 => ?_
  clear HS46 H48 H50
  obtain ⟨nB52, hnB52⟩ : ∃ n, (encP (⟨1, 2#32, 4#32, [(3, blk 7#8)]⟩ : Pkt)).length = n := ⟨_, rfl⟩
  obtain ⟨Gc53, hc53, hf53, hk53, hq53⟩ := Rs.reframe (R1 := []) (R2 := [⟨gn6, 59, #[.pointer (some ⟨gd3, 0, none⟩), .int .u32 (wd (doneLab lab0 (pkR (⟨1, 2#32, 5#32, [(3, blk 7#8)]⟩ : Pkt)) lab0.d).e), .int .u32 (wd (doneLab lab0 (pkR (⟨1, 2#32, 5#32, [(3, blk 7#8)]⟩ : Pkt)) lab0.d).s), .int .u32 (wd (doneLab lab0 (pkR (⟨1, 2#32, 5#32, [(3, blk 7#8)]⟩ : Pkt)) lab0.d).n), .int .u16 (hd (doneLab lab0 (pkR (⟨1, 2#32, 5#32, [(3, blk 7#8)]⟩ : Pkt)) lab0.d).d), .int .u16 (hd (doneLab lab0 (pkR (⟨1, 2#32, 5#32, [(3, blk 7#8)]⟩ : Pkt)) lab0.d).l)]⟩, ⟨gp36, 5, cbp36⟩, ⟨gp21, 5, cbp21⟩, ⟨g21, 43, catA [[.int .i64 3], bytesV (blk 7#8)]⟩, ⟨g3, 29, #[.int .i64 1, .int .u32 2, .int .u32 4, .slice (some ⟨g21, 0, none⟩) 1 1]⟩, ⟨g4, 29, #[.int .i64 3, .int .u32 2, .int .u32 5, .slice none 0 0]⟩, ⟨g6, 29, #[.int .i64 3, .int .u32 2, .int .u32 5, .slice none 0 0]⟩]) (Q1 := []) (Q2 := [dskT D (.pointer (some ⟨gd3, 0, none⟩)) (rest s24 (-1))]) ((HZ41.move HS49).sel [0, 1, 2, 3, 4, 5, 6] [0])
  refine wl_ <| d_ H51 rfl (R := fun v9 w9 => ∃ gp52 : Nat, ∃ cp52 : Nat, ∃ cbp52 : Array Value, v9 = .slice (some ⟨gp52, 0, none⟩) nB52 cp52 ∧ (OwnC cbp52 cp52 nB52 1 (bytesV (encP (⟨1, 2#32, 4#32, [(3, blk 7#8)]⟩ : Pkt)))) ∧ Rs w noF [⟨gp52, 5, cbp52⟩, ⟨gn6, 59, #[.pointer (some ⟨gd3, 0, none⟩), .int .u32 (wd (doneLab lab0 (pkR (⟨1, 2#32, 5#32, [(3, blk 7#8)]⟩ : Pkt)) lab0.d).e), .int .u32 (wd (doneLab lab0 (pkR (⟨1, 2#32, 5#32, [(3, blk 7#8)]⟩ : Pkt)) lab0.d).s), .int .u32 (wd (doneLab lab0 (pkR (⟨1, 2#32, 5#32, [(3, blk 7#8)]⟩ : Pkt)) lab0.d).n), .int .u16 (hd (doneLab lab0 (pkR (⟨1, 2#32, 5#32, [(3, blk 7#8)]⟩ : Pkt)) lab0.d).d), .int .u16 (hd (doneLab lab0 (pkR (⟨1, 2#32, 5#32, [(3, blk 7#8)]⟩ : Pkt)) lab0.d).l)]⟩, ⟨gp36, 5, cbp36⟩, ⟨gp21, 5, cbp21⟩, ⟨g21, 43, catA [[.int .i64 3], bytesV (blk 7#8)]⟩, ⟨g3, 29, #[.int .i64 1, .int .u32 2, .int .u32 4, .slice (some ⟨g21, 0, none⟩) 1 1]⟩, ⟨g4, 29, #[.int .i64 3, .int .u32 2, .int .u32 5, .slice none 0 0]⟩, ⟨g6, 29, #[.int .i64 3, .int .u32 2, .int .u32 5, .slice none 0 0]⟩] [dskT D (.pointer (some ⟨gd3, 0, none⟩)) (rest s24 (-1))] w9) (dc_ Try.func11 rfl (args1 (H51.ev 40 rfl)) (tk_pkt Gc53 (⟨1, 2#32, 4#32, [(3, blk 7#8)]⟩ : Pkt) _ _ _ nB52 W49 (puts_one (HS49.row 3 rfl) (length_blk _) (by decide)) (tk_pw1 _ _ _) (by decide) (by decide) hnB52) (fun _ w9 ⟨gp52, cp52, cbp52, he, Op52, hX⟩ => ⟨_, he, gp52, cp52, cbp52, rfl, Op52, hk53 _ _ _ hX⟩)) ?_
  rintro _ W53 ⟨gp52, cp52, cbp52, rfl, Op52, HX53⟩ a53 H53
  clear hc53 hk53 hf53 hq53 HS49 HZ41
  clear H51
  obtain ⟨G54, HZ54, HS54⟩ := HX53.anchor
  clear HX53
  obtain ⟨Gc56, hc56, hf56, hk56, hq56⟩ := Rs.reframe (R1 := [⟨gn6, 59, #[.pointer (some ⟨gd3, 0, none⟩), .int .u32 (wd (doneLab lab0 (pkR (⟨1, 2#32, 5#32, [(3, blk 7#8)]⟩ : Pkt)) lab0.d).e), .int .u32 (wd (doneLab lab0 (pkR (⟨1, 2#32, 5#32, [(3, blk 7#8)]⟩ : Pkt)) lab0.d).s), .int .u32 (wd (doneLab lab0 (pkR (⟨1, 2#32, 5#32, [(3, blk 7#8)]⟩ : Pkt)) lab0.d).n), .int .u16 (hd (doneLab lab0 (pkR (⟨1, 2#32, 5#32, [(3, blk 7#8)]⟩ : Pkt)) lab0.d).d), .int .u16 (hd (doneLab lab0 (pkR (⟨1, 2#32, 5#32, [(3, blk 7#8)]⟩ : Pkt)) lab0.d).l)]⟩]) (R2 := [⟨gp52, 5, cbp52⟩, ⟨gp36, 5, cbp36⟩, ⟨gp21, 5, cbp21⟩, ⟨g21, 43, catA [[.int .i64 3], bytesV (blk 7#8)]⟩, ⟨g3, 29, #[.int .i64 1, .int .u32 2, .int .u32 4, .slice (some ⟨g21, 0, none⟩) 1 1]⟩, ⟨g4, 29, #[.int .i64 3, .int .u32 2, .int .u32 5, .slice none 0 0]⟩, ⟨g6, 29, #[.int .i64 3, .int .u32 2, .int .u32 5, .slice none 0 0]⟩]) (Q1 := [dskT D (.pointer (some ⟨gd3, 0, none⟩)) (rest s24 (-1))]) (Q2 := []) ((HZ54.move HS54).sel [1, 0, 2, 3, 4, 5, 6, 7] [0])
  refine wl_ <| d_ H53 rfl (R := fun v9 w9 => v9 = .tuple #[.agg #[.int .i64 4, .int .u32 (wd (doneLab lab0 (pkR (⟨1, 2#32, 5#32, [(3, blk 7#8)]⟩ : Pkt)) lab0.d).e), .int .u32 4, .slice none 0 0], .int .i64 0] ∧ Rs w noF [⟨gn6, 59, #[.pointer (some ⟨gd3, 0, none⟩), .int .u32 (wd (doneLab lab0 (pkR (⟨1, 2#32, 5#32, [(3, blk 7#8)]⟩ : Pkt)) lab0.d).e), .int .u32 (wd (doneLab lab0 (pkR (⟨1, 2#32, 5#32, [(3, blk 7#8)]⟩ : Pkt)) lab0.d).s), .int .u32 (wd (doneLab lab0 (pkR (⟨1, 2#32, 5#32, [(3, blk 7#8)]⟩ : Pkt)) lab0.d).n), .int .u16 (hd (doneLab lab0 (pkR (⟨1, 2#32, 5#32, [(3, blk 7#8)]⟩ : Pkt)) lab0.d).d), .int .u16 (hd (doneLab lab0 (pkR (⟨1, 2#32, 5#32, [(3, blk 7#8)]⟩ : Pkt)) lab0.d).l)]⟩, ⟨gp52, 5, cbp52⟩, ⟨gp36, 5, cbp36⟩, ⟨gp21, 5, cbp21⟩, ⟨g21, 43, catA [[.int .i64 3], bytesV (blk 7#8)]⟩, ⟨g3, 29, #[.int .i64 1, .int .u32 2, .int .u32 4, .slice (some ⟨g21, 0, none⟩) 1 1]⟩, ⟨g4, 29, #[.int .i64 3, .int .u32 2, .int .u32 5, .slice none 0 0]⟩, ⟨g6, 29, #[.int .i64 3, .int .u32 2, .int .u32 5, .slice none 0 0]⟩] [dskT D (.pointer (some ⟨gd3, 0, none⟩)) (rest s24 (-1))] w9) (dc_ Try.func10 rfl (args2 (H53.ev 39 rfl) (H53.ev 41 rfl)) (tk_stale (O := O) (⟨1, 2#32, 4#32, [(3, blk 7#8)]⟩ : Pkt) hc56 hN24 (slice_own (HS54.row 0 rfl) Op52 hnB52) (own_off1 hf56 0 rfl rfl) (by decide) (tk_pw1 _ _ _) (.inl rfl) (show laterB 2#32 4#32 2#32 5#32 = false by decide) (show ¬ ((2#32 : BitVec 32) = 2#32 ∧ (4#32 : BitVec 32) = 5#32) by decide)) (fun _ w9 ⟨he, hX⟩ => ⟨_, he, rfl, hk56 _ _ _ hX⟩)) ?_
  rintro _ W56 ⟨rfl, HX56⟩ a56 H56
  clear hc56 hk56 hf56 hq56 HS54 HZ54
  clear H53
  obtain ⟨G57, HZ57, HS57⟩ := HX56.anchor
  clear HX56
  refine wl_ <| p_ H56 rfl rfl fun _ H58 => wl_ <| i_ H58 rfl (v := .agg #[.int .i64 4, .int .u32 (wd (doneLab lab0 (pkR (⟨1, 2#32, 5#32, [(3, blk 7#8)]⟩ : Pkt)) lab0.d).e), .int .u32 4, .slice none 0 0]) (dd_ext rfl (H58.ev 38 rfl) rfl) fun _ H59 => wl_ <| i_ H59 rfl (v := .int .i64 0) (dd_ext rfl (H59.ev 38 rfl) rfl) fun _ H60 => wl_ <| n_ H60 rfl (fun _ h => dd_new HS57 #[.int .i64 0, .int .u32 0, .int .u32 0, .slice none 0 0] rfl (z := .agg #[.int .i64 0, .int .u32 0, .int .u32 0, .slice none 0 0]) (by kernel_rfl) rfl h) fun g8 _ HS61 _ H61 => wl_ <| t_ rfl (S := [⟨gn6, 59, #[.pointer (some ⟨gd3, 0, none⟩), .int .u32 (wd (doneLab lab0 (pkR (⟨1, 2#32, 5#32, [(3, blk 7#8)]⟩ : Pkt)) lab0.d).e), .int .u32 (wd (doneLab lab0 (pkR (⟨1, 2#32, 5#32, [(3, blk 7#8)]⟩ : Pkt)) lab0.d).s), .int .u32 (wd (doneLab lab0 (pkR (⟨1, 2#32, 5#32, [(3, blk 7#8)]⟩ : Pkt)) lab0.d).n), .int .u16 (hd (doneLab lab0 (pkR (⟨1, 2#32, 5#32, [(3, blk 7#8)]⟩ : Pkt)) lab0.d).d), .int .u16 (hd (doneLab lab0 (pkR (⟨1, 2#32, 5#32, [(3, blk 7#8)]⟩ : Pkt)) lab0.d).l)]⟩, ⟨gp52, 5, cbp52⟩, ⟨gp36, 5, cbp36⟩, ⟨gp21, 5, cbp21⟩, ⟨g21, 43, catA [[.int .i64 3], bytesV (blk 7#8)]⟩, ⟨g3, 29, #[.int .i64 1, .int .u32 2, .int .u32 4, .slice (some ⟨g21, 0, none⟩) 1 1]⟩, ⟨g4, 29, #[.int .i64 3, .int .u32 2, .int .u32 5, .slice none 0 0]⟩, ⟨g6, 29, #[.int .i64 3, .int .u32 2, .int .u32 5, .slice none 0 0]⟩, ⟨g8, 29, #[.int .i64 4, .int .u32 (wd (doneLab lab0 (pkR (⟨1, 2#32, 5#32, [(3, blk 7#8)]⟩ : Pkt)) lab0.d).e), .int .u32 4, .slice none 0 0]⟩]) (fun _ h => dd_setrow HS61 8 rfl rfl (H61.ev 8 rfl) (H61.ev 43 rfl) (by kernel_rfl) (rfl : #[.int .i64 4, .int .u32 (wd (doneLab lab0 (pkR (⟨1, 2#32, 5#32, [(3, blk 7#8)]⟩ : Pkt)) lab0.d).e), .int .u32 4, .slice none 0 0].size = 4) (rfl : #[.int .i64 0, .int .u32 0, .int .u32 0, .slice none 0 0].size = 4) (one_l (ao_cons rfl (ao_cons rfl (ao_cons rfl (ao_cons rfl ao_nil))))) h) fun _ HS62 => wl_ <| p_ H61 rfl rfl fun _ H63 => ln_ <| ?_
  clear H56 H58 H59 HS57 H60 HS61 H61
  have H64 := H63.sel [1, 2, 4, 5, 6, 7, 8, 9] rfl
  refine nx <| sq_ <| rl_ <| wl_ <| p_ H64 rfl rfl fun _ H65 => wl_ <| n_ H65 rfl (fun _ h => dd_lits HS62 #[.int .u8 120] rfl (ps := [(0, .int .u8 120)]) (pr1 rfl (pr0)) (z := .int .u8 0) (sz := 1) Try.underlying23 (by kernel_rfl) rfl rfl (by kernel_rfl) h) fun g47 _ HS66 _ H66 => ?_
  clear H63 H64 HS62 H65
  refine wl_ <| d_ H66 rfl (R := fun v9 w9 => v9 = .slice (some ⟨g47, 0, none⟩) 1 1 ∧ (MarkAt w9 g47 [120#8]) ∧ St W56 G57 [⟨gn6, 59, #[.pointer (some ⟨gd3, 0, none⟩), .int .u32 (wd (doneLab lab0 (pkR (⟨1, 2#32, 5#32, [(3, blk 7#8)]⟩ : Pkt)) lab0.d).e), .int .u32 (wd (doneLab lab0 (pkR (⟨1, 2#32, 5#32, [(3, blk 7#8)]⟩ : Pkt)) lab0.d).s), .int .u32 (wd (doneLab lab0 (pkR (⟨1, 2#32, 5#32, [(3, blk 7#8)]⟩ : Pkt)) lab0.d).n), .int .u16 (hd (doneLab lab0 (pkR (⟨1, 2#32, 5#32, [(3, blk 7#8)]⟩ : Pkt)) lab0.d).d), .int .u16 (hd (doneLab lab0 (pkR (⟨1, 2#32, 5#32, [(3, blk 7#8)]⟩ : Pkt)) lab0.d).l)]⟩, ⟨gp52, 5, cbp52⟩, ⟨gp36, 5, cbp36⟩, ⟨gp21, 5, cbp21⟩, ⟨g21, 43, catA [[.int .i64 3], bytesV (blk 7#8)]⟩, ⟨g3, 29, #[.int .i64 1, .int .u32 2, .int .u32 4, .slice (some ⟨g21, 0, none⟩) 1 1]⟩, ⟨g4, 29, #[.int .i64 3, .int .u32 2, .int .u32 5, .slice none 0 0]⟩, ⟨g6, 29, #[.int .i64 3, .int .u32 2, .int .u32 5, .slice none 0 0]⟩, ⟨g8, 29, #[.int .i64 4, .int .u32 (wd (doneLab lab0 (pkR (⟨1, 2#32, 5#32, [(3, blk 7#8)]⟩ : Pkt)) lab0.d).e), .int .u32 4, .slice none 0 0]⟩] w9) (dd_cvl HS66 9 (q := [120#8]) rfl rfl (H66.ev 47 rfl) (fun w9 h1 h2 h3 => ⟨rfl, h2, h1⟩)) ?_
  rintro _ W67 ⟨rfl, hm68, HS67⟩ a67 H67
  clear H66 HS66
  refine wl_ <| c_ H67 rfl HS67 (v := .tuple #[.agg #[.int .i64 0, .int .u32 0, .int .u32 0, .slice none 0 0], .int .i64 11]) (dc_ Try.func10 rfl (args2 (H67.ev 46 rfl) (H67.ev 48 rfl)) (tk_bad gn6 _ _ _ [120#8] W67 (hm68.slice rfl) (by decide)) (fun _ w9 h9 => ⟨_, h9.1, rfl, h9.2⟩)) fun _ HS69 _ H69 => wl_ <| p_ H69 rfl rfl fun _ H70 => wl_ <| i_ H70 rfl (v := .agg #[.int .i64 0, .int .u32 0, .int .u32 0, .slice none 0 0]) (dd_ext rfl (H70.ev 45 rfl) rfl) fun _ H71 => wl_ <| i_ H71 rfl (v := .int .i64 11) (dd_ext rfl (H71.ev 45 rfl) rfl) fun _ H72 => wl_ <| n_ H72 rfl (fun _ h => dd_new HS69 #[.int .i64 0, .int .u32 0, .int .u32 0, .slice none 0 0] rfl (z := .agg #[.int .i64 0, .int .u32 0, .int .u32 0, .slice none 0 0]) (by kernel_rfl) rfl h) fun g10 _ HS73 _ H73 => wl_ <| t_ rfl (fun _ h => dd_setrow HS73 9 rfl rfl (H73.ev 10 rfl) (H73.ev 50 rfl) (by kernel_rfl) (rfl : #[.int .i64 0, .int .u32 0, .int .u32 0, .slice none 0 0].size = 4) (rfl : #[.int .i64 0, .int .u32 0, .int .u32 0, .slice none 0 0].size = 4) (one_l (ao_cons rfl (ao_cons rfl (ao_cons rfl (ao_cons rfl ao_nil))))) h) fun W74 HS74 => wl_ <| p_ H73 rfl rfl fun _ H75 => ln_ <| nx <| sq_ <| sq_ <| rl_ <| wl_ <| p_ H75 rfl rfl fun _ H76 => ?_
  clear H67 HS67 H69 H70 H71 HS69 H72 HS73 H73
  refine wl_ <| i_ H76 rfl (dd_cmp rfl (H76.ev 52 rfl) rfl (ne_f (by decide))) fun _ H77 => wl_ <| p_ H77 rfl rfl fun _ H78 => wl_ <| ig H78 (wg_ H78 rfl rfl rfl rfl) rfl (dd_mv rfl (H78.ev 1 rfl)) fun _ H79 => wl_ <| ig H79 (wg_ H79 rfl rfl rfl rfl) rfl (v := .bool false) (dd_eqp rfl (H79.ev 55 rfl) rfl Try.underlying30 rfl) fun _ H80 => wl_ <| p_ H80 rfl rfl fun _ H81 => ln_ <| nx <| cf_ H81 rfl <| wp_skip <| nx <| sq_ <| rl_ <| wl_ <| p_ H81 rfl rfl fun _ H82 => ?_
  clear H75 H76 H77 H78 H79 H80 H81
  refine wl_ <| d_ H82 rfl (R := fun v w9 => v = .tuple #[.agg (bs ((updB ([(3, blk 7#8)]) (fun _ => blk 0#8)) 3)), .int .i64 0] ∧ (((updB ([(3, blk 7#8)]) (fun _ => blk 0#8)) 3).length = 32) ∧ Below W74.heap.size W74 w9) (dc_ Try.func13 rfl (args2 (H82.ev 59 rfl) rfl) (lw_block 3 ((HZ57.move HS74).sel [] [0]) (HS74.row 0 rfl) hN24 (by decide)) (fun _ w9 h9 => ⟨_, h9.1, rfl, (lw_sec ((HZ57.move HS74).sel [] [0]) hN24 3 (by decide)), h9.2⟩)) ?_
  rintro _ W84 ⟨rfl, hbl85, hb84⟩ a84 H84
  have HS84 := HS74.same hb84
  clear H82
  clear HS74 hb84
  refine wl_ <| p_ H84 rfl rfl fun _ H86 => wl_ <| i_ H86 rfl (v := .agg (bs ((updB ([(3, blk 7#8)]) (fun _ => blk 0#8)) 3))) (dd_ext rfl (H86.ev 58 rfl) rfl) fun _ H87 => wl_ <| i_ H87 rfl (v := .int .i64 0) (dd_ext rfl (H87.ev 58 rfl) rfl) fun _ H88 => wl_ <| n_ H88 rfl (fun _ h => dd_new HS84 (bs (zer 32)) rfl (z := .agg (bs (zer 32))) (by kernel_rfl) rfl h) fun g12 _ HS89 _ H89 => wl_ <| t_ rfl (S := [⟨gn6, 59, #[.pointer (some ⟨gd3, 0, none⟩), .int .u32 (wd (doneLab lab0 (pkR (⟨1, 2#32, 5#32, [(3, blk 7#8)]⟩ : Pkt)) lab0.d).e), .int .u32 (wd (doneLab lab0 (pkR (⟨1, 2#32, 5#32, [(3, blk 7#8)]⟩ : Pkt)) lab0.d).s), .int .u32 (wd (doneLab lab0 (pkR (⟨1, 2#32, 5#32, [(3, blk 7#8)]⟩ : Pkt)) lab0.d).n), .int .u16 (hd (doneLab lab0 (pkR (⟨1, 2#32, 5#32, [(3, blk 7#8)]⟩ : Pkt)) lab0.d).d), .int .u16 (hd (doneLab lab0 (pkR (⟨1, 2#32, 5#32, [(3, blk 7#8)]⟩ : Pkt)) lab0.d).l)]⟩, ⟨gp52, 5, cbp52⟩, ⟨gp36, 5, cbp36⟩, ⟨gp21, 5, cbp21⟩, ⟨g21, 43, catA [[.int .i64 3], bytesV (blk 7#8)]⟩, ⟨g3, 29, #[.int .i64 1, .int .u32 2, .int .u32 4, .slice (some ⟨g21, 0, none⟩) 1 1]⟩, ⟨g4, 29, #[.int .i64 3, .int .u32 2, .int .u32 5, .slice none 0 0]⟩, ⟨g6, 29, #[.int .i64 3, .int .u32 2, .int .u32 5, .slice none 0 0]⟩, ⟨g8, 29, #[.int .i64 4, .int .u32 (wd (doneLab lab0 (pkR (⟨1, 2#32, 5#32, [(3, blk 7#8)]⟩ : Pkt)) lab0.d).e), .int .u32 4, .slice none 0 0]⟩, ⟨g10, 29, #[.int .i64 0, .int .u32 0, .int .u32 0, .slice none 0 0]⟩, ⟨g12, 37, bs ((updB ([(3, blk 7#8)]) (fun _ => blk 0#8)) 3)⟩]) (fun _ h => dd_setrow HS89 10 rfl rfl (H89.ev 12 rfl) (H89.ev 61 rfl) (by kernel_rfl) (((size_bs _).trans hbl85) : (bs ((updB ([(3, blk 7#8)]) (fun _ => blk 0#8)) 3)).size = 32) (((size_bs _).trans (length_zer 32)) : (bs (zer 32)).size = 32) (one_bs _) h) fun W90 HS90 => wl_ <| p_ H89 rfl rfl fun _ H91 => ln_ <| ?_
  clear H84 H86 H87 HS84 H88 HS89 H89
  have H92 := H91.sel [4, 5, 6, 7, 8, 9, 11, 12, 13] rfl
  refine nx <| sq_ <| ?_
  clear H91
  refine wr_ (HZ57.move HS90) [0, 4, 5, 6, 7, 8, 9, 10] [0, 4, 5, 6, 7, 8, 9, 10, 1, 2, 3] rfl rfl fun HXd94 hx93 => ?_
  obtain ⟨G95, HZ95, HS95⟩ := HXd94.anchor
  clear HXd94
  refine hp_ H92 0 hx93 rfl rfl rfl fun _ H96 => ht_ H96 1 hx93 rfl rfl (fun _ _ _ => dd_cmp rfl (H96.ev 63 rfl) rfl (eq_t (by decide))) fun _ H97 => hp_ H97 2 hx93 rfl rfl rfl fun _ H98 => htg H98 3 hx93 rfl (wg_ H98 rfl rfl rfl rfl) rfl (fun _ _ _ => dd_mv rfl (H98.ev 7 rfl)) fun _ H99 => htg H99 4 hx93 rfl (wg_ H99 rfl rfl rfl rfl) rfl (fun _ _ _ => dd_cmp rfl (H99.ev 66 rfl) rfl (eq_t (by decide))) fun _ H100 => hp_ H100 5 hx93 rfl rfl rfl fun _ H101 => hp_ H101 6 hx93 rfl rfl rfl fun _ H102 => htg H102 7 hx93 rfl (wg_ H102 rfl rfl rfl rfl) rfl (fun _ _ _ => dd_mv rfl (H102.ev 9 rfl)) fun _ H103 => ?_
  clear H92 H96 H97 H98 H99 H100 H101
  refine htg H103 8 hx93 rfl (wg_ H103 rfl rfl rfl rfl) rfl (fun _ _ _ => dd_cmp rfl (H103.ev 70 rfl) rfl (eq_t (by decide))) fun _ H104 => hp_ H104 9 hx93 rfl rfl rfl fun _ H105 => hp_ H105 10 hx93 rfl rfl rfl fun _ H106 => htg H106 11 hx93 rfl (wg_ H106 rfl rfl rfl rfl) rfl (fun _ _ _ => dd_mv rfl (H106.ev 11 rfl)) fun _ H107 => htg H107 12 hx93 rfl (wg_ H107 rfl rfl rfl rfl) rfl (fun _ _ _ => dd_cmp rfl (H107.ev 74 rfl) rfl (eq_t (by decide))) fun _ H108 => hp_ H108 13 hx93 rfl rfl rfl fun _ H109 => hp_ H109 14 hx93 rfl rfl rfl fun _ H110 => htg H110 15 hx93 rfl (wg_ H110 rfl rfl rfl rfl) rfl (fun _ _ _ => dd_mv rfl (H110.ev 13 rfl)) fun _ H111 => ?_
  clear H102 H103 H104 H105 H106 H107 H108 H109
  refine htg H111 16 hx93 rfl (wg_ H111 rfl rfl rfl rfl) rfl (fun _ _ _ => dd_cmp rfl (H111.ev 78 rfl) rfl (eq_t (by decide))) fun _ H112 => hp_ H112 17 hx93 rfl rfl rfl fun _ H113 => hp_ H113 18 hx93 rfl rfl rfl fun _ H114 => htg H114 19 hx93 rfl (wg_ H114 rfl rfl rfl rfl) rfl (fun _ _ _ => xf 0 0 rfl (H114.ev 4 rfl)) fun _ H115 => htg H115 20 hx93 rfl (wg_ H115 rfl rfl rfl rfl) rfl (fun _ _ HS9 => dd_get HS9 3 0 rfl rfl (H115.ev 82 rfl) rfl Try.underlying3 rfl) fun _ H116 => htg H116 21 hx93 rfl (wg_ H116 rfl rfl rfl rfl) rfl (fun _ _ _ => dd_cmp rfl (H116.ev 83 rfl) rfl (eq_t (by decide))) fun _ H117 => hp_ H117 22 hx93 rfl rfl rfl fun _ H118 => hp_ H118 23 hx93 rfl rfl rfl fun _ H119 => ?_
  clear H110 H111 H112 H113 H114 H115 H116 H117
  refine htg H119 24 hx93 rfl (wg_ H119 rfl rfl rfl rfl) rfl (fun _ _ _ => xf 2 2 rfl (H119.ev 4 rfl)) fun _ H120 => htg H120 25 hx93 rfl (wg_ H120 rfl rfl rfl rfl) rfl (fun _ _ HS9 => dd_get HS9 3 2 rfl rfl (H120.ev 87 rfl) rfl Try.underlying26 rfl) fun _ H121 => htg H121 26 hx93 rfl (wg_ H121 rfl rfl rfl rfl) rfl (fun _ _ _ => dd_cmp rfl (H121.ev 88 rfl) rfl (eq_t (by decide))) fun _ H122 => hp_ H122 27 hx93 rfl rfl rfl fun _ H123 => hp_ H123 28 hx93 rfl rfl rfl fun _ H124 => htg H124 29 hx93 rfl (wg_ H124 rfl rfl rfl rfl) rfl (fun _ _ _ => xf 0 0 rfl (H124.ev 6 rfl)) fun _ H125 => htg H125 30 hx93 rfl (wg_ H125 rfl rfl rfl rfl) rfl (fun _ _ HS9 => dd_get HS9 4 0 rfl rfl (H125.ev 92 rfl) rfl Try.underlying3 rfl) fun _ H126 => htg H126 31 hx93 rfl (wg_ H126 rfl rfl rfl rfl) rfl (fun _ _ _ => dd_cmp rfl (H126.ev 93 rfl) rfl (eq_t (by decide))) fun _ H127 => ?_
  clear H118 H119 H120 H121 H122 H123 H124 H125
  refine hp_ H127 32 hx93 rfl rfl rfl fun _ H128 => hp_ H128 33 hx93 rfl rfl rfl fun _ H129 => htg H129 34 hx93 rfl (wg_ H129 rfl rfl rfl rfl) rfl (fun _ _ _ => xf 0 0 rfl (H129.ev 8 rfl)) fun _ H130 => htg H130 35 hx93 rfl (wg_ H130 rfl rfl rfl rfl) rfl (fun _ _ HS9 => dd_get HS9 5 0 rfl rfl (H130.ev 97 rfl) rfl Try.underlying3 rfl) fun _ H131 => htg H131 36 hx93 rfl (wg_ H131 rfl rfl rfl rfl) rfl (fun _ _ _ => dd_cmp rfl (H131.ev 98 rfl) rfl (eq_t (by decide))) fun _ H132 => hp_ H132 37 hx93 rfl rfl rfl fun _ H133 => hp_ H133 38 hx93 rfl rfl rfl fun _ H134 => htg H134 39 hx93 rfl (wg_ H134 rfl rfl rfl rfl) rfl (fun _ _ _ => xf 2 2 rfl (H134.ev 8 rfl)) fun _ H135 => ?_
  clear H126 H127 H128 H129 H130 H131 H132 H133
  refine htg H135 40 hx93 rfl (wg_ H135 rfl rfl rfl rfl) rfl (fun _ _ HS9 => dd_get HS9 5 2 rfl rfl (H135.ev 102 rfl) rfl Try.underlying26 rfl) fun _ H136 => htg H136 41 hx93 rfl (wg_ H136 rfl rfl rfl rfl) rfl (fun _ _ _ => dd_cmp rfl (H136.ev 103 rfl) rfl (eq_t (by decide))) fun _ H137 => hp_ H137 42 hx93 rfl rfl rfl fun _ H138 => hp_ H138 43 hx93 rfl rfl rfl fun _ H139 => htg H139 44 hx93 rfl (wg_ H139 rfl rfl rfl rfl) rfl (fun _ _ _ => xf 1 1 rfl (H139.ev 8 rfl)) fun _ H140 => htg H140 45 hx93 rfl (wg_ H140 rfl rfl rfl rfl) rfl (fun _ _ HS9 => dd_get HS9 5 1 rfl rfl (H140.ev 107 rfl) rfl Try.underlying26 rfl) fun _ H141 => htg H141 46 hx93 rfl (wg_ H141 rfl rfl rfl rfl) rfl (fun _ _ _ => dd_cmp rfl (H141.ev 108 rfl) rfl (eq_t (by decide))) fun _ H142 => hp_ H142 47 hx93 rfl rfl rfl fun _ H143 => ?_
  clear H134 H135 H136 H137 H138 H139 H140 H141
  refine hp_ H143 48 hx93 rfl rfl rfl fun _ H144 => htg H144 49 hx93 rfl (wg_ H144 rfl rfl rfl rfl) rfl (v := .agg (bs ((updB ([(3, blk 7#8)]) (fun _ => blk 0#8)) 3))) (fun _ _ HS9 => dd_load HS9 7 0 rfl rfl (H144.ev 12 rfl) (slab_whole _) Try.underlying37 rfl (by rw [show (bs ((updB ([(3, blk 7#8)]) (fun _ => blk 0#8)) 3)).size = 32 from ((size_bs _).trans hbl85)]; kernel_rfl)) fun _ H145 => h1_ 50 rfl <| cg H145 (wg_ H145 rfl rfl rfl rfl) rfl HS95 (v := .agg (bs (blk 7#8))) (dc_ Try.func15 rfl (args1 rfl) (nfill7 W90.drew) (fun _ w9 h9 => ⟨_, h9.1, rfl, h9.2⟩)) fun _ HS146 _ H146 => sx_ (sxi (HZ95.move HS146).st [0, 4, 5, 6, 7, 8, 9, 10, 1, 2, 3] rfl) fun hx147 => htg H146 51 hx147 rfl (wg_ H146 rfl rfl rfl rfl) rfl (v := .bool true) (fun _ _ _ => dd_eqa (b := true) rfl (H146.ev 112 rfl) (H146.ev 113 rfl) (by kernel_rfl) (fun w => by have h9 := eql_blk ((updB ([(3, blk 7#8)]) (fun _ => blk 0#8)) 3) (blk 7#8) hbl85 (length_blk _) w; rw [decide_eq_true wn_b] at h9; exact h9)) fun _ H148 => hp_ H148 52 hx147 rfl rfl rfl fun _ H149 => hp_ H149 53 hx147 rfl rfl rfl fun _ H150 => ?_
  clear H142 H143 H144 H145 HS95 hx93 H146 H148 H149
  refine wpAnyH_done (by kernel_rfl) ?_ _
  clear hx147
  refine nx <| wp_ret <| ret_run H150.env0 (res_t Try.results6 (H150.get 0 rfl)) <| ?_
  exact ⟨rfl, (HZ95.bel HS146)⟩
end Go.Proofs.Ytbdpocbnkgckhaa

/- The statement TakerNone: its walk. -/
set_option maxRecDepth 4000
namespace Go.Proofs.Ytbdpocbnkgckhaa
open Go Go.RowKit
attribute [local irreducible] blk zer spl
variable (D : DiskOps) (O : WalOps D)
end Go.Proofs.Ytbdpocbnkgckhaa

/- The statement NodeNone: its walk. -/
set_option maxRecDepth 4000
namespace Go.Proofs.Ytbdpocbnkgckhaa
open Go Go.RowKit
attribute [local irreducible] blk zer spl
variable (D : DiskOps) (O : WalOps D)
end Go.Proofs.Ytbdpocbnkgckhaa

/- Labels as they lie in memory, as an argument: opened. -/
set_option maxRecDepth 4000
namespace Go.Proofs.Ytbdpocbnkgckhaa
open Go Go.ChangeShapes Go.WideShapes Go.ChangeAt Go.RowKit
structure LabsAt (w : World) (A : Option Addr) (n : Nat) (X : List Lab) : Prop where
  len : X.length = n
  at_ : 0 < n → ∃ b o, A = some ⟨b, o, none⟩ ∧ b < w.heap.size ∧ ∀ (k : Nat) (L : Lab), X[k]? = some L → w.rangeAt b (o + k * 5) (labCells L).toList
theorem LabsAt.call {w w' : World} {A : Option Addr} {n : Nat} {X : List Lab} (h : LabsAt w A n X) (hb : Below w.heap.size w w') : LabsAt w' A n X :=
  ⟨h.len, fun hn => by
    obtain ⟨b, o, h1, h2, h3⟩ := h.at_ hn
    exact ⟨b, o, h1, Nat.lt_of_lt_of_le h2 hb.size, fun k L hk j v hv => (hb.cell (p := ⟨b, o + k * 5 + j, none⟩) h2).trans (h3 k L hk j v hv)⟩⟩
theorem LabsAt.cells {w : World} {b o n : Nat} {X : List Lab} (h : LabsAt w (some ⟨b, o, none⟩) n X) {k : Nat} {L : Lab} (hk : X[k]? = some L) : w.rangeAt b (o + k * 5) (labCells L).toList := by
  have h0 := (List.getElem?_eq_some_iff.1 hk).1
  have hl := h.len
  obtain ⟨b', o', e, _, h3⟩ := h.at_ (by omega)
  injection e with e; injection e with e1 e2; subst e1 e2
  exact h3 k L hk
end Go.Proofs.Ytbdpocbnkgckhaa

/- The statement NodeKeeps: its walk. -/
set_option maxRecDepth 4000
namespace Go.Proofs.Ytbdpocbnkgckhaa
open Go Go.RowKit
theorem pc_c0 {w : World} {b o : Nat} {x : Int × List (BitVec 8)} (h : w.rangeAt b o (catA [[.int .i64 x.1], bytesV x.2]).toList) : w.cell? ⟨b, o, none⟩ = some (.int .i64 x.1) := h 0 _ (by unfold catA; simp)
theorem pc_c1 {w : World} {b o : Nat} {x : Int × List (BitVec 8)} (h : w.rangeAt b o (catA [[.int .i64 x.1], bytesV x.2]).toList) : w.rangeAt b (o + 1) (bytesV x.2) := fun j v hv => by
  have := h (1 + j) v (by unfold catA; simp [Nat.add_comm 1 j]; exact hv)
  rwa [← Nat.add_assoc] at this
attribute [local irreducible] blk zer spl updB
variable (D : DiskOps) (O : WalOps D)
end Go.Proofs.Ytbdpocbnkgckhaa

/- Records, and lists of puts, as they lie in memory, as an argument: opened; twelve blocks as one row. No function of the program is named here. -/
set_option maxRecDepth 4000
namespace Go.Proofs.Ytbdpocbnkgckhaa
open Go Go.ChangeShapes Go.WideShapes Go.ChangeAt Go.RowKit
theorem range_stay {w w' : World} {b o : Nat} {l : List Value} (h : w.rangeAt b o l) (hb : b < w.heap.size) (k : Below w.heap.size w w') : w'.rangeAt b o l := fun j v hv => (k.cell (p := ⟨b, o + j, none⟩) hb).trans (h j v hv)
/- twelve blocks in one row -/
def cat12 (B : Bks) : List (BitVec 8) := (List.range 12).flatMap B
theorem flat12_len (B : Bks) (h : ∀ i : Nat, i < 12 → (B i).length = 32) : ∀ n, n ≤ 12 → ((List.range n).flatMap B).length = n * 32
  | 0, _ => rfl
  | n + 1, hn => by
    rw [List.range_succ, List.flatMap_append, List.length_append, flat12_len B h n (by omega), List.flatMap_singleton, h n (by omega)]; omega
theorem cat12_len {B : Bks} (h : ∀ i : Nat, i < 12 → (B i).length = 32) : (cat12 B).length = 384 := flat12_len B h 12 (by decide)
theorem cat12_split {B : Bks} (i : Nat) (hi : i < 12) : cat12 B = (List.range i).flatMap B ++ (B i ++ ((List.range 12).drop (i + 1)).flatMap B) := by
  unfold cat12
  conv => lhs; rw [← List.take_append_drop i (List.range 12), List.drop_eq_getElem_cons (by rw [List.length_range]; exact hi)]
  rw [List.flatMap_append, List.flatMap_cons, List.getElem_range, List.take_range, Nat.min_eq_left (by omega)]
theorem cat12_get {B : Bks} (h : ∀ i : Nat, i < 12 → (B i).length = 32) {i : Nat} (hi : i < 12) : ((cat12 B).drop (i * 32)).take 32 = B i := by
  rw [cat12_split i hi, ← flat12_len B h i (by omega), List.drop_left, ← h i hi, List.take_left]
theorem flat12_congr {B C : Bks} {l : List Nat} (h : ∀ i ∈ l, B i = C i) : l.flatMap B = l.flatMap C := by
  induction l with
  | nil => rfl
  | cons a l ih => rw [List.flatMap_cons, List.flatMap_cons, h a (List.mem_cons_self ..), ih fun i hi => h i (List.mem_cons_of_mem _ hi)]
theorem cat12_set {B : Bks} (h : ∀ i : Nat, i < 12 → (B i).length = 32) {i : Nat} (hi : i < 12) {d : List (BitVec 8)} (hd : d.length = 32) : spl (cat12 B) (i * 32) d = cat12 (fun j => if j = i then d else B j) := by
  have e1 := cat12_split (B := B) i hi
  have e2 := cat12_split (B := fun j => if j = i then d else B j) i hi
  have f1 : (List.range i).flatMap (fun j => if j = i then d else B j) = (List.range i).flatMap B := flat12_congr fun j hj => if_neg (by have := List.mem_range.1 hj; omega)
  have f2 : ((List.range 12).drop (i + 1)).flatMap (fun j => if j = i then d else B j) = ((List.range 12).drop (i + 1)).flatMap B := flat12_congr fun j hj => if_neg (by
    obtain ⟨k, hk⟩ := List.getElem?_of_mem hj
    rw [List.getElem?_drop] at hk
    obtain ⟨h1, h2⟩ := List.getElem?_eq_some_iff.1 hk
    rw [List.getElem_range] at h2
    omega)
  rw [f1, f2] at e2
  simp only [if_true] at e2
  have hl := flat12_len B h i (by omega)
  rw [e2, e1]
  unfold spl
  rw [← hl, List.take_left, List.append_assoc, show ((List.range i).flatMap B).length + d.length = ((List.range i).flatMap B).length + (B i).length by rw [hd, h i hi], List.drop_append, List.drop_append]
  simp
theorem updB_S {l : List (Int × List (BitVec 8))} {B : Bks} {k : Nat} {x : Int × List (BitVec 8)} (hx : l[k]? = some x) (h0 : 0 ≤ x.1) : updB (l.take (k + 1)) B = fun j => if j = x.1.toNat then x.2 else updB (l.take k) B j := by
  obtain ⟨h1, h2⟩ := List.getElem?_eq_some_iff.1 hx
  rw [List.take_succ_eq_append_getElem h1, h2]
  unfold updB
  rw [List.foldl_append]
  funext j
  show (if (j : Int) = x.1 then x.2 else _) = _
  by_cases e : (j : Int) = x.1
  · rw [if_pos e, if_pos (by omega)]
  · rw [if_neg e, if_neg (by omega)]
theorem updB_len {B : Bks} (h : ∀ i : Nat, i < 12 → (B i).length = 32) : ∀ (l : List (Int × List (BitVec 8))), (∀ x ∈ l, x.2.length = 32) → ∀ i : Nat, i < 12 → (updB l B i).length = 32 := fun l => by
  induction l generalizing B with
  | nil => exact fun _ => h
  | cons x l ih =>
    intro hl
    refine ih (B := fun j => if (j : Int) = x.1 then x.2 else B j) (fun i hi => ?_) fun y hy => hl y (List.mem_cons_of_mem _ hy)
    show (if (i : Int) = x.1 then x.2 else B i).length = 32
    split
    · exact hl x (List.mem_cons_self ..)
    · exact h i hi
end Go.Proofs.Ytbdpocbnkgckhaa

/- The statement NodeBlocks: its walk. -/
set_option maxRecDepth 4000
namespace Go.Proofs.Ytbdpocbnkgckhaa
open Go Go.RowKit
theorem updB_0 (l : List (Int × List (BitVec 8))) (B : Bks) : cat12 B = cat12 (updB (l.take 0) B) := rfl
theorem wd_ofn (n : Nat) : IntKind.u32.wrap (((n + 1 : Nat) : Int)) = wd (BitVec.ofNat 32 (n + 1)) := by
  show _ = ((BitVec.ofNat 32 (n + 1)).toNat : Int)
  rw [BitVec.toNat_ofNat, IntKind.wrap_u32]; omega
theorem spl_blkN (q d : List (BitVec 8)) (i : Nat) : (spl (bs q).toList i (Value.agg (bs d)).cells.toList).toArray = bs (spl q i d) := by
  show (spl (bs q).toList i (bs d).toList).toArray = _
  rw [bs_toList]; exact spl_bs q d i
attribute [local irreducible] blk zer spl updB cat12
variable (D : DiskOps) (O : WalOps D)
end Go.Proofs.Ytbdpocbnkgckhaa

/- The statement NodeStale: its walk. -/
set_option maxRecDepth 4000
namespace Go.Proofs.Ytbdpocbnkgckhaa
open Go Go.RowKit
attribute [local irreducible] blk zer spl updB
variable (D : DiskOps) (O : WalOps D)
end Go.Proofs.Ytbdpocbnkgckhaa

/- The statement TakerLasts: its walk. -/
set_option maxRecDepth 4000
namespace Go.Proofs.Ytbdpocbnkgckhaa
open Go Go.RowKit
theorem tk_may {k : Int} {e s : BitVec 32} {l : List Pt} (hk : k = 1 ∨ k = 2) (h : goodB (l.map (·.1)) = true) : mayP ⟨k, e, s, l⟩ = true := by unfold mayP; rw [if_pos hk]; exact h
attribute [local irreducible] blk zer spl updB
variable (D : DiskOps) (O : WalOps D)
end Go.Proofs.Ytbdpocbnkgckhaa

/- Packets as they lie in memory, as an argument: opened. -/
set_option maxRecDepth 4000
namespace Go.Proofs.Ytbdpocbnkgckhaa
open Go Go.ChangeShapes Go.WideShapes Go.ChangeAt Go.RowKit
structure PktsAt (w : World) (A : Option Addr) (n : Nat) (X : List Pkt) : Prop where
  len : X.length = n
  at_ : 0 < n → ∃ b o, A = some ⟨b, o, none⟩ ∧ b < w.heap.size ∧ ∀ (k : Nat) (p : Pkt), X[k]? = some p → ∃ A' c', w.rangeAt b (o + k * 4) [.int .i64 p.k, .int .u32 (wd p.e), .int .u32 (wd p.s), .slice A' p.l.length c'] ∧ PutsAt w (.slice A' p.l.length c') p.l ∧ p.l.length ≤ maxLen
theorem cellsPk9 : Try.prog.cellsOf 29 = 4 := by kernel_rfl
theorem open_pkts9 {H : Type} {enc : TypeId × Value → H} {W : World} {r : Reach} {base : Nat} {v : Value} {d : DataW H} {ps : List MemPlace} (hval : Value.okWide Try.prog W r base 22 v)
    (h : DataW.Trod enc Try.prog W 0 (fun _ => true) true 22 v d ps) (hlt : ∀ x ∈ ps, x.block < W.heap.size) : ∃ A n c X, v = .slice A n c ∧ PktsAt W A n X ∧ n ≤ maxLen := by
  obtain ⟨A, c, l, e, hx⟩ := open_argSl Try.underlying22 (opens_sl Try.underlying22 cellsPk9 (by decide) opens_pk18) hval h hlt
  obtain ⟨A', c', h1, h2, h3, hml, h5⟩ := hx
  have h1 : Value.slice A l.length c = .slice A' l.length c' := by simpa using h1
  injection h1 with e1 e2 e3
  subst e1 e3
  refine ⟨A, l.length, c, l.map fun x => ⟨x.1, x.2.1, x.2.2.1, x.2.2.2.1⟩, e, ⟨List.length_map _, fun hn => ?_⟩, hml⟩
  obtain ⟨b, o, h6, h7, h8⟩ := h5 (by intro e; rw [e] at hn; exact absurd hn (by decide))
  refine ⟨b, o, h6, h7, fun k p hk => ?_⟩
  rw [List.getElem?_map] at hk
  obtain ⟨⟨pk, e, s, lp, ⟨⟩⟩, hx, rfl⟩ := Option.map_eq_some_iff.1 hk
  obtain ⟨ds, _, h9, h10⟩ := h8 k _ hx
  obtain ⟨a0, b0, e0, _, ⟨rfl, _⟩, a1, b1, rfl, _, k1, a2, b2, rfl, _, k2, a3, b3, rfl, _, k3, k4⟩ := h10
  have k1 : a1 = [.int .u32 (wd e)] := k1
  have k2 : a2 = [.int .u32 (wd s)] := k2
  have k4 : b3 = [] := k4
  subst k1 k2 k4
  obtain ⟨A2, c2, rfl, _, _, hm, _⟩ := id k3
  refine ⟨A2, c2, ?_, puts_at k3, hm⟩
  rw [e0] at h9
  exact h9
end Go.Proofs.Ytbdpocbnkgckhaa
