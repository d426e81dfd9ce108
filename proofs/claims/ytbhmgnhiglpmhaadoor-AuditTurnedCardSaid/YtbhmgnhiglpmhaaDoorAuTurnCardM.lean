/- AuditTurned, as its tied card: for everything that was said and every two bytes the call returns true and changes nothing that it was handed. Conditions: those of the row (the table lies as the program's text lays it, which the card ties to the pruned copy). -/
import Derived.Test.YtbhmgnhiglpmhaaDoorMAw1
import Derived.Test.YtbhmgnhiglpmhaaDoorMGen0
import Derived.Test.YtbhmgnhiglpmhaaDoorMGen1
/- The statement AuditTurned: its walk. -/
set_option maxRecDepth 4000
namespace Go.Proofs.YtbhmgnhiglpmhaaDoor
open Go Go.RowKit
set_option maxHeartbeats 3200000 in
theorem auturn_pos (b o n c : Nat) (l : List Sd) (zz : List (BitVec 8)) (hzz : zz.length = 2) (w : World) (hT : Tab w) (h0 : SaidsAt w (.slice (some ⟨b, o, none⟩) n c) l) (hm : n ≤ maxLen) (h0n : 0 < n) : Calls Tryd.prog 5 #[.slice (some ⟨b, o, none⟩) n c, .agg (bs zz)] w fun x w' => x = .returned (.bool true) ∧ Below w.heap.size w w' := by
  unfold maxLen at hm
  have hln := saids_len h0
  have HS := St.nil w noF
  have HT : ∀ W, Below w.heap.size w W → Tab W := fun W hb => hT.below hb hT.pos
  refine enter_en Tryd.func5 rfl Tryd.ntmps5 (Nat.le_of_ble_eq_true rfl) fun a0 (HA0 : En 171 [(0, .slice (some ⟨b, o, none⟩) n c), (1, .agg (bs zz))] a0) => ?_
  refine sq_ <| rl_ <| wl_ <| n_ HA0 rfl (fun _ h => dd_box HS rfl (HA0.ev 1 rfl) (cs := (bs zz)) rfl h) fun g3 W1 HS1 _ H1 => wl_ <| p_ H1 rfl rfl fun _ H2 => ln_ <| nx <| sq_ <| sq_ <| rl_ <| wl_ <| p_ H2 rfl rfl fun _ H3 => ?_
  clear HS HA0 H1 H2
  cases hb5 : fairD l
  ·
   refine wl_ <| c_ H3 rfl HS1 (v := .bool false) (dc_ Tryd.func9 rfl (args1 (H3.ev 13 rfl)) (aufair_any _ _ _ l W1 (h0.below HS1.below (Nat.le_refl _)) hm) (fun _ w9 h9 => ⟨_, h9.1, by rw [hb5], h9.2⟩)) fun W6 HS6 _ H6 => wl_ <| i_ H6 rfl (v := .bool true) (dd_nt rfl (H6.ev 14 rfl) rfl) fun _ H7 => wl_ <| p_ H7 rfl rfl fun _ H8 => wl_ <| k_ H8 (wg_ H8 rfl rfl rfl rfl) rfl fun a9 H9 => wl_ <| k_ H9 (wg_ H9 rfl rfl rfl rfl) rfl fun _ H10 => wl_ <| k_ H10 (wg_ H10 rfl rfl rfl rfl) rfl fun _ H11 => wl_ <| p_ H11 rfl rfl fun _ H12 => ln_ <| nx <| ct_ H12 rfl <| sq_ <| rl_ <| wl_ <| c_ H12 rfl HS6 (dcs Tryd.func10 rfl (args0 ) (auwakes_any W6 (HT _ HS6.below)) (.bool true)) fun _ HS13 _ H13 => ?_
   clear H3 HS1 H6 H7 H8 H9 H10 H11
   refine wl_ <| p_ H13 rfl rfl fun _ H14 => ln_ <| nx <| wp_ret <| tr <| ret_run H14.env0 (res_t Tryd.results5 (H14.get 4 rfl)) <| ?_
   clear H12 HS6 H13
   exact ⟨rfl, HS13.below⟩
  obtain ⟨hfl, hn30⟩ := fair_of hb5
  rw [hln] at hn30
  refine wl_ <| c_ H3 rfl HS1 (v := .bool true) (dc_ Tryd.func9 rfl (args1 (H3.ev 13 rfl)) (aufair_any _ _ _ l W1 (h0.below HS1.below (Nat.le_refl _)) hm) (fun _ w9 h9 => ⟨_, h9.1, by rw [hb5], h9.2⟩)) fun _ HS15 _ H15 => wl_ <| i_ H15 rfl (v := .bool false) (dd_nt rfl (H15.ev 14 rfl) rfl) fun _ H16 => wl_ <| p_ H16 rfl rfl fun _ H17 => wl_ <| ig H17 (wg_ H17 rfl rfl rfl rfl) rfl (dd_mv rfl (H17.ev 0 rfl)) fun _ H18 => wl_ <| ig H18 (wg_ H18 rfl rfl rfl rfl) rfl (v := .int .i64 n) (dd_len rfl (H18.ev 17 rfl) Tryd.underlying22) fun _ H19 => wl_ <| ig H19 (wg_ H19 rfl rfl rfl rfl) rfl (dd_cmp rfl (H19.ev 18 rfl) rfl (eq_f (by omega))) fun _ H20 => wl_ <| p_ H20 rfl rfl fun _ H21 => ln_ <| nx <| cf_ H21 rfl <| wp_skip <| nx <| sq_ <| rl_ <| wl_ <| i_ H21 rfl (v := .agg #[.slice none 0 0]) (dd_bld rfl (ps := []) (pr0) (Lz := [[.slice none 0 0]]) (by kernel_rfl) (lens_cons rfl (lens_nil)) (fit_nil) (cs := #[.slice none 0 0]) rfl) fun _ H22 => ?_
  clear H3 HS1 H15 H16 H17 H18 H19 H20
  refine wl_ <| n_ H22 rfl (fun _ h => dd_box HS15 rfl (H22.ev 22 rfl) (cs := #[.slice none 0 0]) rfl h) fun g23 _ HS23 _ H23 => wl_ <| p_ H23 rfl rfl fun _ H24 => ln_ <| nx <| sq_ <| sq_ <| rl_ <| wl_ <| p_ H24 rfl rfl fun _ H25 => ln_ <| nx <| wp_block <| ?_
  clear H21 HS15 H22 H23 H24
  refine wp_loop1 (ι := Nat) (fun K a9 w9 => ∃ X : List Ae, ∃ gA : Nat, ∃ cA : Nat, ∃ cbA : Array Value, (K + 1 ≤ n) ∧ (X.length = K + 1) ∧ (wfA X) ∧ (∀ j, j < X.length → goodAt X j = true) ∧ (bdA X) ∧ (OwnC cbA cA (K + 1) 66 (entsL X)) ∧ En 171 [(6, .int .i64 (K + 1)), (5, .pointer (some ⟨g23, 0, none⟩)), (3, .pointer (some ⟨g3, 0, none⟩)), (0, .slice (some ⟨b, o, none⟩) n c)] a9 ∧ St w noF [⟨g3, 56, bs zz⟩, ⟨g23, 30, #[.slice (some ⟨gA, 0, none⟩) (K + 1) cA]⟩, ⟨gA, 59, cbA⟩] w9) (fun K => n - (K + 1)) (0) ?_ ?_
  ·
   refine sq_ <| sq_ <| rl_ <| q_ H25 2 rfl fun _ H27 => wl_ <| i_ H27 rfl (v := .int .i64 n) (dd_len rfl (H27.ev 25 rfl) Tryd.underlying22) fun _ H28 => wl_ <| i_ H28 rfl (dd_cmp rfl (H28.ev 24 rfl) (H28.ev 26 rfl) (lt_t (by omega))) fun _ H29 => ln_ <| nx <| ct_ H29 rfl <| wp_skip <| nx <| sq_ <| wp_block <| sq_ <| rl_ <| q_ H29 2 rfl fun _ H30 => wl_ <| i_ H30 rfl (xSo 4 (o + 0 * 4) rfl (H30.ev 30 rfl) (H30.ev 31 rfl)) fun _ H31 => ?_
   clear H25 H27 H28 H29 H30
   obtain ⟨q0, i0, e0, d0, A10, c10, A20, c20, hg0, hc0, i10, i20, bi0, bj0, be0, bf0⟩ := saids_getB h0 (k := 0) (by omega)
   have hfa0 : q0.length ≤ 300 ∧ d0.length ≤ 600 := hfl _ (List.mem_of_getElem? hg0)
   refine wl_ <| i_ H31 rfl (v := .agg #[.slice A10 q0.length c10, .int .i64 i0, .int .i64 e0, .slice A20 d0.length c20]) (dd_atN rfl (H31.ev 32 rfl) (hc0.call HS23.below).at_ Tryd.underlying40 rfl (by kernel_rfl)) fun _ H32 => wl_ <| n_ H32 rfl (fun _ h => dd_new HS23 #[.slice none 0 0, .int .i64 0, .int .i64 0, .slice none 0 0] rfl (z := .agg #[.slice none 0 0, .int .i64 0, .int .i64 0, .slice none 0 0]) (by kernel_rfl) rfl h) fun g7 _ HS33 _ H33 => wl_ <| t_ rfl (fun _ h => dd_setrow HS33 2 rfl rfl (H33.ev 7 rfl) (H33.ev 33 rfl) (by kernel_rfl) (rfl : #[.slice A10 q0.length c10, .int .i64 i0, .int .i64 e0, .slice A20 d0.length c20].size = 4) (rfl : #[.slice none 0 0, .int .i64 0, .int .i64 0, .slice none 0 0].size = 4) (one_l (ao_cons rfl (ao_cons rfl (ao_cons rfl (ao_cons rfl ao_nil))))) h) fun W34 HS34 => ln_ <| ?_
   clear H31 HS23 H32 HS33
   have H35 := H33.sel [0, 3, 5, 6, 7] rfl
   refine nx <| sq_ <| ?_
   clear H33
   refine wp_cut (fun a9 w9 => En 171 [(7, .pointer (some ⟨g7, 0, none⟩)), (6, .int .i64 0), (5, .pointer (some ⟨g23, 0, none⟩)), (3, .pointer (some ⟨g3, 0, none⟩)), (0, .slice (some ⟨b, o, none⟩) n c)] a9 ∧ St w noF [⟨g3, 56, bs zz⟩, ⟨g23, 30, #[.slice none 0 0]⟩, ⟨g7, 40, #[.slice A10 q0.length c10, .int .i64 (modK i0 1000), .int .i64 (modK e0 256), .slice A20 d0.length c20]⟩] w9) ?_ ?_
   ·
    refine wi_ HS34 [0, 1] rfl [0, 1, 2] rfl fun HSh36 hx36 => ht_ H35 0 hx36 rfl rfl (fun _ _ _ => xf 1 1 rfl (H35.ev 7 rfl)) fun _ H37 => ht_ H37 1 hx36 rfl rfl (fun _ _ _ => xf 0 1 rfl (H37.ev 34 rfl)) fun _ H38 => ht_ H38 4 hx36 rfl rfl (fun _ _ _ => xf 1 1 rfl (H38.ev 7 rfl)) fun _ H39 => ht_ H39 5 hx36 rfl rfl (fun _ _ _ => xf 1 2 rfl (H39.ev 38 rfl)) fun _ H40 => ?_
    clear HS34 H35 H37 H38 H39
    refine wpAnyH_all (rs := [2, 6]) (by kernel_rfl) (by decide) (hm_cons ?_ (hm_cons ?_ hm_nil))
    ·
     refine ho_ rfl <| i_ H40 rfl (dd_get HSh36 2 1 rfl rfl (H40.ev 35 rfl) rfl Tryd.underlying3 rfl) fun _ H41 => sx_ (sxi HSh36 [0, 1, 2] rfl) fun _ => ?_
     clear H40
     refine wpAnyH_all (rs := [3, 6]) (by kernel_rfl) (by decide) (hm_cons ?_ (hm_cons ?_ hm_nil))
     ·
      refine ho_ rfl <| ic H41 rfl (v := .int .i64 (modK i0 1000)) (dc_ Tryd.func23 rfl (args2 (H41.ev 36 rfl) rfl) (mod_at i0 _ 1000 W34.drew rfl (by decide) (by decide)) (fun _ w9 h9 => ⟨_, h9.1, rfl, h9.2.symm⟩)) fun _ H43 => sx_ (sxi HSh36 [0, 1, 2] rfl) fun hx44 => h1_ 6 rfl <| i_ H43 rfl (dd_get HSh36 2 2 rfl rfl (H43.ev 39 rfl) rfl Tryd.underlying36 rfl) fun _ H45 => sx_ (sxi HSh36 [0, 1, 2] rfl) fun hx46 => ht_ H45 8 hx46 rfl rfl (fun _ _ _ => xf 1 1 rfl (H45.ev 7 rfl)) fun _ H47 => ht_ H47 9 hx46 rfl rfl (fun _ _ _ => xf 0 1 rfl (H47.ev 42 rfl)) fun _ H48 => h1_ 7 rfl <| ic H48 rfl (v := .int .i64 (modK e0 256)) (dc_ Tryd.func23 rfl (args2 (H48.ev 40 rfl) rfl) (mod_at e0 _ 256 W34.drew rfl (by decide) (by decide)) (fun _ w9 h9 => ⟨_, h9.1, rfl, h9.2.symm⟩)) fun _ H49 => sx_ (sxi HSh36 [0, 1, 2] rfl) fun hx50 => ?_
      clear H41 H43 hx44 H45 H47 H48
      refine h1_ 10 rfl <| t_ rfl (S := [⟨g3, 56, bs zz⟩, ⟨g23, 30, #[.slice none 0 0]⟩, ⟨g7, 40, #[.slice A10 q0.length c10, .int .i64 (modK i0 1000), .int .i64 e0, .slice A20 d0.length c20]⟩]) (fun _ h => dd_put (cs := #[.slice A10 q0.length c10, .int .i64 (modK i0 1000), .int .i64 e0, .slice A20 d0.length c20]) HSh36 2 1 rfl rfl (H49.ev 43 rfl) (H49.ev 37 rfl) (by kernel_rfl) rfl rfl rfl rfl h) fun _ HS51 => sx_ (sxi HS51 [0, 1, 2] rfl) fun hx52 => ht_ H49 11 hx52 rfl rfl (fun _ _ _ => xf 1 1 rfl (H49.ev 7 rfl)) fun _ H53 => ht_ H53 12 hx52 rfl rfl (fun _ _ _ => xf 1 2 rfl (H53.ev 44 rfl)) fun _ H54 => h1_ 13 rfl <| t_ rfl (fun _ h => dd_put (cs := #[.slice A10 q0.length c10, .int .i64 (modK i0 1000), .int .i64 (modK e0 256), .slice A20 d0.length c20]) HS51 2 2 rfl rfl (H54.ev 45 rfl) (H54.ev 41 rfl) (by kernel_rfl) rfl rfl rfl rfl h) fun _ HS55 => sx_ (sxi HS55 [0, 1, 2] rfl) fun hx56 => ?_
      clear hx46 HSh36 hx50 H49 H53 HS51 hx52
      refine wpAnyH_done (by kernel_rfl) ?_ _
      clear hx56
      exact nx ⟨H54.sel [0, 3, 5, 6, 7] rfl, ss HS55 [0, 1, 2]⟩
     refine ho_ rfl <| i_ H41 rfl (dd_get HSh36 2 2 rfl rfl (H41.ev 39 rfl) rfl Tryd.underlying36 rfl) fun _ H57 => sx_ (sxi HSh36 [0, 1, 2] rfl) fun hx58 => h1_ 3 rfl <| ic H57 rfl (v := .int .i64 (modK i0 1000)) (dc_ Tryd.func23 rfl (args2 (H57.ev 36 rfl) rfl) (mod_at i0 _ 1000 W34.drew rfl (by decide) (by decide)) (fun _ w9 h9 => ⟨_, h9.1, rfl, h9.2.symm⟩)) fun _ H59 => sx_ (sxi HSh36 [0, 1, 2] rfl) fun hx60 => ht_ H59 8 hx60 rfl rfl (fun _ _ _ => xf 1 1 rfl (H59.ev 7 rfl)) fun _ H61 => ht_ H61 9 hx60 rfl rfl (fun _ _ _ => xf 0 1 rfl (H61.ev 42 rfl)) fun _ H62 => h1_ 7 rfl <| ic H62 rfl (v := .int .i64 (modK e0 256)) (dc_ Tryd.func23 rfl (args2 (H62.ev 40 rfl) rfl) (mod_at e0 _ 256 W34.drew rfl (by decide) (by decide)) (fun _ w9 h9 => ⟨_, h9.1, rfl, h9.2.symm⟩)) fun _ H63 => sx_ (sxi HSh36 [0, 1, 2] rfl) fun hx64 => ?_
     clear H41 H57 hx58 H59 H61 H62
     refine h1_ 10 rfl <| t_ rfl (S := [⟨g3, 56, bs zz⟩, ⟨g23, 30, #[.slice none 0 0]⟩, ⟨g7, 40, #[.slice A10 q0.length c10, .int .i64 (modK i0 1000), .int .i64 e0, .slice A20 d0.length c20]⟩]) (fun _ h => dd_put (cs := #[.slice A10 q0.length c10, .int .i64 (modK i0 1000), .int .i64 e0, .slice A20 d0.length c20]) HSh36 2 1 rfl rfl (H63.ev 43 rfl) (H63.ev 37 rfl) (by kernel_rfl) rfl rfl rfl rfl h) fun _ HS65 => sx_ (sxi HS65 [0, 1, 2] rfl) fun hx66 => ht_ H63 11 hx66 rfl rfl (fun _ _ _ => xf 1 1 rfl (H63.ev 7 rfl)) fun _ H67 => ht_ H67 12 hx66 rfl rfl (fun _ _ _ => xf 1 2 rfl (H67.ev 44 rfl)) fun _ H68 => h1_ 13 rfl <| t_ rfl (fun _ h => dd_put (cs := #[.slice A10 q0.length c10, .int .i64 (modK i0 1000), .int .i64 (modK e0 256), .slice A20 d0.length c20]) HS65 2 2 rfl rfl (H68.ev 45 rfl) (H68.ev 41 rfl) (by kernel_rfl) rfl rfl rfl rfl h) fun _ HS69 => sx_ (sxi HS69 [0, 1, 2] rfl) fun hx70 => ?_
     clear hx60 HSh36 hx64 H63 H67 HS65 hx66
     refine wpAnyH_done (by kernel_rfl) ?_ _
     clear hx70
     exact nx ⟨H68.sel [0, 3, 5, 6, 7] rfl, ss HS69 [0, 1, 2]⟩
    refine ho_ rfl <| i_ H40 rfl (dd_get HSh36 2 2 rfl rfl (H40.ev 39 rfl) rfl Tryd.underlying36 rfl) fun _ H71 => sx_ (sxi HSh36 [0, 1, 2] rfl) fun hx72 => h1_ 2 rfl <| i_ H71 rfl (dd_get HSh36 2 1 rfl rfl (H71.ev 35 rfl) rfl Tryd.underlying3 rfl) fun _ H73 => sx_ (sxi HSh36 [0, 1, 2] rfl) fun hx74 => h1_ 3 rfl <| ic H73 rfl (v := .int .i64 (modK i0 1000)) (dc_ Tryd.func23 rfl (args2 (H73.ev 36 rfl) rfl) (mod_at i0 _ 1000 W34.drew rfl (by decide) (by decide)) (fun _ w9 h9 => ⟨_, h9.1, rfl, h9.2.symm⟩)) fun _ H75 => sx_ (sxi HSh36 [0, 1, 2] rfl) fun hx76 => ht_ H75 8 hx76 rfl rfl (fun _ _ _ => xf 1 1 rfl (H75.ev 7 rfl)) fun _ H77 => ht_ H77 9 hx76 rfl rfl (fun _ _ _ => xf 0 1 rfl (H77.ev 42 rfl)) fun _ H78 => ?_
    clear H40 H71 hx72 H73 hx74 H75
    refine h1_ 7 rfl <| ic H78 rfl (v := .int .i64 (modK e0 256)) (dc_ Tryd.func23 rfl (args2 (H78.ev 40 rfl) rfl) (mod_at e0 _ 256 W34.drew rfl (by decide) (by decide)) (fun _ w9 h9 => ⟨_, h9.1, rfl, h9.2.symm⟩)) fun _ H79 => sx_ (sxi HSh36 [0, 1, 2] rfl) fun hx80 => h1_ 10 rfl <| t_ rfl (S := [⟨g3, 56, bs zz⟩, ⟨g23, 30, #[.slice none 0 0]⟩, ⟨g7, 40, #[.slice A10 q0.length c10, .int .i64 (modK i0 1000), .int .i64 e0, .slice A20 d0.length c20]⟩]) (fun _ h => dd_put (cs := #[.slice A10 q0.length c10, .int .i64 (modK i0 1000), .int .i64 e0, .slice A20 d0.length c20]) HSh36 2 1 rfl rfl (H79.ev 43 rfl) (H79.ev 37 rfl) (by kernel_rfl) rfl rfl rfl rfl h) fun _ HS81 => sx_ (sxi HS81 [0, 1, 2] rfl) fun hx82 => ht_ H79 11 hx82 rfl rfl (fun _ _ _ => xf 1 1 rfl (H79.ev 7 rfl)) fun _ H83 => ht_ H83 12 hx82 rfl rfl (fun _ _ _ => xf 1 2 rfl (H83.ev 44 rfl)) fun _ H84 => h1_ 13 rfl <| t_ rfl (fun _ h => dd_put (cs := #[.slice A10 q0.length c10, .int .i64 (modK i0 1000), .int .i64 (modK e0 256), .slice A20 d0.length c20]) HS81 2 2 rfl rfl (H84.ev 45 rfl) (H84.ev 41 rfl) (by kernel_rfl) rfl rfl rfl rfl h) fun _ HS85 => sx_ (sxi HS85 [0, 1, 2] rfl) fun hx86 => ?_
    clear H77 H78 hx76 HSh36 hx80 H79 H83 HS81
    clear hx82
    refine wpAnyH_done (by kernel_rfl) ?_ _
    clear hx86
    exact nx ⟨H84.sel [0, 3, 5, 6, 7] rfl, ss HS85 [0, 1, 2]⟩
   rintro aj36 wj36 ⟨Hj36, HSj36⟩
   refine nx <| sq_ <| rl_ <| wl_ <| p_ Hj36 rfl rfl fun _ H88 => wl_ <| i_ H88 rfl (xf 0 0 rfl (H88.ev 7 rfl)) fun _ H89 => wl_ <| i_ H89 rfl (dd_get HSj36 2 0 rfl rfl (H89.ev 47 rfl) rfl Tryd.underlying35 rfl) fun _ H90 => wl_ <| i_ H90 rfl (xf 1 1 rfl (H90.ev 7 rfl)) fun _ H91 => wl_ <| i_ H91 rfl (v := .agg #[.int .i64 (modK i0 1000), .int .i64 (modK e0 256), .slice A20 d0.length c20]) (dd_load HSj36 2 1 rfl rfl (H91.ev 49 rfl) rfl Tryd.underlying38 rfl (by kernel_rfl)) fun _ H92 => ?_
   clear Hj36 H88 H89 H90 H91
   refine wl_ <| d_ H92 rfl (R := fun v9 w9 => ∃ ge94 : Nat, ∃ ce94 : Nat, ∃ cbe94 : Array Value, v9 = .int .i64 0 ∧ (OwnC cbe94 ce94 1 66 (entsL ([] ++ [mkA [] q0 (modK i0 1000) (modK e0 256)]))) ∧ St w noF [⟨g23, 30, #[.slice (some ⟨ge94, 0, none⟩) 1 ce94]⟩, ⟨ge94, 59, cbe94⟩, ⟨g3, 56, bs zz⟩, ⟨g7, 40, #[.slice A10 q0.length c10, .int .i64 (modK i0 1000), .int .i64 (modK e0 256), .slice A20 d0.length c20]⟩] w9) (dc_ Tryd.func11 rfl (args3 (H92.ev 46 rfl) (H92.ev 48 rfl) (H92.ev 50 rfl)) (audadd_first _ g23 _ _ _ q0 (modK i0 1000) (modK e0 256) (.slice A20 d0.length c20) _ (ss HSj36 [1]).frame  (HT _ HSj36.below) (nin_l (ss HSj36 [1]) hT.pos) (fun W9 k9 => slice_keepL i10.slice (ss HSj36 [1]) k9) rfl (by omega) (mayR_m _ _)) (fun _ w9 ⟨g9, c9, cb9, he, hO, hS⟩ => ⟨_, he, g9, c9, cb9, rfl, hO, St.reframe (ss HSj36 [1, 0, 2]) hS⟩)) ?_
   rintro _ W93 ⟨ge94, ce94, cbe94, rfl, Oe94, HS93⟩ a93 H93
   clear H92 HSj36
   refine wl_ <| i_ H93 rfl (dd_cmp rfl (H93.ev 51 rfl) rfl (ne_f (by decide))) fun _ H95 => ln_ <| nx <| cf_ H95 rfl <| wp_skip <| bn <| nx <| rl_ <| wl_ <| p_ H95 rfl rfl fun _ H96 => wl_ <| i_ H96 rfl (v := .int .i64 1) (dd_ari rfl (H96.ev 28 rfl) rfl rfl (by decide)) fun _ H97 => wl_ <| p_ H97 rfl rfl fun _ H98 => ln_ <| ?_
   clear H93 H95 H96 H97
   exact nx ⟨([] ++ [mkA [] q0 (modK i0 1000) (modK e0 256)]), ge94, ce94, cbe94, (by omega), (show ([] ++ [mkA [] q0 (modK i0 1000) (modK e0 256)] : List Ae).length = 1 from rfl), (wf_mk wf_nil _ _ _), (good_mk (fun j hj => absurd hj (Nat.not_lt_zero _)) _ (mayR_m _ _)), (bdA_snoc bdA_nil (modK_b _ (by decide)) (modK_b _ (by decide))), Oe94, H98.sel [0, 3, 5, 6] rfl, ss HS93 [2, 0, 1]⟩
  clear H25 HS23
  rintro K aL26 wL26 ⟨X, gA, cA, cbA, hi, hX, hw, hgd, hbd, OA, HL26, HSL26⟩
  refine sq_ <| sq_ <| rl_ <| q_ HL26 2 rfl fun _ H99 => wl_ <| i_ H99 rfl (v := .int .i64 n) (dd_len rfl (H99.ev 25 rfl) Tryd.underlying22) fun _ H100 => ?_
  clear HL26 H99
  by_cases hc102 : (K + 1 : Int) < n
  ·
   refine wl_ <| i_ H100 rfl (dd_cmp rfl (H100.ev 24 rfl) (H100.ev 26 rfl) (lt_t hc102)) fun _ H103 => ln_ <| nx <| ct_ H103 rfl <| wp_skip <| nx <| sq_ <| wp_block <| sq_ <| rl_ <| q_ H103 2 rfl fun _ H104 => wl_ <| i_ H104 rfl (xSo 4 (o + (K + 1) * 4) rfl (H104.ev 30 rfl) (H104.ev 31 rfl)) fun _ H105 => ?_
   clear H100 H103 H104
   obtain ⟨qK_1, iK_1, eK_1, dK_1, A1K_1, c1K_1, A2K_1, c2K_1, hgK_1, hcK_1, i1K_1, i2K_1, biK_1, bjK_1, beK_1, bfK_1⟩ := saids_getB h0 (k := K + 1) (by omega)
   have hfaK_1 : qK_1.length ≤ 300 ∧ dK_1.length ≤ 600 := hfl _ (List.mem_of_getElem? hgK_1)
   refine wl_ <| i_ H105 rfl (v := .agg #[.slice A1K_1 qK_1.length c1K_1, .int .i64 iK_1, .int .i64 eK_1, .slice A2K_1 dK_1.length c2K_1]) (dd_atN rfl (H105.ev 32 rfl) (hcK_1.call HSL26.below).at_ Tryd.underlying40 rfl (by kernel_rfl)) fun _ H106 => wl_ <| n_ H106 rfl (fun _ h => dd_new HSL26 #[.slice none 0 0, .int .i64 0, .int .i64 0, .slice none 0 0] rfl (z := .agg #[.slice none 0 0, .int .i64 0, .int .i64 0, .slice none 0 0]) (by kernel_rfl) rfl h) fun g7 _ HS107 _ H107 => wl_ <| t_ rfl (fun _ h => dd_setrow HS107 3 rfl rfl (H107.ev 7 rfl) (H107.ev 33 rfl) (by kernel_rfl) (rfl : #[.slice A1K_1 qK_1.length c1K_1, .int .i64 iK_1, .int .i64 eK_1, .slice A2K_1 dK_1.length c2K_1].size = 4) (rfl : #[.slice none 0 0, .int .i64 0, .int .i64 0, .slice none 0 0].size = 4) (one_l (ao_cons rfl (ao_cons rfl (ao_cons rfl (ao_cons rfl ao_nil))))) h) fun W108 HS108 => ln_ <| nx <| sq_ <| ?_
   clear H105 HSL26 H106 HS107
   refine wp_cut (fun a9 w9 => En 171 [(7, .pointer (some ⟨g7, 0, none⟩)), (6, .int .i64 (K + 1)), (5, .pointer (some ⟨g23, 0, none⟩)), (3, .pointer (some ⟨g3, 0, none⟩)), (0, .slice (some ⟨b, o, none⟩) n c)] a9 ∧ St w noF [⟨g3, 56, bs zz⟩, ⟨g23, 30, #[.slice (some ⟨gA, 0, none⟩) (K + 1) cA]⟩, ⟨gA, 59, cbA⟩, ⟨g7, 40, #[.slice A1K_1 qK_1.length c1K_1, .int .i64 (modK iK_1 1000), .int .i64 (modK eK_1 256), .slice A2K_1 dK_1.length c2K_1]⟩] w9) ?_ ?_
   ·
    refine wi_ HS108 [0, 1, 2] rfl [0, 1, 2, 3] rfl fun HSh109 hx109 => ht_ H107 0 hx109 rfl rfl (fun _ _ _ => xf 1 1 rfl (H107.ev 7 rfl)) fun _ H110 => ht_ H110 1 hx109 rfl rfl (fun _ _ _ => xf 0 1 rfl (H110.ev 34 rfl)) fun _ H111 => ht_ H111 4 hx109 rfl rfl (fun _ _ _ => xf 1 1 rfl (H111.ev 7 rfl)) fun _ H112 => ht_ H112 5 hx109 rfl rfl (fun _ _ _ => xf 1 2 rfl (H112.ev 38 rfl)) fun _ H113 => ?_
    clear HS108 H107 H110 H111 H112
    refine wpAnyH_all (rs := [2, 6]) (by kernel_rfl) (by decide) (hm_cons ?_ (hm_cons ?_ hm_nil))
    ·
     refine ho_ rfl <| i_ H113 rfl (dd_get HSh109 3 1 rfl rfl (H113.ev 35 rfl) rfl Tryd.underlying3 rfl) fun _ H114 => sx_ (sxi HSh109 [0, 1, 2, 3] rfl) fun _ => ?_
     clear H113
     refine wpAnyH_all (rs := [3, 6]) (by kernel_rfl) (by decide) (hm_cons ?_ (hm_cons ?_ hm_nil))
     ·
      refine ho_ rfl <| ic H114 rfl (v := .int .i64 (modK iK_1 1000)) (dc_ Tryd.func23 rfl (args2 (H114.ev 36 rfl) rfl) (mod_at iK_1 _ 1000 W108.drew rfl (by decide) (by decide)) (fun _ w9 h9 => ⟨_, h9.1, rfl, h9.2.symm⟩)) fun _ H116 => sx_ (sxi HSh109 [0, 1, 2, 3] rfl) fun hx117 => h1_ 6 rfl <| i_ H116 rfl (dd_get HSh109 3 2 rfl rfl (H116.ev 39 rfl) rfl Tryd.underlying36 rfl) fun _ H118 => sx_ (sxi HSh109 [0, 1, 2, 3] rfl) fun hx119 => ht_ H118 8 hx119 rfl rfl (fun _ _ _ => xf 1 1 rfl (H118.ev 7 rfl)) fun _ H120 => ht_ H120 9 hx119 rfl rfl (fun _ _ _ => xf 0 1 rfl (H120.ev 42 rfl)) fun _ H121 => h1_ 7 rfl <| ic H121 rfl (v := .int .i64 (modK eK_1 256)) (dc_ Tryd.func23 rfl (args2 (H121.ev 40 rfl) rfl) (mod_at eK_1 _ 256 W108.drew rfl (by decide) (by decide)) (fun _ w9 h9 => ⟨_, h9.1, rfl, h9.2.symm⟩)) fun _ H122 => sx_ (sxi HSh109 [0, 1, 2, 3] rfl) fun hx123 => ?_
      clear H114 H116 hx117 H118 H120 H121
      refine h1_ 10 rfl <| t_ rfl (S := [⟨g3, 56, bs zz⟩, ⟨g23, 30, #[.slice (some ⟨gA, 0, none⟩) (K + 1) cA]⟩, ⟨gA, 59, cbA⟩, ⟨g7, 40, #[.slice A1K_1 qK_1.length c1K_1, .int .i64 (modK iK_1 1000), .int .i64 eK_1, .slice A2K_1 dK_1.length c2K_1]⟩]) (fun _ h => dd_put (cs := #[.slice A1K_1 qK_1.length c1K_1, .int .i64 (modK iK_1 1000), .int .i64 eK_1, .slice A2K_1 dK_1.length c2K_1]) HSh109 3 1 rfl rfl (H122.ev 43 rfl) (H122.ev 37 rfl) (by kernel_rfl) rfl rfl rfl rfl h) fun _ HS124 => sx_ (sxi HS124 [0, 1, 2, 3] rfl) fun hx125 => ht_ H122 11 hx125 rfl rfl (fun _ _ _ => xf 1 1 rfl (H122.ev 7 rfl)) fun _ H126 => ht_ H126 12 hx125 rfl rfl (fun _ _ _ => xf 1 2 rfl (H126.ev 44 rfl)) fun _ H127 => h1_ 13 rfl <| t_ rfl (fun _ h => dd_put (cs := #[.slice A1K_1 qK_1.length c1K_1, .int .i64 (modK iK_1 1000), .int .i64 (modK eK_1 256), .slice A2K_1 dK_1.length c2K_1]) HS124 3 2 rfl rfl (H127.ev 45 rfl) (H127.ev 41 rfl) (by kernel_rfl) rfl rfl rfl rfl h) fun _ HS128 => sx_ (sxi HS128 [0, 1, 2, 3] rfl) fun hx129 => ?_
      clear hx119 HSh109 hx123 H122 H126 HS124 hx125
      refine wpAnyH_done (by kernel_rfl) ?_ _
      clear hx129
      exact nx ⟨H127.sel [0, 3, 5, 6, 7] rfl, ss HS128 [0, 1, 2, 3]⟩
     refine ho_ rfl <| i_ H114 rfl (dd_get HSh109 3 2 rfl rfl (H114.ev 39 rfl) rfl Tryd.underlying36 rfl) fun _ H130 => sx_ (sxi HSh109 [0, 1, 2, 3] rfl) fun hx131 => h1_ 3 rfl <| ic H130 rfl (v := .int .i64 (modK iK_1 1000)) (dc_ Tryd.func23 rfl (args2 (H130.ev 36 rfl) rfl) (mod_at iK_1 _ 1000 W108.drew rfl (by decide) (by decide)) (fun _ w9 h9 => ⟨_, h9.1, rfl, h9.2.symm⟩)) fun _ H132 => sx_ (sxi HSh109 [0, 1, 2, 3] rfl) fun hx133 => ht_ H132 8 hx133 rfl rfl (fun _ _ _ => xf 1 1 rfl (H132.ev 7 rfl)) fun _ H134 => ht_ H134 9 hx133 rfl rfl (fun _ _ _ => xf 0 1 rfl (H134.ev 42 rfl)) fun _ H135 => h1_ 7 rfl <| ic H135 rfl (v := .int .i64 (modK eK_1 256)) (dc_ Tryd.func23 rfl (args2 (H135.ev 40 rfl) rfl) (mod_at eK_1 _ 256 W108.drew rfl (by decide) (by decide)) (fun _ w9 h9 => ⟨_, h9.1, rfl, h9.2.symm⟩)) fun _ H136 => sx_ (sxi HSh109 [0, 1, 2, 3] rfl) fun hx137 => ?_
     clear H114 H130 hx131 H132 H134 H135
     refine h1_ 10 rfl <| t_ rfl (S := [⟨g3, 56, bs zz⟩, ⟨g23, 30, #[.slice (some ⟨gA, 0, none⟩) (K + 1) cA]⟩, ⟨gA, 59, cbA⟩, ⟨g7, 40, #[.slice A1K_1 qK_1.length c1K_1, .int .i64 (modK iK_1 1000), .int .i64 eK_1, .slice A2K_1 dK_1.length c2K_1]⟩]) (fun _ h => dd_put (cs := #[.slice A1K_1 qK_1.length c1K_1, .int .i64 (modK iK_1 1000), .int .i64 eK_1, .slice A2K_1 dK_1.length c2K_1]) HSh109 3 1 rfl rfl (H136.ev 43 rfl) (H136.ev 37 rfl) (by kernel_rfl) rfl rfl rfl rfl h) fun _ HS138 => sx_ (sxi HS138 [0, 1, 2, 3] rfl) fun hx139 => ht_ H136 11 hx139 rfl rfl (fun _ _ _ => xf 1 1 rfl (H136.ev 7 rfl)) fun _ H140 => ht_ H140 12 hx139 rfl rfl (fun _ _ _ => xf 1 2 rfl (H140.ev 44 rfl)) fun _ H141 => h1_ 13 rfl <| t_ rfl (fun _ h => dd_put (cs := #[.slice A1K_1 qK_1.length c1K_1, .int .i64 (modK iK_1 1000), .int .i64 (modK eK_1 256), .slice A2K_1 dK_1.length c2K_1]) HS138 3 2 rfl rfl (H141.ev 45 rfl) (H141.ev 41 rfl) (by kernel_rfl) rfl rfl rfl rfl h) fun _ HS142 => sx_ (sxi HS142 [0, 1, 2, 3] rfl) fun hx143 => ?_
     clear hx133 HSh109 hx137 H136 H140 HS138 hx139
     refine wpAnyH_done (by kernel_rfl) ?_ _
     clear hx143
     exact nx ⟨H141.sel [0, 3, 5, 6, 7] rfl, ss HS142 [0, 1, 2, 3]⟩
    refine ho_ rfl <| i_ H113 rfl (dd_get HSh109 3 2 rfl rfl (H113.ev 39 rfl) rfl Tryd.underlying36 rfl) fun _ H144 => sx_ (sxi HSh109 [0, 1, 2, 3] rfl) fun hx145 => h1_ 2 rfl <| i_ H144 rfl (dd_get HSh109 3 1 rfl rfl (H144.ev 35 rfl) rfl Tryd.underlying3 rfl) fun _ H146 => sx_ (sxi HSh109 [0, 1, 2, 3] rfl) fun hx147 => h1_ 3 rfl <| ic H146 rfl (v := .int .i64 (modK iK_1 1000)) (dc_ Tryd.func23 rfl (args2 (H146.ev 36 rfl) rfl) (mod_at iK_1 _ 1000 W108.drew rfl (by decide) (by decide)) (fun _ w9 h9 => ⟨_, h9.1, rfl, h9.2.symm⟩)) fun _ H148 => sx_ (sxi HSh109 [0, 1, 2, 3] rfl) fun hx149 => ht_ H148 8 hx149 rfl rfl (fun _ _ _ => xf 1 1 rfl (H148.ev 7 rfl)) fun _ H150 => ht_ H150 9 hx149 rfl rfl (fun _ _ _ => xf 0 1 rfl (H150.ev 42 rfl)) fun _ H151 => ?_
    clear H113 H144 hx145 H146 hx147 H148
    refine h1_ 7 rfl <| ic H151 rfl (v := .int .i64 (modK eK_1 256)) (dc_ Tryd.func23 rfl (args2 (H151.ev 40 rfl) rfl) (mod_at eK_1 _ 256 W108.drew rfl (by decide) (by decide)) (fun _ w9 h9 => ⟨_, h9.1, rfl, h9.2.symm⟩)) fun _ H152 => sx_ (sxi HSh109 [0, 1, 2, 3] rfl) fun hx153 => h1_ 10 rfl <| t_ rfl (S := [⟨g3, 56, bs zz⟩, ⟨g23, 30, #[.slice (some ⟨gA, 0, none⟩) (K + 1) cA]⟩, ⟨gA, 59, cbA⟩, ⟨g7, 40, #[.slice A1K_1 qK_1.length c1K_1, .int .i64 (modK iK_1 1000), .int .i64 eK_1, .slice A2K_1 dK_1.length c2K_1]⟩]) (fun _ h => dd_put (cs := #[.slice A1K_1 qK_1.length c1K_1, .int .i64 (modK iK_1 1000), .int .i64 eK_1, .slice A2K_1 dK_1.length c2K_1]) HSh109 3 1 rfl rfl (H152.ev 43 rfl) (H152.ev 37 rfl) (by kernel_rfl) rfl rfl rfl rfl h) fun _ HS154 => sx_ (sxi HS154 [0, 1, 2, 3] rfl) fun hx155 => ht_ H152 11 hx155 rfl rfl (fun _ _ _ => xf 1 1 rfl (H152.ev 7 rfl)) fun _ H156 => ht_ H156 12 hx155 rfl rfl (fun _ _ _ => xf 1 2 rfl (H156.ev 44 rfl)) fun _ H157 => h1_ 13 rfl <| t_ rfl (fun _ h => dd_put (cs := #[.slice A1K_1 qK_1.length c1K_1, .int .i64 (modK iK_1 1000), .int .i64 (modK eK_1 256), .slice A2K_1 dK_1.length c2K_1]) HS154 3 2 rfl rfl (H157.ev 45 rfl) (H157.ev 41 rfl) (by kernel_rfl) rfl rfl rfl rfl h) fun _ HS158 => sx_ (sxi HS158 [0, 1, 2, 3] rfl) fun hx159 => ?_
    clear H150 H151 hx149 HSh109 hx153 H152 H156 HS154
    clear hx155
    refine wpAnyH_done (by kernel_rfl) ?_ _
    clear hx159
    exact nx ⟨H157.sel [0, 3, 5, 6, 7] rfl, ss HS158 [0, 1, 2, 3]⟩
   rintro aj109 wj109 ⟨Hj109, HSj109⟩
   refine nx <| sq_ <| rl_ <| wl_ <| p_ Hj109 rfl rfl fun _ H161 => wl_ <| i_ H161 rfl (xf 0 0 rfl (H161.ev 7 rfl)) fun _ H162 => wl_ <| i_ H162 rfl (dd_get HSj109 3 0 rfl rfl (H162.ev 47 rfl) rfl Tryd.underlying35 rfl) fun _ H163 => wl_ <| i_ H163 rfl (xf 1 1 rfl (H163.ev 7 rfl)) fun _ H164 => wl_ <| i_ H164 rfl (v := .agg #[.int .i64 (modK iK_1 1000), .int .i64 (modK eK_1 256), .slice A2K_1 dK_1.length c2K_1]) (dd_load HSj109 3 1 rfl rfl (H164.ev 49 rfl) rfl Tryd.underlying38 rfl (by kernel_rfl)) fun _ H165 => ?_
   clear Hj109 H161 H162 H163 H164
   refine wl_ <| d_ H165 rfl (R := fun v9 w9 => ∃ ge167 : Nat, ∃ ce167 : Nat, ∃ cbe167 : Array Value, v9 = .int .i64 0 ∧ (OwnC cbe167 ce167 (K + 1 + 1) 66 (entsL (X ++ [mkA X qK_1 (modK iK_1 1000) (modK eK_1 256)]))) ∧ St w noF [⟨g23, 30, #[.slice (some ⟨ge167, 0, none⟩) (K + 1 + 1) ce167]⟩, ⟨ge167, 59, cbe167⟩, ⟨g3, 56, bs zz⟩, ⟨g7, 40, #[.slice A1K_1 qK_1.length c1K_1, .int .i64 (modK iK_1 1000), .int .i64 (modK eK_1 256), .slice A2K_1 dK_1.length c2K_1]⟩] w9) (dc_ Tryd.func11 rfl (args3 (H165.ev 46 rfl) (H165.ev 48 rfl) (H165.ev 50 rfl)) (audadd_own _ g23 _ K _ _ X _ _ _ qK_1 (modK iK_1 1000) (modK eK_1 256) (.slice A2K_1 dK_1.length c2K_1) _ (ss HSj109 [1, 2]).frame OA hX hw (by omega) (HT _ HSj109.below) (nin_l (ss HSj109 [1, 2]) hT.pos) (fun W9 k9 => slice_keepL i1K_1.slice (ss HSj109 [1, 2]) k9) rfl (by omega) (mayR_m _ _)) (fun _ w9 ⟨g9, c9, cb9, he, hO, hS⟩ => ⟨_, he, g9, c9, cb9, rfl, hO, St.reframe (ss HSj109 [1, 2, 0, 3]) hS⟩)) ?_
   rintro _ W166 ⟨ge167, ce167, cbe167, rfl, Oe167, HS166⟩ a166 H166
   clear H165 HSj109
   refine wl_ <| i_ H166 rfl (dd_cmp rfl (H166.ev 51 rfl) rfl (ne_f (by decide))) fun _ H168 => ln_ <| nx <| cf_ H168 rfl <| wp_skip <| bn <| nx <| rl_ <| wl_ <| p_ H168 rfl rfl fun _ H169 => wl_ <| i_ H169 rfl (v := .int .i64 ((K + 1) + 1)) (dd_ari rfl (H169.ev 28 rfl) rfl rfl (i64_of (by first | omega | (have := bd_lo; omega)) (by omega))) fun _ H170 => wl_ <| p_ H170 rfl rfl fun _ H171 => ln_ <| ?_
   clear H166 H168 H169 H170
   refine nx ⟨K + 1, ⟨(X ++ [mkA X qK_1 (modK iK_1 1000) (modK eK_1 256)]), ge167, ce167, cbe167, (by omega), (len_snoc hX), (wf_mk hw _ _ _), (good_mk hgd _ (mayR_m _ _)), (bdA_snoc hbd (modK_b _ (by decide)) (modK_b _ (by decide))), Oe167, H171.sel [0, 3, 5, 6] rfl, ss HS166 [2, 0, 1]⟩, (by omega)⟩
  refine wl_ <| i_ H100 rfl (dd_cmp rfl (H100.ev 24 rfl) (H100.ev 26 rfl) (lt_f hc102)) fun _ H172 => ln_ <| nx <| cf_ H172 rfl <| wp_exit <| tx <| tx <| bx <| nx <| sq_ <| rl_ <| wl_ <| p_ H172 rfl rfl fun _ H173 => ?_
  clear H100 H172
  refine wl_ <| d_ H173 rfl (R := fun v w9 => ∃ gc175 cc175 cbc175, v = .slice (some ⟨gc175, 0, none⟩) (K + 1) cc175 ∧ (wL26.heap.size ≤ gc175) ∧ (Row w9 gc175 59 cbc175) ∧ (OwnC cbc175 cc175 (K + 1) 66 (entsL X)) ∧ Below wL26.heap.size wL26 w9) (dc_ Tryd.func19 rfl (args1 (H173.ev 53 rfl)) (audents_pos _ _ (K + 1) _ X wL26 (HSL26.row 1 rfl) (cat_own (HSL26.row 2 rfl) OA) hX hw (by omega)) (fun _ w9 ⟨g9, c9, cb9, he, h1, h2, h3, hb⟩ => ⟨_, he, g9, c9, cb9, rfl, h1, h2, h3, hb⟩)) ?_
  rintro _ W174 ⟨gc175, cc175, cbc175, rfl, hg175, hr175, Oc175, hb174⟩ a174 H174
  have HS174 := HSL26.same hb174
  clear H173
  have HS174j : St w noF [⟨g3, 56, bs zz⟩, ⟨g23, 30, #[.slice (some ⟨gA, 0, none⟩) (K + 1) cA]⟩, ⟨gA, 59, cbA⟩, ⟨gc175, 59, cbc175⟩] W174 := HSL26.joins hb174 hr175 hg175
  clear HS174 hr175 hg175
  clear HSL26 hb174
  refine wl_ <| p_ H174 rfl rfl fun _ H176 => ln_ <| nx <| sq_ <| sq_ <| rl_ <| wl_ <| p_ H176 rfl rfl fun _ H177 => wl_ <| i_ H177 rfl (v := .int .i64 (K + 1)) (dd_len rfl (H177.ev 55 rfl) Tryd.underlying28) fun _ H178 => wl_ <| p_ H178 rfl rfl fun _ H179 => wl_ <| i_ H179 rfl (v := .int .i64 n) (dd_len rfl (H179.ev 57 rfl) Tryd.underlying22) fun _ H180 => wl_ <| i_ H180 rfl (dd_cmp rfl (H180.ev 56 rfl) (H180.ev 58 rfl) (ne_f (by omega))) fun _ H181 => wl_ <| p_ H181 rfl rfl fun _ H182 => wl_ <| ig H182 (wg_ H182 rfl rfl rfl rfl) rfl (dd_mv rfl (H182.ev 8 rfl)) fun _ H183 => ?_
  clear H174 H176 H177 H178 H179 H180 H181
  refine wl_ <| cg H183 (wg_ H183 rfl rfl rfl rfl) rfl HS174j (dcs Tryd.func20 rfl (args1 (H183.ev 61 rfl)) (audver_any _ X W174 (HT _ HS174j.below) (ents_mk hX hw (cat_own (HS174j.row 3 rfl) Oc175) Oc175.le) (by rw [hX]; omega)) (.int .i64 (verI X))) fun W184 HS184 _ H184 => wl_ <| ig H184 (wg_ H184 rfl rfl rfl rfl) rfl (dd_cmp rfl (H184.ev 62 rfl) rfl (ne_f (ver_none hgd))) fun _ H185 => wl_ <| p_ H185 rfl rfl fun _ H186 => ln_ <| ?_
  clear H182 H183 HS174j H184 H185
  have H187 := H186.sel [0, 3, 8, 64] rfl
  refine nx <| cf_ H187 rfl <| wp_skip <| nx <| sq_ <| rl_ <| wl_ <| i_ H187 rfl (xA 2 1 0 rfl (H187.ev 3 rfl) rfl) fun _ H188 => wl_ <| i_ H188 rfl (dd_get HS184 0 0 rfl rfl (H188.ev 65 rfl) (bs_get hzz 0 (by decide)) Tryd.underlying5 rfl) fun _ H189 => wl_ <| i_ H189 rfl (v := .int .i64 (bd (zz.getD 0 0#8))) (dd_conv (k := .i64) rfl (H189.ev 66 rfl) Tryd.underlying5 (by kernel_rfl) (i64_bdA _)) fun _ H190 => wl_ <| p_ H190 rfl rfl fun _ H191 => wl_ <| i_ H191 rfl (v := .int .i64 n) (dd_len rfl (H191.ev 68 rfl) Tryd.underlying22) fun _ H192 => ?_
  clear H186 H187 H188 H189 H190 H191
  obtain ⟨r, hr, lr⟩ := mod_nat (bd (zz.getD 0 0#8)) n (bd_lo _) (by omega)
  refine wl_ <| i_ H192 rfl (v := .int .i64 r) (dd_rem rfl (H192.ev 67 rfl) (H192.ev 69 rfl) (by omega) hr) fun _ H193 => wl_ <| p_ H193 rfl rfl fun _ H194 => ln_ <| nx <| sq_ <| sq_ <| ?_
  clear H192 H193
  have hle := Oc175.le
  refine rl_ <| q_ H194 2 rfl fun _ H195 => wl_ <| i_ H195 rfl (v := .slice (some ⟨gc175, 0, none⟩) r cc175) (dd_slh (sz := 66) rfl (H195.ev 71 rfl) (H195.ev 72 rfl) (by kernel_rfl) (by omega) (by omega) rfl) fun _ H196 => wl_ <| c_ H196 rfl HS184 (dcs Tryd.func20 rfl (args1 (H196.ev 73 rfl)) (audver_any _ (X.take r) W184 (HT _ HS184.below) (ents_mk (take_lenE hX (by omega)) (wf_take r hw) (cat_take (cat_own (HS184.row 3 rfl) Oc175) r) (by omega)) (by rw [(take_lenE hX (by omega))]; omega)) (.int .i64 (verI (X.take r)))) fun _ HS197 _ H197 => wl_ <| i_ H197 rfl (dd_cmp rfl (H197.ev 74 rfl) rfl (ne_f (ver_none (good_take r hgd)))) fun _ H198 => ln_ <| nx <| cf_ H198 rfl <| wp_skip <| nx <| sq_ <| rl_ <| wl_ <| n_ H198 rfl (fun _ h => dd_new HS197 (bs (zer 32)) rfl (z := .agg (bs (zer 32))) (by kernel_rfl) rfl h) fun g10 _ HS199 _ H199 => ln_ <| nx <| sq_ <| sq_ <| rl_ <| wl_ <| p_ H199 rfl rfl fun _ H200 => ?_
  clear H194 H195 H196 HS184 H197 HS197 H198 H199
  by_cases hc202 : (0 : Int) < r
  ·
   refine wl_ <| i_ H200 rfl (dd_cmp rfl (H200.ev 76 rfl) rfl (gt_t hc202)) fun _ H203 => ln_ <| nx <| ct_ H203 rfl <| rl_ <| q_ H203 2 rfl fun _ H204 => ?_
   clear H200 H203
   obtain ⟨r1, hr1⟩ : ∃ r1 : Nat, r = r1 + 1 := ⟨r - 1, by omega⟩
   refine wl_ <| i_ H204 rfl (v := .int .i64 r1) (dd_ari rfl (H204.ev 79 rfl) rfl rfl (by rw [i64_id _ (by omega) (by omega)]; omega)) fun _ H205 => wl_ <| i_ H205 rfl (xSo 66 (r1 * 66) rfl (H205.ev 78 rfl) (H205.ev 80 rfl)) fun _ H206 => wl_ <| i_ H206 rfl (xf 34 (r1 * 66 + 34) rfl (H206.ev 81 rfl)) fun _ H207 => ?_
   clear H204 H205 H206
   obtain ⟨xr1, hxr1⟩ : ∃ x, X[r1]? = some x := ⟨_, List.getElem?_eq_getElem (by rw [hX]; omega)⟩
   have hwr1 := hw xr1 (List.mem_of_getElem? hxr1)
   have hqr1 := hbd xr1 (List.mem_of_getElem? hxr1)
   refine wl_ <| i_ H207 rfl (v := .agg (bs (lk X r))) (dd_atN (L := bytesV (lk X r)) rfl (H207.ev 82 rfl) (by rw [hr1, lk_succ hxr1]; exact ent_l0 (cat_own (HS199.row 3 rfl) Oc175) hw hxr1) Tryd.underlying24 rfl (by rw [len_bytesV, length_lk hw]; kernel_rfl)) fun _ H208 => wl_ <| t_ rfl (fun _ h => dd_setrow HS199 4 rfl rfl (H208.ev 10 rfl) (H208.ev 83 rfl) (by kernel_rfl) (((size_bs _).trans (length_lk hw _)) : (bs (lk X r)).size = 32) (((size_bs _).trans (length_zer 32)) : (bs (zer 32)).size = 32) (one_bs _) h) fun _ HS209 => ln_ <| ?_
   clear H207 HS199
   have H210 := H208.sel [3, 8, 9, 10] rfl
   refine nx <| sq_ <| sq_ <| rl_ <| wl_ <| i_ H210 rfl (xA 2 1 1 rfl (H210.ev 3 rfl) rfl) fun _ H211 => wl_ <| i_ H211 rfl (dd_get HS209 0 1 rfl rfl (H211.ev 84 rfl) (bs_get hzz 1 (by decide)) Tryd.underlying5 rfl) fun _ H212 => ?_
   clear H208 H210 H211
   obtain ⟨r2, hr2, lr2⟩ := mod_nat (bd (zz.getD 1 0#8)) 3 (bd_lo _) (by omega)
   refine wl_ <| i_ H212 rfl (v := .int .u8 r2) (dd_rem rfl (H212.ev 85 rfl) rfl (by omega) hr2) fun _ H213 => ln_ <| nx <| wp_block <| sq_ <| rl_ <| ?_
   clear H212
   by_cases hc215 : (r2 : Int) = 0
   ·
    refine wl_ <| i_ H213 rfl (dd_cmp rfl (H213.ev 86 rfl) rfl (eq_t hc215)) fun _ H216 => wl_ <| p_ H216 rfl rfl fun _ H217 => ln_ <| nx <| ct_ H217 rfl <| rl_ <| q_ H217 2 rfl fun _ H218 => wl_ <| i_ H218 rfl (xSo 66 (r * 66) rfl (H218.ev 89 rfl) (H218.ev 90 rfl)) fun _ H219 => wl_ <| i_ H219 rfl (xf 32 (r * 66 + 32) rfl (H219.ev 91 rfl)) fun _ H220 => ?_
    clear H213 H216 H217 H218 H219
    obtain ⟨xr, hxr⟩ : ∃ x, X[r]? = some x := ⟨_, List.getElem?_eq_getElem (by rw [hX]; omega)⟩
    have hwr := hw xr (List.mem_of_getElem? hxr)
    have hqr := hbd xr (List.mem_of_getElem? hxr)
    refine wl_ <| i_ H220 rfl (dd_at rfl (H220.ev 92 rfl) (ent_i0 (cat_own (HS209.row 3 rfl) Oc175) hw hxr) Tryd.underlying3 rfl) fun _ H221 => wl_ <| i_ H221 rfl (v := .int .i64 (xr.2.1 + 1)) (dd_ari rfl (H221.ev 93 rfl) rfl rfl (i64_of (by first | omega | (have := bd_lo; omega)) (by omega))) fun _ H222 => wl_ <| i_ H222 rfl (xSo 66 (r * 66) rfl (H222.ev 89 rfl) (H222.ev 90 rfl)) fun _ H223 => wl_ <| i_ H223 rfl (xf 32 (r * 66 + 32) rfl (H223.ev 95 rfl)) fun _ H224 => wl_ <| t_ rfl (S := [⟨g3, 56, bs zz⟩, ⟨g23, 30, #[.slice (some ⟨gA, 0, none⟩) (K + 1) cA]⟩, ⟨gA, 59, cbA⟩, ⟨gc175, 59, cbc175.setIfInBounds (r * 66 + 32) (.int .i64 (xr.2.1 + 1))⟩, ⟨g10, 24, bs (lk X r)⟩]) (fun _ h => dd_put HS209 3 (r * 66 + 32) rfl rfl (H224.ev 96 rfl) (H224.ev 94 rfl) (by kernel_rfl) rfl rfl (own_fit Oc175 (by omega)) rfl h) fun W225 HS225 => ln_ <| bn <| nx <| sq_ <| ?_
    clear H220 H221 H222 H223 HS209
    refine wi_ HS225 [0, 1, 2, 3, 4] rfl [0, 1, 2, 3, 4] rfl fun HSh228 hx228 => hp_ H224 0 hx228 rfl rfl rfl fun _ H229 => hp_ H229 1 hx228 rfl rfl rfl fun _ H230 => ht_ H230 2 hx228 rfl rfl (fun _ _ _ => xSo 66 (r * 66) rfl (H230.ev 132 rfl) (H230.ev 133 rfl)) fun _ H231 => ht_ H231 3 hx228 rfl rfl (fun _ _ _ => xf 0 (r * 66) rfl (H231.ev 134 rfl)) fun _ H232 => ?_
    clear HS225 H224 H229 H230 H231
    obtain ⟨xnr, hxnr, henr⟩ := set_at (k := r) (xr.1, (xr.2.1 + 1), xr.2.2.1, xr.2.2.2) hX (by omega)
    have hwnr := (wf_set hw hwr.1 hwr.2) xnr (List.mem_of_getElem? hxnr)
    refine ht_ H232 4 hx228 rfl rfl (v := .agg (bs xnr.1)) (fun _ _ HS9 => dd_atN rfl (H232.ev 135 rfl) (ent_h0 (cat_own (HS9.row 3 rfl) (own_set32 (z := (xr.2.1 + 1)) Oc175 hw hxr)) (wf_set hw hwr.1 hwr.2) hxnr) Tryd.underlying24 rfl (by show _ = some (bytesV xnr.1).length; rw [show (bytesV xnr.1).length = 32 from len_bv hwnr.1]; kernel_rfl)) fun _ H233 => hp_ H233 5 hx228 rfl rfl rfl fun _ H234 => hp_ H234 6 hx228 rfl rfl rfl fun _ H235 => ht_ H235 7 hx228 rfl rfl (fun _ _ _ => xSo 66 (r * 66) rfl (H235.ev 137 rfl) (H235.ev 138 rfl)) fun _ H236 => ht_ H236 8 hx228 rfl rfl (fun _ _ _ => xf 32 (r * 66 + 32) rfl (H236.ev 139 rfl)) fun _ H237 => ht_ H237 9 hx228 rfl rfl (fun _ _ HS9 => dd_at rfl (H237.ev 140 rfl) (ent_i0 (cat_own (HS9.row 3 rfl) (own_set32 (z := (xr.2.1 + 1)) Oc175 hw hxr)) (wf_set hw hwr.1 hwr.2) hxnr) Tryd.underlying3 rfl) fun _ H238 => hp_ H238 10 hx228 rfl rfl rfl fun _ H239 => hp_ H239 11 hx228 rfl rfl rfl fun _ H240 => ?_
    clear H232 H233 H234 H235 H236 H237 H238
    refine ht_ H240 12 hx228 rfl rfl (fun _ _ _ => xSo 66 (r * 66) rfl (H240.ev 142 rfl) (H240.ev 143 rfl)) fun _ H241 => ht_ H241 13 hx228 rfl rfl (fun _ _ _ => xf 33 (r * 66 + 33) rfl (H241.ev 144 rfl)) fun _ H242 => ht_ H242 14 hx228 rfl rfl (fun _ _ HS9 => dd_at rfl (H242.ev 145 rfl) (ent_e0 (cat_own (HS9.row 3 rfl) (own_set32 (z := (xr.2.1 + 1)) Oc175 hw hxr)) (wf_set hw hwr.1 hwr.2) hxnr) Tryd.underlying36 rfl) fun _ H243 => ht_ H243 15 hx228 rfl rfl (v := .agg #[.int .i64 xnr.2.1, .int .i64 xnr.2.2.1, .slice none 0 0]) (fun _ _ _ => dd_bld rfl (ps := [(0, .int .i64 xnr.2.1), (1, .int .i64 xnr.2.2.1)]) (pr1 (H243.ev 141 rfl) (pr1 (H243.ev 146 rfl) (pr0))) (Lz := [[.int .i64 0], [.int .i64 0], [.slice none 0 0]]) (by kernel_rfl) (lens_cons rfl (lens_cons rfl (lens_cons rfl (lens_nil)))) (fit_cons (i := 0) rfl rfl (fit_cons (i := 1) rfl rfl (fit_nil))) (cs := #[.int .i64 xnr.2.1, .int .i64 xnr.2.2.1, .slice none 0 0]) rfl) fun _ H244 => ?_
    clear H239 H240 H241 H242 H243
    refine h1_ 16 rfl <| d_ H244 rfl (R := fun v w9 => ∃ gc246 cc246 cbc246, v = .tuple #[.slice (some ⟨gc246, 0, none⟩) 40 cc246, .int .i64 0] ∧ (W225.drew.heap.size ≤ gc246) ∧ (Row w9 gc246 5 cbc246) ∧ (OwnC cbc246 cc246 40 1 (bytesV (recA xnr.1 xnr.2.1 xnr.2.2.1))) ∧ Below W225.drew.heap.size W225.drew w9) (dc_ Tryd.func15 rfl (args2 (H244.ev 136 rfl) (H244.ev 147 rfl)) (audrec_good xnr.1 xnr.2.1 xnr.2.2.1 _ W225.drew hwnr.1 (by rw [henr]; exact mayR_in (i := (xr.2.1 + 1)) (e := xr.2.2.1) (by omega) (by omega) (by omega) (by omega))) (fun _ w9 ⟨g9, c9, cb9, he, h1, h2, h3, hb⟩ => ⟨_, he, g9, c9, cb9, rfl, h1, h2, h3, hb⟩)) ?_
    rintro _ W245 ⟨gc246, cc246, cbc246, rfl, hg246, hr246, Oc246, hb245⟩ a245 H245
    have HS245 := HSh228.same hb245
    clear H244
    have HS245j : St w noF [⟨g3, 56, bs zz⟩, ⟨g23, 30, #[.slice (some ⟨gA, 0, none⟩) (K + 1) cA]⟩, ⟨gA, 59, cbA⟩, ⟨gc175, 59, cbc175.setIfInBounds (r * 66 + 32) (.int .i64 (xr.2.1 + 1))⟩, ⟨g10, 24, bs (lk X r)⟩, ⟨gc246, 5, cbc246⟩] W245 := HSh228.joins hb245 hr246 hg246
    clear HS245 hr246 hg246
    clear HSh228 hb245
    refine sx_ (sxi HS245j [0, 1, 2, 3, 4, 5] rfl) fun hx247 => hp_ H245 17 hx247 rfl rfl rfl fun _ H248 => ht_ H248 18 hx247 rfl rfl (v := .slice (some ⟨gc246, 0, none⟩) 40 cc246) (fun _ _ _ => dd_ext rfl (H248.ev 131 rfl) rfl) fun _ H249 => ht_ H249 19 hx247 rfl rfl (v := .int .i64 0) (fun _ _ _ => dd_ext rfl (H249.ev 131 rfl) rfl) fun _ H250 => hp_ H250 20 hx247 rfl rfl rfl fun _ H251 => hp_ H251 21 hx247 rfl rfl rfl fun _ H252 => ?_
    clear hx228 H245 H248 H249 H250 H251
    refine wpAnyH_done (by kernel_rfl) ?_ _
    clear hx247
    refine nx <| sq_ <| sq_ <| rl_ <| wl_ <| p_ H252 rfl rfl fun _ H253 => wl_ <| i_ H253 rfl (dd_cmp rfl (H253.ev 151 rfl) rfl (ne_f (by decide))) fun _ H254 => ln_ <| ?_
    clear H252 H253
    have H255 := H254.sel [8, 9, 10, 11, 152] rfl
    refine nx <| cf_ H255 rfl <| wp_skip <| nx <| sq_ <| sq_ <| ?_
    clear H254
    cases hb268 : decide (nextL (lk X r) xnr = xnr.2.2.2)
    ·
     refine wi_ HS245j [0, 1, 2, 3, 4] rfl [0, 1, 2, 3, 4, 5] rfl fun HSh269 hx269 => ht_ H255 0 hx269 rfl rfl (v := .agg (bs (lk X r))) (fun _ _ HS9 => dd_load HS9 4 0 rfl rfl (H255.ev 10 rfl) (slab_whole _) Tryd.underlying24 rfl (by rw [show (bs (lk X r)).size = 32 from ((size_bs _).trans (length_lk hw _))]; kernel_rfl)) fun _ H270 => hp_ H270 1 hx269 rfl rfl rfl fun _ H271 => hp_ H271 4 hx269 rfl rfl rfl fun _ H272 => hp_ H272 5 hx269 rfl rfl rfl fun _ H273 => ht_ H273 6 hx269 rfl rfl (fun _ _ _ => xSo 66 (r * 66) rfl (H273.ev 157 rfl) (H273.ev 158 rfl)) fun _ H274 => ht_ H274 7 hx269 rfl rfl (fun _ _ _ => xf 34 (r * 66 + 34) rfl (H274.ev 159 rfl)) fun _ H275 => ht_ H275 8 hx269 rfl rfl (v := .agg (bs xnr.2.2.2)) (fun _ _ HS9 => dd_atN rfl (H275.ev 160 rfl) (ent_l0 (cat_own (HS9.row 3 rfl) (own_set32 (z := (xr.2.1 + 1)) Oc175 hw hxr)) (wf_set hw hwr.1 hwr.2) hxnr) Tryd.underlying24 rfl (by show _ = some (bytesV xnr.2.2.2).length; rw [show (bytesV xnr.2.2.2).length = 32 from len_bv hwnr.2]; kernel_rfl)) fun _ H276 => ?_
     clear HS245j H255 H270 H271 H272 H273 H274
     refine h1_ 2 rfl <| n_ H276 rfl (S := fun g155 => [⟨g3, 56, bs zz⟩, ⟨g23, 30, #[.slice (some ⟨gA, 0, none⟩) (K + 1) cA]⟩, ⟨gA, 59, cbA⟩, ⟨gc175, 59, cbc175.setIfInBounds (r * 66 + 32) (.int .i64 (xr.2.1 + 1))⟩, ⟨g10, 24, bs (lk X r)⟩, ⟨gc246, 5, cbc246⟩, ⟨g155, 35, #[.slice (some ⟨gc246, 0, none⟩) 40 cc246]⟩]) (fun _ h => dd_lits HSh269 #[.slice (some ⟨gc246, 0, none⟩) 40 cc246] rfl (ps := [(0, .slice (some ⟨gc246, 0, none⟩) 40 cc246)]) (pr1 (H276.ev 154 rfl) (pr0)) (z := .slice none 0 0) (sz := 1) Tryd.underlying67 (by kernel_rfl) rfl rfl (by kernel_rfl) h) fun g155 W277 HS277 _ H277 => sx_ (sxi HS277 [0, 1, 2, 3, 4, 5, 6] rfl) fun hx278 => h1_ 3 rfl <| c_ H277 rfl HS277 (dcs Tryd.func24 rfl (args2 (H277.ev 153 rfl) (H277.ev 155 rfl)) (step_one (lk X r) (recA xnr.1 xnr.2.1 xnr.2.2.1) _ W277 (HT _ HS277.below) (length_lk hw _) (parts_one1 (HS277.row 6 rfl) (slice_own (HS277.row 5 rfl) Oc246 (length_recA hwnr.1))) (by rw [(length_recA hwnr.1)]; decide) (nextL (lk X r) xnr) rfl) (.agg (bs (nextL (lk X r) xnr)))) fun W279 HS279 _ H279 => sx_ (sxi HS279 [0, 1, 2, 3, 4, 5, 6] rfl) fun hx280 => ht_ H279 9 hx280 rfl rfl (v := .bool false) (fun _ _ _ => dd_eqa (b := false) rfl (H279.ev 156 rfl) (H279.ev 161 rfl) (by kernel_rfl) (fun w => by rw [eql_dgs (nextL (lk X r) xnr) xnr.2.2.2 (len_next _ _) hwnr.2 w, hb268])) fun _ H281 => ?_
     clear H275 HSh269 H276 hx269 H277 HS277 hx278 H279
     refine wpAnyH_done (by kernel_rfl) ?_ _
     clear hx280
     refine nx <| cf_ H281 rfl <| wp_skip <| nx <| sq_ <| rl_ <| wl_ <| p_ H281 rfl rfl fun _ H282 => wl_ <| c_ H282 rfl HS279 (dcs Tryd.func20 rfl (args1 (H282.ev 164 rfl)) (audver_any _ ((X).set r (xr.1, (xr.2.1 + 1), xr.2.2.1, xr.2.2.2)) W279 (HT _ HS279.below) (ents_mk ((List.length_set ..).trans hX) (wf_set hw hwr.1 hwr.2) (cat_own (HS279.row 3 rfl) (own_set32 (z := (xr.2.1 + 1)) Oc175 hw hxr)) (own_set32 (z := (xr.2.1 + 1)) Oc175 hw hxr).le) (by rw [((List.length_set ..).trans hX)]; omega)) (.int .i64 (verI ((X).set r (xr.1, (xr.2.1 + 1), xr.2.2.1, xr.2.2.2))))) fun W283 HS283 _ H283 => wl_ <| p_ H283 rfl rfl fun _ H284 => wl_ <| i_ H284 rfl (dd_cmp rfl (H284.ev 165 rfl) (H284.ev 166 rfl) (eq_t (ver_set (by omega) hgd (fun h9 => of_decide_eq_false hb268 (by rw [henr]; exact h9))))) fun _ H285 => wl_ <| p_ H285 rfl rfl fun _ H286 => wl_ <| cg H286 (wg_ H286 rfl rfl rfl rfl) rfl HS283 (dcs Tryd.func10 rfl (args0 ) (auwakes_any W283 (HT _ HS283.below)) (.bool true)) fun _ HS287 _ H287 => q_ H287 2 rfl fun _ H288 => ln_ <| ?_
     clear H281 H282 HS279 H283 H284 H285 H286 HS283 H287
     have H289 := H288.sel [4] rfl
     refine nx <| wp_ret <| ret_run H289.env0 (res_t Tryd.results5 (H289.get 4 rfl)) <| ?_
     clear H288
     exact ⟨rfl, HS287.below⟩
    refine wi_ HS245j [0, 1, 2, 3, 4] rfl [0, 1, 2, 3, 4, 5] rfl fun HSh290 hx290 => ht_ H255 0 hx290 rfl rfl (v := .agg (bs (lk X r))) (fun _ _ HS9 => dd_load HS9 4 0 rfl rfl (H255.ev 10 rfl) (slab_whole _) Tryd.underlying24 rfl (by rw [show (bs (lk X r)).size = 32 from ((size_bs _).trans (length_lk hw _))]; kernel_rfl)) fun _ H291 => hp_ H291 1 hx290 rfl rfl rfl fun _ H292 => hp_ H292 4 hx290 rfl rfl rfl fun _ H293 => hp_ H293 5 hx290 rfl rfl rfl fun _ H294 => ht_ H294 6 hx290 rfl rfl (fun _ _ _ => xSo 66 (r * 66) rfl (H294.ev 157 rfl) (H294.ev 158 rfl)) fun _ H295 => ht_ H295 7 hx290 rfl rfl (fun _ _ _ => xf 34 (r * 66 + 34) rfl (H295.ev 159 rfl)) fun _ H296 => ht_ H296 8 hx290 rfl rfl (v := .agg (bs xnr.2.2.2)) (fun _ _ HS9 => dd_atN rfl (H296.ev 160 rfl) (ent_l0 (cat_own (HS9.row 3 rfl) (own_set32 (z := (xr.2.1 + 1)) Oc175 hw hxr)) (wf_set hw hwr.1 hwr.2) hxnr) Tryd.underlying24 rfl (by show _ = some (bytesV xnr.2.2.2).length; rw [show (bytesV xnr.2.2.2).length = 32 from len_bv hwnr.2]; kernel_rfl)) fun _ H297 => ?_
    clear HS245j H255 H291 H292 H293 H294 H295
    refine h1_ 2 rfl <| n_ H297 rfl (S := fun g155 => [⟨g3, 56, bs zz⟩, ⟨g23, 30, #[.slice (some ⟨gA, 0, none⟩) (K + 1) cA]⟩, ⟨gA, 59, cbA⟩, ⟨gc175, 59, cbc175.setIfInBounds (r * 66 + 32) (.int .i64 (xr.2.1 + 1))⟩, ⟨g10, 24, bs (lk X r)⟩, ⟨gc246, 5, cbc246⟩, ⟨g155, 35, #[.slice (some ⟨gc246, 0, none⟩) 40 cc246]⟩]) (fun _ h => dd_lits HSh290 #[.slice (some ⟨gc246, 0, none⟩) 40 cc246] rfl (ps := [(0, .slice (some ⟨gc246, 0, none⟩) 40 cc246)]) (pr1 (H297.ev 154 rfl) (pr0)) (z := .slice none 0 0) (sz := 1) Tryd.underlying67 (by kernel_rfl) rfl rfl (by kernel_rfl) h) fun g155 W298 HS298 _ H298 => sx_ (sxi HS298 [0, 1, 2, 3, 4, 5, 6] rfl) fun hx299 => h1_ 3 rfl <| c_ H298 rfl HS298 (dcs Tryd.func24 rfl (args2 (H298.ev 153 rfl) (H298.ev 155 rfl)) (step_one (lk X r) (recA xnr.1 xnr.2.1 xnr.2.2.1) _ W298 (HT _ HS298.below) (length_lk hw _) (parts_one1 (HS298.row 6 rfl) (slice_own (HS298.row 5 rfl) Oc246 (length_recA hwnr.1))) (by rw [(length_recA hwnr.1)]; decide) (nextL (lk X r) xnr) rfl) (.agg (bs (nextL (lk X r) xnr)))) fun W300 HS300 _ H300 => sx_ (sxi HS300 [0, 1, 2, 3, 4, 5, 6] rfl) fun hx301 => ht_ H300 9 hx301 rfl rfl (v := .bool true) (fun _ _ _ => dd_eqa (b := true) rfl (H300.ev 156 rfl) (H300.ev 161 rfl) (by kernel_rfl) (fun w => by rw [eql_dgs (nextL (lk X r) xnr) xnr.2.2.2 (len_next _ _) hwnr.2 w, hb268])) fun _ H302 => ?_
    clear H296 HSh290 H297 hx290 H298 HS298 hx299 H300
    refine wpAnyH_done (by kernel_rfl) ?_ _
    clear hx301
    refine nx <| ct_ H302 rfl <| sq_ <| rl_ <| wl_ <| c_ H302 rfl HS300 (dcs Tryd.func10 rfl (args0 ) (auwakes_any W300 (HT _ HS300.below)) (.bool true)) fun _ HS303 _ H303 => wl_ <| p_ H303 rfl rfl fun _ H304 => ln_ <| ?_
    clear H302 HS300 H303
    have H305 := H304.sel [4] rfl
    refine nx <| wp_ret <| tr <| ret_run H305.env0 (res_t Tryd.results5 (H305.get 4 rfl)) <| ?_
    clear H304
    exact ⟨rfl, HS303.below⟩
   refine wl_ <| i_ H213 rfl (dd_cmp rfl (H213.ev 86 rfl) rfl (eq_f hc215)) fun _ H306 => wl_ <| p_ H306 rfl rfl fun _ H307 => ln_ <| nx <| cf_ H307 rfl <| sq_ <| rl_ <| ?_
   clear H213 H306
   by_cases hc309 : (r2 : Int) = 1
   ·
    refine wl_ <| i_ H307 rfl (dd_cmp rfl (H307.ev 86 rfl) rfl (eq_t hc309)) fun _ H310 => wl_ <| p_ H310 rfl rfl fun _ H311 => ln_ <| nx <| ct_ H311 rfl <| rl_ <| q_ H311 2 rfl fun _ H312 => wl_ <| i_ H312 rfl (xSo 66 (r * 66) rfl (H312.ev 99 rfl) (H312.ev 100 rfl)) fun _ H313 => wl_ <| i_ H313 rfl (xf 33 (r * 66 + 33) rfl (H313.ev 101 rfl)) fun _ H314 => ?_
    clear H307 H310 H311 H312 H313
    obtain ⟨xr, hxr⟩ : ∃ x, X[r]? = some x := ⟨_, List.getElem?_eq_getElem (by rw [hX]; omega)⟩
    have hwr := hw xr (List.mem_of_getElem? hxr)
    have hqr := hbd xr (List.mem_of_getElem? hxr)
    refine wl_ <| i_ H314 rfl (dd_at rfl (H314.ev 102 rfl) (ent_e0 (cat_own (HS209.row 3 rfl) Oc175) hw hxr) Tryd.underlying36 rfl) fun _ H315 => ?_
    clear H314
    have hxo := xorI_b hqr.2.2.1 hqr.2.2.2
    refine wl_ <| i_ H315 rfl (v := .int .i64 (xorI xr.2.2.1)) (dd_bits rfl (.inr (.inr (.inl rfl))) (H315.ev 103 rfl) rfl rfl) fun _ H316 => wl_ <| i_ H316 rfl (xSo 66 (r * 66) rfl (H316.ev 99 rfl) (H316.ev 100 rfl)) fun _ H317 => wl_ <| i_ H317 rfl (xf 33 (r * 66 + 33) rfl (H317.ev 105 rfl)) fun _ H318 => wl_ <| t_ rfl (S := [⟨g3, 56, bs zz⟩, ⟨g23, 30, #[.slice (some ⟨gA, 0, none⟩) (K + 1) cA]⟩, ⟨gA, 59, cbA⟩, ⟨gc175, 59, cbc175.setIfInBounds (r * 66 + 33) (.int .i64 (xorI xr.2.2.1))⟩, ⟨g10, 24, bs (lk X r)⟩]) (fun _ h => dd_put HS209 3 (r * 66 + 33) rfl rfl (H318.ev 106 rfl) (H318.ev 104 rfl) (by kernel_rfl) rfl rfl (own_fit Oc175 (by omega)) rfl h) fun W319 HS319 => ln_ <| ?_
    clear H315 H316 H317 HS209
    have H322 := H318.sel [8, 9, 10] rfl
    refine bn <| nx <| sq_ <| ?_
    clear H318
    refine wi_ HS319 [0, 1, 2, 3, 4] rfl [0, 1, 2, 3, 4] rfl fun HSh323 hx323 => hp_ H322 0 hx323 rfl rfl rfl fun _ H324 => hp_ H324 1 hx323 rfl rfl rfl fun _ H325 => ht_ H325 2 hx323 rfl rfl (fun _ _ _ => xSo 66 (r * 66) rfl (H325.ev 132 rfl) (H325.ev 133 rfl)) fun _ H326 => ht_ H326 3 hx323 rfl rfl (fun _ _ _ => xf 0 (r * 66) rfl (H326.ev 134 rfl)) fun _ H327 => ?_
    clear HS319 H322 H324 H325 H326
    obtain ⟨xnr, hxnr, henr⟩ := set_at (k := r) (xr.1, xr.2.1, (xorI xr.2.2.1), xr.2.2.2) hX (by omega)
    have hwnr := (wf_set hw hwr.1 hwr.2) xnr (List.mem_of_getElem? hxnr)
    refine ht_ H327 4 hx323 rfl rfl (v := .agg (bs xnr.1)) (fun _ _ HS9 => dd_atN rfl (H327.ev 135 rfl) (ent_h0 (cat_own (HS9.row 3 rfl) (own_set33 (z := (xorI xr.2.2.1)) Oc175 hw hxr)) (wf_set hw hwr.1 hwr.2) hxnr) Tryd.underlying24 rfl (by show _ = some (bytesV xnr.1).length; rw [show (bytesV xnr.1).length = 32 from len_bv hwnr.1]; kernel_rfl)) fun _ H328 => hp_ H328 5 hx323 rfl rfl rfl fun _ H329 => hp_ H329 6 hx323 rfl rfl rfl fun _ H330 => ht_ H330 7 hx323 rfl rfl (fun _ _ _ => xSo 66 (r * 66) rfl (H330.ev 137 rfl) (H330.ev 138 rfl)) fun _ H331 => ht_ H331 8 hx323 rfl rfl (fun _ _ _ => xf 32 (r * 66 + 32) rfl (H331.ev 139 rfl)) fun _ H332 => ht_ H332 9 hx323 rfl rfl (fun _ _ HS9 => dd_at rfl (H332.ev 140 rfl) (ent_i0 (cat_own (HS9.row 3 rfl) (own_set33 (z := (xorI xr.2.2.1)) Oc175 hw hxr)) (wf_set hw hwr.1 hwr.2) hxnr) Tryd.underlying3 rfl) fun _ H333 => hp_ H333 10 hx323 rfl rfl rfl fun _ H334 => hp_ H334 11 hx323 rfl rfl rfl fun _ H335 => ?_
    clear H327 H328 H329 H330 H331 H332 H333
    refine ht_ H335 12 hx323 rfl rfl (fun _ _ _ => xSo 66 (r * 66) rfl (H335.ev 142 rfl) (H335.ev 143 rfl)) fun _ H336 => ht_ H336 13 hx323 rfl rfl (fun _ _ _ => xf 33 (r * 66 + 33) rfl (H336.ev 144 rfl)) fun _ H337 => ht_ H337 14 hx323 rfl rfl (fun _ _ HS9 => dd_at rfl (H337.ev 145 rfl) (ent_e0 (cat_own (HS9.row 3 rfl) (own_set33 (z := (xorI xr.2.2.1)) Oc175 hw hxr)) (wf_set hw hwr.1 hwr.2) hxnr) Tryd.underlying36 rfl) fun _ H338 => ht_ H338 15 hx323 rfl rfl (v := .agg #[.int .i64 xnr.2.1, .int .i64 xnr.2.2.1, .slice none 0 0]) (fun _ _ _ => dd_bld rfl (ps := [(0, .int .i64 xnr.2.1), (1, .int .i64 xnr.2.2.1)]) (pr1 (H338.ev 141 rfl) (pr1 (H338.ev 146 rfl) (pr0))) (Lz := [[.int .i64 0], [.int .i64 0], [.slice none 0 0]]) (by kernel_rfl) (lens_cons rfl (lens_cons rfl (lens_cons rfl (lens_nil)))) (fit_cons (i := 0) rfl rfl (fit_cons (i := 1) rfl rfl (fit_nil))) (cs := #[.int .i64 xnr.2.1, .int .i64 xnr.2.2.1, .slice none 0 0]) rfl) fun _ H339 => ?_
    clear H334 H335 H336 H337 H338
    refine h1_ 16 rfl <| d_ H339 rfl (R := fun v w9 => ∃ gc341 cc341 cbc341, v = .tuple #[.slice (some ⟨gc341, 0, none⟩) 40 cc341, .int .i64 0] ∧ (W319.drew.heap.size ≤ gc341) ∧ (Row w9 gc341 5 cbc341) ∧ (OwnC cbc341 cc341 40 1 (bytesV (recA xnr.1 xnr.2.1 xnr.2.2.1))) ∧ Below W319.drew.heap.size W319.drew w9) (dc_ Tryd.func15 rfl (args2 (H339.ev 136 rfl) (H339.ev 147 rfl)) (audrec_good xnr.1 xnr.2.1 xnr.2.2.1 _ W319.drew hwnr.1 (by rw [henr]; exact mayR_in (i := xr.2.1) (e := (xorI xr.2.2.1)) (by omega) (by omega) (by omega) (by omega))) (fun _ w9 ⟨g9, c9, cb9, he, h1, h2, h3, hb⟩ => ⟨_, he, g9, c9, cb9, rfl, h1, h2, h3, hb⟩)) ?_
    rintro _ W340 ⟨gc341, cc341, cbc341, rfl, hg341, hr341, Oc341, hb340⟩ a340 H340
    have HS340 := HSh323.same hb340
    clear H339
    have HS340j : St w noF [⟨g3, 56, bs zz⟩, ⟨g23, 30, #[.slice (some ⟨gA, 0, none⟩) (K + 1) cA]⟩, ⟨gA, 59, cbA⟩, ⟨gc175, 59, cbc175.setIfInBounds (r * 66 + 33) (.int .i64 (xorI xr.2.2.1))⟩, ⟨g10, 24, bs (lk X r)⟩, ⟨gc341, 5, cbc341⟩] W340 := HSh323.joins hb340 hr341 hg341
    clear HS340 hr341 hg341
    clear HSh323 hb340
    refine sx_ (sxi HS340j [0, 1, 2, 3, 4, 5] rfl) fun hx342 => hp_ H340 17 hx342 rfl rfl rfl fun _ H343 => ht_ H343 18 hx342 rfl rfl (v := .slice (some ⟨gc341, 0, none⟩) 40 cc341) (fun _ _ _ => dd_ext rfl (H343.ev 131 rfl) rfl) fun _ H344 => ht_ H344 19 hx342 rfl rfl (v := .int .i64 0) (fun _ _ _ => dd_ext rfl (H344.ev 131 rfl) rfl) fun _ H345 => hp_ H345 20 hx342 rfl rfl rfl fun _ H346 => hp_ H346 21 hx342 rfl rfl rfl fun _ H347 => ?_
    clear hx323 H340 H343 H344 H345 H346
    refine wpAnyH_done (by kernel_rfl) ?_ _
    clear hx342
    refine nx <| sq_ <| sq_ <| rl_ <| wl_ <| p_ H347 rfl rfl fun _ H348 => wl_ <| i_ H348 rfl (dd_cmp rfl (H348.ev 151 rfl) rfl (ne_f (by decide))) fun _ H349 => ln_ <| ?_
    clear H347 H348
    have H350 := H349.sel [8, 9, 10, 11, 152] rfl
    refine nx <| cf_ H350 rfl <| wp_skip <| nx <| sq_ <| sq_ <| ?_
    clear H349
    cases hb363 : decide (nextL (lk X r) xnr = xnr.2.2.2)
    ·
     refine wi_ HS340j [0, 1, 2, 3, 4] rfl [0, 1, 2, 3, 4, 5] rfl fun HSh364 hx364 => ht_ H350 0 hx364 rfl rfl (v := .agg (bs (lk X r))) (fun _ _ HS9 => dd_load HS9 4 0 rfl rfl (H350.ev 10 rfl) (slab_whole _) Tryd.underlying24 rfl (by rw [show (bs (lk X r)).size = 32 from ((size_bs _).trans (length_lk hw _))]; kernel_rfl)) fun _ H365 => hp_ H365 1 hx364 rfl rfl rfl fun _ H366 => hp_ H366 4 hx364 rfl rfl rfl fun _ H367 => hp_ H367 5 hx364 rfl rfl rfl fun _ H368 => ht_ H368 6 hx364 rfl rfl (fun _ _ _ => xSo 66 (r * 66) rfl (H368.ev 157 rfl) (H368.ev 158 rfl)) fun _ H369 => ht_ H369 7 hx364 rfl rfl (fun _ _ _ => xf 34 (r * 66 + 34) rfl (H369.ev 159 rfl)) fun _ H370 => ht_ H370 8 hx364 rfl rfl (v := .agg (bs xnr.2.2.2)) (fun _ _ HS9 => dd_atN rfl (H370.ev 160 rfl) (ent_l0 (cat_own (HS9.row 3 rfl) (own_set33 (z := (xorI xr.2.2.1)) Oc175 hw hxr)) (wf_set hw hwr.1 hwr.2) hxnr) Tryd.underlying24 rfl (by show _ = some (bytesV xnr.2.2.2).length; rw [show (bytesV xnr.2.2.2).length = 32 from len_bv hwnr.2]; kernel_rfl)) fun _ H371 => ?_
     clear HS340j H350 H365 H366 H367 H368 H369
     refine h1_ 2 rfl <| n_ H371 rfl (S := fun g155 => [⟨g3, 56, bs zz⟩, ⟨g23, 30, #[.slice (some ⟨gA, 0, none⟩) (K + 1) cA]⟩, ⟨gA, 59, cbA⟩, ⟨gc175, 59, cbc175.setIfInBounds (r * 66 + 33) (.int .i64 (xorI xr.2.2.1))⟩, ⟨g10, 24, bs (lk X r)⟩, ⟨gc341, 5, cbc341⟩, ⟨g155, 35, #[.slice (some ⟨gc341, 0, none⟩) 40 cc341]⟩]) (fun _ h => dd_lits HSh364 #[.slice (some ⟨gc341, 0, none⟩) 40 cc341] rfl (ps := [(0, .slice (some ⟨gc341, 0, none⟩) 40 cc341)]) (pr1 (H371.ev 154 rfl) (pr0)) (z := .slice none 0 0) (sz := 1) Tryd.underlying67 (by kernel_rfl) rfl rfl (by kernel_rfl) h) fun g155 W372 HS372 _ H372 => sx_ (sxi HS372 [0, 1, 2, 3, 4, 5, 6] rfl) fun hx373 => h1_ 3 rfl <| c_ H372 rfl HS372 (dcs Tryd.func24 rfl (args2 (H372.ev 153 rfl) (H372.ev 155 rfl)) (step_one (lk X r) (recA xnr.1 xnr.2.1 xnr.2.2.1) _ W372 (HT _ HS372.below) (length_lk hw _) (parts_one1 (HS372.row 6 rfl) (slice_own (HS372.row 5 rfl) Oc341 (length_recA hwnr.1))) (by rw [(length_recA hwnr.1)]; decide) (nextL (lk X r) xnr) rfl) (.agg (bs (nextL (lk X r) xnr)))) fun W374 HS374 _ H374 => sx_ (sxi HS374 [0, 1, 2, 3, 4, 5, 6] rfl) fun hx375 => ht_ H374 9 hx375 rfl rfl (v := .bool false) (fun _ _ _ => dd_eqa (b := false) rfl (H374.ev 156 rfl) (H374.ev 161 rfl) (by kernel_rfl) (fun w => by rw [eql_dgs (nextL (lk X r) xnr) xnr.2.2.2 (len_next _ _) hwnr.2 w, hb363])) fun _ H376 => ?_
     clear H370 HSh364 H371 hx364 H372 HS372 hx373 H374
     refine wpAnyH_done (by kernel_rfl) ?_ _
     clear hx375
     refine nx <| cf_ H376 rfl <| wp_skip <| nx <| sq_ <| rl_ <| wl_ <| p_ H376 rfl rfl fun _ H377 => wl_ <| c_ H377 rfl HS374 (dcs Tryd.func20 rfl (args1 (H377.ev 164 rfl)) (audver_any _ ((X).set r (xr.1, xr.2.1, (xorI xr.2.2.1), xr.2.2.2)) W374 (HT _ HS374.below) (ents_mk ((List.length_set ..).trans hX) (wf_set hw hwr.1 hwr.2) (cat_own (HS374.row 3 rfl) (own_set33 (z := (xorI xr.2.2.1)) Oc175 hw hxr)) (own_set33 (z := (xorI xr.2.2.1)) Oc175 hw hxr).le) (by rw [((List.length_set ..).trans hX)]; omega)) (.int .i64 (verI ((X).set r (xr.1, xr.2.1, (xorI xr.2.2.1), xr.2.2.2))))) fun W378 HS378 _ H378 => wl_ <| p_ H378 rfl rfl fun _ H379 => wl_ <| i_ H379 rfl (dd_cmp rfl (H379.ev 165 rfl) (H379.ev 166 rfl) (eq_t (ver_set (by omega) hgd (fun h9 => of_decide_eq_false hb363 (by rw [henr]; exact h9))))) fun _ H380 => wl_ <| p_ H380 rfl rfl fun _ H381 => wl_ <| cg H381 (wg_ H381 rfl rfl rfl rfl) rfl HS378 (dcs Tryd.func10 rfl (args0 ) (auwakes_any W378 (HT _ HS378.below)) (.bool true)) fun _ HS382 _ H382 => q_ H382 2 rfl fun _ H383 => ln_ <| ?_
     clear H376 H377 HS374 H378 H379 H380 H381 HS378 H382
     have H384 := H383.sel [4] rfl
     refine nx <| wp_ret <| ret_run H384.env0 (res_t Tryd.results5 (H384.get 4 rfl)) <| ?_
     clear H383
     exact ⟨rfl, HS382.below⟩
    refine wi_ HS340j [0, 1, 2, 3, 4] rfl [0, 1, 2, 3, 4, 5] rfl fun HSh385 hx385 => ht_ H350 0 hx385 rfl rfl (v := .agg (bs (lk X r))) (fun _ _ HS9 => dd_load HS9 4 0 rfl rfl (H350.ev 10 rfl) (slab_whole _) Tryd.underlying24 rfl (by rw [show (bs (lk X r)).size = 32 from ((size_bs _).trans (length_lk hw _))]; kernel_rfl)) fun _ H386 => hp_ H386 1 hx385 rfl rfl rfl fun _ H387 => hp_ H387 4 hx385 rfl rfl rfl fun _ H388 => hp_ H388 5 hx385 rfl rfl rfl fun _ H389 => ht_ H389 6 hx385 rfl rfl (fun _ _ _ => xSo 66 (r * 66) rfl (H389.ev 157 rfl) (H389.ev 158 rfl)) fun _ H390 => ht_ H390 7 hx385 rfl rfl (fun _ _ _ => xf 34 (r * 66 + 34) rfl (H390.ev 159 rfl)) fun _ H391 => ht_ H391 8 hx385 rfl rfl (v := .agg (bs xnr.2.2.2)) (fun _ _ HS9 => dd_atN rfl (H391.ev 160 rfl) (ent_l0 (cat_own (HS9.row 3 rfl) (own_set33 (z := (xorI xr.2.2.1)) Oc175 hw hxr)) (wf_set hw hwr.1 hwr.2) hxnr) Tryd.underlying24 rfl (by show _ = some (bytesV xnr.2.2.2).length; rw [show (bytesV xnr.2.2.2).length = 32 from len_bv hwnr.2]; kernel_rfl)) fun _ H392 => ?_
    clear HS340j H350 H386 H387 H388 H389 H390
    refine h1_ 2 rfl <| n_ H392 rfl (S := fun g155 => [⟨g3, 56, bs zz⟩, ⟨g23, 30, #[.slice (some ⟨gA, 0, none⟩) (K + 1) cA]⟩, ⟨gA, 59, cbA⟩, ⟨gc175, 59, cbc175.setIfInBounds (r * 66 + 33) (.int .i64 (xorI xr.2.2.1))⟩, ⟨g10, 24, bs (lk X r)⟩, ⟨gc341, 5, cbc341⟩, ⟨g155, 35, #[.slice (some ⟨gc341, 0, none⟩) 40 cc341]⟩]) (fun _ h => dd_lits HSh385 #[.slice (some ⟨gc341, 0, none⟩) 40 cc341] rfl (ps := [(0, .slice (some ⟨gc341, 0, none⟩) 40 cc341)]) (pr1 (H392.ev 154 rfl) (pr0)) (z := .slice none 0 0) (sz := 1) Tryd.underlying67 (by kernel_rfl) rfl rfl (by kernel_rfl) h) fun g155 W393 HS393 _ H393 => sx_ (sxi HS393 [0, 1, 2, 3, 4, 5, 6] rfl) fun hx394 => h1_ 3 rfl <| c_ H393 rfl HS393 (dcs Tryd.func24 rfl (args2 (H393.ev 153 rfl) (H393.ev 155 rfl)) (step_one (lk X r) (recA xnr.1 xnr.2.1 xnr.2.2.1) _ W393 (HT _ HS393.below) (length_lk hw _) (parts_one1 (HS393.row 6 rfl) (slice_own (HS393.row 5 rfl) Oc341 (length_recA hwnr.1))) (by rw [(length_recA hwnr.1)]; decide) (nextL (lk X r) xnr) rfl) (.agg (bs (nextL (lk X r) xnr)))) fun W395 HS395 _ H395 => sx_ (sxi HS395 [0, 1, 2, 3, 4, 5, 6] rfl) fun hx396 => ht_ H395 9 hx396 rfl rfl (v := .bool true) (fun _ _ _ => dd_eqa (b := true) rfl (H395.ev 156 rfl) (H395.ev 161 rfl) (by kernel_rfl) (fun w => by rw [eql_dgs (nextL (lk X r) xnr) xnr.2.2.2 (len_next _ _) hwnr.2 w, hb363])) fun _ H397 => ?_
    clear H391 HSh385 H392 hx385 H393 HS393 hx394 H395
    refine wpAnyH_done (by kernel_rfl) ?_ _
    clear hx396
    refine nx <| ct_ H397 rfl <| sq_ <| rl_ <| wl_ <| c_ H397 rfl HS395 (dcs Tryd.func10 rfl (args0 ) (auwakes_any W395 (HT _ HS395.below)) (.bool true)) fun _ HS398 _ H398 => wl_ <| p_ H398 rfl rfl fun _ H399 => ln_ <| ?_
    clear H397 HS395 H398
    have H400 := H399.sel [4] rfl
    refine nx <| wp_ret <| tr <| ret_run H400.env0 (res_t Tryd.results5 (H400.get 4 rfl)) <| ?_
    clear H399
    exact ⟨rfl, HS398.below⟩
   refine wl_ <| i_ H307 rfl (dd_cmp rfl (H307.ev 86 rfl) rfl (eq_f hc309)) fun _ H401 => wl_ <| p_ H401 rfl rfl fun _ H402 => ln_ <| nx <| cf_ H402 rfl <| sq_ <| rl_ <| wl_ <| i_ H402 rfl (dd_cmp rfl (H402.ev 86 rfl) rfl (eq_t (by omega))) fun _ H403 => wl_ <| p_ H403 rfl rfl fun _ H404 => ln_ <| nx <| ct_ H404 rfl <| sq_ <| ?_
   clear H307 H401 H402 H403
   refine wi_ HS209 [0, 1, 2, 4] rfl [0, 1, 2, 4, 3] rfl fun HSh405 hx405 => hp_ H404 0 hx405 rfl rfl rfl fun _ H406 => hp_ H406 1 hx405 rfl rfl rfl fun _ H407 => ht_ H407 2 hx405 rfl rfl (fun _ _ _ => xA 2 1 1 rfl (H407.ev 3 rfl) rfl) fun _ H408 => ht_ H408 3 hx405 rfl rfl (fun _ _ HS9 => dd_get HS9 0 1 rfl rfl (H408.ev 111 rfl) (bs_get hzz 1 (by decide)) Tryd.underlying5 rfl) fun _ H409 => ht_ H409 4 hx405 rfl rfl (v := .int .i64 (bd (zz.getD 1 0#8))) (fun _ _ _ => dd_conv (k := .i64) rfl (H409.ev 112 rfl) Tryd.underlying5 (by kernel_rfl) (i64_bdA _)) fun _ H410 => ?_
   clear HS209 H404 H406 H407 H408 H409
   obtain ⟨d3, hd3⟩ := quo_b (zz.getD 1 0#8)
   refine ht_ H410 5 hx405 rfl rfl (v := .int .i64 d3) (fun _ _ _ => dd_quo rfl (H410.ev 113 rfl) rfl (by decide) hd3) fun _ H411 => ?_
   clear H410
   obtain ⟨j3, hj3, lj3⟩ := mod_nat (d3 : Int) 32 (by omega) (by decide)
   refine ht_ H411 6 hx405 rfl rfl (v := .int .i64 j3) (fun _ _ _ => dd_rem rfl (H411.ev 114 rfl) rfl (by decide) hj3) fun _ H412 => ht_ H412 7 hx405 rfl rfl (fun _ _ _ => xSo 66 (r * 66) rfl (H412.ev 109 rfl) (H412.ev 110 rfl)) fun _ H413 => ht_ H413 8 hx405 rfl rfl (fun _ _ _ => xf 34 (r * 66 + 34) rfl (H413.ev 116 rfl)) fun _ H414 => ht_ H414 9 hx405 rfl rfl (fun _ _ _ => xAo 32 1 (r * 66 + 34 + j3) rfl (H414.ev 117 rfl) (H414.ev 115 rfl)) fun _ H415 => ht_ H415 12 hx405 rfl rfl (fun _ _ _ => xSo 66 (r * 66) rfl (H415.ev 109 rfl) (H415.ev 110 rfl)) fun _ H416 => ht_ H416 13 hx405 rfl rfl (fun _ _ _ => xf 34 (r * 66 + 34) rfl (H416.ev 121 rfl)) fun _ H417 => ?_
   clear H411 H412 H413 H414 H415 H416
   obtain ⟨xr, hxr⟩ : ∃ x, X[r]? = some x := ⟨_, List.getElem?_eq_getElem (by rw [hX]; omega)⟩
   have hwr := hw xr (List.mem_of_getElem? hxr)
   have hqr := hbd xr (List.mem_of_getElem? hxr)
   refine h1_ 10 rfl <| i_ H417 rfl (dd_at rfl (H417.ev 118 rfl) (ent_lb (cat_own (HSh405.row 3 rfl) Oc175) hw hxr lj3) Tryd.underlying5 rfl) fun _ H418 => sx_ (sxi HSh405 [0, 1, 2, 4, 3] rfl) fun hx419 => ht_ H418 11 hx419 rfl rfl (v := .int .u8 (bd ((xr.2.2.2.getD j3 0#8) ^^^ 1#8))) (fun _ _ _ => dd_bits rfl (.inr (.inr (.inl rfl))) (H418.ev 119 rfl) rfl (congrArg (fun z => (pure (.int .u8 z) : Sem Value)) (xor_bd (xr.2.2.2.getD j3 0#8) 1#8))) fun _ H420 => ht_ H420 14 hx419 rfl rfl (fun _ _ _ => xAo 32 1 (r * 66 + 34 + j3) rfl (H420.ev 122 rfl) (H420.ev 115 rfl)) fun _ H421 => h1_ 15 rfl <| t_ rfl (S := [⟨g3, 56, bs zz⟩, ⟨g23, 30, #[.slice (some ⟨gA, 0, none⟩) (K + 1) cA]⟩, ⟨gA, 59, cbA⟩, ⟨gc175, 59, cbc175.setIfInBounds (r * 66 + 34 + j3) (.int .u8 (bd ((xr.2.2.2.getD j3 0#8) ^^^ 1#8)))⟩, ⟨g10, 24, bs (lk X r)⟩]) (fun _ h => dd_put HSh405 3 (r * 66 + 34 + j3) rfl rfl (H421.ev 123 rfl) (H421.ev 120 rfl) (by kernel_rfl) rfl rfl (own_fit Oc175 (by omega)) rfl h) fun W422 HS422 => sx_ (sxi HS422 [0, 1, 2, 4, 3] rfl) fun hx424 => ?_
   clear H417 hx405 H418 H420 HSh405 hx419
   refine wpAnyH_done (by kernel_rfl) ?_ _
   clear hx424
   refine nx <| sq_ <| rl_ <| wl_ <| p_ H421 rfl rfl fun _ H425 => wl_ <| c_ H425 rfl HS422 (dcs Tryd.func20 rfl (args1 (H425.ev 124 rfl)) (audver_any _ ((X).set r (xr.1, xr.2.1, xr.2.2.1, xr.2.2.2.set j3 ((xr.2.2.2.getD j3 0#8) ^^^ 1#8))) W422 (HT _ HS422.below) (ents_mk ((List.length_set ..).trans hX) (wf_set hw hwr.1 (by rw [List.length_set]; exact hwr.2)) (cat_own (HS422.row 3 rfl) (own_set34 (z := ((xr.2.2.2.getD j3 0#8) ^^^ 1#8)) Oc175 hw hxr lj3)) (own_set34 (z := ((xr.2.2.2.getD j3 0#8) ^^^ 1#8)) Oc175 hw hxr lj3).le) (by rw [((List.length_set ..).trans hX)]; omega)) (.int .i64 (verI ((X).set r (xr.1, xr.2.1, xr.2.2.1, xr.2.2.2.set j3 ((xr.2.2.2.getD j3 0#8) ^^^ 1#8)))))) fun W426 HS426 _ H426 => wl_ <| p_ H426 rfl rfl fun _ H427 => wl_ <| i_ H427 rfl (dd_cmp rfl (H427.ev 125 rfl) (H427.ev 126 rfl) (eq_t (ver_lnk hxr hgd (by rw [hwr.2]; exact lj3)))) fun _ H428 => wl_ <| p_ H428 rfl rfl fun _ H429 => wl_ <| cg H429 (wg_ H429 rfl rfl rfl rfl) rfl HS426 (dcs Tryd.func10 rfl (args0 ) (auwakes_any W426 (HT _ HS426.below)) (.bool true)) fun _ HS430 _ H430 => q_ H430 2 rfl fun _ H431 => ln_ <| ?_
   clear H421 H425 HS422 H426 H427 H428 H429 HS426 H430
   have H432 := H431.sel [4] rfl
   refine nx <| wp_ret <| br_ <| tr <| ret_run H432.env0 (res_t Tryd.results5 (H432.get 4 rfl)) <| ?_
   clear H431
   exact ⟨rfl, HS430.below⟩
  refine wl_ <| i_ H200 rfl (dd_cmp rfl (H200.ev 76 rfl) rfl (gt_f hc202)) fun _ H433 => ln_ <| nx <| cf_ H433 rfl <| wp_skip <| nx <| sq_ <| sq_ <| rl_ <| wl_ <| i_ H433 rfl (xA 2 1 1 rfl (H433.ev 3 rfl) rfl) fun _ H434 => wl_ <| i_ H434 rfl (dd_get HS199 0 1 rfl rfl (H434.ev 84 rfl) (bs_get hzz 1 (by decide)) Tryd.underlying5 rfl) fun _ H435 => ?_
  clear H200 H433 H434
  obtain ⟨r2, hr2, lr2⟩ := mod_nat (bd (zz.getD 1 0#8)) 3 (bd_lo _) (by omega)
  refine wl_ <| i_ H435 rfl (v := .int .u8 r2) (dd_rem rfl (H435.ev 85 rfl) rfl (by omega) hr2) fun _ H436 => ln_ <| ?_
  clear H435
  have H437 := H436.sel [3, 8, 9, 10, 86] rfl
  refine nx <| wp_block <| sq_ <| rl_ <| ?_
  clear H436
  by_cases hc439 : (r2 : Int) = 0
  ·
   refine wl_ <| i_ H437 rfl (dd_cmp rfl (H437.ev 86 rfl) rfl (eq_t hc439)) fun _ H440 => wl_ <| p_ H440 rfl rfl fun _ H441 => ln_ <| nx <| ct_ H441 rfl <| rl_ <| q_ H441 2 rfl fun _ H442 => wl_ <| i_ H442 rfl (xSo 66 (r * 66) rfl (H442.ev 89 rfl) (H442.ev 90 rfl)) fun _ H443 => wl_ <| i_ H443 rfl (xf 32 (r * 66 + 32) rfl (H443.ev 91 rfl)) fun _ H444 => ?_
   clear H437 H440 H441 H442 H443
   obtain ⟨xr, hxr⟩ : ∃ x, X[r]? = some x := ⟨_, List.getElem?_eq_getElem (by rw [hX]; omega)⟩
   have hwr := hw xr (List.mem_of_getElem? hxr)
   have hqr := hbd xr (List.mem_of_getElem? hxr)
   refine wl_ <| i_ H444 rfl (dd_at rfl (H444.ev 92 rfl) (ent_i0 (cat_own (HS199.row 3 rfl) Oc175) hw hxr) Tryd.underlying3 rfl) fun _ H445 => wl_ <| i_ H445 rfl (v := .int .i64 (xr.2.1 + 1)) (dd_ari rfl (H445.ev 93 rfl) rfl rfl (i64_of (by first | omega | (have := bd_lo; omega)) (by omega))) fun _ H446 => wl_ <| i_ H446 rfl (xSo 66 (r * 66) rfl (H446.ev 89 rfl) (H446.ev 90 rfl)) fun _ H447 => wl_ <| i_ H447 rfl (xf 32 (r * 66 + 32) rfl (H447.ev 95 rfl)) fun _ H448 => wl_ <| t_ rfl (S := [⟨g3, 56, bs zz⟩, ⟨g23, 30, #[.slice (some ⟨gA, 0, none⟩) (K + 1) cA]⟩, ⟨gA, 59, cbA⟩, ⟨gc175, 59, cbc175.setIfInBounds (r * 66 + 32) (.int .i64 (xr.2.1 + 1))⟩, ⟨g10, 24, bs (zer 32)⟩]) (fun _ h => dd_put HS199 3 (r * 66 + 32) rfl rfl (H448.ev 96 rfl) (H448.ev 94 rfl) (by kernel_rfl) rfl rfl (own_fit Oc175 (by omega)) rfl h) fun W449 HS449 => ln_ <| bn <| nx <| sq_ <| ?_
   clear H444 H445 H446 H447 HS199
   refine wi_ HS449 [0, 1, 2, 3, 4] rfl [0, 1, 2, 3, 4] rfl fun HSh452 hx452 => hp_ H448 0 hx452 rfl rfl rfl fun _ H453 => hp_ H453 1 hx452 rfl rfl rfl fun _ H454 => ht_ H454 2 hx452 rfl rfl (fun _ _ _ => xSo 66 (r * 66) rfl (H454.ev 132 rfl) (H454.ev 133 rfl)) fun _ H455 => ht_ H455 3 hx452 rfl rfl (fun _ _ _ => xf 0 (r * 66) rfl (H455.ev 134 rfl)) fun _ H456 => ?_
   clear HS449 H448 H453 H454 H455
   obtain ⟨xnr, hxnr, henr⟩ := set_at (k := r) (xr.1, (xr.2.1 + 1), xr.2.2.1, xr.2.2.2) hX (by omega)
   have hwnr := (wf_set hw hwr.1 hwr.2) xnr (List.mem_of_getElem? hxnr)
   refine ht_ H456 4 hx452 rfl rfl (v := .agg (bs xnr.1)) (fun _ _ HS9 => dd_atN rfl (H456.ev 135 rfl) (ent_h0 (cat_own (HS9.row 3 rfl) (own_set32 (z := (xr.2.1 + 1)) Oc175 hw hxr)) (wf_set hw hwr.1 hwr.2) hxnr) Tryd.underlying24 rfl (by show _ = some (bytesV xnr.1).length; rw [show (bytesV xnr.1).length = 32 from len_bv hwnr.1]; kernel_rfl)) fun _ H457 => hp_ H457 5 hx452 rfl rfl rfl fun _ H458 => hp_ H458 6 hx452 rfl rfl rfl fun _ H459 => ht_ H459 7 hx452 rfl rfl (fun _ _ _ => xSo 66 (r * 66) rfl (H459.ev 137 rfl) (H459.ev 138 rfl)) fun _ H460 => ht_ H460 8 hx452 rfl rfl (fun _ _ _ => xf 32 (r * 66 + 32) rfl (H460.ev 139 rfl)) fun _ H461 => ht_ H461 9 hx452 rfl rfl (fun _ _ HS9 => dd_at rfl (H461.ev 140 rfl) (ent_i0 (cat_own (HS9.row 3 rfl) (own_set32 (z := (xr.2.1 + 1)) Oc175 hw hxr)) (wf_set hw hwr.1 hwr.2) hxnr) Tryd.underlying3 rfl) fun _ H462 => hp_ H462 10 hx452 rfl rfl rfl fun _ H463 => hp_ H463 11 hx452 rfl rfl rfl fun _ H464 => ?_
   clear H456 H457 H458 H459 H460 H461 H462
   refine ht_ H464 12 hx452 rfl rfl (fun _ _ _ => xSo 66 (r * 66) rfl (H464.ev 142 rfl) (H464.ev 143 rfl)) fun _ H465 => ht_ H465 13 hx452 rfl rfl (fun _ _ _ => xf 33 (r * 66 + 33) rfl (H465.ev 144 rfl)) fun _ H466 => ht_ H466 14 hx452 rfl rfl (fun _ _ HS9 => dd_at rfl (H466.ev 145 rfl) (ent_e0 (cat_own (HS9.row 3 rfl) (own_set32 (z := (xr.2.1 + 1)) Oc175 hw hxr)) (wf_set hw hwr.1 hwr.2) hxnr) Tryd.underlying36 rfl) fun _ H467 => ht_ H467 15 hx452 rfl rfl (v := .agg #[.int .i64 xnr.2.1, .int .i64 xnr.2.2.1, .slice none 0 0]) (fun _ _ _ => dd_bld rfl (ps := [(0, .int .i64 xnr.2.1), (1, .int .i64 xnr.2.2.1)]) (pr1 (H467.ev 141 rfl) (pr1 (H467.ev 146 rfl) (pr0))) (Lz := [[.int .i64 0], [.int .i64 0], [.slice none 0 0]]) (by kernel_rfl) (lens_cons rfl (lens_cons rfl (lens_cons rfl (lens_nil)))) (fit_cons (i := 0) rfl rfl (fit_cons (i := 1) rfl rfl (fit_nil))) (cs := #[.int .i64 xnr.2.1, .int .i64 xnr.2.2.1, .slice none 0 0]) rfl) fun _ H468 => ?_
   clear H463 H464 H465 H466 H467
   refine h1_ 16 rfl <| d_ H468 rfl (R := fun v w9 => ∃ gc470 cc470 cbc470, v = .tuple #[.slice (some ⟨gc470, 0, none⟩) 40 cc470, .int .i64 0] ∧ (W449.drew.heap.size ≤ gc470) ∧ (Row w9 gc470 5 cbc470) ∧ (OwnC cbc470 cc470 40 1 (bytesV (recA xnr.1 xnr.2.1 xnr.2.2.1))) ∧ Below W449.drew.heap.size W449.drew w9) (dc_ Tryd.func15 rfl (args2 (H468.ev 136 rfl) (H468.ev 147 rfl)) (audrec_good xnr.1 xnr.2.1 xnr.2.2.1 _ W449.drew hwnr.1 (by rw [henr]; exact mayR_in (i := (xr.2.1 + 1)) (e := xr.2.2.1) (by omega) (by omega) (by omega) (by omega))) (fun _ w9 ⟨g9, c9, cb9, he, h1, h2, h3, hb⟩ => ⟨_, he, g9, c9, cb9, rfl, h1, h2, h3, hb⟩)) ?_
   rintro _ W469 ⟨gc470, cc470, cbc470, rfl, hg470, hr470, Oc470, hb469⟩ a469 H469
   have HS469 := HSh452.same hb469
   clear H468
   have HS469j : St w noF [⟨g3, 56, bs zz⟩, ⟨g23, 30, #[.slice (some ⟨gA, 0, none⟩) (K + 1) cA]⟩, ⟨gA, 59, cbA⟩, ⟨gc175, 59, cbc175.setIfInBounds (r * 66 + 32) (.int .i64 (xr.2.1 + 1))⟩, ⟨g10, 24, bs (zer 32)⟩, ⟨gc470, 5, cbc470⟩] W469 := HSh452.joins hb469 hr470 hg470
   clear HS469 hr470 hg470
   clear HSh452 hb469
   refine sx_ (sxi HS469j [0, 1, 2, 3, 4, 5] rfl) fun hx471 => hp_ H469 17 hx471 rfl rfl rfl fun _ H472 => ht_ H472 18 hx471 rfl rfl (v := .slice (some ⟨gc470, 0, none⟩) 40 cc470) (fun _ _ _ => dd_ext rfl (H472.ev 131 rfl) rfl) fun _ H473 => ht_ H473 19 hx471 rfl rfl (v := .int .i64 0) (fun _ _ _ => dd_ext rfl (H473.ev 131 rfl) rfl) fun _ H474 => hp_ H474 20 hx471 rfl rfl rfl fun _ H475 => hp_ H475 21 hx471 rfl rfl rfl fun _ H476 => ?_
   clear hx452 H469 H472 H473 H474 H475
   refine wpAnyH_done (by kernel_rfl) ?_ _
   clear hx471
   refine nx <| sq_ <| sq_ <| rl_ <| wl_ <| p_ H476 rfl rfl fun _ H477 => wl_ <| i_ H477 rfl (dd_cmp rfl (H477.ev 151 rfl) rfl (ne_f (by decide))) fun _ H478 => ln_ <| ?_
   clear H476 H477
   have H479 := H478.sel [8, 9, 10, 11, 152] rfl
   refine nx <| cf_ H479 rfl <| wp_skip <| nx <| sq_ <| sq_ <| ?_
   clear H478
   cases hb492 : decide (nextL (zer 32) xnr = xnr.2.2.2)
   ·
    refine wi_ HS469j [0, 1, 2, 3, 4] rfl [0, 1, 2, 3, 4, 5] rfl fun HSh493 hx493 => ht_ H479 0 hx493 rfl rfl (v := .agg (bs (zer 32))) (fun _ _ HS9 => dd_load HS9 4 0 rfl rfl (H479.ev 10 rfl) (slab_whole _) Tryd.underlying24 rfl (by rw [show (bs (zer 32)).size = 32 from ((size_bs _).trans (length_zer 32))]; kernel_rfl)) fun _ H494 => hp_ H494 1 hx493 rfl rfl rfl fun _ H495 => hp_ H495 4 hx493 rfl rfl rfl fun _ H496 => hp_ H496 5 hx493 rfl rfl rfl fun _ H497 => ht_ H497 6 hx493 rfl rfl (fun _ _ _ => xSo 66 (r * 66) rfl (H497.ev 157 rfl) (H497.ev 158 rfl)) fun _ H498 => ht_ H498 7 hx493 rfl rfl (fun _ _ _ => xf 34 (r * 66 + 34) rfl (H498.ev 159 rfl)) fun _ H499 => ht_ H499 8 hx493 rfl rfl (v := .agg (bs xnr.2.2.2)) (fun _ _ HS9 => dd_atN rfl (H499.ev 160 rfl) (ent_l0 (cat_own (HS9.row 3 rfl) (own_set32 (z := (xr.2.1 + 1)) Oc175 hw hxr)) (wf_set hw hwr.1 hwr.2) hxnr) Tryd.underlying24 rfl (by show _ = some (bytesV xnr.2.2.2).length; rw [show (bytesV xnr.2.2.2).length = 32 from len_bv hwnr.2]; kernel_rfl)) fun _ H500 => ?_
    clear HS469j H479 H494 H495 H496 H497 H498
    refine h1_ 2 rfl <| n_ H500 rfl (fun _ h => dd_lits HSh493 #[.slice (some ⟨gc470, 0, none⟩) 40 cc470] rfl (ps := [(0, .slice (some ⟨gc470, 0, none⟩) 40 cc470)]) (pr1 (H500.ev 154 rfl) (pr0)) (z := .slice none 0 0) (sz := 1) Tryd.underlying67 (by kernel_rfl) rfl rfl (by kernel_rfl) h) fun g155 W501 HS501 _ H501 => sx_ (sxi HS501 [0, 1, 2, 3, 4, 5, 6] rfl) fun hx502 => h1_ 3 rfl <| c_ H501 rfl HS501 (dcs Tryd.func24 rfl (args2 (H501.ev 153 rfl) (H501.ev 155 rfl)) (step_one (zer 32) (recA xnr.1 xnr.2.1 xnr.2.2.1) _ W501 (HT _ HS501.below) (length_zer 32) (parts_one1 (HS501.row 6 rfl) (slice_own (HS501.row 5 rfl) Oc470 (length_recA hwnr.1))) (by rw [(length_recA hwnr.1)]; decide) (nextL (zer 32) xnr) rfl) (.agg (bs (nextL (zer 32) xnr)))) fun W503 HS503 _ H503 => sx_ (sxi HS503 [0, 1, 2, 3, 4, 5, 6] rfl) fun hx504 => ht_ H503 9 hx504 rfl rfl (v := .bool false) (fun _ _ _ => dd_eqa (b := false) rfl (H503.ev 156 rfl) (H503.ev 161 rfl) (by kernel_rfl) (fun w => by rw [eql_dgs (nextL (zer 32) xnr) xnr.2.2.2 (len_next _ _) hwnr.2 w, hb492])) fun _ H505 => ?_
    clear H499 HSh493 H500 hx493 H501 HS501 hx502 H503
    refine wpAnyH_done (by kernel_rfl) ?_ _
    clear hx504
    refine nx <| cf_ H505 rfl <| wp_skip <| nx <| sq_ <| rl_ <| wl_ <| p_ H505 rfl rfl fun _ H506 => wl_ <| c_ H506 rfl HS503 (dcs Tryd.func20 rfl (args1 (H506.ev 164 rfl)) (audver_any _ ((X).set r (xr.1, (xr.2.1 + 1), xr.2.2.1, xr.2.2.2)) W503 (HT _ HS503.below) (ents_mk ((List.length_set ..).trans hX) (wf_set hw hwr.1 hwr.2) (cat_own (HS503.row 3 rfl) (own_set32 (z := (xr.2.1 + 1)) Oc175 hw hxr)) (own_set32 (z := (xr.2.1 + 1)) Oc175 hw hxr).le) (by rw [((List.length_set ..).trans hX)]; omega)) (.int .i64 (verI ((X).set r (xr.1, (xr.2.1 + 1), xr.2.2.1, xr.2.2.2))))) fun W507 HS507 _ H507 => wl_ <| p_ H507 rfl rfl fun _ H508 => wl_ <| i_ H508 rfl (dd_cmp rfl (H508.ev 165 rfl) (H508.ev 166 rfl) (eq_t (ver_set (by omega) hgd (fun h9 => of_decide_eq_false hb492 (by rw [henr]; rw [← lk_z (X := X) (show r = 0 by omega)]; exact h9))))) fun _ H509 => wl_ <| p_ H509 rfl rfl fun _ H510 => wl_ <| cg H510 (wg_ H510 rfl rfl rfl rfl) rfl HS507 (dcs Tryd.func10 rfl (args0 ) (auwakes_any W507 (HT _ HS507.below)) (.bool true)) fun _ HS511 _ H511 => q_ H511 2 rfl fun _ H512 => ln_ <| ?_
    clear H505 H506 HS503 H507 H508 H509 H510 HS507 H511
    have H513 := H512.sel [4] rfl
    refine nx <| wp_ret <| ret_run H513.env0 (res_t Tryd.results5 (H513.get 4 rfl)) <| ?_
    clear H512
    exact ⟨rfl, HS511.below⟩
   refine wi_ HS469j [0, 1, 2, 3, 4] rfl [0, 1, 2, 3, 4, 5] rfl fun HSh514 hx514 => ht_ H479 0 hx514 rfl rfl (v := .agg (bs (zer 32))) (fun _ _ HS9 => dd_load HS9 4 0 rfl rfl (H479.ev 10 rfl) (slab_whole _) Tryd.underlying24 rfl (by rw [show (bs (zer 32)).size = 32 from ((size_bs _).trans (length_zer 32))]; kernel_rfl)) fun _ H515 => hp_ H515 1 hx514 rfl rfl rfl fun _ H516 => hp_ H516 4 hx514 rfl rfl rfl fun _ H517 => hp_ H517 5 hx514 rfl rfl rfl fun _ H518 => ht_ H518 6 hx514 rfl rfl (fun _ _ _ => xSo 66 (r * 66) rfl (H518.ev 157 rfl) (H518.ev 158 rfl)) fun _ H519 => ht_ H519 7 hx514 rfl rfl (fun _ _ _ => xf 34 (r * 66 + 34) rfl (H519.ev 159 rfl)) fun _ H520 => ht_ H520 8 hx514 rfl rfl (v := .agg (bs xnr.2.2.2)) (fun _ _ HS9 => dd_atN rfl (H520.ev 160 rfl) (ent_l0 (cat_own (HS9.row 3 rfl) (own_set32 (z := (xr.2.1 + 1)) Oc175 hw hxr)) (wf_set hw hwr.1 hwr.2) hxnr) Tryd.underlying24 rfl (by show _ = some (bytesV xnr.2.2.2).length; rw [show (bytesV xnr.2.2.2).length = 32 from len_bv hwnr.2]; kernel_rfl)) fun _ H521 => ?_
   clear HS469j H479 H515 H516 H517 H518 H519
   refine h1_ 2 rfl <| n_ H521 rfl (fun _ h => dd_lits HSh514 #[.slice (some ⟨gc470, 0, none⟩) 40 cc470] rfl (ps := [(0, .slice (some ⟨gc470, 0, none⟩) 40 cc470)]) (pr1 (H521.ev 154 rfl) (pr0)) (z := .slice none 0 0) (sz := 1) Tryd.underlying67 (by kernel_rfl) rfl rfl (by kernel_rfl) h) fun g155 W522 HS522 _ H522 => sx_ (sxi HS522 [0, 1, 2, 3, 4, 5, 6] rfl) fun hx523 => h1_ 3 rfl <| c_ H522 rfl HS522 (dcs Tryd.func24 rfl (args2 (H522.ev 153 rfl) (H522.ev 155 rfl)) (step_one (zer 32) (recA xnr.1 xnr.2.1 xnr.2.2.1) _ W522 (HT _ HS522.below) (length_zer 32) (parts_one1 (HS522.row 6 rfl) (slice_own (HS522.row 5 rfl) Oc470 (length_recA hwnr.1))) (by rw [(length_recA hwnr.1)]; decide) (nextL (zer 32) xnr) rfl) (.agg (bs (nextL (zer 32) xnr)))) fun W524 HS524 _ H524 => sx_ (sxi HS524 [0, 1, 2, 3, 4, 5, 6] rfl) fun hx525 => ht_ H524 9 hx525 rfl rfl (v := .bool true) (fun _ _ _ => dd_eqa (b := true) rfl (H524.ev 156 rfl) (H524.ev 161 rfl) (by kernel_rfl) (fun w => by rw [eql_dgs (nextL (zer 32) xnr) xnr.2.2.2 (len_next _ _) hwnr.2 w, hb492])) fun _ H526 => ?_
   clear H520 HSh514 H521 hx514 H522 HS522 hx523 H524
   refine wpAnyH_done (by kernel_rfl) ?_ _
   clear hx525
   refine nx <| ct_ H526 rfl <| sq_ <| rl_ <| wl_ <| c_ H526 rfl HS524 (dcs Tryd.func10 rfl (args0 ) (auwakes_any W524 (HT _ HS524.below)) (.bool true)) fun _ HS527 _ H527 => wl_ <| p_ H527 rfl rfl fun _ H528 => ln_ <| ?_
   clear H526 HS524 H527
   have H529 := H528.sel [4] rfl
   refine nx <| wp_ret <| tr <| ret_run H529.env0 (res_t Tryd.results5 (H529.get 4 rfl)) <| ?_
   clear H528
   exact ⟨rfl, HS527.below⟩
  refine wl_ <| i_ H437 rfl (dd_cmp rfl (H437.ev 86 rfl) rfl (eq_f hc439)) fun _ H530 => wl_ <| p_ H530 rfl rfl fun _ H531 => ln_ <| nx <| cf_ H531 rfl <| sq_ <| rl_ <| ?_
  clear H437 H530
  by_cases hc533 : (r2 : Int) = 1
  ·
   refine wl_ <| i_ H531 rfl (dd_cmp rfl (H531.ev 86 rfl) rfl (eq_t hc533)) fun _ H534 => wl_ <| p_ H534 rfl rfl fun _ H535 => ln_ <| nx <| ct_ H535 rfl <| rl_ <| q_ H535 2 rfl fun _ H536 => wl_ <| i_ H536 rfl (xSo 66 (r * 66) rfl (H536.ev 99 rfl) (H536.ev 100 rfl)) fun _ H537 => wl_ <| i_ H537 rfl (xf 33 (r * 66 + 33) rfl (H537.ev 101 rfl)) fun _ H538 => ?_
   clear H531 H534 H535 H536 H537
   obtain ⟨xr, hxr⟩ : ∃ x, X[r]? = some x := ⟨_, List.getElem?_eq_getElem (by rw [hX]; omega)⟩
   have hwr := hw xr (List.mem_of_getElem? hxr)
   have hqr := hbd xr (List.mem_of_getElem? hxr)
   refine wl_ <| i_ H538 rfl (dd_at rfl (H538.ev 102 rfl) (ent_e0 (cat_own (HS199.row 3 rfl) Oc175) hw hxr) Tryd.underlying36 rfl) fun _ H539 => ?_
   clear H538
   have hxo := xorI_b hqr.2.2.1 hqr.2.2.2
   refine wl_ <| i_ H539 rfl (v := .int .i64 (xorI xr.2.2.1)) (dd_bits rfl (.inr (.inr (.inl rfl))) (H539.ev 103 rfl) rfl rfl) fun _ H540 => wl_ <| i_ H540 rfl (xSo 66 (r * 66) rfl (H540.ev 99 rfl) (H540.ev 100 rfl)) fun _ H541 => wl_ <| i_ H541 rfl (xf 33 (r * 66 + 33) rfl (H541.ev 105 rfl)) fun _ H542 => wl_ <| t_ rfl (S := [⟨g3, 56, bs zz⟩, ⟨g23, 30, #[.slice (some ⟨gA, 0, none⟩) (K + 1) cA]⟩, ⟨gA, 59, cbA⟩, ⟨gc175, 59, cbc175.setIfInBounds (r * 66 + 33) (.int .i64 (xorI xr.2.2.1))⟩, ⟨g10, 24, bs (zer 32)⟩]) (fun _ h => dd_put HS199 3 (r * 66 + 33) rfl rfl (H542.ev 106 rfl) (H542.ev 104 rfl) (by kernel_rfl) rfl rfl (own_fit Oc175 (by omega)) rfl h) fun W543 HS543 => ln_ <| bn <| nx <| sq_ <| ?_
   clear H539 H540 H541 HS199
   refine wi_ HS543 [0, 1, 2, 3, 4] rfl [0, 1, 2, 3, 4] rfl fun HSh546 hx546 => hp_ H542 0 hx546 rfl rfl rfl fun _ H547 => hp_ H547 1 hx546 rfl rfl rfl fun _ H548 => ht_ H548 2 hx546 rfl rfl (fun _ _ _ => xSo 66 (r * 66) rfl (H548.ev 132 rfl) (H548.ev 133 rfl)) fun _ H549 => ht_ H549 3 hx546 rfl rfl (fun _ _ _ => xf 0 (r * 66) rfl (H549.ev 134 rfl)) fun _ H550 => ?_
   clear HS543 H542 H547 H548 H549
   obtain ⟨xnr, hxnr, henr⟩ := set_at (k := r) (xr.1, xr.2.1, (xorI xr.2.2.1), xr.2.2.2) hX (by omega)
   have hwnr := (wf_set hw hwr.1 hwr.2) xnr (List.mem_of_getElem? hxnr)
   refine ht_ H550 4 hx546 rfl rfl (v := .agg (bs xnr.1)) (fun _ _ HS9 => dd_atN rfl (H550.ev 135 rfl) (ent_h0 (cat_own (HS9.row 3 rfl) (own_set33 (z := (xorI xr.2.2.1)) Oc175 hw hxr)) (wf_set hw hwr.1 hwr.2) hxnr) Tryd.underlying24 rfl (by show _ = some (bytesV xnr.1).length; rw [show (bytesV xnr.1).length = 32 from len_bv hwnr.1]; kernel_rfl)) fun _ H551 => hp_ H551 5 hx546 rfl rfl rfl fun _ H552 => hp_ H552 6 hx546 rfl rfl rfl fun _ H553 => ht_ H553 7 hx546 rfl rfl (fun _ _ _ => xSo 66 (r * 66) rfl (H553.ev 137 rfl) (H553.ev 138 rfl)) fun _ H554 => ht_ H554 8 hx546 rfl rfl (fun _ _ _ => xf 32 (r * 66 + 32) rfl (H554.ev 139 rfl)) fun _ H555 => ht_ H555 9 hx546 rfl rfl (fun _ _ HS9 => dd_at rfl (H555.ev 140 rfl) (ent_i0 (cat_own (HS9.row 3 rfl) (own_set33 (z := (xorI xr.2.2.1)) Oc175 hw hxr)) (wf_set hw hwr.1 hwr.2) hxnr) Tryd.underlying3 rfl) fun _ H556 => hp_ H556 10 hx546 rfl rfl rfl fun _ H557 => hp_ H557 11 hx546 rfl rfl rfl fun _ H558 => ?_
   clear H550 H551 H552 H553 H554 H555 H556
   refine ht_ H558 12 hx546 rfl rfl (fun _ _ _ => xSo 66 (r * 66) rfl (H558.ev 142 rfl) (H558.ev 143 rfl)) fun _ H559 => ht_ H559 13 hx546 rfl rfl (fun _ _ _ => xf 33 (r * 66 + 33) rfl (H559.ev 144 rfl)) fun _ H560 => ht_ H560 14 hx546 rfl rfl (fun _ _ HS9 => dd_at rfl (H560.ev 145 rfl) (ent_e0 (cat_own (HS9.row 3 rfl) (own_set33 (z := (xorI xr.2.2.1)) Oc175 hw hxr)) (wf_set hw hwr.1 hwr.2) hxnr) Tryd.underlying36 rfl) fun _ H561 => ht_ H561 15 hx546 rfl rfl (v := .agg #[.int .i64 xnr.2.1, .int .i64 xnr.2.2.1, .slice none 0 0]) (fun _ _ _ => dd_bld rfl (ps := [(0, .int .i64 xnr.2.1), (1, .int .i64 xnr.2.2.1)]) (pr1 (H561.ev 141 rfl) (pr1 (H561.ev 146 rfl) (pr0))) (Lz := [[.int .i64 0], [.int .i64 0], [.slice none 0 0]]) (by kernel_rfl) (lens_cons rfl (lens_cons rfl (lens_cons rfl (lens_nil)))) (fit_cons (i := 0) rfl rfl (fit_cons (i := 1) rfl rfl (fit_nil))) (cs := #[.int .i64 xnr.2.1, .int .i64 xnr.2.2.1, .slice none 0 0]) rfl) fun _ H562 => ?_
   clear H557 H558 H559 H560 H561
   refine h1_ 16 rfl <| d_ H562 rfl (R := fun v w9 => ∃ gc564 cc564 cbc564, v = .tuple #[.slice (some ⟨gc564, 0, none⟩) 40 cc564, .int .i64 0] ∧ (W543.drew.heap.size ≤ gc564) ∧ (Row w9 gc564 5 cbc564) ∧ (OwnC cbc564 cc564 40 1 (bytesV (recA xnr.1 xnr.2.1 xnr.2.2.1))) ∧ Below W543.drew.heap.size W543.drew w9) (dc_ Tryd.func15 rfl (args2 (H562.ev 136 rfl) (H562.ev 147 rfl)) (audrec_good xnr.1 xnr.2.1 xnr.2.2.1 _ W543.drew hwnr.1 (by rw [henr]; exact mayR_in (i := xr.2.1) (e := (xorI xr.2.2.1)) (by omega) (by omega) (by omega) (by omega))) (fun _ w9 ⟨g9, c9, cb9, he, h1, h2, h3, hb⟩ => ⟨_, he, g9, c9, cb9, rfl, h1, h2, h3, hb⟩)) ?_
   rintro _ W563 ⟨gc564, cc564, cbc564, rfl, hg564, hr564, Oc564, hb563⟩ a563 H563
   have HS563 := HSh546.same hb563
   clear H562
   have HS563j : St w noF [⟨g3, 56, bs zz⟩, ⟨g23, 30, #[.slice (some ⟨gA, 0, none⟩) (K + 1) cA]⟩, ⟨gA, 59, cbA⟩, ⟨gc175, 59, cbc175.setIfInBounds (r * 66 + 33) (.int .i64 (xorI xr.2.2.1))⟩, ⟨g10, 24, bs (zer 32)⟩, ⟨gc564, 5, cbc564⟩] W563 := HSh546.joins hb563 hr564 hg564
   clear HS563 hr564 hg564
   clear HSh546 hb563
   refine sx_ (sxi HS563j [0, 1, 2, 3, 4, 5] rfl) fun hx565 => hp_ H563 17 hx565 rfl rfl rfl fun _ H566 => ht_ H566 18 hx565 rfl rfl (v := .slice (some ⟨gc564, 0, none⟩) 40 cc564) (fun _ _ _ => dd_ext rfl (H566.ev 131 rfl) rfl) fun _ H567 => ht_ H567 19 hx565 rfl rfl (v := .int .i64 0) (fun _ _ _ => dd_ext rfl (H567.ev 131 rfl) rfl) fun _ H568 => hp_ H568 20 hx565 rfl rfl rfl fun _ H569 => hp_ H569 21 hx565 rfl rfl rfl fun _ H570 => ?_
   clear hx546 H563 H566 H567 H568 H569
   refine wpAnyH_done (by kernel_rfl) ?_ _
   clear hx565
   refine nx <| sq_ <| sq_ <| rl_ <| wl_ <| p_ H570 rfl rfl fun _ H571 => wl_ <| i_ H571 rfl (dd_cmp rfl (H571.ev 151 rfl) rfl (ne_f (by decide))) fun _ H572 => ln_ <| ?_
   clear H570 H571
   have H573 := H572.sel [8, 9, 10, 11, 152] rfl
   refine nx <| cf_ H573 rfl <| wp_skip <| nx <| sq_ <| sq_ <| ?_
   clear H572
   cases hb586 : decide (nextL (zer 32) xnr = xnr.2.2.2)
   ·
    refine wi_ HS563j [0, 1, 2, 3, 4] rfl [0, 1, 2, 3, 4, 5] rfl fun HSh587 hx587 => ht_ H573 0 hx587 rfl rfl (v := .agg (bs (zer 32))) (fun _ _ HS9 => dd_load HS9 4 0 rfl rfl (H573.ev 10 rfl) (slab_whole _) Tryd.underlying24 rfl (by rw [show (bs (zer 32)).size = 32 from ((size_bs _).trans (length_zer 32))]; kernel_rfl)) fun _ H588 => hp_ H588 1 hx587 rfl rfl rfl fun _ H589 => hp_ H589 4 hx587 rfl rfl rfl fun _ H590 => hp_ H590 5 hx587 rfl rfl rfl fun _ H591 => ht_ H591 6 hx587 rfl rfl (fun _ _ _ => xSo 66 (r * 66) rfl (H591.ev 157 rfl) (H591.ev 158 rfl)) fun _ H592 => ht_ H592 7 hx587 rfl rfl (fun _ _ _ => xf 34 (r * 66 + 34) rfl (H592.ev 159 rfl)) fun _ H593 => ht_ H593 8 hx587 rfl rfl (v := .agg (bs xnr.2.2.2)) (fun _ _ HS9 => dd_atN rfl (H593.ev 160 rfl) (ent_l0 (cat_own (HS9.row 3 rfl) (own_set33 (z := (xorI xr.2.2.1)) Oc175 hw hxr)) (wf_set hw hwr.1 hwr.2) hxnr) Tryd.underlying24 rfl (by show _ = some (bytesV xnr.2.2.2).length; rw [show (bytesV xnr.2.2.2).length = 32 from len_bv hwnr.2]; kernel_rfl)) fun _ H594 => ?_
    clear HS563j H573 H588 H589 H590 H591 H592
    refine h1_ 2 rfl <| n_ H594 rfl (fun _ h => dd_lits HSh587 #[.slice (some ⟨gc564, 0, none⟩) 40 cc564] rfl (ps := [(0, .slice (some ⟨gc564, 0, none⟩) 40 cc564)]) (pr1 (H594.ev 154 rfl) (pr0)) (z := .slice none 0 0) (sz := 1) Tryd.underlying67 (by kernel_rfl) rfl rfl (by kernel_rfl) h) fun g155 W595 HS595 _ H595 => sx_ (sxi HS595 [0, 1, 2, 3, 4, 5, 6] rfl) fun hx596 => h1_ 3 rfl <| c_ H595 rfl HS595 (dcs Tryd.func24 rfl (args2 (H595.ev 153 rfl) (H595.ev 155 rfl)) (step_one (zer 32) (recA xnr.1 xnr.2.1 xnr.2.2.1) _ W595 (HT _ HS595.below) (length_zer 32) (parts_one1 (HS595.row 6 rfl) (slice_own (HS595.row 5 rfl) Oc564 (length_recA hwnr.1))) (by rw [(length_recA hwnr.1)]; decide) (nextL (zer 32) xnr) rfl) (.agg (bs (nextL (zer 32) xnr)))) fun W597 HS597 _ H597 => sx_ (sxi HS597 [0, 1, 2, 3, 4, 5, 6] rfl) fun hx598 => ht_ H597 9 hx598 rfl rfl (v := .bool false) (fun _ _ _ => dd_eqa (b := false) rfl (H597.ev 156 rfl) (H597.ev 161 rfl) (by kernel_rfl) (fun w => by rw [eql_dgs (nextL (zer 32) xnr) xnr.2.2.2 (len_next _ _) hwnr.2 w, hb586])) fun _ H599 => ?_
    clear H593 HSh587 H594 hx587 H595 HS595 hx596 H597
    refine wpAnyH_done (by kernel_rfl) ?_ _
    clear hx598
    refine nx <| cf_ H599 rfl <| wp_skip <| nx <| sq_ <| rl_ <| wl_ <| p_ H599 rfl rfl fun _ H600 => wl_ <| c_ H600 rfl HS597 (dcs Tryd.func20 rfl (args1 (H600.ev 164 rfl)) (audver_any _ ((X).set r (xr.1, xr.2.1, (xorI xr.2.2.1), xr.2.2.2)) W597 (HT _ HS597.below) (ents_mk ((List.length_set ..).trans hX) (wf_set hw hwr.1 hwr.2) (cat_own (HS597.row 3 rfl) (own_set33 (z := (xorI xr.2.2.1)) Oc175 hw hxr)) (own_set33 (z := (xorI xr.2.2.1)) Oc175 hw hxr).le) (by rw [((List.length_set ..).trans hX)]; omega)) (.int .i64 (verI ((X).set r (xr.1, xr.2.1, (xorI xr.2.2.1), xr.2.2.2))))) fun W601 HS601 _ H601 => wl_ <| p_ H601 rfl rfl fun _ H602 => wl_ <| i_ H602 rfl (dd_cmp rfl (H602.ev 165 rfl) (H602.ev 166 rfl) (eq_t (ver_set (by omega) hgd (fun h9 => of_decide_eq_false hb586 (by rw [henr]; rw [← lk_z (X := X) (show r = 0 by omega)]; exact h9))))) fun _ H603 => wl_ <| p_ H603 rfl rfl fun _ H604 => wl_ <| cg H604 (wg_ H604 rfl rfl rfl rfl) rfl HS601 (dcs Tryd.func10 rfl (args0 ) (auwakes_any W601 (HT _ HS601.below)) (.bool true)) fun _ HS605 _ H605 => q_ H605 2 rfl fun _ H606 => ln_ <| ?_
    clear H599 H600 HS597 H601 H602 H603 H604 HS601 H605
    have H607 := H606.sel [4] rfl
    refine nx <| wp_ret <| ret_run H607.env0 (res_t Tryd.results5 (H607.get 4 rfl)) <| ?_
    clear H606
    exact ⟨rfl, HS605.below⟩
   refine wi_ HS563j [0, 1, 2, 3, 4] rfl [0, 1, 2, 3, 4, 5] rfl fun HSh608 hx608 => ht_ H573 0 hx608 rfl rfl (v := .agg (bs (zer 32))) (fun _ _ HS9 => dd_load HS9 4 0 rfl rfl (H573.ev 10 rfl) (slab_whole _) Tryd.underlying24 rfl (by rw [show (bs (zer 32)).size = 32 from ((size_bs _).trans (length_zer 32))]; kernel_rfl)) fun _ H609 => hp_ H609 1 hx608 rfl rfl rfl fun _ H610 => hp_ H610 4 hx608 rfl rfl rfl fun _ H611 => hp_ H611 5 hx608 rfl rfl rfl fun _ H612 => ht_ H612 6 hx608 rfl rfl (fun _ _ _ => xSo 66 (r * 66) rfl (H612.ev 157 rfl) (H612.ev 158 rfl)) fun _ H613 => ht_ H613 7 hx608 rfl rfl (fun _ _ _ => xf 34 (r * 66 + 34) rfl (H613.ev 159 rfl)) fun _ H614 => ht_ H614 8 hx608 rfl rfl (v := .agg (bs xnr.2.2.2)) (fun _ _ HS9 => dd_atN rfl (H614.ev 160 rfl) (ent_l0 (cat_own (HS9.row 3 rfl) (own_set33 (z := (xorI xr.2.2.1)) Oc175 hw hxr)) (wf_set hw hwr.1 hwr.2) hxnr) Tryd.underlying24 rfl (by show _ = some (bytesV xnr.2.2.2).length; rw [show (bytesV xnr.2.2.2).length = 32 from len_bv hwnr.2]; kernel_rfl)) fun _ H615 => ?_
   clear HS563j H573 H609 H610 H611 H612 H613
   refine h1_ 2 rfl <| n_ H615 rfl (fun _ h => dd_lits HSh608 #[.slice (some ⟨gc564, 0, none⟩) 40 cc564] rfl (ps := [(0, .slice (some ⟨gc564, 0, none⟩) 40 cc564)]) (pr1 (H615.ev 154 rfl) (pr0)) (z := .slice none 0 0) (sz := 1) Tryd.underlying67 (by kernel_rfl) rfl rfl (by kernel_rfl) h) fun g155 W616 HS616 _ H616 => sx_ (sxi HS616 [0, 1, 2, 3, 4, 5, 6] rfl) fun hx617 => h1_ 3 rfl <| c_ H616 rfl HS616 (dcs Tryd.func24 rfl (args2 (H616.ev 153 rfl) (H616.ev 155 rfl)) (step_one (zer 32) (recA xnr.1 xnr.2.1 xnr.2.2.1) _ W616 (HT _ HS616.below) (length_zer 32) (parts_one1 (HS616.row 6 rfl) (slice_own (HS616.row 5 rfl) Oc564 (length_recA hwnr.1))) (by rw [(length_recA hwnr.1)]; decide) (nextL (zer 32) xnr) rfl) (.agg (bs (nextL (zer 32) xnr)))) fun W618 HS618 _ H618 => sx_ (sxi HS618 [0, 1, 2, 3, 4, 5, 6] rfl) fun hx619 => ht_ H618 9 hx619 rfl rfl (v := .bool true) (fun _ _ _ => dd_eqa (b := true) rfl (H618.ev 156 rfl) (H618.ev 161 rfl) (by kernel_rfl) (fun w => by rw [eql_dgs (nextL (zer 32) xnr) xnr.2.2.2 (len_next _ _) hwnr.2 w, hb586])) fun _ H620 => ?_
   clear H614 HSh608 H615 hx608 H616 HS616 hx617 H618
   refine wpAnyH_done (by kernel_rfl) ?_ _
   clear hx619
   refine nx <| ct_ H620 rfl <| sq_ <| rl_ <| wl_ <| c_ H620 rfl HS618 (dcs Tryd.func10 rfl (args0 ) (auwakes_any W618 (HT _ HS618.below)) (.bool true)) fun _ HS621 _ H621 => wl_ <| p_ H621 rfl rfl fun _ H622 => ln_ <| ?_
   clear H620 HS618 H621
   have H623 := H622.sel [4] rfl
   refine nx <| wp_ret <| tr <| ret_run H623.env0 (res_t Tryd.results5 (H623.get 4 rfl)) <| ?_
   clear H622
   exact ⟨rfl, HS621.below⟩
  refine wl_ <| i_ H531 rfl (dd_cmp rfl (H531.ev 86 rfl) rfl (eq_f hc533)) fun _ H624 => wl_ <| p_ H624 rfl rfl fun _ H625 => ln_ <| nx <| cf_ H625 rfl <| sq_ <| rl_ <| wl_ <| i_ H625 rfl (dd_cmp rfl (H625.ev 86 rfl) rfl (eq_t (by omega))) fun _ H626 => wl_ <| p_ H626 rfl rfl fun _ H627 => ln_ <| nx <| ct_ H627 rfl <| sq_ <| ?_
  clear H531 H624 H625 H626
  refine wi_ HS199 [0, 1, 2, 4] rfl [0, 1, 2, 4, 3] rfl fun HSh628 hx628 => hp_ H627 0 hx628 rfl rfl rfl fun _ H629 => hp_ H629 1 hx628 rfl rfl rfl fun _ H630 => ht_ H630 2 hx628 rfl rfl (fun _ _ _ => xA 2 1 1 rfl (H630.ev 3 rfl) rfl) fun _ H631 => ht_ H631 3 hx628 rfl rfl (fun _ _ HS9 => dd_get HS9 0 1 rfl rfl (H631.ev 111 rfl) (bs_get hzz 1 (by decide)) Tryd.underlying5 rfl) fun _ H632 => ht_ H632 4 hx628 rfl rfl (v := .int .i64 (bd (zz.getD 1 0#8))) (fun _ _ _ => dd_conv (k := .i64) rfl (H632.ev 112 rfl) Tryd.underlying5 (by kernel_rfl) (i64_bdA _)) fun _ H633 => ?_
  clear HS199 H627 H629 H630 H631 H632
  obtain ⟨d3, hd3⟩ := quo_b (zz.getD 1 0#8)
  refine ht_ H633 5 hx628 rfl rfl (v := .int .i64 d3) (fun _ _ _ => dd_quo rfl (H633.ev 113 rfl) rfl (by decide) hd3) fun _ H634 => ?_
  clear H633
  obtain ⟨j3, hj3, lj3⟩ := mod_nat (d3 : Int) 32 (by omega) (by decide)
  refine ht_ H634 6 hx628 rfl rfl (v := .int .i64 j3) (fun _ _ _ => dd_rem rfl (H634.ev 114 rfl) rfl (by decide) hj3) fun _ H635 => ht_ H635 7 hx628 rfl rfl (fun _ _ _ => xSo 66 (r * 66) rfl (H635.ev 109 rfl) (H635.ev 110 rfl)) fun _ H636 => ht_ H636 8 hx628 rfl rfl (fun _ _ _ => xf 34 (r * 66 + 34) rfl (H636.ev 116 rfl)) fun _ H637 => ht_ H637 9 hx628 rfl rfl (fun _ _ _ => xAo 32 1 (r * 66 + 34 + j3) rfl (H637.ev 117 rfl) (H637.ev 115 rfl)) fun _ H638 => ht_ H638 12 hx628 rfl rfl (fun _ _ _ => xSo 66 (r * 66) rfl (H638.ev 109 rfl) (H638.ev 110 rfl)) fun _ H639 => ht_ H639 13 hx628 rfl rfl (fun _ _ _ => xf 34 (r * 66 + 34) rfl (H639.ev 121 rfl)) fun _ H640 => ?_
  clear H634 H635 H636 H637 H638 H639
  obtain ⟨xr, hxr⟩ : ∃ x, X[r]? = some x := ⟨_, List.getElem?_eq_getElem (by rw [hX]; omega)⟩
  have hwr := hw xr (List.mem_of_getElem? hxr)
  have hqr := hbd xr (List.mem_of_getElem? hxr)
  refine h1_ 10 rfl <| i_ H640 rfl (dd_at rfl (H640.ev 118 rfl) (ent_lb (cat_own (HSh628.row 3 rfl) Oc175) hw hxr lj3) Tryd.underlying5 rfl) fun _ H641 => sx_ (sxi HSh628 [0, 1, 2, 4, 3] rfl) fun hx642 => ht_ H641 11 hx642 rfl rfl (v := .int .u8 (bd ((xr.2.2.2.getD j3 0#8) ^^^ 1#8))) (fun _ _ _ => dd_bits rfl (.inr (.inr (.inl rfl))) (H641.ev 119 rfl) rfl (congrArg (fun z => (pure (.int .u8 z) : Sem Value)) (xor_bd (xr.2.2.2.getD j3 0#8) 1#8))) fun _ H643 => ht_ H643 14 hx642 rfl rfl (fun _ _ _ => xAo 32 1 (r * 66 + 34 + j3) rfl (H643.ev 122 rfl) (H643.ev 115 rfl)) fun _ H644 => h1_ 15 rfl <| t_ rfl (S := [⟨g3, 56, bs zz⟩, ⟨g23, 30, #[.slice (some ⟨gA, 0, none⟩) (K + 1) cA]⟩, ⟨gA, 59, cbA⟩, ⟨gc175, 59, cbc175.setIfInBounds (r * 66 + 34 + j3) (.int .u8 (bd ((xr.2.2.2.getD j3 0#8) ^^^ 1#8)))⟩, ⟨g10, 24, bs (zer 32)⟩]) (fun _ h => dd_put HSh628 3 (r * 66 + 34 + j3) rfl rfl (H644.ev 123 rfl) (H644.ev 120 rfl) (by kernel_rfl) rfl rfl (own_fit Oc175 (by omega)) rfl h) fun W645 HS645 => sx_ (sxi HS645 [0, 1, 2, 4, 3] rfl) fun hx647 => ?_
  clear H640 hx628 H641 H643 HSh628 hx642
  refine wpAnyH_done (by kernel_rfl) ?_ _
  clear hx647
  refine nx <| sq_ <| rl_ <| wl_ <| p_ H644 rfl rfl fun _ H648 => wl_ <| c_ H648 rfl HS645 (dcs Tryd.func20 rfl (args1 (H648.ev 124 rfl)) (audver_any _ ((X).set r (xr.1, xr.2.1, xr.2.2.1, xr.2.2.2.set j3 ((xr.2.2.2.getD j3 0#8) ^^^ 1#8))) W645 (HT _ HS645.below) (ents_mk ((List.length_set ..).trans hX) (wf_set hw hwr.1 (by rw [List.length_set]; exact hwr.2)) (cat_own (HS645.row 3 rfl) (own_set34 (z := ((xr.2.2.2.getD j3 0#8) ^^^ 1#8)) Oc175 hw hxr lj3)) (own_set34 (z := ((xr.2.2.2.getD j3 0#8) ^^^ 1#8)) Oc175 hw hxr lj3).le) (by rw [((List.length_set ..).trans hX)]; omega)) (.int .i64 (verI ((X).set r (xr.1, xr.2.1, xr.2.2.1, xr.2.2.2.set j3 ((xr.2.2.2.getD j3 0#8) ^^^ 1#8)))))) fun W649 HS649 _ H649 => wl_ <| p_ H649 rfl rfl fun _ H650 => wl_ <| i_ H650 rfl (dd_cmp rfl (H650.ev 125 rfl) (H650.ev 126 rfl) (eq_t (ver_lnk hxr hgd (by rw [hwr.2]; exact lj3)))) fun _ H651 => wl_ <| p_ H651 rfl rfl fun _ H652 => wl_ <| cg H652 (wg_ H652 rfl rfl rfl rfl) rfl HS649 (dcs Tryd.func10 rfl (args0 ) (auwakes_any W649 (HT _ HS649.below)) (.bool true)) fun _ HS653 _ H653 => q_ H653 2 rfl fun _ H654 => ln_ <| ?_
  clear H644 H648 HS645 H649 H650 H651 H652 HS649 H653
  have H655 := H654.sel [4] rfl
  refine nx <| wp_ret <| br_ <| tr <| ret_run H655.env0 (res_t Tryd.results5 (H655.get 4 rfl)) <| ?_
  clear H654
  exact ⟨rfl, HS653.below⟩
theorem auturn_zero (A : Option Addr) (c : Nat) (zz : List (BitVec 8)) (_ : zz.length = 2) (w : World) (hT : Tab w) (h0z : SaidsAt w (.slice A 0 c) []) : Calls Tryd.prog 5 #[.slice A 0 c, .agg (bs zz)] w fun x w' => x = .returned (.bool true) ∧ Below w.heap.size w w' := by
  have HS := St.nil w noF
  have HT : ∀ W, Below w.heap.size w W → Tab W := fun W hb => hT.below hb hT.pos
  refine enter_en Tryd.func5 rfl Tryd.ntmps5 (Nat.le_of_ble_eq_true rfl) fun a0 (HA0 : En 171 [(0, .slice A 0 c), (1, .agg (bs zz))] a0) => ?_
  refine sq_ <| rl_ <| wl_ <| n_ HA0 rfl (fun _ h => dd_box HS rfl (HA0.ev 1 rfl) (cs := (bs zz)) rfl h) fun _ W1 HS1 _ H1 => wl_ <| p_ H1 rfl rfl fun _ H2 => ln_ <| nx <| sq_ <| sq_ <| rl_ <| wl_ <| p_ H2 rfl rfl fun _ H3 => wl_ <| c_ H3 rfl HS1 (v := .bool true) (dc_ Tryd.func9 rfl (args1 (H3.ev 13 rfl)) (aufair_any _ _ _ ([]) W1 (h0z.below HS1.below (Nat.le_refl _)) (Nat.zero_le _)) (fun _ w9 h9 => ⟨_, h9.1, by rw [(show fairD [] = true from rfl)], h9.2⟩)) fun W4 HS4 _ H4 => wl_ <| i_ H4 rfl (v := .bool false) (dd_nt rfl (H4.ev 14 rfl) rfl) fun _ H5 => wl_ <| p_ H5 rfl rfl fun _ H6 => wl_ <| ig H6 (wg_ H6 rfl rfl rfl rfl) rfl (dd_mv rfl (H6.ev 0 rfl)) fun _ H7 => wl_ <| ig H7 (wg_ H7 rfl rfl rfl rfl) rfl (v := .int .i64 0) (dd_len rfl (H7.ev 17 rfl) Tryd.underlying22) fun _ H8 => ?_
  clear HS HA0 H1 H2 H3 HS1 H4 H5 H6
  refine wl_ <| ig H8 (wg_ H8 rfl rfl rfl rfl) rfl (dd_cmp rfl (H8.ev 18 rfl) rfl (eq_t (by decide))) fun _ H9 => wl_ <| p_ H9 rfl rfl fun _ H10 => ln_ <| nx <| ct_ H10 rfl <| sq_ <| rl_ <| wl_ <| c_ H10 rfl HS4 (dcs Tryd.func10 rfl (args0 ) (auwakes_any W4 (HT _ HS4.below)) (.bool true)) fun _ HS11 _ H11 => wl_ <| p_ H11 rfl rfl fun _ H12 => ln_ <| nx <| wp_ret <| tr <| ret_run H12.env0 (res_t Tryd.results5 (H12.get 4 rfl)) <| ?_
  clear H7 H8 H9 H10 HS4 H11
  exact ⟨rfl, HS11.below⟩
theorem auturn_walk (A : Option Addr) (n c : Nat) (l : List Sd) (zz : List (BitVec 8)) (w : World) (hT : Tab w) (h0 : SaidsAt w (.slice A n c) l) (hm : n ≤ maxLen) (hzz : zz.length = 2) : Calls Tryd.prog 5 #[.slice A n c, .agg (bs zz)] w fun x w' => x = .returned (.bool true) ∧ Below w.heap.size w w' := by
  by_cases hn : n = 0
  · have hl := saids_len h0
    subst hn
    obtain rfl : l = [] := List.eq_nil_of_length_eq_zero hl
    exact auturn_zero A c zz hzz w hT h0
  · obtain ⟨b, o, rfl⟩ := saids_some h0 (by omega)
    exact auturn_pos b o n c l zz hzz w hT h0 hm (by omega)
end Go.Proofs.YtbhmgnhiglpmhaaDoor

/- AuditTurned, as its tied card: for everything that was said and every two bytes the call returns true and changes nothing that it was handed. Conditions: those of the row (the table lies as the program's text lays it, which the card ties to the pruned copy). -/
set_option maxRecDepth 4000
namespace Go.Proofs.YtbhmgnhiglpmhaaDoor.auditTurned
open Go Go.ChangeShapes Go.WideShapes Go.ChangeAt Go.RowKit

theorem contract (H : Type) (enc : TypeId × Value → H) (W : World) (base : Nat) (args : Array Value) (ds gs : List (DataW H)) (before : List MemPlace)
    (hval : ∀ (j : Nat) t v, Tryd.f5.params[j]? = some t → args[j]? = some v → Value.okWide Tryd.prog W .any base t v)
    (hW : DataW.Whole enc Tryd.prog Tryd.f5.params.toList Rows.auditTurnedSpec.vars false W args.toList ds gs before) (hL : laidMetH Tryd.prog Rows.auditTurnedRow.laid W) :
    Calls Tryd.prog 5 args W fun e W' => ∃ v, e = .returned v ∧ Rows.auditTurnedSpec.post enc Tryd.prog Tryd.f5 false true false false W args v W' := by
  have hW' := hW
  obtain ⟨p, q, hA0, hV, rfl, _, _⟩ := hW
  have hA : DataW.TrodAll enc Tryd.prog W 0 (fun _ => true) true Tryd.f5.params.toList args.toList ds p := hA0
  rw [Tryd.params5] at hA hval
  obtain ⟨v0, vs0, d0, ds0, p0, q0, hargs, rfl, rfl, h0, r0⟩ := trodAll_cons hA
  obtain ⟨v1, vs1, d1, ds1, p1, q1, rfl, rfl, rfl, h1, r1⟩ := trodAll_cons r0
  obtain ⟨rfl, rfl, rfl⟩ := trodAll_nil r1
  obtain rfl : args = #[v0, v1] := by cases args; simp_all
  obtain ⟨rfl, rfl⟩ := trodVars_none hV
  have hlt0 : ∀ x ∈ p0, x.block < W.heap.size := fun x hx => hW'.lt x (by simp [hx])
  have hlt1 : ∀ x ∈ p1, x.block < W.heap.size := fun x hx => hW'.lt x (by simp [hx])
  obtain ⟨A0, n0, c0, l0, rfl, hS0, hm0⟩ := open_saids (hval 0 22 v0 rfl rfl) h0 hlt0
  obtain ⟨q1, hq1, rfl⟩ := open_argBytes Tryd.underlying56 Tryd.underlying5 (by kernel_rfl) (by kernel_rfl) (hval 1 56 v1 rfl rfl) h1 hlt1
  refine (auturn_walk A0 n0 c0 l0 q1 W (tab_of_laid hL) hS0 hm0 hq1).mono fun e W' ⟨he, hb⟩ => ?_
  subst he
  exact ⟨_, rfl, [d0, d1], [], _, [], _, [], hW', trodAll_cons_mk (shut_bool Tryd.underlying4 _) trodAll_mk0, trodAll_cons_mk (Below.trod laidOutT (by kernel_rfl) (of_decide_eq_true (by kernel_rfl)) h0 hb hlt0) (trodAll_cons_mk (Below.trod laidOutT (by kernel_rfl) (of_decide_eq_true (by kernel_rfl)) h1 hb hlt1) trodAll_mk0), rfl, hb.frame _, fun h => by cases h⟩

theorem laid_met (os : Os) : laidMet Tryd.prog Rows.auditTurnedRow.laid ((laidWorld os).forCall (fun _ _ => 0) ⟨#[], #[.slice none 0 0, .agg #[.int .u8 0, .int .u8 0]], []⟩).memory :=
  laidMet_of_run' 8 (by kernel_rfl) (by kernel_rfl)
theorem reads (os : Os) {H : Type} (enc : TypeId × Value → H) : ∃ places, DataW.whole enc Tryd.prog ((laidWorld os).forCall (fun _ _ => 0) ⟨#[], #[.slice none 0 0, .agg #[.int .u8 0, .int .u8 0]], []⟩).memory Tryd.f5.params.toList Rows.auditTurnedSpec.vars false #[(Value.slice none 0 0), (Value.agg #[.int .u8 0, .int .u8 0])].toList 8 = some ([.nil, .agg (List.replicate 2 (.lit (.int .u8 0)))], [], places) :=
  ⟨[], by kernel_rfl⟩

set_option maxRecDepth 100000 in
theorem lifted (os : Os) (started : os.Started) (H : Type) (enc : TypeId × Value → H) (F : Stop.Interp) :
    ReturnsInHanded {} Tryd.checked os 5 .any ((OpenSpec.ofChange Rows.auditTurnedSpec).preRow enc Tryd.prog Tryd.f5 Rows.auditTurnedRow.domain false Rows.auditTurnedRow.laid) (((OpenSpec.ofChange Rows.auditTurnedSpec).at F).post enc Tryd.prog Tryd.f5 false true false false) := by
  obtain ⟨places, hx⟩ := reads os enc
  refine returnsInHanded_of_row (C := Tryd.checked) (s := OpenSpec.ofChange Rows.auditTurnedSpec) ownK started (by kernel_rfl) Tryd.func5
    (witness_row_at (enc := enc) (C := Tryd.checked) false (laidWorld os) #[.slice none 0 0, .agg #[.int .u8 0, .int .u8 0]] rfl (by kernel_rfl) (by kernel_rfl) (by kernel_rfl)
      (OpenSpec.preRow_of_cond 8 hx (by kernel_rfl) (fun k hk => by cases hk) (by kernel_rfl) (laid_met os))) ?_
  intro W base args ds gs before hval hW _ _ _ hL _ _
  exact contract H enc W base args ds gs before hval hW hL

theorem said : Rows.AuditTurnedSaid :=
  OpenClaim.holds_of_cond 5 Tryd.f5 rfl rfl rfl rfl rfl rfl rfl ⟨rfl, rfl, rfl, rfl, rfl⟩ rfl rfl rfl rfl rfl (by kernel_rfl) Tryd.func5 (by kernel_rfl)
    (of_decide_eq_true (by kernel_rfl)) (by unfold Func.isWrapper; first | (rw [if_pos (by decide +kernel)]; kernel_rfl) | (rw [if_neg (by decide +kernel)]; exact ⟨rfl, rfl⟩))
    (fun os started H enc _ F => by rw [OpenClaim.pre_eq_preRow]; exact lifted os started H enc F)

theorem plain (f : FuncId) (fn : Func) (hf : Tryd.pinned.checked.prog.funcNamed Rows.auditTurnedRow.func = some f) (hfn : Tryd.pinned.checked.prog.funcs[f]? = some fn) :
    false = Tryd.pinned.checked.prog.looks [] ∧ ∀ (j : Nat) t, fn.params[j]? = some t → Tryd.pinned.checked.prog.wantsStandIn t = false := by
  obtain rfl : f = 5 := Option.some.inj ((show Tryd.prog.funcNamed Rows.auditTurnedRow.func = some 5 by kernel_rfl).symm.trans hf) |>.symm
  obtain rfl : fn = Tryd.f5 := (Option.some.inj (Tryd.func5.symm.trans hfn)).symm
  refine ⟨by kernel_rfl, fun j t ht => ?_⟩
  rw [Tryd.params5] at ht
  have hm : t = 22 ∨ t = 56 := by simpa using Array.mem_of_getElem? ht
  rcases hm with rfl | rfl
  · exact (show Tryd.prog.wantsStandIn 22 = false by kernel_rfl)
  · exact (show Tryd.prog.wantsStandIn 56 = false by kernel_rfl)

theorem card : Rows.AuditTurnedCardSaid :=
  Claim7.holds_tied_plain_at .later [] _ _ _ _ said (fun _ h => by cases h) (by kernel_rfl) (fun _ h => by cases h) auditTurned_row_tie rfl ⟨rfl, rfl⟩ (by kernel_rfl) rfl plain (by kernel_rfl)
end Go.Proofs.YtbhmgnhiglpmhaaDoor.auditTurned
