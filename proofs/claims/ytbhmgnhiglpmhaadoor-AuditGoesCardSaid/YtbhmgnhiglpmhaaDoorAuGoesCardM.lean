/- AuditGoes, as its tied card: for everything that was said and every byte the call returns true and changes nothing that it was handed. Conditions: those of the row (the table lies as the program's text lays it, which the card ties to the pruned copy). -/
import Derived.Test.YtbhmgnhiglpmhaaDoorMAw1
import Derived.Test.YtbhmgnhiglpmhaaDoorMGen0
import Derived.Test.YtbhmgnhiglpmhaaDoorMGen1
/- The statement AuditGoes: its walk. -/
set_option maxRecDepth 4000
namespace Go.Proofs.YtbhmgnhiglpmhaaDoor
open Go Go.RowKit
set_option maxHeartbeats 3200000 in
theorem augoes_pos (b o n c : Nat) (l : List Sd) (z : BitVec 8) (w : World) (hT : Tab w) (h0 : SaidsAt w (.slice (some ⟨b, o, none⟩) n c) l) (hm : n ≤ maxLen) : Calls Tryd.prog 7 #[.slice (some ⟨b, o, none⟩) n c, .int .u8 (bd z)] w fun x w' => x = .returned (.bool true) ∧ Below w.heap.size w w' := by
  unfold maxLen at hm
  have hln := saids_len h0
  have HS := St.nil w noF
  have HT : ∀ W, Below w.heap.size w W → Tab W := fun W hb => hT.below hb hT.pos
  refine enter_en Tryd.func7 rfl Tryd.ntmps7 (Nat.le_of_ble_eq_true rfl) fun a0 (HA0 : En 135 [(0, .slice (some ⟨b, o, none⟩) n c), (1, .int .u8 (bd z))] a0) => ?_
  refine sq_ <| rl_ <| wl_ <| p_ HA0 rfl rfl fun _ H1 => ln_ <| nx <| sq_ <| sq_ <| rl_ <| wl_ <| p_ H1 rfl rfl fun _ H2 => ?_
  clear HA0 H1
  cases hb4 : fairD l
  ·
   refine wl_ <| c_ H2 rfl HS (v := .bool false) (dc_ Tryd.func9 rfl (args1 (H2.ev 15 rfl)) (aufair_any _ _ _ l w (h0.below HS.below (Nat.le_refl _)) hm) (fun _ w9 h9 => ⟨_, h9.1, by rw [hb4], h9.2⟩)) fun W5 HS5 _ H5 => wl_ <| i_ H5 rfl (v := .bool true) (dd_nt rfl (H5.ev 16 rfl) rfl) fun _ H6 => ln_ <| nx <| ct_ H6 rfl <| sq_ <| rl_ <| wl_ <| c_ H6 rfl HS5 (dcs Tryd.func10 rfl (args0 ) (auwakes_any W5 (HT _ HS5.below)) (.bool true)) fun _ HS7 _ H7 => wl_ <| p_ H7 rfl rfl fun _ H8 => ln_ <| nx <| wp_ret <| tr <| ret_run H8.env0 (res_t Tryd.results7 (H8.get 4 rfl)) <| ?_
   clear H2 HS H5 H6 HS5 H7
   exact ⟨rfl, HS7.below⟩
  obtain ⟨hfl, hn30⟩ := fair_of hb4
  rw [hln] at hn30
  refine wl_ <| c_ H2 rfl HS (v := .bool true) (dc_ Tryd.func9 rfl (args1 (H2.ev 15 rfl)) (aufair_any _ _ _ l w (h0.below HS.below (Nat.le_refl _)) hm) (fun _ w9 h9 => ⟨_, h9.1, by rw [hb4], h9.2⟩)) fun W9 HS9 a9 H9 => wl_ <| i_ H9 rfl (v := .bool false) (dd_nt rfl (H9.ev 16 rfl) rfl) fun _ H10 => ln_ <| nx <| cf_ H10 rfl <| wp_skip <| nx <| sq_ <| rl_ <| wl_ <| i_ H10 rfl (v := .agg #[.slice none 0 0]) (dd_bld rfl (ps := []) (pr0) (Lz := [[.slice none 0 0]]) (by kernel_rfl) (lens_cons rfl (lens_nil)) (fit_nil) (cs := #[.slice none 0 0]) rfl) fun _ H11 => wl_ <| n_ H11 rfl (fun _ h => dd_box HS9 rfl (H11.ev 19 rfl) (cs := #[.slice none 0 0]) rfl h) fun g20 _ HS12 _ H12 => wl_ <| i_ H12 rfl (v := .agg #[.slice none 0 0]) (dd_bld rfl (ps := []) (pr0) (Lz := [[.slice none 0 0]]) (by kernel_rfl) (lens_cons rfl (lens_nil)) (fit_nil) (cs := #[.slice none 0 0]) rfl) fun _ H13 => wl_ <| n_ H13 rfl (fun _ h => dd_box HS12 rfl (H13.ev 21 rfl) (cs := #[.slice none 0 0]) rfl h) fun g22 _ HS14 _ H14 => q_ H14 2 rfl fun _ H15 => ln_ <| nx <| sq_ <| rl_ <| wl_ <| p_ H15 rfl rfl fun _ H16 => ?_
  clear H2 HS H9 H10 HS9 H11 H12 HS12 H13 H14
  refine wl_ <| i_ H16 rfl (v := .int .i64 (bd z)) (dd_conv (k := .i64) rfl (H16.ev 23 rfl) Tryd.underlying5 (by kernel_rfl) (i64_bdA _)) fun _ H17 => wl_ <| p_ H17 rfl rfl fun _ H18 => wl_ <| i_ H18 rfl (v := .int .i64 n) (dd_len rfl (H18.ev 25 rfl) Tryd.underlying22) fun _ H19 => wl_ <| i_ H19 rfl (v := .int .i64 (n + 1)) (dd_ari rfl (H19.ev 26 rfl) rfl rfl (i64_of (by first | omega | (have := bd_lo; omega)) (by omega))) fun _ H20 => ?_
  clear H15 H16 H17 H18 H19
  obtain ⟨r, hr, lr⟩ := mod_nat (bd z) (n + 1) (bd_lo _) (by omega)
  refine wl_ <| i_ H20 rfl (v := .int .i64 r) (dd_rem rfl (H20.ev 24 rfl) (H20.ev 27 rfl) (by omega) hr) fun _ H21 => wl_ <| p_ H21 rfl rfl fun _ H22 => ln_ <| nx <| sq_ <| sq_ <| rl_ <| wl_ <| p_ H22 rfl rfl fun _ H23 => ln_ <| nx <| wp_block <| ?_
  clear H20 H21 H22
  refine wp_loopG (ι := Nat) (fun i a9 w9 => ((i ≤ n) ∧ En 135 [(8, .int .i64 i), (7, .int .i64 r), (6, .pointer (some ⟨g22, 0, none⟩)), (5, .pointer (some ⟨g20, 0, none⟩)), (0, .slice (some ⟨b, o, none⟩) n c)] a9 ∧ St w noF [⟨g20, 30, #[.slice none 0 0]⟩, ⟨g22, 30, #[.slice none 0 0]⟩] w9) ∨ (∃ K : Nat, ∃ X : List Ae, ∃ gA : Nat, ∃ cA : Nat, ∃ cbA : Array Value, ∃ gB : Nat, ∃ cB : Nat, ∃ cbB : Array Value, (i ≤ n) ∧ (K + 1 ≤ i) ∧ (X.length = K + 1) ∧ (wfA X) ∧ (∀ j, j < X.length → goodAt X j = true) ∧ (OwnC cbA cA (K + 1) 66 (entsL X)) ∧ (OwnC cbB cB (K + 1) 66 (entsL X)) ∧ En 135 [(8, .int .i64 i), (7, .int .i64 r), (6, .pointer (some ⟨g22, 0, none⟩)), (5, .pointer (some ⟨g20, 0, none⟩)), (0, .slice (some ⟨b, o, none⟩) n c)] a9 ∧ St w noF [⟨g20, 30, #[.slice (some ⟨gA, 0, none⟩) (K + 1) cA]⟩, ⟨g22, 30, #[.slice (some ⟨gB, 0, none⟩) (K + 1) cB]⟩, ⟨gA, 59, cbA⟩, ⟨gB, 59, cbB⟩] w9)) (fun i => n - i) (0) (.inl ⟨(Nat.zero_le _), H23.sel [0, 5, 6, 7, 8] rfl, ss HS14 [0, 1]⟩) ?_
  clear H23 HS14
  rintro i aL24 wL24 (⟨hi, HL24, HSL24⟩ | ⟨K, X, gA, cA, cbA, gB, cB, cbB, hi, hK, hX, hw, hgd, OA, OB, HL24, HSL24⟩)
  ·
   refine sq_ <| sq_ <| rl_ <| q_ HL24 2 rfl fun _ H25 => wl_ <| i_ H25 rfl (v := .int .i64 n) (dd_len rfl (H25.ev 30 rfl) Tryd.underlying22) fun _ H26 => ?_
   clear HL24 H25
   by_cases hc28 : (i : Int) < n
   ·
    refine wl_ <| i_ H26 rfl (dd_cmp rfl (H26.ev 29 rfl) (H26.ev 31 rfl) (lt_t hc28)) fun _ H29 => ln_ <| nx <| ct_ H29 rfl <| wp_skip <| nx <| sq_ <| wp_block <| sq_ <| rl_ <| q_ H29 2 rfl fun _ H30 => wl_ <| i_ H30 rfl (xSo 4 (o + i * 4) rfl (H30.ev 35 rfl) (H30.ev 36 rfl)) fun _ H31 => wl_ <| i_ H31 rfl (xf 1 (o + i * 4 + 1) rfl (H31.ev 37 rfl)) fun _ H32 => ?_
    clear H26 H29 H30 H31
    obtain ⟨qi, ii, ei, di, A1i, c1i, A2i, c2i, hgi, hci, i1i, i2i, bii, bji, bei, bfi⟩ := saids_getB h0 (k := i) (by omega)
    have hfai : qi.length ≤ 300 ∧ di.length ≤ 600 := hfl _ (List.mem_of_getElem? hgi)
    refine wl_ <| i_ H32 rfl (v := .agg #[.int .i64 ii, .int .i64 ei, .slice A2i di.length c2i]) (dd_atN (L := [.int .i64 ii, .int .i64 ei, .slice A2i di.length c2i]) rfl (H32.ev 38 rfl) (cat_part (hci.call HSL24.below) 1 (M := [.slice A1i qi.length c1i]) rfl).at_ Tryd.underlying38 rfl (by kernel_rfl)) fun _ H33 => wl_ <| n_ H33 rfl (fun _ h => dd_new HSL24 #[.int .i64 0, .int .i64 0, .slice none 0 0] rfl (z := .agg #[.int .i64 0, .int .i64 0, .slice none 0 0]) (by kernel_rfl) rfl h) fun g9 _ HS34 _ H34 => wl_ <| t_ rfl (fun _ h => dd_setrow HS34 2 rfl rfl (H34.ev 9 rfl) (H34.ev 39 rfl) (by kernel_rfl) (rfl : #[.int .i64 ii, .int .i64 ei, .slice A2i di.length c2i].size = 3) (rfl : #[.int .i64 0, .int .i64 0, .slice none 0 0].size = 3) (one_l (ao_cons rfl (ao_cons rfl (ao_cons rfl ao_nil)))) h) fun W35 HS35 => ln_ <| nx <| sq_ <| ?_
    clear H32 HSL24 H33 HS34
    cases hb45 : mayR ii ei 0
    ·
     refine wi_ HS35 [0, 1, 2] rfl [0, 1, 2] rfl fun HSh46 hx46 => hp_ H34 0 hx46 rfl rfl rfl fun _ H47 => hp_ H47 1 hx46 rfl rfl rfl fun _ H48 => hp_ H48 2 hx46 rfl rfl rfl fun _ H49 => ht_ H49 3 hx46 rfl rfl (fun _ _ _ => xSo 4 (o + i * 4) rfl (H49.ev 41 rfl) (H49.ev 42 rfl)) fun _ H50 => ht_ H50 4 hx46 rfl rfl (fun _ _ _ => xf 0 (o + i * 4) rfl (H50.ev 43 rfl)) fun _ H51 => ht_ H51 5 hx46 rfl rfl (fun _ _ HS9 => dd_at rfl (H51.ev 44 rfl) ((hci.call HS9.below).at_ 0 _ rfl) Tryd.underlying35 rfl) fun _ H52 => ht_ H52 6 hx46 rfl rfl (v := .agg #[.int .i64 ii, .int .i64 ei, .slice A2i di.length c2i]) (fun _ _ HS9 => dd_load HS9 2 0 rfl rfl (H52.ev 9 rfl) (slab_whole _) Tryd.underlying38 rfl (by kernel_rfl)) fun _ H53 => ?_
     clear HS35 H34 H47 H48 H49 H50 H51
     refine h1_ 7 rfl <| c_ H53 rfl HSh46 (dcs Tryd.func11 rfl (args3 (H53.ev 40 rfl) (H53.ev 45 rfl) (H53.ev 46 rfl)) (audadd_bad g20 _ _ _ qi ii ei (.slice A2i di.length c2i) W35.drew (HT _ HSh46.below) (i1i.slice.below HSh46.below (Nat.le_refl _)) rfl (by omega) hb45) (.int .i64 11)) fun W54 HS54 _ H54 => sx_ (sxi HS54 [0, 1, 2] rfl) fun hx55 => hp_ H54 8 hx55 rfl rfl rfl fun _ H56 => ?_
     clear H52 H53 HSh46 hx46 H54
     refine wpAnyH_done (by kernel_rfl) ?_ _
     clear hx55
     refine nx <| sq_ <| sq_ <| rl_ <| q_ H56 2 rfl fun _ H57 => ?_
     clear H56
     by_cases hc59 : (r : Int) ≤ i
     ·
      refine wl_ <| i_ H57 rfl (dd_cmp rfl (H57.ev 48 rfl) (H57.ev 49 rfl) (ge_t hc59)) fun _ H60 => ln_ <| ?_
      clear H57
      have H61 := H60.sel [0, 5, 6, 7, 8, 9, 10, 50] rfl
      refine nx <| ct_ H61 rfl <| rl_ <| wl_ <| i_ H61 rfl (xf 2 2 rfl (H61.ev 9 rfl)) fun _ H62 => wl_ <| t_ rfl (S := [⟨g20, 30, #[.slice none 0 0]⟩, ⟨g22, 30, #[.slice none 0 0]⟩, ⟨g9, 38, #[.int .i64 ii, .int .i64 ei, .slice none 0 0]⟩]) (fun _ h => dd_put (cs := #[.int .i64 ii, .int .i64 ei, .slice none 0 0]) HS54 2 2 rfl rfl (H62.ev 51 rfl) rfl (by kernel_rfl) rfl rfl rfl rfl h) fun W63 HS63 => ln_ <| nx <| sq_ <| ?_
      clear H60 H61 HS54
      refine wi_ HS63 [0, 1, 2] rfl [0, 1, 2] rfl fun HSh64 hx64 => hp_ H62 0 hx64 rfl rfl rfl fun _ H65 => hp_ H65 1 hx64 rfl rfl rfl fun _ H66 => hp_ H66 2 hx64 rfl rfl rfl fun _ H67 => ht_ H67 3 hx64 rfl rfl (fun _ _ _ => xSo 4 (o + i * 4) rfl (H67.ev 53 rfl) (H67.ev 54 rfl)) fun _ H68 => ht_ H68 4 hx64 rfl rfl (fun _ _ _ => xf 0 (o + i * 4) rfl (H68.ev 55 rfl)) fun _ H69 => ht_ H69 5 hx64 rfl rfl (fun _ _ HS9 => dd_at rfl (H69.ev 56 rfl) ((hci.call HS9.below).at_ 0 _ rfl) Tryd.underlying35 rfl) fun _ H70 => ht_ H70 6 hx64 rfl rfl (v := .agg #[.int .i64 ii, .int .i64 ei, .slice none 0 0]) (fun _ _ HS9 => dd_load HS9 2 0 rfl rfl (H70.ev 9 rfl) (slab_whole _) Tryd.underlying38 rfl (by kernel_rfl)) fun _ H71 => ?_
      clear HS63 H62 H65 H66 H67 H68 H69
      refine hp_ H71 8 hx64 rfl rfl rfl fun _ H72 => h1_ 7 rfl <| c_ H72 rfl HSh64 (dcs Tryd.func11 rfl (args3 (H72.ev 52 rfl) (H72.ev 57 rfl) (H72.ev 58 rfl)) (audadd_bad g22 _ _ _ qi ii ei (.slice none 0 0) W63.drew (HT _ HSh64.below) (i1i.slice.below HSh64.below (Nat.le_refl _)) rfl (by omega) hb45) (.int .i64 11)) fun _ HS73 _ H73 => sx_ (sxi HS73 [0, 1, 2] rfl) fun hx74 => ht_ H73 9 hx74 rfl rfl (fun _ _ _ => dd_cmp rfl (H73.ev 59 rfl) (H73.ev 60 rfl) (ne_f (by decide))) fun _ H75 => ?_
      clear H70 H71 H72 HSh64 hx64 H73
      refine wpAnyH_done (by kernel_rfl) ?_ _
      clear hx74
      refine nx <| cf_ H75 rfl <| wp_skip <| bn <| nx <| rl_ <| wl_ <| p_ H75 rfl rfl fun _ H76 => wl_ <| i_ H76 rfl (v := .int .i64 (i + 1)) (dd_ari rfl (H76.ev 33 rfl) rfl rfl (i64_of (by first | omega | (have := bd_lo; omega)) (by omega))) fun _ H77 => wl_ <| p_ H77 rfl rfl fun _ H78 => ln_ <| ?_
      clear H75 H76 H77
      have H79 := H78.sel [0, 5, 6, 7, 8] rfl
      clear H78
      refine nx ⟨i + 1, .inl ⟨(by omega), H79.sel [0, 5, 6, 7, 8] rfl, ss HS73 [0, 1]⟩, (by omega)⟩
     refine wl_ <| i_ H57 rfl (dd_cmp rfl (H57.ev 48 rfl) (H57.ev 49 rfl) (ge_f hc59)) fun _ H80 => ln_ <| ?_
     clear H57
     have H81 := H80.sel [0, 5, 6, 7, 8, 9, 10, 50] rfl
     refine nx <| cf_ H81 rfl <| wp_skip <| nx <| sq_ <| ?_
     clear H80
     refine wi_ HS54 [0, 1, 2] rfl [0, 1, 2] rfl fun HSh82 hx82 => hp_ H81 0 hx82 rfl rfl rfl fun _ H83 => hp_ H83 1 hx82 rfl rfl rfl fun _ H84 => hp_ H84 2 hx82 rfl rfl rfl fun _ H85 => ht_ H85 3 hx82 rfl rfl (fun _ _ _ => xSo 4 (o + i * 4) rfl (H85.ev 53 rfl) (H85.ev 54 rfl)) fun _ H86 => ht_ H86 4 hx82 rfl rfl (fun _ _ _ => xf 0 (o + i * 4) rfl (H86.ev 55 rfl)) fun _ H87 => ht_ H87 5 hx82 rfl rfl (fun _ _ HS9 => dd_at rfl (H87.ev 56 rfl) ((hci.call HS9.below).at_ 0 _ rfl) Tryd.underlying35 rfl) fun _ H88 => ht_ H88 6 hx82 rfl rfl (v := .agg #[.int .i64 ii, .int .i64 ei, .slice A2i di.length c2i]) (fun _ _ HS9 => dd_load HS9 2 0 rfl rfl (H88.ev 9 rfl) (slab_whole _) Tryd.underlying38 rfl (by kernel_rfl)) fun _ H89 => ?_
     clear HS54 H81 H83 H84 H85 H86 H87
     refine hp_ H89 8 hx82 rfl rfl rfl fun _ H90 => h1_ 7 rfl <| c_ H90 rfl HSh82 (dcs Tryd.func11 rfl (args3 (H90.ev 52 rfl) (H90.ev 57 rfl) (H90.ev 58 rfl)) (audadd_bad g22 _ _ _ qi ii ei (.slice A2i di.length c2i) W54.drew (HT _ HSh82.below) (i1i.slice.below HSh82.below (Nat.le_refl _)) rfl (by omega) hb45) (.int .i64 11)) fun _ HS91 _ H91 => sx_ (sxi HS91 [0, 1, 2] rfl) fun hx92 => ht_ H91 9 hx92 rfl rfl (fun _ _ _ => dd_cmp rfl (H91.ev 59 rfl) (H91.ev 60 rfl) (ne_f (by decide))) fun _ H93 => ?_
     clear H88 H89 H90 HSh82 hx82 H91
     refine wpAnyH_done (by kernel_rfl) ?_ _
     clear hx92
     refine nx <| cf_ H93 rfl <| wp_skip <| bn <| nx <| rl_ <| wl_ <| p_ H93 rfl rfl fun _ H94 => wl_ <| i_ H94 rfl (v := .int .i64 (i + 1)) (dd_ari rfl (H94.ev 33 rfl) rfl rfl (i64_of (by first | omega | (have := bd_lo; omega)) (by omega))) fun _ H95 => wl_ <| p_ H95 rfl rfl fun _ H96 => ln_ <| ?_
     clear H93 H94 H95
     refine nx ⟨i + 1, .inl ⟨(by omega), H96.sel [0, 5, 6, 7, 8] rfl, ss HS91 [0, 1]⟩, (by omega)⟩
    refine wi_ HS35 [1, 2] rfl [1, 2, 0] rfl fun HSh97 hx97 => hp_ H34 0 hx97 rfl rfl rfl fun _ H98 => hp_ H98 1 hx97 rfl rfl rfl fun _ H99 => hp_ H99 2 hx97 rfl rfl rfl fun _ H100 => ht_ H100 3 hx97 rfl rfl (fun _ _ _ => xSo 4 (o + i * 4) rfl (H100.ev 41 rfl) (H100.ev 42 rfl)) fun _ H101 => ht_ H101 4 hx97 rfl rfl (fun _ _ _ => xf 0 (o + i * 4) rfl (H101.ev 43 rfl)) fun _ H102 => ht_ H102 5 hx97 rfl rfl (fun _ _ HS9 => dd_at rfl (H102.ev 44 rfl) ((hci.call HS9.below).at_ 0 _ rfl) Tryd.underlying35 rfl) fun _ H103 => ht_ H103 6 hx97 rfl rfl (v := .agg #[.int .i64 ii, .int .i64 ei, .slice A2i di.length c2i]) (fun _ _ HS9 => dd_load HS9 1 0 rfl rfl (H103.ev 9 rfl) (slab_whole _) Tryd.underlying38 rfl (by kernel_rfl)) fun _ H104 => ?_
    clear HS35 H34 H98 H99 H100 H101 H102
    clear H103
    refine h1_ 7 rfl <| d_ H104 rfl (R := fun v9 w9 => ∃ ge106 : Nat, ∃ ce106 : Nat, ∃ cbe106 : Array Value, v9 = .int .i64 0 ∧ (OwnC cbe106 ce106 1 66 (entsL ([] ++ [mkA [] qi ii ei]))) ∧ St w noF [⟨g20, 30, #[.slice (some ⟨ge106, 0, none⟩) 1 ce106]⟩, ⟨ge106, 59, cbe106⟩, ⟨g22, 30, #[.slice none 0 0]⟩, ⟨g9, 38, #[.int .i64 ii, .int .i64 ei, .slice A2i di.length c2i]⟩] w9) (dc_ Tryd.func11 rfl (args3 (H104.ev 40 rfl) (H104.ev 45 rfl) (H104.ev 46 rfl)) (audadd_first _ g20 _ _ _ qi ii ei (.slice A2i di.length c2i) _ (ss HSh97 [0]).frame  (HT _ HSh97.below) (nin_l (ss HSh97 [0]) hT.pos) (fun W9 k9 => slice_keepL i1i.slice (ss HSh97 [0]) k9) rfl (by omega) hb45) (fun _ w9 ⟨g9, c9, cb9, he, hO, hS⟩ => ⟨_, he, g9, c9, cb9, rfl, hO, St.reframe (ss HSh97 [0, 1, 2]) hS⟩)) ?_
    rintro _ W105 ⟨ge106, ce106, cbe106, rfl, Oe106, HS105⟩ a105 H105
    clear H104 HSh97
    refine sx_ (sxi HS105 [2, 3, 0, 1] rfl) fun hx107 => hp_ H105 8 hx107 rfl rfl rfl fun _ H108 => ?_
    clear hx97 H105
    refine wpAnyH_done (by kernel_rfl) ?_ _
    clear hx107
    refine nx <| sq_ <| sq_ <| rl_ <| q_ H108 2 rfl fun _ H109 => ?_
    clear H108
    by_cases hc111 : (r : Int) ≤ i
    ·
     refine wl_ <| i_ H109 rfl (dd_cmp rfl (H109.ev 48 rfl) (H109.ev 49 rfl) (ge_t hc111)) fun _ H112 => ln_ <| ?_
     clear H109
     have H113 := H112.sel [0, 5, 6, 7, 8, 9, 10, 50] rfl
     refine nx <| ct_ H113 rfl <| rl_ <| wl_ <| i_ H113 rfl (xf 2 2 rfl (H113.ev 9 rfl)) fun _ H114 => wl_ <| t_ rfl (S := [⟨g20, 30, #[.slice (some ⟨ge106, 0, none⟩) 1 ce106]⟩, ⟨ge106, 59, cbe106⟩, ⟨g22, 30, #[.slice none 0 0]⟩, ⟨g9, 38, #[.int .i64 ii, .int .i64 ei, .slice none 0 0]⟩]) (fun _ h => dd_put (cs := #[.int .i64 ii, .int .i64 ei, .slice none 0 0]) HS105 3 2 rfl rfl (H114.ev 51 rfl) rfl (by kernel_rfl) rfl rfl rfl rfl h) fun _ HS115 => ln_ <| nx <| sq_ <| ?_
     clear H112 H113 HS105
     refine wi_ HS115 [0, 1, 3] rfl [0, 1, 3, 2] rfl fun HSh116 hx116 => hp_ H114 0 hx116 rfl rfl rfl fun _ H117 => hp_ H117 1 hx116 rfl rfl rfl fun _ H118 => hp_ H118 2 hx116 rfl rfl rfl fun _ H119 => ht_ H119 3 hx116 rfl rfl (fun _ _ _ => xSo 4 (o + i * 4) rfl (H119.ev 53 rfl) (H119.ev 54 rfl)) fun _ H120 => ht_ H120 4 hx116 rfl rfl (fun _ _ _ => xf 0 (o + i * 4) rfl (H120.ev 55 rfl)) fun _ H121 => ht_ H121 5 hx116 rfl rfl (fun _ _ HS9 => dd_at rfl (H121.ev 56 rfl) ((hci.call HS9.below).at_ 0 _ rfl) Tryd.underlying35 rfl) fun _ H122 => ht_ H122 6 hx116 rfl rfl (v := .agg #[.int .i64 ii, .int .i64 ei, .slice none 0 0]) (fun _ _ HS9 => dd_load HS9 2 0 rfl rfl (H122.ev 9 rfl) (slab_whole _) Tryd.underlying38 rfl (by kernel_rfl)) fun _ H123 => ?_
     clear HS115 H114 H117 H118 H119 H120 H121
     refine hp_ H123 8 hx116 rfl rfl rfl fun _ H124 => ?_
     clear H122 H123
     refine h1_ 7 rfl <| d_ H124 rfl (R := fun v9 w9 => ∃ ge126 : Nat, ∃ ce126 : Nat, ∃ cbe126 : Array Value, v9 = .int .i64 0 ∧ (OwnC cbe126 ce126 1 66 (entsL ([] ++ [mkA [] qi ii ei]))) ∧ St w noF [⟨g22, 30, #[.slice (some ⟨ge126, 0, none⟩) 1 ce126]⟩, ⟨ge126, 59, cbe126⟩, ⟨g20, 30, #[.slice (some ⟨ge106, 0, none⟩) 1 ce106]⟩, ⟨ge106, 59, cbe106⟩, ⟨g9, 38, #[.int .i64 ii, .int .i64 ei, .slice none 0 0]⟩] w9) (dc_ Tryd.func11 rfl (args3 (H124.ev 52 rfl) (H124.ev 57 rfl) (H124.ev 58 rfl)) (audadd_first _ g22 _ _ _ qi ii ei (.slice none 0 0) _ (ss HSh116 [2]).frame  (HT _ HSh116.below) (nin_l (ss HSh116 [2]) hT.pos) (fun W9 k9 => slice_keepL i1i.slice (ss HSh116 [2]) k9) rfl (by omega) hb45) (fun _ w9 ⟨g9, c9, cb9, he, hO, hS⟩ => ⟨_, he, g9, c9, cb9, rfl, hO, St.reframe (ss HSh116 [2, 0, 1, 3]) hS⟩)) ?_
     rintro _ W125 ⟨ge126, ce126, cbe126, rfl, Oe126, HS125⟩ a125 H125
     clear H124 HSh116
     refine sx_ (sxi HS125 [2, 3, 4, 0, 1] rfl) fun hx127 => ht_ H125 9 hx127 rfl rfl (fun _ _ _ => dd_cmp rfl (H125.ev 59 rfl) (H125.ev 60 rfl) (ne_f (by decide))) fun _ H128 => ?_
     clear hx116 H125
     refine wpAnyH_done (by kernel_rfl) ?_ _
     clear hx127
     refine nx <| cf_ H128 rfl <| wp_skip <| bn <| nx <| rl_ <| wl_ <| p_ H128 rfl rfl fun _ H129 => wl_ <| i_ H129 rfl (v := .int .i64 (i + 1)) (dd_ari rfl (H129.ev 33 rfl) rfl rfl (i64_of (by first | omega | (have := bd_lo; omega)) (by omega))) fun _ H130 => wl_ <| p_ H130 rfl rfl fun _ H131 => ln_ <| ?_
     clear H128 H129 H130
     have H132 := H131.sel [0, 5, 6, 7, 8] rfl
     clear H131
     refine nx ⟨i + 1, .inr ⟨0, ([] ++ [mkA [] qi ii ei]), ge106, ce106, cbe106, ge126, ce126, cbe126, (by omega), (by omega), (show ([] ++ [mkA [] qi ii ei] : List Ae).length = 1 from rfl), (wf_mk wf_nil _ _ _), (good_mk (fun j hj => absurd hj (Nat.not_lt_zero _)) _ hb45), Oe106, Oe126, H132.sel [0, 5, 6, 7, 8] rfl, ss HS125 [2, 0, 3, 1]⟩, (by omega)⟩
    refine wl_ <| i_ H109 rfl (dd_cmp rfl (H109.ev 48 rfl) (H109.ev 49 rfl) (ge_f hc111)) fun _ H133 => ln_ <| ?_
    clear H109
    have H134 := H133.sel [0, 5, 6, 7, 8, 9, 10, 50] rfl
    refine nx <| cf_ H134 rfl <| wp_skip <| nx <| sq_ <| ?_
    clear H133
    refine wi_ HS105 [0, 1, 3] rfl [0, 1, 3, 2] rfl fun HSh135 hx135 => hp_ H134 0 hx135 rfl rfl rfl fun _ H136 => hp_ H136 1 hx135 rfl rfl rfl fun _ H137 => hp_ H137 2 hx135 rfl rfl rfl fun _ H138 => ht_ H138 3 hx135 rfl rfl (fun _ _ _ => xSo 4 (o + i * 4) rfl (H138.ev 53 rfl) (H138.ev 54 rfl)) fun _ H139 => ht_ H139 4 hx135 rfl rfl (fun _ _ _ => xf 0 (o + i * 4) rfl (H139.ev 55 rfl)) fun _ H140 => ht_ H140 5 hx135 rfl rfl (fun _ _ HS9 => dd_at rfl (H140.ev 56 rfl) ((hci.call HS9.below).at_ 0 _ rfl) Tryd.underlying35 rfl) fun _ H141 => ht_ H141 6 hx135 rfl rfl (v := .agg #[.int .i64 ii, .int .i64 ei, .slice A2i di.length c2i]) (fun _ _ HS9 => dd_load HS9 2 0 rfl rfl (H141.ev 9 rfl) (slab_whole _) Tryd.underlying38 rfl (by kernel_rfl)) fun _ H142 => ?_
    clear HS105 H134 H136 H137 H138 H139 H140
    refine hp_ H142 8 hx135 rfl rfl rfl fun _ H143 => ?_
    clear H141 H142
    refine h1_ 7 rfl <| d_ H143 rfl (R := fun v9 w9 => ∃ ge145 : Nat, ∃ ce145 : Nat, ∃ cbe145 : Array Value, v9 = .int .i64 0 ∧ (OwnC cbe145 ce145 1 66 (entsL ([] ++ [mkA [] qi ii ei]))) ∧ St w noF [⟨g22, 30, #[.slice (some ⟨ge145, 0, none⟩) 1 ce145]⟩, ⟨ge145, 59, cbe145⟩, ⟨g20, 30, #[.slice (some ⟨ge106, 0, none⟩) 1 ce106]⟩, ⟨ge106, 59, cbe106⟩, ⟨g9, 38, #[.int .i64 ii, .int .i64 ei, .slice A2i di.length c2i]⟩] w9) (dc_ Tryd.func11 rfl (args3 (H143.ev 52 rfl) (H143.ev 57 rfl) (H143.ev 58 rfl)) (audadd_first _ g22 _ _ _ qi ii ei (.slice A2i di.length c2i) _ (ss HSh135 [2]).frame  (HT _ HSh135.below) (nin_l (ss HSh135 [2]) hT.pos) (fun W9 k9 => slice_keepL i1i.slice (ss HSh135 [2]) k9) rfl (by omega) hb45) (fun _ w9 ⟨g9, c9, cb9, he, hO, hS⟩ => ⟨_, he, g9, c9, cb9, rfl, hO, St.reframe (ss HSh135 [2, 0, 1, 3]) hS⟩)) ?_
    rintro _ W144 ⟨ge145, ce145, cbe145, rfl, Oe145, HS144⟩ a144 H144
    clear H143 HSh135
    refine sx_ (sxi HS144 [2, 3, 4, 0, 1] rfl) fun hx146 => ht_ H144 9 hx146 rfl rfl (fun _ _ _ => dd_cmp rfl (H144.ev 59 rfl) (H144.ev 60 rfl) (ne_f (by decide))) fun _ H147 => ?_
    clear hx135 H144
    refine wpAnyH_done (by kernel_rfl) ?_ _
    clear hx146
    refine nx <| cf_ H147 rfl <| wp_skip <| bn <| nx <| rl_ <| wl_ <| p_ H147 rfl rfl fun _ H148 => wl_ <| i_ H148 rfl (v := .int .i64 (i + 1)) (dd_ari rfl (H148.ev 33 rfl) rfl rfl (i64_of (by first | omega | (have := bd_lo; omega)) (by omega))) fun _ H149 => wl_ <| p_ H149 rfl rfl fun _ H150 => ln_ <| ?_
    clear H147 H148 H149
    refine nx ⟨i + 1, .inr ⟨0, ([] ++ [mkA [] qi ii ei]), ge106, ce106, cbe106, ge145, ce145, cbe145, (by omega), (by omega), (show ([] ++ [mkA [] qi ii ei] : List Ae).length = 1 from rfl), (wf_mk wf_nil _ _ _), (good_mk (fun j hj => absurd hj (Nat.not_lt_zero _)) _ hb45), Oe106, Oe145, H150.sel [0, 5, 6, 7, 8] rfl, ss HS144 [2, 0, 3, 1]⟩, (by omega)⟩
   refine wl_ <| i_ H26 rfl (dd_cmp rfl (H26.ev 29 rfl) (H26.ev 31 rfl) (lt_f hc28)) fun _ H151 => ln_ <| nx <| cf_ H151 rfl <| wp_exit <| tx <| tx <| bx <| nx <| sq_ <| rl_ <| wl_ <| p_ H151 rfl rfl fun _ H152 => wl_ <| c_ H152 rfl HSL24 (dcs Tryd.func19 rfl (args1 (H152.ev 62 rfl)) (audents_zero g20 wL24 (HSL24.row 0 rfl)) (.slice none 0 0)) fun W153 HS153 _ H153 => wl_ <| p_ H153 rfl rfl fun _ H154 => wl_ <| c_ H154 rfl HS153 (dcs Tryd.func19 rfl (args1 (H154.ev 64 rfl)) (audents_zero g22 W153 (HS153.row 1 rfl)) (.slice none 0 0)) fun W155 HS155 _ H155 => q_ H155 2 rfl fun _ H156 => ln_ <| nx <| sq_ <| sq_ <| rl_ <| wl_ <| p_ H156 rfl rfl fun _ H157 => wl_ <| i_ H157 rfl (v := .int .i64 0) (dd_len rfl (H157.ev 66 rfl) Tryd.underlying28) fun _ H158 => ?_
   clear H26 H151 H152 HSL24 H153 H154 HS153 H155 H156
   refine wl_ <| p_ H158 rfl rfl fun _ H159 => wl_ <| i_ H159 rfl (v := .int .i64 0) (dd_len rfl (H159.ev 68 rfl) Tryd.underlying28) fun _ H160 => wl_ <| i_ H160 rfl (dd_cmp rfl (H160.ev 67 rfl) (H160.ev 69 rfl) (ne_f (by decide))) fun _ H161 => wl_ <| p_ H161 rfl rfl fun _ H162 => wl_ <| ig H162 (wg_ H162 rfl rfl rfl rfl) rfl (dd_mv rfl (H162.ev 5 rfl)) fun _ H163 => wl_ <| cg H163 (wg_ H163 rfl rfl rfl rfl) rfl HS155 (dcs Tryd.func13 rfl (args1 (H163.ev 72 rfl)) (audlast_zero g20 W155 (HS155.row 0 rfl)) (.agg (bs (lk [] 0)))) fun W164 HS164 _ H164 => wl_ <| ig H164 (wg_ H164 rfl rfl rfl rfl) rfl (dd_mv rfl (H164.ev 6 rfl)) fun _ H165 => wl_ <| cg H165 (wg_ H165 rfl rfl rfl rfl) rfl HS164 (dcs Tryd.func13 rfl (args1 (H165.ev 74 rfl)) (audlast_zero g22 W164 (HS164.row 1 rfl)) (.agg (bs (lk [] 0)))) fun _ HS166 _ H166 => ?_
   clear H157 H158 H159 H160 H161 H162 H163 HS155 H164
   refine wl_ <| ig H166 (wg_ H166 rfl rfl rfl rfl) rfl (v := .bool false) (dd_nea (b := true) rfl (H166.ev 73 rfl) (H166.ev 75 rfl) (by kernel_rfl) (fun w => by rw [eql_dgs (lk [] 0) (lk [] 0) (length_zer 32) (length_zer 32) w, decide_eq_true rfl]) rfl) fun _ H167 => q_ H167 2 rfl fun _ H168 => wl_ <| ig H168 (wg_ H168 rfl rfl rfl rfl) rfl (dd_mv rfl (H168.ev 11 rfl)) fun _ H169 => wl_ <| ig H169 (wg_ H169 rfl rfl rfl rfl) rfl (v := .int .i64 0) (dd_len rfl (H169.ev 79 rfl) Tryd.underlying28) fun _ H170 => wl_ <| ig H170 (wg_ H170 rfl rfl rfl rfl) rfl (dd_mv rfl (H170.ev 0 rfl)) fun _ H171 => wl_ <| ig H171 (wg_ H171 rfl rfl rfl rfl) rfl (v := .int .i64 n) (dd_len rfl (H171.ev 81 rfl) Tryd.underlying22) fun _ H172 => wl_ <| ig H172 (wg_ H172 rfl rfl rfl rfl) rfl (dd_cmp rfl (H172.ev 80 rfl) (H172.ev 82 rfl) (gt_f (by omega))) fun _ H173 => wl_ <| p_ H173 rfl rfl fun _ H174 => ?_
   clear H165 HS164 H166 H167 H168 H169 H170 H171 H172
   refine ln_ <| ?_
   clear H173
   have H175 := H174.sel [5, 11, 12, 84] rfl
   refine nx <| cf_ H175 rfl <| wp_skip <| nx <| sq_ <| sq_ <| rl_ <| wl_ <| p_ H175 rfl rfl fun _ H176 => ln_ <| nx <| wp_block <| wp_unr 1 <| unr_go <| sq_ <| sq_ <| rl_ <| q_ H176 2 rfl fun _ H177 => wl_ <| i_ H177 rfl (v := .int .i64 0) (dd_len rfl (H177.ev 86 rfl) Tryd.underlying28) fun _ H178 => wl_ <| i_ H178 rfl (dd_cmp rfl (H178.ev 85 rfl) (H178.ev 87 rfl) (lt_f (by decide))) fun _ H179 => ln_ <| nx <| cf_ H179 rfl <| wp_exit <| tx <| tx <| bx <| nx <| sq_ <| sq_ <| rl_ <| wl_ <| p_ H179 rfl rfl fun _ H180 => wl_ <| n_ H180 rfl (fun _ h => dd_lits HS166 #[.int .u8 109, .int .u8 111, .int .u8 114, .int .u8 101] rfl (ps := [(0, .int .u8 109), (1, .int .u8 111), (2, .int .u8 114), (3, .int .u8 101)]) (pr1 rfl (pr1 rfl (pr1 rfl (pr1 rfl (pr0))))) (z := .int .u8 0) (sz := 1) Tryd.underlying35 (by kernel_rfl) rfl rfl (by kernel_rfl) h) fun g101 _ HS181 _ H181 => ?_
   clear H174 H175 H176 H177 H178 H179 HS166 H180
   refine wl_ <| d_ H181 rfl (R := fun v9 w9 => v9 = .slice (some ⟨g101, 0, none⟩) 4 4 ∧ (MarkAt w9 g101 [109#8, 111#8, 114#8, 101#8]) ∧ (∀ r ∈ ([⟨g20, 30, #[.slice none 0 0]⟩, ⟨g22, 30, #[.slice none 0 0]⟩] : List Blk), r.g ≠ g101) ∧ St w noF [⟨g20, 30, #[.slice none 0 0]⟩, ⟨g22, 30, #[.slice none 0 0]⟩] w9) (dd_cvl HS181 2 (q := [109#8, 111#8, 114#8, 101#8]) rfl rfl (H181.ev 101 rfl) (fun w9 h1 h2 h3 => ⟨rfl, h2, h3, h1⟩)) ?_
   rintro _ W182 ⟨rfl, hm183, hne183, HS182⟩ a182 H182
   clear H181 HS181
   have HSf183 := HS182.frame
   refine wl_ <| i_ H182 rfl (v := .agg #[.int .i64 9, .int .i64 0, .slice none 0 0]) (dd_bld rfl (ps := [(0, .int .i64 9)]) (pr1 rfl (pr0)) (Lz := [[.int .i64 0], [.int .i64 0], [.slice none 0 0]]) (by kernel_rfl) (lens_cons rfl (lens_cons rfl (lens_cons rfl (lens_nil)))) (fit_cons (i := 0) rfl rfl (fit_nil)) (cs := #[.int .i64 9, .int .i64 0, .slice none 0 0]) rfl) fun _ H184 => ?_
   clear H182
   have HSu183 := HS182.unframe HSf183
   have hmu183 := hm183.chg HSf183 hne183
   have hnu183 := mark_ne hm183 HSf183 hne183
   clear HS182 HSf183
   refine wl_ <| d_ H184 rfl (R := fun v9 w9 => ∃ ge186 : Nat, ∃ ce186 : Nat, ∃ cbe186 : Array Value, v9 = .int .i64 0 ∧ (OwnC cbe186 ce186 1 66 (entsL ([] ++ [mkA [] ([109#8, 111#8, 114#8, 101#8]) 9 0]))) ∧ St w noF [⟨g20, 30, #[.slice (some ⟨ge186, 0, none⟩) 1 ce186]⟩, ⟨ge186, 59, cbe186⟩, ⟨g22, 30, #[.slice none 0 0]⟩] w9) (dc_ Tryd.func11 rfl (args3 (H184.ev 100 rfl) (H184.ev 102 rfl) (H184.ev 103 rfl)) (audadd_first _ g20 _ _ _ ([109#8, 111#8, 114#8, 101#8]) 9 0 (.slice none 0 0) _ (ss HSu183 [0]).frame  (HT _ HSu183.below) (nin_l (ss HSu183 [0]) hT.pos) (fun W9 k9 => (mark_chg hmu183 k9 (fun r hr => hnu183 r (sel_mem (S := [⟨g20, 30, #[.slice none 0 0]⟩, ⟨g22, 30, #[.slice none 0 0]⟩]) (is := [0]) hr))).slice rfl) rfl (by decide) (by decide +kernel)) (fun _ w9 ⟨g9, c9, cb9, he, hO, hS⟩ => ⟨_, he, g9, c9, cb9, rfl, hO, St.reframe (ss HSu183 [0, 1]) hS⟩)) ?_
   rintro _ W185 ⟨ge186, ce186, cbe186, rfl, Oe186, HS185⟩ a185 H185
   clear H184 HSu183
   refine wl_ <| i_ H185 rfl (dd_cmp rfl (H185.ev 104 rfl) rfl (ne_f (by decide))) fun _ H187 => ln_ <| nx <| cf_ H187 rfl <| wp_skip <| nx <| sq_ <| rl_ <| wl_ <| p_ H187 rfl rfl fun _ H188 => ?_
   clear H185 H187
   refine wl_ <| d_ H188 rfl (R := fun v w9 => ∃ gc190 cc190 cbc190, v = .slice (some ⟨gc190, 0, none⟩) 1 cc190 ∧ (W185.heap.size ≤ gc190) ∧ (Row w9 gc190 59 cbc190) ∧ (OwnC cbc190 cc190 1 66 (entsL ([] ++ [mkA [] ([109#8, 111#8, 114#8, 101#8]) 9 0]))) ∧ Below W185.heap.size W185 w9) (dc_ Tryd.func19 rfl (args1 (H188.ev 106 rfl)) (audents_pos _ _ 1 _ ([] ++ [mkA [] ([109#8, 111#8, 114#8, 101#8]) 9 0]) W185 (HS185.row 0 rfl) (cat_own (HS185.row 1 rfl) Oe186) (show ([] ++ [mkA [] ([109#8, 111#8, 114#8, 101#8]) 9 0] : List Ae).length = 1 from rfl) (wf_mk wf_nil _ _ _) (by omega)) (fun _ w9 ⟨g9, c9, cb9, he, h1, h2, h3, hb⟩ => ⟨_, he, g9, c9, cb9, rfl, h1, h2, h3, hb⟩)) ?_
   rintro _ W189 ⟨gc190, cc190, cbc190, rfl, hg190, hr190, Oc190, hb189⟩ a189 H189
   have HS189 := HS185.same hb189
   clear H188
   have HS189j : St w noF [⟨g20, 30, #[.slice (some ⟨ge186, 0, none⟩) 1 ce186]⟩, ⟨ge186, 59, cbe186⟩, ⟨g22, 30, #[.slice none 0 0]⟩, ⟨gc190, 59, cbc190⟩] W189 := HS185.joins hb189 hr190 hg190
   clear HS189 hr190 hg190
   clear HS185 hb189
   refine wl_ <| p_ H189 rfl rfl fun _ H191 => ln_ <| nx <| sq_ <| sq_ <| rl_ <| wl_ <| p_ H191 rfl rfl fun _ H192 => wl_ <| i_ H192 rfl (v := .int .i64 1) (dd_len rfl (H192.ev 108 rfl) Tryd.underlying28) fun _ H193 => wl_ <| p_ H193 rfl rfl fun _ H194 => wl_ <| i_ H194 rfl (v := .int .i64 0) (dd_len rfl (H194.ev 110 rfl) Tryd.underlying28) fun _ H195 => wl_ <| i_ H195 rfl (v := .int .i64 1) (dd_ari rfl (H195.ev 111 rfl) rfl rfl (by decide)) fun _ H196 => wl_ <| i_ H196 rfl (dd_cmp rfl (H196.ev 109 rfl) (H196.ev 112 rfl) (ne_f (by decide))) fun _ H197 => ln_ <| ?_
   clear H189 H191 H192 H193 H194 H195 H196
   have H198 := H197.sel [11, 12, 113] rfl
   refine nx <| cf_ H198 rfl <| wp_skip <| nx <| sq_ <| sq_ <| rl_ <| wl_ <| p_ H198 rfl rfl fun _ H199 => ln_ <| nx <| wp_block <| wp_unr 1 <| unr_go <| sq_ <| sq_ <| rl_ <| q_ H199 2 rfl fun _ H200 => wl_ <| i_ H200 rfl (v := .int .i64 0) (dd_len rfl (H200.ev 115 rfl) Tryd.underlying28) fun _ H201 => wl_ <| i_ H201 rfl (dd_cmp rfl (H201.ev 114 rfl) (H201.ev 116 rfl) (lt_f (by decide))) fun _ H202 => ln_ <| nx <| cf_ H202 rfl <| wp_exit <| tx <| tx <| bx <| nx <| sq_ <| rl_ <| wl_ <| p_ H202 rfl rfl fun _ H203 => wl_ <| c_ H203 rfl HS189j (dcs Tryd.func20 rfl (args1 (H203.ev 129 rfl)) (audver_any _ ([] ++ [mkA [] ([109#8, 111#8, 114#8, 101#8]) 9 0]) W189 (HT _ HS189j.below) (ents_mk (show ([] ++ [mkA [] ([109#8, 111#8, 114#8, 101#8]) 9 0] : List Ae).length = 1 from rfl) (wf_mk wf_nil _ _ _) (cat_own (HS189j.row 3 rfl) Oc190) Oc190.le) (by rw [(show ([] ++ [mkA [] ([109#8, 111#8, 114#8, 101#8]) 9 0] : List Ae).length = 1 from rfl)]; omega)) (.int .i64 (verI ([] ++ [mkA [] ([109#8, 111#8, 114#8, 101#8]) 9 0])))) fun W204 HS204 _ H204 => wl_ <| i_ H204 rfl (dd_cmp rfl (H204.ev 130 rfl) rfl (eq_t (ver_none (good_mk (fun j hj => absurd hj (Nat.not_lt_zero _)) _ (by decide +kernel))))) fun _ H205 => wl_ <| p_ H205 rfl rfl fun _ H206 => ?_
   clear H197 H198 H199 H200 H201 H202 H203 HS189j H204
   refine wl_ <| cg H206 (wg_ H206 rfl rfl rfl rfl) rfl HS204 (dcs Tryd.func10 rfl (args0 ) (auwakes_any W204 (HT _ HS204.below)) (.bool true)) fun _ HS207 _ H207 => q_ H207 2 rfl fun _ H208 => ln_ <| nx <| wp_ret <| ret_run H208.env0 (res_t Tryd.results7 (H208.get 4 rfl)) <| ?_
   clear H205 H206 HS204 H207
   exact ⟨rfl, HS207.below⟩
  refine sq_ <| sq_ <| rl_ <| q_ HL24 2 rfl fun _ H209 => wl_ <| i_ H209 rfl (v := .int .i64 n) (dd_len rfl (H209.ev 30 rfl) Tryd.underlying22) fun _ H210 => ?_
  clear HL24 H209
  by_cases hc212 : (i : Int) < n
  ·
   refine wl_ <| i_ H210 rfl (dd_cmp rfl (H210.ev 29 rfl) (H210.ev 31 rfl) (lt_t hc212)) fun _ H213 => ln_ <| nx <| ct_ H213 rfl <| wp_skip <| nx <| sq_ <| wp_block <| sq_ <| rl_ <| q_ H213 2 rfl fun _ H214 => wl_ <| i_ H214 rfl (xSo 4 (o + i * 4) rfl (H214.ev 35 rfl) (H214.ev 36 rfl)) fun _ H215 => wl_ <| i_ H215 rfl (xf 1 (o + i * 4 + 1) rfl (H215.ev 37 rfl)) fun _ H216 => ?_
   clear H210 H213 H214 H215
   obtain ⟨qi, ii, ei, di, A1i, c1i, A2i, c2i, hgi, hci, i1i, i2i, bii, bji, bei, bfi⟩ := saids_getB h0 (k := i) (by omega)
   have hfai : qi.length ≤ 300 ∧ di.length ≤ 600 := hfl _ (List.mem_of_getElem? hgi)
   refine wl_ <| i_ H216 rfl (v := .agg #[.int .i64 ii, .int .i64 ei, .slice A2i di.length c2i]) (dd_atN (L := [.int .i64 ii, .int .i64 ei, .slice A2i di.length c2i]) rfl (H216.ev 38 rfl) (cat_part (hci.call HSL24.below) 1 (M := [.slice A1i qi.length c1i]) rfl).at_ Tryd.underlying38 rfl (by kernel_rfl)) fun _ H217 => wl_ <| n_ H217 rfl (fun _ h => dd_new HSL24 #[.int .i64 0, .int .i64 0, .slice none 0 0] rfl (z := .agg #[.int .i64 0, .int .i64 0, .slice none 0 0]) (by kernel_rfl) rfl h) fun g9 _ HS218 _ H218 => wl_ <| t_ rfl (fun _ h => dd_setrow HS218 4 rfl rfl (H218.ev 9 rfl) (H218.ev 39 rfl) (by kernel_rfl) (rfl : #[.int .i64 ii, .int .i64 ei, .slice A2i di.length c2i].size = 3) (rfl : #[.int .i64 0, .int .i64 0, .slice none 0 0].size = 3) (one_l (ao_cons rfl (ao_cons rfl (ao_cons rfl ao_nil)))) h) fun W219 HS219 => ln_ <| nx <| sq_ <| ?_
   clear H216 HSL24 H217 HS218
   cases hb229 : mayR ii ei 0
   ·
    refine wi_ HS219 [0, 1, 2, 3, 4] rfl [0, 1, 2, 3, 4] rfl fun HSh230 hx230 => hp_ H218 0 hx230 rfl rfl rfl fun _ H231 => hp_ H231 1 hx230 rfl rfl rfl fun _ H232 => hp_ H232 2 hx230 rfl rfl rfl fun _ H233 => ht_ H233 3 hx230 rfl rfl (fun _ _ _ => xSo 4 (o + i * 4) rfl (H233.ev 41 rfl) (H233.ev 42 rfl)) fun _ H234 => ht_ H234 4 hx230 rfl rfl (fun _ _ _ => xf 0 (o + i * 4) rfl (H234.ev 43 rfl)) fun _ H235 => ht_ H235 5 hx230 rfl rfl (fun _ _ HS9 => dd_at rfl (H235.ev 44 rfl) ((hci.call HS9.below).at_ 0 _ rfl) Tryd.underlying35 rfl) fun _ H236 => ht_ H236 6 hx230 rfl rfl (v := .agg #[.int .i64 ii, .int .i64 ei, .slice A2i di.length c2i]) (fun _ _ HS9 => dd_load HS9 4 0 rfl rfl (H236.ev 9 rfl) (slab_whole _) Tryd.underlying38 rfl (by kernel_rfl)) fun _ H237 => ?_
    clear HS219 H218 H231 H232 H233 H234 H235
    refine h1_ 7 rfl <| c_ H237 rfl HSh230 (dcs Tryd.func11 rfl (args3 (H237.ev 40 rfl) (H237.ev 45 rfl) (H237.ev 46 rfl)) (audadd_bad g20 _ _ _ qi ii ei (.slice A2i di.length c2i) W219.drew (HT _ HSh230.below) (i1i.slice.below HSh230.below (Nat.le_refl _)) rfl (by omega) hb229) (.int .i64 11)) fun W238 HS238 _ H238 => sx_ (sxi HS238 [0, 1, 2, 3, 4] rfl) fun hx239 => hp_ H238 8 hx239 rfl rfl rfl fun _ H240 => ?_
    clear H236 H237 HSh230 hx230 H238
    refine wpAnyH_done (by kernel_rfl) ?_ _
    clear hx239
    refine nx <| sq_ <| sq_ <| rl_ <| q_ H240 2 rfl fun _ H241 => ?_
    clear H240
    by_cases hc243 : (r : Int) ≤ i
    ·
     refine wl_ <| i_ H241 rfl (dd_cmp rfl (H241.ev 48 rfl) (H241.ev 49 rfl) (ge_t hc243)) fun _ H244 => ln_ <| ?_
     clear H241
     have H245 := H244.sel [0, 5, 6, 7, 8, 9, 10, 50] rfl
     refine nx <| ct_ H245 rfl <| rl_ <| wl_ <| i_ H245 rfl (xf 2 2 rfl (H245.ev 9 rfl)) fun _ H246 => wl_ <| t_ rfl (S := [⟨g20, 30, #[.slice (some ⟨gA, 0, none⟩) (K + 1) cA]⟩, ⟨g22, 30, #[.slice (some ⟨gB, 0, none⟩) (K + 1) cB]⟩, ⟨gA, 59, cbA⟩, ⟨gB, 59, cbB⟩, ⟨g9, 38, #[.int .i64 ii, .int .i64 ei, .slice none 0 0]⟩]) (fun _ h => dd_put (cs := #[.int .i64 ii, .int .i64 ei, .slice none 0 0]) HS238 4 2 rfl rfl (H246.ev 51 rfl) rfl (by kernel_rfl) rfl rfl rfl rfl h) fun W247 HS247 => ln_ <| nx <| sq_ <| ?_
     clear H244 H245 HS238
     refine wi_ HS247 [0, 1, 2, 3, 4] rfl [0, 1, 2, 3, 4] rfl fun HSh248 hx248 => hp_ H246 0 hx248 rfl rfl rfl fun _ H249 => hp_ H249 1 hx248 rfl rfl rfl fun _ H250 => hp_ H250 2 hx248 rfl rfl rfl fun _ H251 => ht_ H251 3 hx248 rfl rfl (fun _ _ _ => xSo 4 (o + i * 4) rfl (H251.ev 53 rfl) (H251.ev 54 rfl)) fun _ H252 => ht_ H252 4 hx248 rfl rfl (fun _ _ _ => xf 0 (o + i * 4) rfl (H252.ev 55 rfl)) fun _ H253 => ht_ H253 5 hx248 rfl rfl (fun _ _ HS9 => dd_at rfl (H253.ev 56 rfl) ((hci.call HS9.below).at_ 0 _ rfl) Tryd.underlying35 rfl) fun _ H254 => ht_ H254 6 hx248 rfl rfl (v := .agg #[.int .i64 ii, .int .i64 ei, .slice none 0 0]) (fun _ _ HS9 => dd_load HS9 4 0 rfl rfl (H254.ev 9 rfl) (slab_whole _) Tryd.underlying38 rfl (by kernel_rfl)) fun _ H255 => ?_
     clear HS247 H246 H249 H250 H251 H252 H253
     refine hp_ H255 8 hx248 rfl rfl rfl fun _ H256 => h1_ 7 rfl <| c_ H256 rfl HSh248 (dcs Tryd.func11 rfl (args3 (H256.ev 52 rfl) (H256.ev 57 rfl) (H256.ev 58 rfl)) (audadd_bad g22 _ _ _ qi ii ei (.slice none 0 0) W247.drew (HT _ HSh248.below) (i1i.slice.below HSh248.below (Nat.le_refl _)) rfl (by omega) hb229) (.int .i64 11)) fun _ HS257 _ H257 => sx_ (sxi HS257 [0, 1, 2, 3, 4] rfl) fun hx258 => ht_ H257 9 hx258 rfl rfl (fun _ _ _ => dd_cmp rfl (H257.ev 59 rfl) (H257.ev 60 rfl) (ne_f (by decide))) fun _ H259 => ?_
     clear H254 H255 H256 HSh248 hx248 H257
     refine wpAnyH_done (by kernel_rfl) ?_ _
     clear hx258
     refine nx <| cf_ H259 rfl <| wp_skip <| bn <| nx <| rl_ <| wl_ <| p_ H259 rfl rfl fun _ H260 => wl_ <| i_ H260 rfl (v := .int .i64 (i + 1)) (dd_ari rfl (H260.ev 33 rfl) rfl rfl (i64_of (by first | omega | (have := bd_lo; omega)) (by omega))) fun _ H261 => wl_ <| p_ H261 rfl rfl fun _ H262 => ln_ <| ?_
     clear H259 H260 H261
     have H263 := H262.sel [0, 5, 6, 7, 8] rfl
     clear H262
     refine nx ⟨i + 1, .inr ⟨K, X, gA, cA, cbA, gB, cB, cbB, (by omega), (by omega), hX, hw, hgd, OA, OB, H263.sel [0, 5, 6, 7, 8] rfl, ss HS257 [0, 1, 2, 3]⟩, (by omega)⟩
    refine wl_ <| i_ H241 rfl (dd_cmp rfl (H241.ev 48 rfl) (H241.ev 49 rfl) (ge_f hc243)) fun _ H264 => ln_ <| ?_
    clear H241
    have H265 := H264.sel [0, 5, 6, 7, 8, 9, 10, 50] rfl
    refine nx <| cf_ H265 rfl <| wp_skip <| nx <| sq_ <| ?_
    clear H264
    refine wi_ HS238 [0, 1, 2, 3, 4] rfl [0, 1, 2, 3, 4] rfl fun HSh266 hx266 => hp_ H265 0 hx266 rfl rfl rfl fun _ H267 => hp_ H267 1 hx266 rfl rfl rfl fun _ H268 => hp_ H268 2 hx266 rfl rfl rfl fun _ H269 => ht_ H269 3 hx266 rfl rfl (fun _ _ _ => xSo 4 (o + i * 4) rfl (H269.ev 53 rfl) (H269.ev 54 rfl)) fun _ H270 => ht_ H270 4 hx266 rfl rfl (fun _ _ _ => xf 0 (o + i * 4) rfl (H270.ev 55 rfl)) fun _ H271 => ht_ H271 5 hx266 rfl rfl (fun _ _ HS9 => dd_at rfl (H271.ev 56 rfl) ((hci.call HS9.below).at_ 0 _ rfl) Tryd.underlying35 rfl) fun _ H272 => ht_ H272 6 hx266 rfl rfl (v := .agg #[.int .i64 ii, .int .i64 ei, .slice A2i di.length c2i]) (fun _ _ HS9 => dd_load HS9 4 0 rfl rfl (H272.ev 9 rfl) (slab_whole _) Tryd.underlying38 rfl (by kernel_rfl)) fun _ H273 => ?_
    clear HS238 H265 H267 H268 H269 H270 H271
    refine hp_ H273 8 hx266 rfl rfl rfl fun _ H274 => h1_ 7 rfl <| c_ H274 rfl HSh266 (dcs Tryd.func11 rfl (args3 (H274.ev 52 rfl) (H274.ev 57 rfl) (H274.ev 58 rfl)) (audadd_bad g22 _ _ _ qi ii ei (.slice A2i di.length c2i) W238.drew (HT _ HSh266.below) (i1i.slice.below HSh266.below (Nat.le_refl _)) rfl (by omega) hb229) (.int .i64 11)) fun _ HS275 _ H275 => sx_ (sxi HS275 [0, 1, 2, 3, 4] rfl) fun hx276 => ht_ H275 9 hx276 rfl rfl (fun _ _ _ => dd_cmp rfl (H275.ev 59 rfl) (H275.ev 60 rfl) (ne_f (by decide))) fun _ H277 => ?_
    clear H272 H273 H274 HSh266 hx266 H275
    refine wpAnyH_done (by kernel_rfl) ?_ _
    clear hx276
    refine nx <| cf_ H277 rfl <| wp_skip <| bn <| nx <| rl_ <| wl_ <| p_ H277 rfl rfl fun _ H278 => wl_ <| i_ H278 rfl (v := .int .i64 (i + 1)) (dd_ari rfl (H278.ev 33 rfl) rfl rfl (i64_of (by first | omega | (have := bd_lo; omega)) (by omega))) fun _ H279 => wl_ <| p_ H279 rfl rfl fun _ H280 => ln_ <| ?_
    clear H277 H278 H279
    refine nx ⟨i + 1, .inr ⟨K, X, gA, cA, cbA, gB, cB, cbB, (by omega), (by omega), hX, hw, hgd, OA, OB, H280.sel [0, 5, 6, 7, 8] rfl, ss HS275 [0, 1, 2, 3]⟩, (by omega)⟩
   refine wi_ HS219 [1, 3, 4] rfl [1, 3, 4, 0, 2] rfl fun HSh281 hx281 => hp_ H218 0 hx281 rfl rfl rfl fun _ H282 => hp_ H282 1 hx281 rfl rfl rfl fun _ H283 => hp_ H283 2 hx281 rfl rfl rfl fun _ H284 => ht_ H284 3 hx281 rfl rfl (fun _ _ _ => xSo 4 (o + i * 4) rfl (H284.ev 41 rfl) (H284.ev 42 rfl)) fun _ H285 => ht_ H285 4 hx281 rfl rfl (fun _ _ _ => xf 0 (o + i * 4) rfl (H285.ev 43 rfl)) fun _ H286 => ht_ H286 5 hx281 rfl rfl (fun _ _ HS9 => dd_at rfl (H286.ev 44 rfl) ((hci.call HS9.below).at_ 0 _ rfl) Tryd.underlying35 rfl) fun _ H287 => ht_ H287 6 hx281 rfl rfl (v := .agg #[.int .i64 ii, .int .i64 ei, .slice A2i di.length c2i]) (fun _ _ HS9 => dd_load HS9 2 0 rfl rfl (H287.ev 9 rfl) (slab_whole _) Tryd.underlying38 rfl (by kernel_rfl)) fun _ H288 => ?_
   clear HS219 H218 H282 H283 H284 H285 H286
   clear H287
   refine h1_ 7 rfl <| d_ H288 rfl (R := fun v9 w9 => ∃ ge290 : Nat, ∃ ce290 : Nat, ∃ cbe290 : Array Value, v9 = .int .i64 0 ∧ (OwnC cbe290 ce290 (K + 1 + 1) 66 (entsL (X ++ [mkA X qi ii ei]))) ∧ St w noF [⟨g20, 30, #[.slice (some ⟨ge290, 0, none⟩) (K + 1 + 1) ce290]⟩, ⟨ge290, 59, cbe290⟩, ⟨g22, 30, #[.slice (some ⟨gB, 0, none⟩) (K + 1) cB]⟩, ⟨gB, 59, cbB⟩, ⟨g9, 38, #[.int .i64 ii, .int .i64 ei, .slice A2i di.length c2i]⟩] w9) (dc_ Tryd.func11 rfl (args3 (H288.ev 40 rfl) (H288.ev 45 rfl) (H288.ev 46 rfl)) (audadd_own _ g20 _ K _ _ X _ _ _ qi ii ei (.slice A2i di.length c2i) _ (ss HSh281 [0, 2]).frame OA hX hw (by omega) (HT _ HSh281.below) (nin_l (ss HSh281 [0, 2]) hT.pos) (fun W9 k9 => slice_keepL i1i.slice (ss HSh281 [0, 2]) k9) rfl (by omega) hb229) (fun _ w9 ⟨g9, c9, cb9, he, hO, hS⟩ => ⟨_, he, g9, c9, cb9, rfl, hO, St.reframe (ss HSh281 [0, 2, 1, 3, 4]) hS⟩)) ?_
   rintro _ W289 ⟨ge290, ce290, cbe290, rfl, Oe290, HS289⟩ a289 H289
   clear H288 HSh281
   refine sx_ (sxi HS289 [2, 3, 4, 0, 1] rfl) fun hx291 => hp_ H289 8 hx291 rfl rfl rfl fun _ H292 => ?_
   clear hx281 H289
   refine wpAnyH_done (by kernel_rfl) ?_ _
   clear hx291
   refine nx <| sq_ <| sq_ <| rl_ <| q_ H292 2 rfl fun _ H293 => ?_
   clear H292
   by_cases hc295 : (r : Int) ≤ i
   ·
    refine wl_ <| i_ H293 rfl (dd_cmp rfl (H293.ev 48 rfl) (H293.ev 49 rfl) (ge_t hc295)) fun _ H296 => ln_ <| ?_
    clear H293
    have H297 := H296.sel [0, 5, 6, 7, 8, 9, 10, 50] rfl
    refine nx <| ct_ H297 rfl <| rl_ <| wl_ <| i_ H297 rfl (xf 2 2 rfl (H297.ev 9 rfl)) fun _ H298 => wl_ <| t_ rfl (S := [⟨g20, 30, #[.slice (some ⟨ge290, 0, none⟩) (K + 1 + 1) ce290]⟩, ⟨ge290, 59, cbe290⟩, ⟨g22, 30, #[.slice (some ⟨gB, 0, none⟩) (K + 1) cB]⟩, ⟨gB, 59, cbB⟩, ⟨g9, 38, #[.int .i64 ii, .int .i64 ei, .slice none 0 0]⟩]) (fun _ h => dd_put (cs := #[.int .i64 ii, .int .i64 ei, .slice none 0 0]) HS289 4 2 rfl rfl (H298.ev 51 rfl) rfl (by kernel_rfl) rfl rfl rfl rfl h) fun _ HS299 => ln_ <| nx <| sq_ <| ?_
    clear H296 H297 HS289
    refine wi_ HS299 [0, 1, 4] rfl [0, 1, 4, 2, 3] rfl fun HSh300 hx300 => hp_ H298 0 hx300 rfl rfl rfl fun _ H301 => hp_ H301 1 hx300 rfl rfl rfl fun _ H302 => hp_ H302 2 hx300 rfl rfl rfl fun _ H303 => ht_ H303 3 hx300 rfl rfl (fun _ _ _ => xSo 4 (o + i * 4) rfl (H303.ev 53 rfl) (H303.ev 54 rfl)) fun _ H304 => ht_ H304 4 hx300 rfl rfl (fun _ _ _ => xf 0 (o + i * 4) rfl (H304.ev 55 rfl)) fun _ H305 => ht_ H305 5 hx300 rfl rfl (fun _ _ HS9 => dd_at rfl (H305.ev 56 rfl) ((hci.call HS9.below).at_ 0 _ rfl) Tryd.underlying35 rfl) fun _ H306 => ht_ H306 6 hx300 rfl rfl (v := .agg #[.int .i64 ii, .int .i64 ei, .slice none 0 0]) (fun _ _ HS9 => dd_load HS9 2 0 rfl rfl (H306.ev 9 rfl) (slab_whole _) Tryd.underlying38 rfl (by kernel_rfl)) fun _ H307 => ?_
    clear HS299 H298 H301 H302 H303 H304 H305
    refine hp_ H307 8 hx300 rfl rfl rfl fun _ H308 => ?_
    clear H306 H307
    refine h1_ 7 rfl <| d_ H308 rfl (R := fun v9 w9 => ∃ ge310 : Nat, ∃ ce310 : Nat, ∃ cbe310 : Array Value, v9 = .int .i64 0 ∧ (OwnC cbe310 ce310 (K + 1 + 1) 66 (entsL (X ++ [mkA X qi ii ei]))) ∧ St w noF [⟨g22, 30, #[.slice (some ⟨ge310, 0, none⟩) (K + 1 + 1) ce310]⟩, ⟨ge310, 59, cbe310⟩, ⟨g20, 30, #[.slice (some ⟨ge290, 0, none⟩) (K + 1 + 1) ce290]⟩, ⟨ge290, 59, cbe290⟩, ⟨g9, 38, #[.int .i64 ii, .int .i64 ei, .slice none 0 0]⟩] w9) (dc_ Tryd.func11 rfl (args3 (H308.ev 52 rfl) (H308.ev 57 rfl) (H308.ev 58 rfl)) (audadd_own _ g22 _ K _ _ X _ _ _ qi ii ei (.slice none 0 0) _ (ss HSh300 [2, 3]).frame OB hX hw (by omega) (HT _ HSh300.below) (nin_l (ss HSh300 [2, 3]) hT.pos) (fun W9 k9 => slice_keepL i1i.slice (ss HSh300 [2, 3]) k9) rfl (by omega) hb229) (fun _ w9 ⟨g9, c9, cb9, he, hO, hS⟩ => ⟨_, he, g9, c9, cb9, rfl, hO, St.reframe (ss HSh300 [2, 3, 0, 1, 4]) hS⟩)) ?_
    rintro _ W309 ⟨ge310, ce310, cbe310, rfl, Oe310, HS309⟩ a309 H309
    clear H308 HSh300
    refine sx_ (sxi HS309 [2, 3, 4, 0, 1] rfl) fun hx311 => ht_ H309 9 hx311 rfl rfl (fun _ _ _ => dd_cmp rfl (H309.ev 59 rfl) (H309.ev 60 rfl) (ne_f (by decide))) fun _ H312 => ?_
    clear hx300 H309
    refine wpAnyH_done (by kernel_rfl) ?_ _
    clear hx311
    refine nx <| cf_ H312 rfl <| wp_skip <| bn <| nx <| rl_ <| wl_ <| p_ H312 rfl rfl fun _ H313 => wl_ <| i_ H313 rfl (v := .int .i64 (i + 1)) (dd_ari rfl (H313.ev 33 rfl) rfl rfl (i64_of (by first | omega | (have := bd_lo; omega)) (by omega))) fun _ H314 => wl_ <| p_ H314 rfl rfl fun _ H315 => ln_ <| ?_
    clear H312 H313 H314
    have H316 := H315.sel [0, 5, 6, 7, 8] rfl
    clear H315
    refine nx ⟨i + 1, .inr ⟨(K + 1), (X ++ [mkA X qi ii ei]), ge290, ce290, cbe290, ge310, ce310, cbe310, (by omega), (by omega), (len_snoc hX), (wf_mk hw _ _ _), (good_mk hgd _ hb229), Oe290, Oe310, H316.sel [0, 5, 6, 7, 8] rfl, ss HS309 [2, 0, 3, 1]⟩, (by omega)⟩
   refine wl_ <| i_ H293 rfl (dd_cmp rfl (H293.ev 48 rfl) (H293.ev 49 rfl) (ge_f hc295)) fun _ H317 => ln_ <| ?_
   clear H293
   have H318 := H317.sel [0, 5, 6, 7, 8, 9, 10, 50] rfl
   refine nx <| cf_ H318 rfl <| wp_skip <| nx <| sq_ <| ?_
   clear H317
   refine wi_ HS289 [0, 1, 4] rfl [0, 1, 4, 2, 3] rfl fun HSh319 hx319 => hp_ H318 0 hx319 rfl rfl rfl fun _ H320 => hp_ H320 1 hx319 rfl rfl rfl fun _ H321 => hp_ H321 2 hx319 rfl rfl rfl fun _ H322 => ht_ H322 3 hx319 rfl rfl (fun _ _ _ => xSo 4 (o + i * 4) rfl (H322.ev 53 rfl) (H322.ev 54 rfl)) fun _ H323 => ht_ H323 4 hx319 rfl rfl (fun _ _ _ => xf 0 (o + i * 4) rfl (H323.ev 55 rfl)) fun _ H324 => ht_ H324 5 hx319 rfl rfl (fun _ _ HS9 => dd_at rfl (H324.ev 56 rfl) ((hci.call HS9.below).at_ 0 _ rfl) Tryd.underlying35 rfl) fun _ H325 => ht_ H325 6 hx319 rfl rfl (v := .agg #[.int .i64 ii, .int .i64 ei, .slice A2i di.length c2i]) (fun _ _ HS9 => dd_load HS9 2 0 rfl rfl (H325.ev 9 rfl) (slab_whole _) Tryd.underlying38 rfl (by kernel_rfl)) fun _ H326 => ?_
   clear HS289 H318 H320 H321 H322 H323 H324
   refine hp_ H326 8 hx319 rfl rfl rfl fun _ H327 => ?_
   clear H325 H326
   refine h1_ 7 rfl <| d_ H327 rfl (R := fun v9 w9 => ∃ ge329 : Nat, ∃ ce329 : Nat, ∃ cbe329 : Array Value, v9 = .int .i64 0 ∧ (OwnC cbe329 ce329 (K + 1 + 1) 66 (entsL (X ++ [mkA X qi ii ei]))) ∧ St w noF [⟨g22, 30, #[.slice (some ⟨ge329, 0, none⟩) (K + 1 + 1) ce329]⟩, ⟨ge329, 59, cbe329⟩, ⟨g20, 30, #[.slice (some ⟨ge290, 0, none⟩) (K + 1 + 1) ce290]⟩, ⟨ge290, 59, cbe290⟩, ⟨g9, 38, #[.int .i64 ii, .int .i64 ei, .slice A2i di.length c2i]⟩] w9) (dc_ Tryd.func11 rfl (args3 (H327.ev 52 rfl) (H327.ev 57 rfl) (H327.ev 58 rfl)) (audadd_own _ g22 _ K _ _ X _ _ _ qi ii ei (.slice A2i di.length c2i) _ (ss HSh319 [2, 3]).frame OB hX hw (by omega) (HT _ HSh319.below) (nin_l (ss HSh319 [2, 3]) hT.pos) (fun W9 k9 => slice_keepL i1i.slice (ss HSh319 [2, 3]) k9) rfl (by omega) hb229) (fun _ w9 ⟨g9, c9, cb9, he, hO, hS⟩ => ⟨_, he, g9, c9, cb9, rfl, hO, St.reframe (ss HSh319 [2, 3, 0, 1, 4]) hS⟩)) ?_
   rintro _ W328 ⟨ge329, ce329, cbe329, rfl, Oe329, HS328⟩ a328 H328
   clear H327 HSh319
   refine sx_ (sxi HS328 [2, 3, 4, 0, 1] rfl) fun hx330 => ht_ H328 9 hx330 rfl rfl (fun _ _ _ => dd_cmp rfl (H328.ev 59 rfl) (H328.ev 60 rfl) (ne_f (by decide))) fun _ H331 => ?_
   clear hx319 H328
   refine wpAnyH_done (by kernel_rfl) ?_ _
   clear hx330
   refine nx <| cf_ H331 rfl <| wp_skip <| bn <| nx <| rl_ <| wl_ <| p_ H331 rfl rfl fun _ H332 => wl_ <| i_ H332 rfl (v := .int .i64 (i + 1)) (dd_ari rfl (H332.ev 33 rfl) rfl rfl (i64_of (by first | omega | (have := bd_lo; omega)) (by omega))) fun _ H333 => wl_ <| p_ H333 rfl rfl fun _ H334 => ln_ <| ?_
   clear H331 H332 H333
   refine nx ⟨i + 1, .inr ⟨(K + 1), (X ++ [mkA X qi ii ei]), ge290, ce290, cbe290, ge329, ce329, cbe329, (by omega), (by omega), (len_snoc hX), (wf_mk hw _ _ _), (good_mk hgd _ hb229), Oe290, Oe329, H334.sel [0, 5, 6, 7, 8] rfl, ss HS328 [2, 0, 3, 1]⟩, (by omega)⟩
  refine wl_ <| i_ H210 rfl (dd_cmp rfl (H210.ev 29 rfl) (H210.ev 31 rfl) (lt_f hc212)) fun _ H335 => ln_ <| nx <| cf_ H335 rfl <| wp_exit <| tx <| tx <| bx <| nx <| sq_ <| rl_ <| wl_ <| p_ H335 rfl rfl fun _ H336 => ?_
  clear H210 H335
  refine wl_ <| d_ H336 rfl (R := fun v w9 => ∃ gc338 cc338 cbc338, v = .slice (some ⟨gc338, 0, none⟩) (K + 1) cc338 ∧ (wL24.heap.size ≤ gc338) ∧ (Row w9 gc338 59 cbc338) ∧ (OwnC cbc338 cc338 (K + 1) 66 (entsL X)) ∧ Below wL24.heap.size wL24 w9) (dc_ Tryd.func19 rfl (args1 (H336.ev 62 rfl)) (audents_pos _ _ (K + 1) _ X wL24 (HSL24.row 0 rfl) (cat_own (HSL24.row 2 rfl) OA) hX hw (by omega)) (fun _ w9 ⟨g9, c9, cb9, he, h1, h2, h3, hb⟩ => ⟨_, he, g9, c9, cb9, rfl, h1, h2, h3, hb⟩)) ?_
  rintro _ W337 ⟨gc338, cc338, cbc338, rfl, hg338, hr338, Oc338, hb337⟩ a337 H337
  have HS337 := HSL24.same hb337
  clear H336
  have HS337j : St w noF [⟨g20, 30, #[.slice (some ⟨gA, 0, none⟩) (K + 1) cA]⟩, ⟨g22, 30, #[.slice (some ⟨gB, 0, none⟩) (K + 1) cB]⟩, ⟨gA, 59, cbA⟩, ⟨gB, 59, cbB⟩, ⟨gc338, 59, cbc338⟩] W337 := HSL24.joins hb337 hr338 hg338
  clear HS337 hr338 hg338
  clear HSL24 hb337
  refine wl_ <| p_ H337 rfl rfl fun _ H339 => ?_
  clear H337
  refine wl_ <| d_ H339 rfl (R := fun v w9 => ∃ gc341 cc341 cbc341, v = .slice (some ⟨gc341, 0, none⟩) (K + 1) cc341 ∧ (W337.heap.size ≤ gc341) ∧ (Row w9 gc341 59 cbc341) ∧ (OwnC cbc341 cc341 (K + 1) 66 (entsL X)) ∧ Below W337.heap.size W337 w9) (dc_ Tryd.func19 rfl (args1 (H339.ev 64 rfl)) (audents_pos _ _ (K + 1) _ X W337 (HS337j.row 1 rfl) (cat_own (HS337j.row 3 rfl) OB) hX hw (by omega)) (fun _ w9 ⟨g9, c9, cb9, he, h1, h2, h3, hb⟩ => ⟨_, he, g9, c9, cb9, rfl, h1, h2, h3, hb⟩)) ?_
  rintro _ W340 ⟨gc341, cc341, cbc341, rfl, hg341, hr341, Oc341, hb340⟩ a340 H340
  have HS340 := HS337j.same hb340
  clear H339
  have HS340j : St w noF [⟨g20, 30, #[.slice (some ⟨gA, 0, none⟩) (K + 1) cA]⟩, ⟨g22, 30, #[.slice (some ⟨gB, 0, none⟩) (K + 1) cB]⟩, ⟨gA, 59, cbA⟩, ⟨gB, 59, cbB⟩, ⟨gc338, 59, cbc338⟩, ⟨gc341, 59, cbc341⟩] W340 := HS337j.joins hb340 hr341 hg341
  clear HS340 hr341 hg341
  clear HS337j hb340
  refine q_ H340 2 rfl fun _ H342 => ln_ <| nx <| sq_ <| sq_ <| rl_ <| wl_ <| p_ H342 rfl rfl fun _ H343 => wl_ <| i_ H343 rfl (v := .int .i64 (K + 1)) (dd_len rfl (H343.ev 66 rfl) Tryd.underlying28) fun _ H344 => wl_ <| p_ H344 rfl rfl fun _ H345 => wl_ <| i_ H345 rfl (v := .int .i64 (K + 1)) (dd_len rfl (H345.ev 68 rfl) Tryd.underlying28) fun _ H346 => wl_ <| i_ H346 rfl (dd_cmp rfl (H346.ev 67 rfl) (H346.ev 69 rfl) (ne_f rfl)) fun _ H347 => wl_ <| p_ H347 rfl rfl fun _ H348 => wl_ <| ig H348 (wg_ H348 rfl rfl rfl rfl) rfl (dd_mv rfl (H348.ev 5 rfl)) fun _ H349 => ?_
  clear H340 H342 H343 H344 H345 H346 H347
  refine wl_ <| cg H349 (wg_ H349 rfl rfl rfl rfl) rfl HS340j (dcs Tryd.func13 rfl (args1 (H349.ev 72 rfl)) (audlast_pos _ _ K _ X W340 (HS340j.row 0 rfl) (cat_own (HS340j.row 2 rfl) OA) hX hw (by omega)) (.agg (bs (lk X (K + 1))))) fun W350 HS350 _ H350 => wl_ <| ig H350 (wg_ H350 rfl rfl rfl rfl) rfl (dd_mv rfl (H350.ev 6 rfl)) fun _ H351 => wl_ <| cg H351 (wg_ H351 rfl rfl rfl rfl) rfl HS350 (dcs Tryd.func13 rfl (args1 (H351.ev 74 rfl)) (audlast_pos _ _ K _ X W350 (HS350.row 1 rfl) (cat_own (HS350.row 3 rfl) OB) hX hw (by omega)) (.agg (bs (lk X (K + 1))))) fun _ HS352 _ H352 => wl_ <| ig H352 (wg_ H352 rfl rfl rfl rfl) rfl (v := .bool false) (dd_nea (b := true) rfl (H352.ev 73 rfl) (H352.ev 75 rfl) (by kernel_rfl) (fun w => by rw [eql_dgs (lk X (K + 1)) (lk X (K + 1)) (length_lk hw _) (length_lk hw _) w, decide_eq_true rfl]) rfl) fun _ H353 => q_ H353 2 rfl fun _ H354 => wl_ <| ig H354 (wg_ H354 rfl rfl rfl rfl) rfl (dd_mv rfl (H354.ev 11 rfl)) fun _ H355 => wl_ <| ig H355 (wg_ H355 rfl rfl rfl rfl) rfl (v := .int .i64 (K + 1)) (dd_len rfl (H355.ev 79 rfl) Tryd.underlying28) fun _ H356 => wl_ <| ig H356 (wg_ H356 rfl rfl rfl rfl) rfl (dd_mv rfl (H356.ev 0 rfl)) fun _ H357 => ?_
  clear H348 H349 HS340j H350 H351 HS350 H352 H353 H354 H355
  refine wl_ <| ig H357 (wg_ H357 rfl rfl rfl rfl) rfl (v := .int .i64 n) (dd_len rfl (H357.ev 81 rfl) Tryd.underlying22) fun _ H358 => wl_ <| ig H358 (wg_ H358 rfl rfl rfl rfl) rfl (dd_cmp rfl (H358.ev 80 rfl) (H358.ev 82 rfl) (gt_f (by omega))) fun _ H359 => wl_ <| p_ H359 rfl rfl fun _ H360 => ln_ <| ?_
  clear H356 H357 H358 H359
  have H361 := H360.sel [5, 11, 12, 84] rfl
  refine nx <| cf_ H361 rfl <| wp_skip <| nx <| sq_ <| sq_ <| rl_ <| wl_ <| p_ H361 rfl rfl fun _ H362 => ln_ <| nx <| wp_block <| ?_
  clear H360 H361
  refine wp_loopG (ι := Nat) (fun i a9 w9 => (i ≤ K + 1) ∧ En 135 [(13, .int .i64 i), (12, .slice (some ⟨gc341, 0, none⟩) (K + 1) cc341), (11, .slice (some ⟨gc338, 0, none⟩) (K + 1) cc338), (5, .pointer (some ⟨g20, 0, none⟩))] a9 ∧ St w noF [⟨g20, 30, #[.slice (some ⟨gA, 0, none⟩) (K + 1) cA]⟩, ⟨g22, 30, #[.slice (some ⟨gB, 0, none⟩) (K + 1) cB]⟩, ⟨gA, 59, cbA⟩, ⟨gB, 59, cbB⟩, ⟨gc338, 59, cbc338⟩, ⟨gc341, 59, cbc341⟩] w9) (fun i => K + 1 - i) (0) ⟨(Nat.zero_le _), H362.sel [5, 11, 12, 13] rfl, ss HS352 [0, 1, 2, 3, 4, 5]⟩ ?_
  clear H362 HS352
  rintro i aL363 wL363 ⟨hi, HL363, HSL363⟩
  refine sq_ <| sq_ <| rl_ <| q_ HL363 2 rfl fun _ H364 => wl_ <| i_ H364 rfl (v := .int .i64 (K + 1)) (dd_len rfl (H364.ev 86 rfl) Tryd.underlying28) fun _ H365 => ?_
  clear HL363 H364
  by_cases hc367 : (i : Int) < K + 1
  ·
   refine wl_ <| i_ H365 rfl (dd_cmp rfl (H365.ev 85 rfl) (H365.ev 87 rfl) (lt_t hc367)) fun _ H368 => ln_ <| nx <| ct_ H368 rfl <| wp_skip <| nx <| sq_ <| wp_block <| sq_ <| ?_
   clear H365
   refine wi_ HSL363 [0, 1, 2, 3, 4, 5] rfl [0, 1, 2, 3, 4, 5] rfl fun HSh369 hx369 => hp_ H368 0 hx369 rfl rfl rfl fun _ H370 => hp_ H370 1 hx369 rfl rfl rfl fun _ H371 => ht_ H371 2 hx369 rfl rfl (fun _ _ _ => xSo 66 (i * 66) rfl (H371.ev 91 rfl) (H371.ev 92 rfl)) fun _ H372 => ?_
   clear HSL363 H368 H370 H371
   obtain ⟨xi, hxi⟩ : ∃ x, X[i]? = some x := ⟨_, List.getElem?_eq_getElem (by rw [hX]; omega)⟩
   have hwi := hw xi (List.mem_of_getElem? hxi)
   refine ht_ H372 3 hx369 rfl rfl (v := .agg (catA [bytesV xi.1, [.int .i64 xi.2.1], [.int .i64 xi.2.2.1], bytesV xi.2.2.2])) (fun _ _ HS9 => dd_atN rfl (H372.ev 93 rfl) (ent_all0 (cat_own (HS9.row 4 rfl) Oc338) hw hxi) Tryd.underlying59 rfl (by show _ = some (catA [bytesV xi.1, [.int .i64 xi.2.1], [.int .i64 xi.2.2.1], bytesV xi.2.2.2]).toList.length; rw [show (catA [bytesV xi.1, [.int .i64 xi.2.1], [.int .i64 xi.2.2.1], bytesV xi.2.2.2]).toList.length = 66 from (Array.length_toList).trans (cat_size (lens_cons (len_bv hwi.1) (lens_cons rfl (lens_cons rfl (lens_cons (len_bv hwi.2) (lens_nil))))))]; kernel_rfl)) fun _ H373 => hp_ H373 4 hx369 rfl rfl rfl fun _ H374 => hp_ H374 5 hx369 rfl rfl rfl fun _ H375 => ht_ H375 6 hx369 rfl rfl (fun _ _ _ => xSo 66 (i * 66) rfl (H375.ev 95 rfl) (H375.ev 96 rfl)) fun _ H376 => ht_ H376 7 hx369 rfl rfl (v := .agg (catA [bytesV xi.1, [.int .i64 xi.2.1], [.int .i64 xi.2.2.1], bytesV xi.2.2.2])) (fun _ _ HS9 => dd_atN rfl (H376.ev 97 rfl) (ent_all0 (cat_own (HS9.row 5 rfl) Oc341) hw hxi) Tryd.underlying59 rfl (by show _ = some (catA [bytesV xi.1, [.int .i64 xi.2.1], [.int .i64 xi.2.2.1], bytesV xi.2.2.2]).toList.length; rw [show (catA [bytesV xi.1, [.int .i64 xi.2.1], [.int .i64 xi.2.2.1], bytesV xi.2.2.2]).toList.length = 66 from (Array.length_toList).trans (cat_size (lens_cons (len_bv hwi.1) (lens_cons rfl (lens_cons rfl (lens_cons (len_bv hwi.2) (lens_nil))))))]; kernel_rfl)) fun _ H377 => ht_ H377 8 hx369 rfl rfl (v := .bool false) (fun _ _ _ => dd_nea (b := true) rfl (H377.ev 94 rfl) (H377.ev 98 rfl) (by kernel_rfl) (fun w => by rw [eql_entA xi xi hwi hwi w, decide_eq_true rfl]) rfl) fun _ H378 => ?_
   clear H372 H373 H374 H375 H376 H377
   refine wpAnyH_done (by kernel_rfl) ?_ _
   clear hx369
   refine nx <| cf_ H378 rfl <| wp_skip <| bn <| nx <| rl_ <| wl_ <| p_ H378 rfl rfl fun _ H379 => wl_ <| i_ H379 rfl (v := .int .i64 (i + 1)) (dd_ari rfl (H379.ev 89 rfl) rfl rfl (i64_of (by first | omega | (have := bd_lo; omega)) (by omega))) fun _ H380 => wl_ <| p_ H380 rfl rfl fun _ H381 => ln_ <| ?_
   clear H378 H379 H380
   refine nx ⟨i + 1, ⟨(by omega), H381.sel [5, 11, 12, 13] rfl, ss HSh369 [0, 1, 2, 3, 4, 5]⟩, (by omega)⟩
  refine wl_ <| i_ H365 rfl (dd_cmp rfl (H365.ev 85 rfl) (H365.ev 87 rfl) (lt_f hc367)) fun _ H382 => ln_ <| nx <| cf_ H382 rfl <| wp_exit <| tx <| tx <| bx <| nx <| sq_ <| sq_ <| rl_ <| wl_ <| p_ H382 rfl rfl fun _ H383 => wl_ <| n_ H383 rfl (fun _ h => dd_lits HSL363 #[.int .u8 109, .int .u8 111, .int .u8 114, .int .u8 101] rfl (ps := [(0, .int .u8 109), (1, .int .u8 111), (2, .int .u8 114), (3, .int .u8 101)]) (pr1 rfl (pr1 rfl (pr1 rfl (pr1 rfl (pr0))))) (z := .int .u8 0) (sz := 1) Tryd.underlying35 (by kernel_rfl) rfl rfl (by kernel_rfl) h) fun g101 _ HS384 _ H384 => ?_
  clear H365 H382 HSL363 H383
  refine wl_ <| d_ H384 rfl (R := fun v9 w9 => v9 = .slice (some ⟨g101, 0, none⟩) 4 4 ∧ (MarkAt w9 g101 [109#8, 111#8, 114#8, 101#8]) ∧ (∀ r ∈ ([⟨g20, 30, #[.slice (some ⟨gA, 0, none⟩) (K + 1) cA]⟩, ⟨g22, 30, #[.slice (some ⟨gB, 0, none⟩) (K + 1) cB]⟩, ⟨gA, 59, cbA⟩, ⟨gB, 59, cbB⟩, ⟨gc338, 59, cbc338⟩, ⟨gc341, 59, cbc341⟩] : List Blk), r.g ≠ g101) ∧ St w noF [⟨g20, 30, #[.slice (some ⟨gA, 0, none⟩) (K + 1) cA]⟩, ⟨g22, 30, #[.slice (some ⟨gB, 0, none⟩) (K + 1) cB]⟩, ⟨gA, 59, cbA⟩, ⟨gB, 59, cbB⟩, ⟨gc338, 59, cbc338⟩, ⟨gc341, 59, cbc341⟩] w9) (dd_cvl HS384 6 (q := [109#8, 111#8, 114#8, 101#8]) rfl rfl (H384.ev 101 rfl) (fun w9 h1 h2 h3 => ⟨rfl, h2, h3, h1⟩)) ?_
  rintro _ W385 ⟨rfl, hm386, hne386, HS385⟩ a385 H385
  clear H384 HS384
  have HSf386 := HS385.frame
  refine wl_ <| i_ H385 rfl (v := .agg #[.int .i64 9, .int .i64 0, .slice none 0 0]) (dd_bld rfl (ps := [(0, .int .i64 9)]) (pr1 rfl (pr0)) (Lz := [[.int .i64 0], [.int .i64 0], [.slice none 0 0]]) (by kernel_rfl) (lens_cons rfl (lens_cons rfl (lens_cons rfl (lens_nil)))) (fit_cons (i := 0) rfl rfl (fit_nil)) (cs := #[.int .i64 9, .int .i64 0, .slice none 0 0]) rfl) fun _ H387 => ?_
  clear H385
  have HSu386 := HS385.unframe HSf386
  have hmu386 := hm386.chg HSf386 hne386
  have hnu386 := mark_ne hm386 HSf386 hne386
  clear HS385 HSf386
  refine wl_ <| d_ H387 rfl (R := fun v9 w9 => ∃ ge389 : Nat, ∃ ce389 : Nat, ∃ cbe389 : Array Value, v9 = .int .i64 0 ∧ (OwnC cbe389 ce389 (K + 1 + 1) 66 (entsL (X ++ [mkA X ([109#8, 111#8, 114#8, 101#8]) 9 0]))) ∧ St w noF [⟨g20, 30, #[.slice (some ⟨ge389, 0, none⟩) (K + 1 + 1) ce389]⟩, ⟨ge389, 59, cbe389⟩, ⟨g22, 30, #[.slice (some ⟨gB, 0, none⟩) (K + 1) cB]⟩, ⟨gB, 59, cbB⟩, ⟨gc338, 59, cbc338⟩, ⟨gc341, 59, cbc341⟩] w9) (dc_ Tryd.func11 rfl (args3 (H387.ev 100 rfl) (H387.ev 102 rfl) (H387.ev 103 rfl)) (audadd_own _ g20 _ K _ _ X _ _ _ ([109#8, 111#8, 114#8, 101#8]) 9 0 (.slice none 0 0) _ (ss HSu386 [0, 2]).frame OA hX hw (by omega) (HT _ HSu386.below) (nin_l (ss HSu386 [0, 2]) hT.pos) (fun W9 k9 => (mark_chg hmu386 k9 (fun r hr => hnu386 r (sel_mem (S := [⟨g20, 30, #[.slice (some ⟨gA, 0, none⟩) (K + 1) cA]⟩, ⟨g22, 30, #[.slice (some ⟨gB, 0, none⟩) (K + 1) cB]⟩, ⟨gA, 59, cbA⟩, ⟨gB, 59, cbB⟩, ⟨gc338, 59, cbc338⟩, ⟨gc341, 59, cbc341⟩]) (is := [0, 2]) hr))).slice rfl) rfl (by decide) (by decide +kernel)) (fun _ w9 ⟨g9, c9, cb9, he, hO, hS⟩ => ⟨_, he, g9, c9, cb9, rfl, hO, St.reframe (ss HSu386 [0, 2, 1, 3, 4, 5]) hS⟩)) ?_
  rintro _ W388 ⟨ge389, ce389, cbe389, rfl, Oe389, HS388⟩ a388 H388
  clear H387 HSu386
  refine wl_ <| i_ H388 rfl (dd_cmp rfl (H388.ev 104 rfl) rfl (ne_f (by decide))) fun _ H390 => ln_ <| nx <| cf_ H390 rfl <| wp_skip <| nx <| sq_ <| rl_ <| wl_ <| p_ H390 rfl rfl fun _ H391 => ?_
  clear H388 H390
  refine wl_ <| d_ H391 rfl (R := fun v w9 => ∃ gc393 cc393 cbc393, v = .slice (some ⟨gc393, 0, none⟩) (K + 1 + 1) cc393 ∧ (W388.heap.size ≤ gc393) ∧ (Row w9 gc393 59 cbc393) ∧ (OwnC cbc393 cc393 (K + 1 + 1) 66 (entsL (X ++ [mkA X ([109#8, 111#8, 114#8, 101#8]) 9 0]))) ∧ Below W388.heap.size W388 w9) (dc_ Tryd.func19 rfl (args1 (H391.ev 106 rfl)) (audents_pos _ _ (K + 1 + 1) _ (X ++ [mkA X ([109#8, 111#8, 114#8, 101#8]) 9 0]) W388 (HS388.row 0 rfl) (cat_own (HS388.row 1 rfl) Oe389) (len_snoc hX) (wf_mk hw _ _ _) (by omega)) (fun _ w9 ⟨g9, c9, cb9, he, h1, h2, h3, hb⟩ => ⟨_, he, g9, c9, cb9, rfl, h1, h2, h3, hb⟩)) ?_
  rintro _ W392 ⟨gc393, cc393, cbc393, rfl, hg393, hr393, Oc393, hb392⟩ a392 H392
  have HS392 := HS388.same hb392
  clear H391
  have HS392j : St w noF [⟨g20, 30, #[.slice (some ⟨ge389, 0, none⟩) (K + 1 + 1) ce389]⟩, ⟨ge389, 59, cbe389⟩, ⟨g22, 30, #[.slice (some ⟨gB, 0, none⟩) (K + 1) cB]⟩, ⟨gB, 59, cbB⟩, ⟨gc338, 59, cbc338⟩, ⟨gc341, 59, cbc341⟩, ⟨gc393, 59, cbc393⟩] W392 := HS388.joins hb392 hr393 hg393
  clear HS392 hr393 hg393
  clear HS388 hb392
  refine wl_ <| p_ H392 rfl rfl fun _ H394 => ln_ <| nx <| sq_ <| sq_ <| rl_ <| wl_ <| p_ H394 rfl rfl fun _ H395 => wl_ <| i_ H395 rfl (v := .int .i64 (K + 1 + 1)) (dd_len rfl (H395.ev 108 rfl) Tryd.underlying28) fun _ H396 => wl_ <| p_ H396 rfl rfl fun _ H397 => wl_ <| i_ H397 rfl (v := .int .i64 (K + 1)) (dd_len rfl (H397.ev 110 rfl) Tryd.underlying28) fun _ H398 => wl_ <| i_ H398 rfl (v := .int .i64 ((K + 1) + 1)) (dd_ari rfl (H398.ev 111 rfl) rfl rfl (i64_of (by first | omega | (have := bd_lo; omega)) (by omega))) fun _ H399 => wl_ <| i_ H399 rfl (dd_cmp rfl (H399.ev 109 rfl) (H399.ev 112 rfl) (ne_f rfl)) fun _ H400 => ln_ <| ?_
  clear H392 H394 H395 H396 H397 H398 H399
  have H401 := H400.sel [11, 12, 113] rfl
  refine nx <| cf_ H401 rfl <| wp_skip <| nx <| sq_ <| sq_ <| rl_ <| wl_ <| p_ H401 rfl rfl fun _ H402 => ln_ <| nx <| wp_block <| ?_
  clear H400 H401
  refine wp_loopG (ι := Nat) (fun i a9 w9 => (i ≤ K + 1) ∧ En 135 [(14, .int .i64 i), (12, .slice (some ⟨gc393, 0, none⟩) (K + 1 + 1) cc393), (11, .slice (some ⟨gc338, 0, none⟩) (K + 1) cc338)] a9 ∧ St w noF [⟨g20, 30, #[.slice (some ⟨ge389, 0, none⟩) (K + 1 + 1) ce389]⟩, ⟨ge389, 59, cbe389⟩, ⟨g22, 30, #[.slice (some ⟨gB, 0, none⟩) (K + 1) cB]⟩, ⟨gB, 59, cbB⟩, ⟨gc338, 59, cbc338⟩, ⟨gc341, 59, cbc341⟩, ⟨gc393, 59, cbc393⟩] w9) (fun i => K + 1 - i) (0) ⟨(Nat.zero_le _), H402.sel [11, 12, 14] rfl, ss HS392j [0, 1, 2, 3, 4, 5, 6]⟩ ?_
  clear H402 HS392j
  rintro i aL403 wL403 ⟨hi, HL403, HSL403⟩
  refine sq_ <| sq_ <| rl_ <| q_ HL403 2 rfl fun _ H404 => wl_ <| i_ H404 rfl (v := .int .i64 (K + 1)) (dd_len rfl (H404.ev 115 rfl) Tryd.underlying28) fun _ H405 => ?_
  clear HL403 H404
  by_cases hc407 : (i : Int) < K + 1
  ·
   refine wl_ <| i_ H405 rfl (dd_cmp rfl (H405.ev 114 rfl) (H405.ev 116 rfl) (lt_t hc407)) fun _ H408 => ln_ <| nx <| ct_ H408 rfl <| wp_skip <| nx <| sq_ <| wp_block <| sq_ <| ?_
   clear H405
   refine wi_ HSL403 [0, 1, 2, 3, 4, 5, 6] rfl [0, 1, 2, 3, 4, 5, 6] rfl fun HSh409 hx409 => hp_ H408 0 hx409 rfl rfl rfl fun _ H410 => hp_ H410 1 hx409 rfl rfl rfl fun _ H411 => ht_ H411 2 hx409 rfl rfl (fun _ _ _ => xSo 66 (i * 66) rfl (H411.ev 120 rfl) (H411.ev 121 rfl)) fun _ H412 => ?_
   clear HSL403 H408 H410 H411
   obtain ⟨xi, hxi⟩ : ∃ x, X[i]? = some x := ⟨_, List.getElem?_eq_getElem (by rw [hX]; omega)⟩
   have hwi := hw xi (List.mem_of_getElem? hxi)
   refine ht_ H412 3 hx409 rfl rfl (v := .agg (catA [bytesV xi.1, [.int .i64 xi.2.1], [.int .i64 xi.2.2.1], bytesV xi.2.2.2])) (fun _ _ HS9 => dd_atN rfl (H412.ev 122 rfl) (ent_all0 (cat_own (HS9.row 4 rfl) Oc338) hw hxi) Tryd.underlying59 rfl (by show _ = some (catA [bytesV xi.1, [.int .i64 xi.2.1], [.int .i64 xi.2.2.1], bytesV xi.2.2.2]).toList.length; rw [show (catA [bytesV xi.1, [.int .i64 xi.2.1], [.int .i64 xi.2.2.1], bytesV xi.2.2.2]).toList.length = 66 from (Array.length_toList).trans (cat_size (lens_cons (len_bv hwi.1) (lens_cons rfl (lens_cons rfl (lens_cons (len_bv hwi.2) (lens_nil))))))]; kernel_rfl)) fun _ H413 => hp_ H413 4 hx409 rfl rfl rfl fun _ H414 => hp_ H414 5 hx409 rfl rfl rfl fun _ H415 => ht_ H415 6 hx409 rfl rfl (fun _ _ _ => xSo 66 (i * 66) rfl (H415.ev 124 rfl) (H415.ev 125 rfl)) fun _ H416 => ?_
   clear H412 H413 H414 H415
   obtain ⟨xiX_mkA_X_109_8_111_8_114_8_101_8_9_0_, hxiX_mkA_X_109_8_111_8_114_8_101_8_9_0_⟩ : ∃ x, (X ++ [mkA X ([109#8, 111#8, 114#8, 101#8]) 9 0])[i]? = some x := ⟨_, List.getElem?_eq_getElem (by rw [(len_snoc hX)]; omega)⟩
   have hwiX_mkA_X_109_8_111_8_114_8_101_8_9_0_ := (wf_mk hw _ _ _) xiX_mkA_X_109_8_111_8_114_8_101_8_9_0_ (List.mem_of_getElem? hxiX_mkA_X_109_8_111_8_114_8_101_8_9_0_)
   refine ht_ H416 7 hx409 rfl rfl (v := .agg (catA [bytesV xiX_mkA_X_109_8_111_8_114_8_101_8_9_0_.1, [.int .i64 xiX_mkA_X_109_8_111_8_114_8_101_8_9_0_.2.1], [.int .i64 xiX_mkA_X_109_8_111_8_114_8_101_8_9_0_.2.2.1], bytesV xiX_mkA_X_109_8_111_8_114_8_101_8_9_0_.2.2.2])) (fun _ _ HS9 => dd_atN rfl (H416.ev 126 rfl) (ent_all0 (cat_own (HS9.row 6 rfl) Oc393) (wf_mk hw _ _ _) hxiX_mkA_X_109_8_111_8_114_8_101_8_9_0_) Tryd.underlying59 rfl (by show _ = some (catA [bytesV xiX_mkA_X_109_8_111_8_114_8_101_8_9_0_.1, [.int .i64 xiX_mkA_X_109_8_111_8_114_8_101_8_9_0_.2.1], [.int .i64 xiX_mkA_X_109_8_111_8_114_8_101_8_9_0_.2.2.1], bytesV xiX_mkA_X_109_8_111_8_114_8_101_8_9_0_.2.2.2]).toList.length; rw [show (catA [bytesV xiX_mkA_X_109_8_111_8_114_8_101_8_9_0_.1, [.int .i64 xiX_mkA_X_109_8_111_8_114_8_101_8_9_0_.2.1], [.int .i64 xiX_mkA_X_109_8_111_8_114_8_101_8_9_0_.2.2.1], bytesV xiX_mkA_X_109_8_111_8_114_8_101_8_9_0_.2.2.2]).toList.length = 66 from (Array.length_toList).trans (cat_size (lens_cons (len_bv hwiX_mkA_X_109_8_111_8_114_8_101_8_9_0_.1) (lens_cons rfl (lens_cons rfl (lens_cons (len_bv hwiX_mkA_X_109_8_111_8_114_8_101_8_9_0_.2) (lens_nil))))))]; kernel_rfl)) fun _ H417 => ht_ H417 8 hx409 rfl rfl (v := .bool false) (fun _ _ _ => dd_nea (b := true) rfl (H417.ev 123 rfl) (H417.ev 127 rfl) (by kernel_rfl) (fun w => by rw [eql_entA xi xiX_mkA_X_109_8_111_8_114_8_101_8_9_0_ hwi hwiX_mkA_X_109_8_111_8_114_8_101_8_9_0_ w, decide_eq_true (app_get hxi hxiX_mkA_X_109_8_111_8_114_8_101_8_9_0_)]) rfl) fun _ H418 => ?_
   clear H416 H417
   refine wpAnyH_done (by kernel_rfl) ?_ _
   clear hx409
   refine nx <| cf_ H418 rfl <| wp_skip <| bn <| nx <| rl_ <| wl_ <| p_ H418 rfl rfl fun _ H419 => wl_ <| i_ H419 rfl (v := .int .i64 (i + 1)) (dd_ari rfl (H419.ev 118 rfl) rfl rfl (i64_of (by first | omega | (have := bd_lo; omega)) (by omega))) fun _ H420 => wl_ <| p_ H420 rfl rfl fun _ H421 => ln_ <| ?_
   clear H418 H419 H420
   refine nx ⟨i + 1, ⟨(by omega), H421.sel [11, 12, 14] rfl, ss HSh409 [0, 1, 2, 3, 4, 5, 6]⟩, (by omega)⟩
  refine wl_ <| i_ H405 rfl (dd_cmp rfl (H405.ev 114 rfl) (H405.ev 116 rfl) (lt_f hc407)) fun _ H422 => ln_ <| nx <| cf_ H422 rfl <| wp_exit <| tx <| tx <| bx <| nx <| sq_ <| rl_ <| wl_ <| p_ H422 rfl rfl fun _ H423 => wl_ <| c_ H423 rfl HSL403 (dcs Tryd.func20 rfl (args1 (H423.ev 129 rfl)) (audver_any _ (X ++ [mkA X ([109#8, 111#8, 114#8, 101#8]) 9 0]) wL403 (HT _ HSL403.below) (ents_mk (len_snoc hX) (wf_mk hw _ _ _) (cat_own (HSL403.row 6 rfl) Oc393) Oc393.le) (by rw [(len_snoc hX)]; omega)) (.int .i64 (verI (X ++ [mkA X ([109#8, 111#8, 114#8, 101#8]) 9 0])))) fun W424 HS424 _ H424 => wl_ <| i_ H424 rfl (dd_cmp rfl (H424.ev 130 rfl) rfl (eq_t (ver_none (good_mk hgd _ (by decide +kernel))))) fun _ H425 => wl_ <| p_ H425 rfl rfl fun _ H426 => wl_ <| cg H426 (wg_ H426 rfl rfl rfl rfl) rfl HS424 (dcs Tryd.func10 rfl (args0 ) (auwakes_any W424 (HT _ HS424.below)) (.bool true)) fun _ HS427 _ H427 => q_ H427 2 rfl fun _ H428 => ln_ <| nx <| wp_ret <| ret_run H428.env0 (res_t Tryd.results7 (H428.get 4 rfl)) <| ?_
  clear H405 H422 H423 HSL403 H424 H425 H426 HS424 H427
  exact ⟨rfl, HS427.below⟩
set_option maxHeartbeats 800000 in
theorem augoes_zero (A : Option Addr) (c : Nat) (z : BitVec 8) (w : World) (hT : Tab w) (h0z : SaidsAt w (.slice A 0 c) []) : Calls Tryd.prog 7 #[.slice A 0 c, .int .u8 (bd z)] w fun x w' => x = .returned (.bool true) ∧ Below w.heap.size w w' := by
  have HS := St.nil w noF
  have HT : ∀ W, Below w.heap.size w W → Tab W := fun W hb => hT.below hb hT.pos
  refine enter_en Tryd.func7 rfl Tryd.ntmps7 (Nat.le_of_ble_eq_true rfl) fun a0 (HA0 : En 135 [(0, .slice A 0 c), (1, .int .u8 (bd z))] a0) => ?_
  refine sq_ <| rl_ <| wl_ <| p_ HA0 rfl rfl fun _ H1 => ln_ <| nx <| sq_ <| sq_ <| rl_ <| wl_ <| p_ H1 rfl rfl fun _ H2 => wl_ <| c_ H2 rfl HS (v := .bool true) (dc_ Tryd.func9 rfl (args1 (H2.ev 15 rfl)) (aufair_any _ _ _ ([]) w (h0z.below HS.below (Nat.le_refl _)) (Nat.zero_le _)) (fun _ w9 h9 => ⟨_, h9.1, by rw [(show fairD [] = true from rfl)], h9.2⟩)) fun _ HS3 _ H3 => wl_ <| i_ H3 rfl (v := .bool false) (dd_nt rfl (H3.ev 16 rfl) rfl) fun _ H4 => ln_ <| nx <| cf_ H4 rfl <| wp_skip <| nx <| sq_ <| rl_ <| wl_ <| i_ H4 rfl (v := .agg #[.slice none 0 0]) (dd_bld rfl (ps := []) (pr0) (Lz := [[.slice none 0 0]]) (by kernel_rfl) (lens_cons rfl (lens_nil)) (fit_nil) (cs := #[.slice none 0 0]) rfl) fun _ H5 => wl_ <| n_ H5 rfl (fun _ h => dd_box HS3 rfl (H5.ev 19 rfl) (cs := #[.slice none 0 0]) rfl h) fun g20 _ HS6 _ H6 => wl_ <| i_ H6 rfl (v := .agg #[.slice none 0 0]) (dd_bld rfl (ps := []) (pr0) (Lz := [[.slice none 0 0]]) (by kernel_rfl) (lens_cons rfl (lens_nil)) (fit_nil) (cs := #[.slice none 0 0]) rfl) fun _ H7 => wl_ <| n_ H7 rfl (fun _ h => dd_box HS6 rfl (H7.ev 21 rfl) (cs := #[.slice none 0 0]) rfl h) fun g22 W8 HS8 _ H8 => ?_
  clear HA0 H1 H2 HS H3 H4 HS3 H5 H6
  refine q_ H8 2 rfl fun _ H9 => ln_ <| nx <| sq_ <| rl_ <| wl_ <| p_ H9 rfl rfl fun _ H10 => wl_ <| i_ H10 rfl (v := .int .i64 (bd z)) (dd_conv (k := .i64) rfl (H10.ev 23 rfl) Tryd.underlying5 (by kernel_rfl) (i64_bdA _)) fun _ H11 => wl_ <| p_ H11 rfl rfl fun _ H12 => wl_ <| i_ H12 rfl (v := .int .i64 0) (dd_len rfl (H12.ev 25 rfl) Tryd.underlying22) fun _ H13 => wl_ <| i_ H13 rfl (v := .int .i64 1) (dd_ari rfl (H13.ev 26 rfl) rfl rfl (by decide)) fun _ H14 => ?_
  clear HS6 H7 H8 H9 H10 H11 H12 H13
  obtain ⟨r, hr, lr⟩ := mod_nat (bd z) 1 (bd_lo _) (by omega)
  refine wl_ <| i_ H14 rfl (v := .int .i64 r) (dd_rem rfl (H14.ev 24 rfl) (H14.ev 27 rfl) (by omega) hr) fun _ H15 => wl_ <| p_ H15 rfl rfl fun _ H16 => ln_ <| nx <| sq_ <| sq_ <| rl_ <| wl_ <| p_ H16 rfl rfl fun _ H17 => ln_ <| nx <| wp_block <| wp_unr 1 <| unr_go <| sq_ <| sq_ <| rl_ <| q_ H17 2 rfl fun _ H18 => wl_ <| i_ H18 rfl (v := .int .i64 0) (dd_len rfl (H18.ev 30 rfl) Tryd.underlying22) fun _ H19 => wl_ <| i_ H19 rfl (dd_cmp rfl (H19.ev 29 rfl) (H19.ev 31 rfl) (lt_f (by decide))) fun _ H20 => ln_ <| ?_
  clear H14 H15 H16 H17 H18 H19
  have H21 := H20.sel [0, 5, 6, 7, 8, 32] rfl
  refine nx <| cf_ H21 rfl <| wp_exit <| tx <| tx <| bx <| nx <| sq_ <| rl_ <| wl_ <| p_ H21 rfl rfl fun _ H22 => wl_ <| c_ H22 rfl HS8 (dcs Tryd.func19 rfl (args1 (H22.ev 62 rfl)) (audents_zero g20 W8 (HS8.row 0 rfl)) (.slice none 0 0)) fun W23 HS23 _ H23 => wl_ <| p_ H23 rfl rfl fun _ H24 => wl_ <| c_ H24 rfl HS23 (dcs Tryd.func19 rfl (args1 (H24.ev 64 rfl)) (audents_zero g22 W23 (HS23.row 1 rfl)) (.slice none 0 0)) fun W25 HS25 _ H25 => q_ H25 2 rfl fun _ H26 => ln_ <| nx <| sq_ <| sq_ <| rl_ <| wl_ <| p_ H26 rfl rfl fun _ H27 => wl_ <| i_ H27 rfl (v := .int .i64 0) (dd_len rfl (H27.ev 66 rfl) Tryd.underlying28) fun _ H28 => wl_ <| p_ H28 rfl rfl fun _ H29 => ?_
  clear H20 H21 H22 HS8 H23 H24 HS23 H25 H26 H27
  refine wl_ <| i_ H29 rfl (v := .int .i64 0) (dd_len rfl (H29.ev 68 rfl) Tryd.underlying28) fun _ H30 => wl_ <| i_ H30 rfl (dd_cmp rfl (H30.ev 67 rfl) (H30.ev 69 rfl) (ne_f (by decide))) fun _ H31 => wl_ <| p_ H31 rfl rfl fun _ H32 => wl_ <| ig H32 (wg_ H32 rfl rfl rfl rfl) rfl (dd_mv rfl (H32.ev 5 rfl)) fun _ H33 => wl_ <| cg H33 (wg_ H33 rfl rfl rfl rfl) rfl HS25 (dcs Tryd.func13 rfl (args1 (H33.ev 72 rfl)) (audlast_zero g20 W25 (HS25.row 0 rfl)) (.agg (bs (lk [] 0)))) fun W34 HS34 _ H34 => wl_ <| ig H34 (wg_ H34 rfl rfl rfl rfl) rfl (dd_mv rfl (H34.ev 6 rfl)) fun _ H35 => wl_ <| cg H35 (wg_ H35 rfl rfl rfl rfl) rfl HS34 (dcs Tryd.func13 rfl (args1 (H35.ev 74 rfl)) (audlast_zero g22 W34 (HS34.row 1 rfl)) (.agg (bs (lk [] 0)))) fun _ HS36 _ H36 => wl_ <| ig H36 (wg_ H36 rfl rfl rfl rfl) rfl (v := .bool false) (dd_nea (b := true) rfl (H36.ev 73 rfl) (H36.ev 75 rfl) (by kernel_rfl) (fun w => by rw [eql_dgs (lk [] 0) (lk [] 0) (length_zer 32) (length_zer 32) w, decide_eq_true rfl]) rfl) fun _ H37 => ?_
  clear H28 H29 H30 H31 H32 H33 HS25 H34 H35 HS34
  refine q_ H37 2 rfl fun _ H38 => wl_ <| ig H38 (wg_ H38 rfl rfl rfl rfl) rfl (dd_mv rfl (H38.ev 11 rfl)) fun _ H39 => wl_ <| ig H39 (wg_ H39 rfl rfl rfl rfl) rfl (v := .int .i64 0) (dd_len rfl (H39.ev 79 rfl) Tryd.underlying28) fun _ H40 => wl_ <| ig H40 (wg_ H40 rfl rfl rfl rfl) rfl (dd_mv rfl (H40.ev 0 rfl)) fun _ H41 => wl_ <| ig H41 (wg_ H41 rfl rfl rfl rfl) rfl (v := .int .i64 0) (dd_len rfl (H41.ev 81 rfl) Tryd.underlying22) fun _ H42 => wl_ <| ig H42 (wg_ H42 rfl rfl rfl rfl) rfl (dd_cmp rfl (H42.ev 80 rfl) (H42.ev 82 rfl) (gt_f (by decide))) fun _ H43 => wl_ <| p_ H43 rfl rfl fun _ H44 => ln_ <| ?_
  clear H36 H37 H38 H39 H40 H41 H42 H43
  have H45 := H44.sel [5, 11, 12, 84] rfl
  refine nx <| cf_ H45 rfl <| wp_skip <| nx <| sq_ <| sq_ <| rl_ <| wl_ <| p_ H45 rfl rfl fun _ H46 => ln_ <| nx <| wp_block <| wp_unr 1 <| unr_go <| sq_ <| sq_ <| rl_ <| q_ H46 2 rfl fun _ H47 => wl_ <| i_ H47 rfl (v := .int .i64 0) (dd_len rfl (H47.ev 86 rfl) Tryd.underlying28) fun _ H48 => wl_ <| i_ H48 rfl (dd_cmp rfl (H48.ev 85 rfl) (H48.ev 87 rfl) (lt_f (by decide))) fun _ H49 => ln_ <| nx <| cf_ H49 rfl <| wp_exit <| tx <| tx <| bx <| nx <| sq_ <| sq_ <| rl_ <| wl_ <| p_ H49 rfl rfl fun _ H50 => wl_ <| n_ H50 rfl (fun _ h => dd_lits HS36 #[.int .u8 109, .int .u8 111, .int .u8 114, .int .u8 101] rfl (ps := [(0, .int .u8 109), (1, .int .u8 111), (2, .int .u8 114), (3, .int .u8 101)]) (pr1 rfl (pr1 rfl (pr1 rfl (pr1 rfl (pr0))))) (z := .int .u8 0) (sz := 1) Tryd.underlying35 (by kernel_rfl) rfl rfl (by kernel_rfl) h) fun g101 _ HS51 _ H51 => ?_
  clear H44 H45 H46 H47 H48 H49 HS36 H50
  refine wl_ <| d_ H51 rfl (R := fun v9 w9 => v9 = .slice (some ⟨g101, 0, none⟩) 4 4 ∧ (MarkAt w9 g101 [109#8, 111#8, 114#8, 101#8]) ∧ (∀ r ∈ ([⟨g20, 30, #[.slice none 0 0]⟩, ⟨g22, 30, #[.slice none 0 0]⟩] : List Blk), r.g ≠ g101) ∧ St w noF [⟨g20, 30, #[.slice none 0 0]⟩, ⟨g22, 30, #[.slice none 0 0]⟩] w9) (dd_cvl HS51 2 (q := [109#8, 111#8, 114#8, 101#8]) rfl rfl (H51.ev 101 rfl) (fun w9 h1 h2 h3 => ⟨rfl, h2, h3, h1⟩)) ?_
  rintro _ W52 ⟨rfl, hm53, hne53, HS52⟩ a52 H52
  clear H51 HS51
  have HSf53 := HS52.frame
  refine wl_ <| i_ H52 rfl (v := .agg #[.int .i64 9, .int .i64 0, .slice none 0 0]) (dd_bld rfl (ps := [(0, .int .i64 9)]) (pr1 rfl (pr0)) (Lz := [[.int .i64 0], [.int .i64 0], [.slice none 0 0]]) (by kernel_rfl) (lens_cons rfl (lens_cons rfl (lens_cons rfl (lens_nil)))) (fit_cons (i := 0) rfl rfl (fit_nil)) (cs := #[.int .i64 9, .int .i64 0, .slice none 0 0]) rfl) fun _ H54 => ?_
  clear H52
  have HSu53 := HS52.unframe HSf53
  have hmu53 := hm53.chg HSf53 hne53
  have hnu53 := mark_ne hm53 HSf53 hne53
  clear HS52 HSf53
  refine wl_ <| d_ H54 rfl (R := fun v9 w9 => ∃ ge56 : Nat, ∃ ce56 : Nat, ∃ cbe56 : Array Value, v9 = .int .i64 0 ∧ (OwnC cbe56 ce56 1 66 (entsL ([] ++ [mkA [] ([109#8, 111#8, 114#8, 101#8]) 9 0]))) ∧ St w noF [⟨g20, 30, #[.slice (some ⟨ge56, 0, none⟩) 1 ce56]⟩, ⟨ge56, 59, cbe56⟩, ⟨g22, 30, #[.slice none 0 0]⟩] w9) (dc_ Tryd.func11 rfl (args3 (H54.ev 100 rfl) (H54.ev 102 rfl) (H54.ev 103 rfl)) (audadd_first _ g20 _ _ _ ([109#8, 111#8, 114#8, 101#8]) 9 0 (.slice none 0 0) _ (ss HSu53 [0]).frame  (HT _ HSu53.below) (nin_l (ss HSu53 [0]) hT.pos) (fun _ k9 => (mark_chg hmu53 k9 (fun r hr => hnu53 r (sel_mem (S := [⟨g20, 30, #[.slice none 0 0]⟩, ⟨g22, 30, #[.slice none 0 0]⟩]) (is := [0]) hr))).slice rfl) rfl (by decide) (by decide +kernel)) (fun _ w9 ⟨g9, c9, cb9, he, hO, hS⟩ => ⟨_, he, g9, c9, cb9, rfl, hO, St.reframe (ss HSu53 [0, 1]) hS⟩)) ?_
  rintro _ W55 ⟨ge56, ce56, cbe56, rfl, Oe56, HS55⟩ a55 H55
  clear H54 HSu53
  refine wl_ <| i_ H55 rfl (dd_cmp rfl (H55.ev 104 rfl) rfl (ne_f (by decide))) fun _ H57 => ln_ <| nx <| cf_ H57 rfl <| wp_skip <| nx <| sq_ <| rl_ <| wl_ <| p_ H57 rfl rfl fun _ H58 => ?_
  clear H55 H57
  refine wl_ <| d_ H58 rfl (R := fun v w9 => ∃ gc60 cc60 cbc60, v = .slice (some ⟨gc60, 0, none⟩) 1 cc60 ∧ (W55.heap.size ≤ gc60) ∧ (Row w9 gc60 59 cbc60) ∧ (OwnC cbc60 cc60 1 66 (entsL ([] ++ [mkA [] ([109#8, 111#8, 114#8, 101#8]) 9 0]))) ∧ Below W55.heap.size W55 w9) (dc_ Tryd.func19 rfl (args1 (H58.ev 106 rfl)) (audents_pos _ _ 1 _ ([] ++ [mkA [] ([109#8, 111#8, 114#8, 101#8]) 9 0]) W55 (HS55.row 0 rfl) (cat_own (HS55.row 1 rfl) Oe56) (show ([] ++ [mkA [] ([109#8, 111#8, 114#8, 101#8]) 9 0] : List Ae).length = 1 from rfl) (wf_mk wf_nil _ _ _) (by omega)) (fun _ w9 ⟨g9, c9, cb9, he, h1, h2, h3, hb⟩ => ⟨_, he, g9, c9, cb9, rfl, h1, h2, h3, hb⟩)) ?_
  rintro _ W59 ⟨gc60, cc60, cbc60, rfl, hg60, hr60, Oc60, hb59⟩ a59 H59
  have HS59 := HS55.same hb59
  clear H58
  have HS59j : St w noF [⟨g20, 30, #[.slice (some ⟨ge56, 0, none⟩) 1 ce56]⟩, ⟨ge56, 59, cbe56⟩, ⟨g22, 30, #[.slice none 0 0]⟩, ⟨gc60, 59, cbc60⟩] W59 := HS55.joins hb59 hr60 hg60
  clear HS59 hr60 hg60
  clear HS55 hb59
  refine wl_ <| p_ H59 rfl rfl fun _ H61 => ln_ <| nx <| sq_ <| sq_ <| rl_ <| wl_ <| p_ H61 rfl rfl fun _ H62 => wl_ <| i_ H62 rfl (v := .int .i64 1) (dd_len rfl (H62.ev 108 rfl) Tryd.underlying28) fun _ H63 => wl_ <| p_ H63 rfl rfl fun _ H64 => wl_ <| i_ H64 rfl (v := .int .i64 0) (dd_len rfl (H64.ev 110 rfl) Tryd.underlying28) fun _ H65 => wl_ <| i_ H65 rfl (v := .int .i64 1) (dd_ari rfl (H65.ev 111 rfl) rfl rfl (by decide)) fun _ H66 => wl_ <| i_ H66 rfl (dd_cmp rfl (H66.ev 109 rfl) (H66.ev 112 rfl) (ne_f (by decide))) fun _ H67 => ln_ <| ?_
  clear H59 H61 H62 H63 H64 H65 H66
  have H68 := H67.sel [11, 12, 113] rfl
  refine nx <| cf_ H68 rfl <| wp_skip <| nx <| sq_ <| sq_ <| rl_ <| wl_ <| p_ H68 rfl rfl fun _ H69 => ln_ <| nx <| wp_block <| wp_unr 1 <| unr_go <| sq_ <| sq_ <| rl_ <| q_ H69 2 rfl fun _ H70 => wl_ <| i_ H70 rfl (v := .int .i64 0) (dd_len rfl (H70.ev 115 rfl) Tryd.underlying28) fun _ H71 => wl_ <| i_ H71 rfl (dd_cmp rfl (H71.ev 114 rfl) (H71.ev 116 rfl) (lt_f (by decide))) fun _ H72 => ln_ <| nx <| cf_ H72 rfl <| wp_exit <| tx <| tx <| bx <| nx <| sq_ <| rl_ <| wl_ <| p_ H72 rfl rfl fun _ H73 => wl_ <| c_ H73 rfl HS59j (dcs Tryd.func20 rfl (args1 (H73.ev 129 rfl)) (audver_any _ ([] ++ [mkA [] ([109#8, 111#8, 114#8, 101#8]) 9 0]) W59 (HT _ HS59j.below) (ents_mk (show ([] ++ [mkA [] ([109#8, 111#8, 114#8, 101#8]) 9 0] : List Ae).length = 1 from rfl) (wf_mk wf_nil _ _ _) (cat_own (HS59j.row 3 rfl) Oc60) Oc60.le) (by rw [(show ([] ++ [mkA [] ([109#8, 111#8, 114#8, 101#8]) 9 0] : List Ae).length = 1 from rfl)]; omega)) (.int .i64 (verI ([] ++ [mkA [] ([109#8, 111#8, 114#8, 101#8]) 9 0])))) fun W74 HS74 _ H74 => wl_ <| i_ H74 rfl (dd_cmp rfl (H74.ev 130 rfl) rfl (eq_t (ver_none (good_mk (fun j hj => absurd hj (Nat.not_lt_zero _)) _ (by decide +kernel))))) fun _ H75 => wl_ <| p_ H75 rfl rfl fun _ H76 => ?_
  clear H67 H68 H69 H70 H71 H72 H73 HS59j H74
  refine wl_ <| cg H76 (wg_ H76 rfl rfl rfl rfl) rfl HS74 (dcs Tryd.func10 rfl (args0 ) (auwakes_any W74 (HT _ HS74.below)) (.bool true)) fun _ HS77 _ H77 => q_ H77 2 rfl fun _ H78 => ln_ <| nx <| wp_ret <| ret_run H78.env0 (res_t Tryd.results7 (H78.get 4 rfl)) <| ?_
  clear H75 H76 HS74 H77
  exact ⟨rfl, HS77.below⟩
theorem augoes_walk (A : Option Addr) (n c : Nat) (l : List Sd) (z : BitVec 8) (w : World) (hT : Tab w) (h0 : SaidsAt w (.slice A n c) l) (hm : n ≤ maxLen)  : Calls Tryd.prog 7 #[.slice A n c, .int .u8 (bd z)] w fun x w' => x = .returned (.bool true) ∧ Below w.heap.size w w' := by
  by_cases hn : n = 0
  · have hl := saids_len h0
    subst hn
    obtain rfl : l = [] := List.eq_nil_of_length_eq_zero hl
    exact augoes_zero A c z w hT h0
  · obtain ⟨b, o, rfl⟩ := saids_some h0 (by omega)
    exact augoes_pos b o n c l z w hT h0 hm
end Go.Proofs.YtbhmgnhiglpmhaaDoor

/- AuditGoes, as its tied card: for everything that was said and every byte the call returns true and changes nothing that it was handed. Conditions: those of the row (the table lies as the program's text lays it, which the card ties to the pruned copy). -/
set_option maxRecDepth 4000
namespace Go.Proofs.YtbhmgnhiglpmhaaDoor.auditGoes
open Go Go.ChangeShapes Go.WideShapes Go.ChangeAt Go.RowKit

theorem contract (H : Type) (enc : TypeId × Value → H) (W : World) (base : Nat) (args : Array Value) (ds gs : List (DataW H)) (before : List MemPlace)
    (hval : ∀ (j : Nat) t v, Tryd.f7.params[j]? = some t → args[j]? = some v → Value.okWide Tryd.prog W .any base t v)
    (hW : DataW.Whole enc Tryd.prog Tryd.f7.params.toList Rows.auditGoesSpec.vars false W args.toList ds gs before) (hL : laidMetH Tryd.prog Rows.auditGoesRow.laid W) :
    Calls Tryd.prog 7 args W fun e W' => ∃ v, e = .returned v ∧ Rows.auditGoesSpec.post enc Tryd.prog Tryd.f7 false true false false W args v W' := by
  have hW' := hW
  obtain ⟨p, q, hA0, hV, rfl, _, _⟩ := hW
  have hA : DataW.TrodAll enc Tryd.prog W 0 (fun _ => true) true Tryd.f7.params.toList args.toList ds p := hA0
  rw [Tryd.params7] at hA hval
  obtain ⟨v0, vs0, d0, ds0, p0, q0, hargs, rfl, rfl, h0, r0⟩ := trodAll_cons hA
  obtain ⟨v1, vs1, d1, ds1, p1, q1, rfl, rfl, rfl, h1, r1⟩ := trodAll_cons r0
  obtain ⟨rfl, rfl, rfl⟩ := trodAll_nil r1
  obtain rfl : args = #[v0, v1] := by cases args; simp_all
  obtain ⟨rfl, rfl⟩ := trodVars_none hV
  have hlt0 : ∀ x ∈ p0, x.block < W.heap.size := fun x hx => hW'.lt x (by simp [hx])
  have hlt1 : ∀ x ∈ p1, x.block < W.heap.size := fun x hx => hW'.lt x (by simp [hx])
  obtain ⟨A0, n0, c0, l0, rfl, hS0, hm0⟩ := open_saids (hval 0 22 v0 rfl rfl) h0 hlt0
  obtain ⟨n1, rfl⟩ := open_argU8 Tryd.underlying5 (hval 1 5 v1 rfl rfl) h1 hlt1
  refine (augoes_walk A0 n0 c0 l0 n1 W (tab_of_laid hL) hS0 hm0 ).mono fun e W' ⟨he, hb⟩ => ?_
  subst he
  exact ⟨_, rfl, [d0, d1], [], _, [], _, [], hW', trodAll_cons_mk (shut_bool Tryd.underlying4 _) trodAll_mk0, trodAll_cons_mk (Below.trod laidOutT (by kernel_rfl) (of_decide_eq_true (by kernel_rfl)) h0 hb hlt0) (trodAll_cons_mk (Below.trod laidOutT (by kernel_rfl) (of_decide_eq_true (by kernel_rfl)) h1 hb hlt1) trodAll_mk0), rfl, hb.frame _, fun h => by cases h⟩

theorem laid_met (os : Os) : laidMet Tryd.prog Rows.auditGoesRow.laid ((laidWorld os).forCall (fun _ _ => 0) ⟨#[], #[.slice none 0 0, .int .u8 0], []⟩).memory :=
  laidMet_of_run' 8 (by kernel_rfl) (by kernel_rfl)
theorem reads (os : Os) {H : Type} (enc : TypeId × Value → H) : ∃ places, DataW.whole enc Tryd.prog ((laidWorld os).forCall (fun _ _ => 0) ⟨#[], #[.slice none 0 0, .int .u8 0], []⟩).memory Tryd.f7.params.toList Rows.auditGoesSpec.vars false #[(Value.slice none 0 0), (Value.int .u8 0)].toList 8 = some ([.nil, .lit (.int .u8 0)], [], places) :=
  ⟨[], by kernel_rfl⟩

set_option maxRecDepth 100000 in
theorem lifted (os : Os) (started : os.Started) (H : Type) (enc : TypeId × Value → H) (F : Stop.Interp) :
    ReturnsInHanded {} Tryd.checked os 7 .any ((OpenSpec.ofChange Rows.auditGoesSpec).preRow enc Tryd.prog Tryd.f7 Rows.auditGoesRow.domain false Rows.auditGoesRow.laid) (((OpenSpec.ofChange Rows.auditGoesSpec).at F).post enc Tryd.prog Tryd.f7 false true false false) := by
  obtain ⟨places, hx⟩ := reads os enc
  refine returnsInHanded_of_row (C := Tryd.checked) (s := OpenSpec.ofChange Rows.auditGoesSpec) ownK started (by kernel_rfl) Tryd.func7
    (witness_row_at (enc := enc) (C := Tryd.checked) false (laidWorld os) #[.slice none 0 0, .int .u8 0] rfl (by kernel_rfl) (by kernel_rfl) (by kernel_rfl)
      (OpenSpec.preRow_of_cond 8 hx (by kernel_rfl) (fun k hk => by cases hk) (by kernel_rfl) (laid_met os))) ?_
  intro W base args ds gs before hval hW _ _ _ hL _ _
  exact contract H enc W base args ds gs before hval hW hL

theorem said : Rows.AuditGoesSaid :=
  OpenClaim.holds_of_cond 7 Tryd.f7 rfl rfl rfl rfl rfl rfl rfl ⟨rfl, rfl, rfl, rfl, rfl⟩ rfl rfl rfl rfl rfl (by kernel_rfl) Tryd.func7 (by kernel_rfl)
    (of_decide_eq_true (by kernel_rfl)) (by unfold Func.isWrapper; first | (rw [if_pos (by decide +kernel)]; kernel_rfl) | (rw [if_neg (by decide +kernel)]; exact ⟨rfl, rfl⟩))
    (fun os started H enc _ F => by rw [OpenClaim.pre_eq_preRow]; exact lifted os started H enc F)

theorem plain (f : FuncId) (fn : Func) (hf : Tryd.pinned.checked.prog.funcNamed Rows.auditGoesRow.func = some f) (hfn : Tryd.pinned.checked.prog.funcs[f]? = some fn) :
    false = Tryd.pinned.checked.prog.looks [] ∧ ∀ (j : Nat) t, fn.params[j]? = some t → Tryd.pinned.checked.prog.wantsStandIn t = false := by
  obtain rfl : f = 7 := Option.some.inj ((show Tryd.prog.funcNamed Rows.auditGoesRow.func = some 7 by kernel_rfl).symm.trans hf) |>.symm
  obtain rfl : fn = Tryd.f7 := (Option.some.inj (Tryd.func7.symm.trans hfn)).symm
  refine ⟨by kernel_rfl, fun j t ht => ?_⟩
  rw [Tryd.params7] at ht
  have hm : t = 22 ∨ t = 5 := by simpa using Array.mem_of_getElem? ht
  rcases hm with rfl | rfl
  · exact (show Tryd.prog.wantsStandIn 22 = false by kernel_rfl)
  · exact (show Tryd.prog.wantsStandIn 5 = false by kernel_rfl)

theorem card : Rows.AuditGoesCardSaid :=
  Claim7.holds_tied_plain_at .later [] _ _ _ _ said (fun _ h => by cases h) (by kernel_rfl) (fun _ h => by cases h) auditGoes_row_tie rfl ⟨rfl, rfl⟩ (by kernel_rfl) rfl plain (by kernel_rfl)
end Go.Proofs.YtbhmgnhiglpmhaaDoor.auditGoes
