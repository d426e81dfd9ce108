/- TableTells, as its tied card: for every slice of volumes, name and block the call returns true and changes nothing that it was handed. Conditions: those of the row (the tables of runes lie as the program's text lays them, which the card ties to the pruned copy). -/
import Derived.Test.YtpmedgibnnonkaaDoorMGen5
import Derived.Test.YtpmedgibnnonkaaDoorMNode0
import Derived.Test.YtpmedgibnnonkaaDoorMGen0
/- The statements TableTells, TableBack: their walks. -/
set_option maxRecDepth 4000
namespace Go.Proofs.YtpmedgibnnonkaaDoor
open Go Go.RowKit
theorem fair_n {l : List Tv} {n : Nat} (h : fairV (volL l) = true) (hl : l.length = n) : n ≤ 20 := by
  have := fairV_len h
  rw [len_volL, hl] at this; omega
theorem fair_m {l : List Tv} (h : fairV (volL l) = true) : ∀ x ∈ l, x.2.length ≤ 1000000 := fun x hx => by
  have := fairV_each h (strB x.1, x.2) (List.mem_map.2 ⟨x, hx, rfl⟩)
  simp only at this; omega
theorem volL_inj {l m : List Tv} (h : volL l = volL m) : l = m := by
  unfold volL at h
  refine List.map_inj_right (f := fun x : Tv => (strB x.1, x.2)) (fun x y e => ?_) |>.1 h
  injection e with e1 e2
  obtain ⟨p, L⟩ := x
  obtain ⟨q, M⟩ := y
  simp only at e1 e2
  rw [strB_inj e1, e2]
theorem vols_dec {l m : List Tv} (h : goodT l = true) (k : goodT m = true) : decide (volL l = volL m) = decide (encT l = encT m) := by
  rw [enc_inj h k, Bool.eq_iff_iff]
  simp only [decide_eq_true_eq]
  exact ⟨volL_inj, fun e => by rw [e]⟩
set_option maxHeartbeats 3200000 in
theorem tabtells_walk (A : Option Addr) (n c : Nat) (l0 : List Vl) (q qb : List (BitVec 8)) (w : World) (h0 : VolsAt w (.slice A n c) l0) (hn0 : n ≤ maxLen) (_ : q.length ≤ maxLen) (hqb : qb.length = 32) :
    Calls Tryd.prog 3 #[.slice A n c, .string (strB q), .agg (bs qb)] w fun e w' => e = .returned (.bool true) ∧ Below w.heap.size w w' := by
  obtain ⟨l, rfl⟩ := volL_all l0
  have HS := St.nil w noF
  have HVl : ∀ W, Below w.heap.size w W → VolsAt W (.slice A n c) (volL l) := fun W hb => h0.below hb (Nat.le_refl _)
  have hln : l.length = n := by rw [← len_volL]; exact vols_len h0
  refine enter_en Tryd.func3 rfl Tryd.ntmps3 (Nat.le_of_ble_eq_true rfl) fun a0 (HA0 : En 89 [(0, .slice A n c), (1, .string (strB q)), (2, .agg (bs qb))] a0) => ?_
  refine sq_ <| rl_ <| wl_ <| n_ HA0 rfl (fun _ h => dd_box HS rfl (HA0.ev 2 rfl) (cs := (bs qb)) rfl h) fun g5 W1 HS1 a1 H1 => wl_ <| p_ H1 rfl rfl fun a2 H2 => ln_ <| nx <| sq_ <| sq_ <| rl_ <| wl_ <| p_ H2 rfl rfl fun a3 H3 => ?_
  clear HS HA0 a0 H1 a1 H2 a2
  cases hb5 : fairV (volL l)
  case false =>
   refine wl_ <| ic H3 rfl (v := .bool false) (dc_ Tryd.func7 rfl (args1 (H3.ev 16 rfl)) (fairV_any _ _ _ (volL l) W1 (HVl _ HS1.below) hn0) (fun _ w9 h9 => ⟨_, h9.1, by rw [hb5], h9.2.symm⟩)) fun a6 H6 => wl_ <| i_ H6 rfl (v := .bool true) (dd_nt rfl (H6.ev 17 rfl) rfl) fun a7 H7 => wl_ <| p_ H7 rfl rfl fun a8 H8 => wl_ <| k_ H8 (wg_ H8 rfl rfl rfl rfl) rfl fun a9 H9 => wl_ <| k_ H9 (wg_ H9 rfl rfl rfl rfl) rfl fun a10 H10 => wl_ <| k_ H10 (wg_ H10 rfl rfl rfl rfl) rfl fun a11 H11 => wl_ <| p_ H11 rfl rfl fun a12 H12 => ln_ <| nx <| ct_ H12 rfl <| sq_ <| rl_ <| wl_ <| c_ H12 rfl HS1 (dcs Tryd.func8 rfl (args0 ) (tabwakes_any W1) (.bool true)) fun W13 HS13 a13 H13 => ?_
   clear H3 a3 H6 a6 H7 a7 H8 a8 H9 a9 H10 a10 H11 a11
   refine wl_ <| p_ H13 rfl rfl fun a14 H14 => ln_ <| nx <| wp_ret <| tr <| ret_run H14.env0 (res_t Tryd.results3 (H14.get 6 rfl)) <| ?_
   clear H12 a12 HS1 H13 a13
   exact ⟨rfl, HS13.below⟩
  case true =>
   refine wl_ <| ic H3 rfl (v := .bool true) (dc_ Tryd.func7 rfl (args1 (H3.ev 16 rfl)) (fairV_any _ _ _ (volL l) W1 (HVl _ HS1.below) hn0) (fun _ w9 h9 => ⟨_, h9.1, by rw [hb5], h9.2.symm⟩)) fun a15 H15 => wl_ <| i_ H15 rfl (v := .bool false) (dd_nt rfl (H15.ev 17 rfl) rfl) fun a16 H16 => wl_ <| p_ H16 rfl rfl fun a17 H17 => wl_ <| ig H17 (wg_ H17 rfl rfl rfl rfl) rfl (dd_mv rfl (H17.ev 1 rfl)) fun a18 H18 => wl_ <| ig H18 (wg_ H18 rfl rfl rfl rfl) rfl (v := .int .i64 q.length) (dd_lens rfl (H18.ev 20 rfl) Tryd.underlying9 (by rw [strB_size])) fun a19 H19 => ?_
   clear H3 a3 H15 a15 H16 a16 H17 a17 H18 a18
   by_cases hc21 : (100 : Int) < q.length
   ·
    refine wl_ <| ig H19 (wg_ H19 rfl rfl rfl rfl) rfl (dd_cmp rfl (H19.ev 21 rfl) rfl (gt_t hc21)) fun a22 H22 => wl_ <| p_ H22 rfl rfl fun a23 H23 => ln_ <| nx <| ct_ H23 rfl <| sq_ <| rl_ <| wl_ <| c_ H23 rfl HS1 (dcs Tryd.func8 rfl (args0 ) (tabwakes_any W1) (.bool true)) fun W24 HS24 a24 H24 => wl_ <| p_ H24 rfl rfl fun a25 H25 => ln_ <| nx <| wp_ret <| tr <| ret_run H25.env0 (res_t Tryd.results3 (H25.get 6 rfl)) <| ?_
    clear H19 a19 H22 a22 H23 a23 HS1 H24 a24
    exact ⟨rfl, HS24.below⟩
   ·
    refine wl_ <| ig H19 (wg_ H19 rfl rfl rfl rfl) rfl (dd_cmp rfl (H19.ev 21 rfl) rfl (gt_f hc21)) fun a26 H26 => wl_ <| p_ H26 rfl rfl fun a27 H27 => ln_ <| nx <| cf_ H27 rfl <| wp_skip <| nx <| sq_ <| rl_ <| ?_
    clear H19 a19 H26 a26
    have hn1 := fair_n hb5 hln
    have hm1 := fair_m hb5
    refine wl_ <| p_ H27 rfl rfl fun a28 H28 => ?_
    clear H27 a27
    refine wl_ <| d_ H28 rfl (R := fun v w9 => ∃ A30 N30 C30, v = .slice A30 N30 C30 ∧ ((volL l).length = N30) ∧ (OV W1.heap.size w9 (.slice A30 N30 C30) (volL l)) ∧ Below W1.heap.size W1 w9) (dc_ Tryd.func9 rfl (args1 (H28.ev 25 rfl)) (ownvols_any _ _ _ (volL l) W1 (HVl _ HS1.below) (by omega) (vols_lenB hm1)) (fun _ w9 ⟨v9, he, ho, hb⟩ => by obtain ⟨A9, n9, c9, rfl, h1, _⟩ := OV.form2 ho; exact ⟨_, he, A9, n9, c9, rfl, h1, ho, hb⟩)) ?_
    rintro _ W29 ⟨A30, N30, C30, rfl, hNd30, hov30, hb29⟩ a29 H29
    have HS29 := HS1.same hb29
    clear H28 a28
    have hNo30 : N30 ≤ 1000000 := by rw [← hNd30, len_volL, hln]; exact (Nat.le_trans hn1 (by decide))
    have HBs31 : Below w.heap.size w W29 := HS29.below
    have HVlr := fun (W9 : World) (hb9 : Below W29.heap.size W29 W9) => HVl W9 (HBs31.trans (hb9.mono HBs31.size))
    clear HVl
    have HVl := HVlr
    clear HVlr
    have HR31_0 := fun (W9 : World) (hb9 : Below W29.heap.size W29 W9) => (HS29.row 0 rfl).call hb9
    have HSb31 := St.nil W29 noF
    clear HS29
    have HVd30 := fun (W9 : World) (hb9 : Below W29.heap.size W29 W9) => ((hov30.vols (by rw [hNd30]; unfold maxLen; omega)).below hb9 (Nat.le_refl _))
    clear HS1 hb29
    refine wl_ <| p_ H29 rfl rfl fun a32 H32 => ln_ <| nx <| sq_ <| rl_ <| wl_ <| p_ H32 rfl rfl fun a33 H33 => wl_ <| c_ H33 rfl HSb31 (dcs Tryd.func10 rfl (args1 (H33.ev 28 rfl)) (enct_any _ _ _ l W29 (HVd30 _ HSb31.below) hNo30 hm1) (.tuple #[.agg (bs (encT l)), .int .i64 (encE l)])) fun W34 HS34 a34 H34 => wl_ <| p_ H34 rfl rfl fun a35 H35 => wl_ <| i_ H35 rfl (dd_ext rfl (H35.ev 27 rfl) rfl) fun a36 H36 => wl_ <| i_ H36 rfl (dd_ext rfl (H36.ev 27 rfl) rfl) fun a37 H37 => wl_ <| n_ H37 rfl (fun _ h => dd_new HS34 (bs (zer 32)) rfl (z := .agg (bs (zer 32))) (by kernel_rfl) rfl h) fun g8 W38 HS38 a38 H38 => wl_ <| t_ rfl (fun _ h => dd_setrow HS38 0 rfl rfl (H38.ev 8 rfl) (H38.ev 30 rfl) (by kernel_rfl) (((size_bs _).trans (length_encT _)) : (bs (encT l)).size = 32) (((size_bs _).trans (length_zer 32)) : (bs (zer 32)).size = 32) (one_bs _) h) fun W39 HS39 => ?_
    clear H29 a29 H32 a32 H33 a33 HSb31 H34 a34 H35 a35 H36 a36 HS34 H37 a37
    refine wl_ <| p_ H38 rfl rfl fun a40 H40 => ln_ <| ?_
    clear HS38 H38 a38
    have H41 := H40.sel [1, 0, 5, 7, 8, 9] rfl
    refine nx <| sq_ <| rl_ <| wl_ <| p_ H41 rfl rfl fun a42 H42 => wl_ <| c_ H42 rfl HS39 (dcs Tryd.func11 rfl (args1 (H42.ev 33 rfl)) (renct_any _ _ _ l W39 (HVl _ HS39.below) (Nat.le_trans hn1 (by decide))) (.tuple #[.agg (bs (encT l)), .int .i64 (encE l)])) fun W43 HS43 a43 H43 => wl_ <| p_ H43 rfl rfl fun a44 H44 => wl_ <| i_ H44 rfl (dd_ext rfl (H44.ev 32 rfl) rfl) fun a45 H45 => wl_ <| i_ H45 rfl (dd_ext rfl (H45.ev 32 rfl) rfl) fun a46 H46 => wl_ <| n_ H46 rfl (fun _ h => dd_new HS43 (bs (zer 32)) rfl (z := .agg (bs (zer 32))) (by kernel_rfl) rfl h) fun g10 W47 HS47 a47 H47 => wl_ <| t_ rfl (fun _ h => dd_setrow HS47 1 rfl rfl (H47.ev 10 rfl) (H47.ev 35 rfl) (by kernel_rfl) (((size_bs _).trans (length_encT _)) : (bs (encT l)).size = 32) (((size_bs _).trans (length_zer 32)) : (bs (zer 32)).size = 32) (one_bs _) h) fun W48 HS48 => wl_ <| p_ H47 rfl rfl fun a49 H49 => ?_
    clear H40 H41 a40 H42 a42 HS39 H43 a43 H44 a44 H45 a45 HS43 H46 a46 HS47
    refine ln_ <| nx <| sq_ <| rl_ <| wl_ <| i_ H49 rfl (v := .agg (bs qb)) (dd_loadR (HR31_0 _ HS48.below) rfl (H49.ev 5 rfl) (slab_whole _) Tryd.underlying24 rfl (by rw [show (bs qb).size = 32 from ((size_bs _).trans hqb)]; kernel_rfl)) fun a50 H50 => ?_
    clear H47 a47 H49 a49
    refine wl_ <| d_ H50 rfl (R := fun v w9 => ∃ A52 N52 C52, v = .tuple #[.slice A52 N52 C52, .int .i64 (decE qb)] ∧ ((volL (decLT qb)).length = N52 ∧ N52 ≤ 3) ∧ (OV W48.heap.size w9 (.slice A52 N52 C52) (volL (decLT qb))) ∧ Below W48.heap.size W48 w9) (dc_ Tryd.func12 rfl (args1 (H50.ev 38 rfl)) (dect_any qb W48 hqb) (fun _ w9 ⟨v9, he, ho, hb⟩ => by obtain ⟨A9, n9, c9, rfl, h1, _⟩ := OV.form2 ho; exact ⟨_, he, A9, n9, c9, rfl, ⟨h1, by rw [← h1, len_volL]; exact (decLT_len _)⟩, ho, hb⟩)) ?_
    rintro _ W51 ⟨A52, N52, C52, rfl, hNd52, hov52, hb51⟩ a51 H51
    have HS51 := HS48.same hb51
    clear H50 a50
    have HBs53 : Below W29.heap.size W29 W51 := HS51.below
    have HVlr := fun (W9 : World) (hb9 : Below W51.heap.size W51 W9) => HVl W9 (HBs53.trans (hb9.mono HBs53.size))
    clear HVl
    have HVl := HVlr
    clear HVlr
    have HR31_0r := fun (W9 : World) (hb9 : Below W51.heap.size W51 W9) => HR31_0 W9 (HBs53.trans (hb9.mono HBs53.size))
    clear HR31_0
    have HR31_0 := HR31_0r
    clear HR31_0r
    have HVd30r := fun (W9 : World) (hb9 : Below W51.heap.size W51 W9) => HVd30 W9 (HBs53.trans (hb9.mono HBs53.size))
    clear HVd30
    have HVd30 := HVd30r
    clear HVd30r
    have HR53_0 := fun (W9 : World) (hb9 : Below W51.heap.size W51 W9) => (HS51.row 0 rfl).call hb9
    have HR53_1 := fun (W9 : World) (hb9 : Below W51.heap.size W51 W9) => (HS51.row 1 rfl).call hb9
    have HSb53 := St.nil W51 noF
    clear HS51
    have HVd52 := fun (W9 : World) (hb9 : Below W51.heap.size W51 W9) => ((hov52.vols (Nat.le_trans (Nat.le_of_eq hNd52.1) (Nat.le_trans hNd52.2 (by decide)))).below hb9 (Nat.le_refl _))
    have hMd52 := decLT_small qb
    clear HS48 hb51
    refine wl_ <| p_ H51 rfl rfl fun a54 H54 => wl_ <| i_ H54 rfl (dd_ext rfl (H54.ev 37 rfl) rfl) fun a55 H55 => wl_ <| i_ H55 rfl (dd_ext rfl (H55.ev 37 rfl) rfl) fun a56 H56 => q_ H56 2 rfl fun a57 H57 => ln_ <| nx <| sq_ <| rl_ <| wl_ <| i_ H57 rfl (v := .agg (bs qb)) (dd_loadR (HR31_0 _ HSb53.below) rfl (H57.ev 5 rfl) (slab_whole _) Tryd.underlying24 rfl (by rw [show (bs qb).size = 32 from ((size_bs _).trans hqb)]; kernel_rfl)) fun a58 H58 => ?_
    clear H51 a51 H54 a54 H55 a55 H56 a56 H57 a57
    refine wl_ <| d_ H58 rfl (R := fun v w9 => ∃ A60 N60 C60, v = .tuple #[.slice A60 N60 C60, .int .i64 (decE qb)] ∧ ((volL (decLT qb)).length = N60 ∧ N60 ≤ 3) ∧ (OV W51.heap.size w9 (.slice A60 N60 C60) (volL (decLT qb))) ∧ Below W51.heap.size W51 w9) (dc_ Tryd.func13 rfl (args1 (H58.ev 43 rfl)) (rdect_any qb W51 hqb) (fun _ w9 ⟨v9, he, ho, hb⟩ => by obtain ⟨A9, n9, c9, rfl, h1, _⟩ := OV.form2 ho; exact ⟨_, he, A9, n9, c9, rfl, ⟨h1, by rw [← h1, len_volL]; exact (decLT_len _)⟩, ho, hb⟩)) ?_
    rintro _ W59 ⟨A60, N60, C60, rfl, hNd60, hov60, hb59⟩ a59 H59
    have HS59 := HSb53.same hb59
    clear H58 a58
    have HBs61 : Below W51.heap.size W51 W59 := HS59.below
    have HVlr := fun (W9 : World) (hb9 : Below W59.heap.size W59 W9) => HVl W9 (HBs61.trans (hb9.mono HBs61.size))
    clear HVl
    have HVl := HVlr
    clear HVlr
    have HR31_0r := fun (W9 : World) (hb9 : Below W59.heap.size W59 W9) => HR31_0 W9 (HBs61.trans (hb9.mono HBs61.size))
    clear HR31_0
    have HR31_0 := HR31_0r
    clear HR31_0r
    have HVd30r := fun (W9 : World) (hb9 : Below W59.heap.size W59 W9) => HVd30 W9 (HBs61.trans (hb9.mono HBs61.size))
    clear HVd30
    have HVd30 := HVd30r
    clear HVd30r
    have HR53_0r := fun (W9 : World) (hb9 : Below W59.heap.size W59 W9) => HR53_0 W9 (HBs61.trans (hb9.mono HBs61.size))
    clear HR53_0
    have HR53_0 := HR53_0r
    clear HR53_0r
    have HR53_1r := fun (W9 : World) (hb9 : Below W59.heap.size W59 W9) => HR53_1 W9 (HBs61.trans (hb9.mono HBs61.size))
    clear HR53_1
    have HR53_1 := HR53_1r
    clear HR53_1r
    have HVd52r := fun (W9 : World) (hb9 : Below W59.heap.size W59 W9) => HVd52 W9 (HBs61.trans (hb9.mono HBs61.size))
    clear HVd52
    have HVd52 := HVd52r
    clear HVd52r
    have HSb61 := St.nil W59 noF
    clear HS59
    have HVd60 := fun (W9 : World) (hb9 : Below W59.heap.size W59 W9) => ((hov60.vols (Nat.le_trans (Nat.le_of_eq hNd60.1) (Nat.le_trans hNd60.2 (by decide)))).below hb9 (Nat.le_refl _))
    have hMd60 := decLT_small qb
    clear HSb53 hb59
    refine wl_ <| p_ H59 rfl rfl fun a62 H62 => wl_ <| i_ H62 rfl (dd_ext rfl (H62.ev 42 rfl) rfl) fun a63 H63 => wl_ <| i_ H63 rfl (dd_ext rfl (H63.ev 42 rfl) rfl) fun a64 H64 => q_ H64 2 rfl fun a65 H65 => ln_ <| ?_
    clear H59 a59 H62 a62 H63 a63 H64 a64
    have H66 := H65.sel [1, 0, 7, 8, 9, 10, 11, 12, 13, 14, 15] rfl
    refine nx <| sq_ <| rl_ <| wl_ <| p_ H66 rfl rfl fun a67 H67 => ?_
    clear H65 H66 a65
    cases hb69 : goodT l
    case false =>
     refine wl_ <| c_ H67 rfl HSb61 (v := .bool false) (dc_ Tryd.func14 rfl (args1 (H67.ev 47 rfl)) (goodt_any _ _ _ l W59 (HVd30 _ HSb61.below) hNo30 hm1) (fun _ w9 h9 => ⟨_, h9.1, by rw [hb69], h9.2⟩)) fun W70 HS70 a70 H70 => wl_ <| p_ H70 rfl rfl fun a71 H71 => wl_ <| c_ H71 rfl HS70 (v := .bool false) (dc_ Tryd.func15 rfl (args1 (H71.ev 49 rfl)) (rgoodt_any _ _ _ l W70 (HVl _ HS70.below) (Nat.le_trans hn1 (by decide))) (fun _ w9 h9 => ⟨_, h9.1, by rw [hb69], h9.2⟩)) fun W72 HS72 a72 H72 => wl_ <| i_ H72 rfl (v := .bool true) (dd_eqb rfl (H72.ev 48 rfl) (H72.ev 50 rfl) Tryd.underlying4 rfl) fun a73 H73 => wl_ <| p_ H73 rfl rfl fun a74 H74 => wl_ <| ig H74 (wg_ H74 rfl rfl rfl rfl) rfl (v := .agg (bs (encT l))) (dd_loadR (HR53_0 _ HS72.below) rfl (H74.ev 8 rfl) (slab_whole _) Tryd.underlying24 rfl (by rw [show (bs (encT l)).size = 32 from ((size_bs _).trans (length_encT _))]; kernel_rfl)) fun a75 H75 => wl_ <| ig H75 (wg_ H75 rfl rfl rfl rfl) rfl (v := .agg (bs (encT l))) (dd_loadR (HR53_1 _ HS72.below) rfl (H75.ev 10 rfl) (slab_whole _) Tryd.underlying24 rfl (by rw [show (bs (encT l)).size = 32 from ((size_bs _).trans (length_encT _))]; kernel_rfl)) fun a76 H76 => wl_ <| ig H76 (wg_ H76 rfl rfl rfl rfl) rfl (v := .bool true) (dd_eqa (b := true) rfl (H76.ev 53 rfl) (H76.ev 54 rfl) (by kernel_rfl) (fun w => by have h9 := eql_blk (encT l) (encT l) (length_encT _) (length_encT _) w; rw [decide_eq_true rfl] at h9; exact h9)) fun a77 H77 => ?_
     clear H67 a67 HSb61 H70 a70 H71 a71 HS70 H72 a72 H73 a73 H74 a74 H75 a75
     refine q_ H77 2 rfl fun a78 H78 => wl_ <| ig H78 (wg_ H78 rfl rfl rfl rfl) rfl (dd_mv rfl (H78.ev 9 rfl)) fun a79 H79 => wl_ <| ig H79 (wg_ H79 rfl rfl rfl rfl) rfl (dd_mv rfl (H79.ev 11 rfl)) fun a80 H80 => wl_ <| ig H80 (wg_ H80 rfl rfl rfl rfl) rfl (dd_cmp rfl (H80.ev 58 rfl) (H80.ev 59 rfl) (eq_t rfl)) fun a81 H81 => q_ H81 2 rfl fun a82 H82 => wl_ <| ig H82 (wg_ H82 rfl rfl rfl rfl) rfl (dd_mv rfl (H82.ev 12 rfl)) fun a83 H83 => wl_ <| ig H83 (wg_ H83 rfl rfl rfl rfl) rfl (dd_mv rfl (H83.ev 14 rfl)) fun a84 H84 => wl_ <| cg H84 (wg_ H84 rfl rfl rfl rfl) rfl HS72 (v := .bool true) (dc_ Tryd.func16 rfl (args2 (H84.ev 63 rfl) (H84.ev 64 rfl)) (keepvols_any (volL (decLT qb)) (volL (decLT qb)) _ _ _ _ _ _ W72 (HVd52 _ HS72.below) (HVd60 _ HS72.below) (Nat.le_trans hNd52.2 (by decide)) (Nat.le_trans hNd60.2 (by decide)) (vols_lenB (hMd52))) (fun _ w9 h9 => ⟨_, h9.1, by rw [decide_eq_true rfl], h9.2⟩)) fun W85 HS85 a85 H85 => ?_
     clear H76 a76 H77 a77 H78 a78 H79 a79 H80 a80 H81 a81 H82 a82 H83 a83
     refine q_ H85 2 rfl fun a86 H86 => wl_ <| ig H86 (wg_ H86 rfl rfl rfl rfl) rfl (dd_mv rfl (H86.ev 13 rfl)) fun a87 H87 => wl_ <| ig H87 (wg_ H87 rfl rfl rfl rfl) rfl (dd_mv rfl (H87.ev 15 rfl)) fun a88 H88 => wl_ <| ig H88 (wg_ H88 rfl rfl rfl rfl) rfl (dd_cmp rfl (H88.ev 68 rfl) (H88.ev 69 rfl) (eq_t rfl)) fun a89 H89 => q_ H89 2 rfl fun a90 H90 => wl_ <| ig H90 (wg_ H90 rfl rfl rfl rfl) rfl (dd_mv rfl (H90.ev 1 rfl)) fun a91 H91 => wl_ <| ig H91 (wg_ H91 rfl rfl rfl rfl) rfl (dd_mv rfl (H91.ev 7 rfl)) fun a92 H92 => wl_ <| cg H92 (wg_ H92 rfl rfl rfl rfl) rfl HS85 (dcs Tryd.func17 rfl (args2 (H92.ev 73 rfl) (H92.ev 74 rfl)) (find_any _ _ _ q l W85 (HVd30 _ HS85.below) hNo30) (.int .i64 (findI q l))) fun W93 HS93 a93 H93 => ?_
     clear H84 a84 HS72 H85 a85 H86 a86 H87 a87 H88 a88 H89 a89 H90 a90 H91 a91
     refine wl_ <| ig H93 (wg_ H93 rfl rfl rfl rfl) rfl (dd_mv rfl (H93.ev 1 rfl)) fun a94 H94 => wl_ <| ig H94 (wg_ H94 rfl rfl rfl rfl) rfl (dd_mv rfl (H94.ev 0 rfl)) fun a95 H95 => wl_ <| cg H95 (wg_ H95 rfl rfl rfl rfl) rfl HS93 (dcs Tryd.func18 rfl (args2 (H95.ev 76 rfl) (H95.ev 77 rfl)) (rfind_any _ _ _ q l W93 (HVl _ HS93.below) (Nat.le_trans hn1 (by decide))) (.int .i64 (findI q l))) fun W96 HS96 a96 H96 => wl_ <| ig H96 (wg_ H96 rfl rfl rfl rfl) rfl (dd_cmp rfl (H96.ev 75 rfl) (H96.ev 78 rfl) (eq_t rfl)) fun a97 H97 => q_ H97 2 rfl fun a98 H98 => wl_ <| ig H98 (wg_ H98 rfl rfl rfl rfl) rfl (dd_mv rfl (H98.ev 7 rfl)) fun a99 H99 => wl_ <| ig H99 (wg_ H99 rfl rfl rfl rfl) rfl (dd_mv rfl (H99.ev 0 rfl)) fun a100 H100 => wl_ <| cg H100 (wg_ H100 rfl rfl rfl rfl) rfl HS96 (v := .bool true) (dc_ Tryd.func16 rfl (args2 (H100.ev 82 rfl) (H100.ev 83 rfl)) (keepvols_any (volL l) (volL l) _ _ _ _ _ _ W96 (HVd30 _ HS96.below) (HVl _ HS96.below) hNo30 (Nat.le_trans hn1 (by decide)) (vols_lenB hm1)) (fun _ w9 h9 => ⟨_, h9.1, by rw [decide_eq_true rfl], h9.2⟩)) fun W101 HS101 a101 H101 => ?_
     clear H92 a92 HS85 H93 a93 H94 a94 H95 a95 HS93 H96 a96 H97 a97 H98 a98 H99 a99
     refine q_ H101 2 rfl fun a102 H102 => wl_ <| cg H102 (wg_ H102 rfl rfl rfl rfl) rfl HS101 (dcs Tryd.func8 rfl (args0 ) (tabwakes_any W101) (.bool true)) fun W103 HS103 a103 H103 => q_ H103 2 rfl fun a104 H104 => ln_ <| ?_
     clear H100 a100 HS96 H101 a101 H102 a102 HS101 H103 a103
     have H105 := H104.sel [6] rfl
     refine nx <| wp_ret <| ret_run H105.env0 (res_t Tryd.results3 (H105.get 6 rfl)) <| ?_
     clear H104
     exact ⟨rfl, (HBs31.trans ((HBs53.trans ((HBs61.trans (HS103.below.mono HBs61.size)).mono HBs53.size)).mono HBs31.size))⟩
    case true =>
     refine wl_ <| c_ H67 rfl HSb61 (v := .bool true) (dc_ Tryd.func14 rfl (args1 (H67.ev 47 rfl)) (goodt_any _ _ _ l W59 (HVd30 _ HSb61.below) hNo30 hm1) (fun _ w9 h9 => ⟨_, h9.1, by rw [hb69], h9.2⟩)) fun W106 HS106 a106 H106 => wl_ <| p_ H106 rfl rfl fun a107 H107 => wl_ <| c_ H107 rfl HS106 (v := .bool true) (dc_ Tryd.func15 rfl (args1 (H107.ev 49 rfl)) (rgoodt_any _ _ _ l W106 (HVl _ HS106.below) (Nat.le_trans hn1 (by decide))) (fun _ w9 h9 => ⟨_, h9.1, by rw [hb69], h9.2⟩)) fun W108 HS108 a108 H108 => wl_ <| i_ H108 rfl (v := .bool true) (dd_eqb rfl (H108.ev 48 rfl) (H108.ev 50 rfl) Tryd.underlying4 rfl) fun a109 H109 => wl_ <| p_ H109 rfl rfl fun a110 H110 => wl_ <| ig H110 (wg_ H110 rfl rfl rfl rfl) rfl (v := .agg (bs (encT l))) (dd_loadR (HR53_0 _ HS108.below) rfl (H110.ev 8 rfl) (slab_whole _) Tryd.underlying24 rfl (by rw [show (bs (encT l)).size = 32 from ((size_bs _).trans (length_encT _))]; kernel_rfl)) fun a111 H111 => wl_ <| ig H111 (wg_ H111 rfl rfl rfl rfl) rfl (v := .agg (bs (encT l))) (dd_loadR (HR53_1 _ HS108.below) rfl (H111.ev 10 rfl) (slab_whole _) Tryd.underlying24 rfl (by rw [show (bs (encT l)).size = 32 from ((size_bs _).trans (length_encT _))]; kernel_rfl)) fun a112 H112 => wl_ <| ig H112 (wg_ H112 rfl rfl rfl rfl) rfl (v := .bool true) (dd_eqa (b := true) rfl (H112.ev 53 rfl) (H112.ev 54 rfl) (by kernel_rfl) (fun w => by have h9 := eql_blk (encT l) (encT l) (length_encT _) (length_encT _) w; rw [decide_eq_true rfl] at h9; exact h9)) fun a113 H113 => ?_
     clear H67 a67 HSb61 H106 a106 H107 a107 HS106 H108 a108 H109 a109 H110 a110 H111 a111
     refine q_ H113 2 rfl fun a114 H114 => wl_ <| ig H114 (wg_ H114 rfl rfl rfl rfl) rfl (dd_mv rfl (H114.ev 9 rfl)) fun a115 H115 => wl_ <| ig H115 (wg_ H115 rfl rfl rfl rfl) rfl (dd_mv rfl (H115.ev 11 rfl)) fun a116 H116 => wl_ <| ig H116 (wg_ H116 rfl rfl rfl rfl) rfl (dd_cmp rfl (H116.ev 58 rfl) (H116.ev 59 rfl) (eq_t rfl)) fun a117 H117 => q_ H117 2 rfl fun a118 H118 => wl_ <| ig H118 (wg_ H118 rfl rfl rfl rfl) rfl (dd_mv rfl (H118.ev 12 rfl)) fun a119 H119 => wl_ <| ig H119 (wg_ H119 rfl rfl rfl rfl) rfl (dd_mv rfl (H119.ev 14 rfl)) fun a120 H120 => wl_ <| cg H120 (wg_ H120 rfl rfl rfl rfl) rfl HS108 (v := .bool true) (dc_ Tryd.func16 rfl (args2 (H120.ev 63 rfl) (H120.ev 64 rfl)) (keepvols_any (volL (decLT qb)) (volL (decLT qb)) _ _ _ _ _ _ W108 (HVd52 _ HS108.below) (HVd60 _ HS108.below) (Nat.le_trans hNd52.2 (by decide)) (Nat.le_trans hNd60.2 (by decide)) (vols_lenB (hMd52))) (fun _ w9 h9 => ⟨_, h9.1, by rw [decide_eq_true rfl], h9.2⟩)) fun W121 HS121 a121 H121 => ?_
     clear H112 a112 H113 a113 H114 a114 H115 a115 H116 a116 H117 a117 H118 a118 H119 a119
     refine q_ H121 2 rfl fun a122 H122 => wl_ <| ig H122 (wg_ H122 rfl rfl rfl rfl) rfl (dd_mv rfl (H122.ev 13 rfl)) fun a123 H123 => wl_ <| ig H123 (wg_ H123 rfl rfl rfl rfl) rfl (dd_mv rfl (H123.ev 15 rfl)) fun a124 H124 => wl_ <| ig H124 (wg_ H124 rfl rfl rfl rfl) rfl (dd_cmp rfl (H124.ev 68 rfl) (H124.ev 69 rfl) (eq_t rfl)) fun a125 H125 => q_ H125 2 rfl fun a126 H126 => wl_ <| ig H126 (wg_ H126 rfl rfl rfl rfl) rfl (dd_mv rfl (H126.ev 1 rfl)) fun a127 H127 => wl_ <| ig H127 (wg_ H127 rfl rfl rfl rfl) rfl (dd_mv rfl (H127.ev 7 rfl)) fun a128 H128 => wl_ <| cg H128 (wg_ H128 rfl rfl rfl rfl) rfl HS121 (dcs Tryd.func17 rfl (args2 (H128.ev 73 rfl) (H128.ev 74 rfl)) (find_any _ _ _ q l W121 (HVd30 _ HS121.below) hNo30) (.int .i64 (findI q l))) fun W129 HS129 a129 H129 => ?_
     clear H120 a120 HS108 H121 a121 H122 a122 H123 a123 H124 a124 H125 a125 H126 a126 H127 a127
     refine wl_ <| ig H129 (wg_ H129 rfl rfl rfl rfl) rfl (dd_mv rfl (H129.ev 1 rfl)) fun a130 H130 => wl_ <| ig H130 (wg_ H130 rfl rfl rfl rfl) rfl (dd_mv rfl (H130.ev 0 rfl)) fun a131 H131 => wl_ <| cg H131 (wg_ H131 rfl rfl rfl rfl) rfl HS129 (dcs Tryd.func18 rfl (args2 (H131.ev 76 rfl) (H131.ev 77 rfl)) (rfind_any _ _ _ q l W129 (HVl _ HS129.below) (Nat.le_trans hn1 (by decide))) (.int .i64 (findI q l))) fun W132 HS132 a132 H132 => wl_ <| ig H132 (wg_ H132 rfl rfl rfl rfl) rfl (dd_cmp rfl (H132.ev 75 rfl) (H132.ev 78 rfl) (eq_t rfl)) fun a133 H133 => q_ H133 2 rfl fun a134 H134 => wl_ <| ig H134 (wg_ H134 rfl rfl rfl rfl) rfl (dd_mv rfl (H134.ev 7 rfl)) fun a135 H135 => wl_ <| ig H135 (wg_ H135 rfl rfl rfl rfl) rfl (dd_mv rfl (H135.ev 0 rfl)) fun a136 H136 => wl_ <| cg H136 (wg_ H136 rfl rfl rfl rfl) rfl HS132 (v := .bool true) (dc_ Tryd.func16 rfl (args2 (H136.ev 82 rfl) (H136.ev 83 rfl)) (keepvols_any (volL l) (volL l) _ _ _ _ _ _ W132 (HVd30 _ HS132.below) (HVl _ HS132.below) hNo30 (Nat.le_trans hn1 (by decide)) (vols_lenB hm1)) (fun _ w9 h9 => ⟨_, h9.1, by rw [decide_eq_true rfl], h9.2⟩)) fun W137 HS137 a137 H137 => ?_
     clear H128 a128 HS121 H129 a129 H130 a130 H131 a131 HS129 H132 a132 H133 a133 H134 a134 H135 a135
     refine q_ H137 2 rfl fun a138 H138 => wl_ <| cg H138 (wg_ H138 rfl rfl rfl rfl) rfl HS137 (dcs Tryd.func8 rfl (args0 ) (tabwakes_any W137) (.bool true)) fun W139 HS139 a139 H139 => q_ H139 2 rfl fun a140 H140 => ln_ <| ?_
     clear H136 a136 HS132 H137 a137 H138 a138 HS137 H139 a139
     have H141 := H140.sel [6] rfl
     refine nx <| wp_ret <| ret_run H141.env0 (res_t Tryd.results3 (H141.get 6 rfl)) <| ?_
     clear H140
     exact ⟨rfl, (HBs31.trans ((HBs53.trans ((HBs61.trans (HS139.below.mono HBs61.size)).mono HBs53.size)).mono HBs31.size))⟩
set_option maxHeartbeats 3200000 in
theorem tabback_walk (A : Option Addr) (n c : Nat) (l0 : List Vl) (B : Option Addr) (n2 c2 : Nat) (m0 : List Vl) (qb : List (BitVec 8)) (w : World) (h0 : VolsAt w (.slice A n c) l0) (hn0 : n ≤ maxLen) (k0 : VolsAt w (.slice B n2 c2) m0) (hn2 : n2 ≤ maxLen) (hqb : qb.length = 32) :
    Calls Tryd.prog 4 #[.slice A n c, .slice B n2 c2, .agg (bs qb)] w fun e w' => e = .returned (.bool true) ∧ Below w.heap.size w w' := by
  obtain ⟨l, rfl⟩ := volL_all l0
  obtain ⟨m, rfl⟩ := volL_all m0
  have HS := St.nil w noF
  have HVl : ∀ W, Below w.heap.size w W → VolsAt W (.slice A n c) (volL l) := fun W hb => h0.below hb (Nat.le_refl _)
  have hln : l.length = n := by rw [← len_volL]; exact vols_len h0
  have HVm : ∀ W, Below w.heap.size w W → VolsAt W (.slice B n2 c2) (volL m) := fun W hb => k0.below hb (Nat.le_refl _)
  have hln2 : m.length = n2 := by rw [← len_volL]; exact vols_len k0
  refine enter_en Tryd.func4 rfl Tryd.ntmps4 (Nat.le_of_ble_eq_true rfl) fun a0 (HA0 : En 91 [(0, .slice A n c), (1, .slice B n2 c2), (2, .agg (bs qb))] a0) => ?_
  refine sq_ <| rl_ <| wl_ <| n_ HA0 rfl (fun _ h => dd_box HS rfl (HA0.ev 2 rfl) (cs := (bs qb)) rfl h) fun g5 W1 HS1 a1 H1 => wl_ <| p_ H1 rfl rfl fun a2 H2 => ln_ <| nx <| sq_ <| sq_ <| rl_ <| wl_ <| p_ H2 rfl rfl fun a3 H3 => ?_
  clear HS HA0 a0 H1 a1 H2 a2
  cases hb5 : fairV (volL l)
  case false =>
   refine wl_ <| ic H3 rfl (v := .bool false) (dc_ Tryd.func7 rfl (args1 (H3.ev 17 rfl)) (fairV_any _ _ _ (volL l) W1 (HVl _ HS1.below) hn0) (fun _ w9 h9 => ⟨_, h9.1, by rw [hb5], h9.2.symm⟩)) fun a6 H6 => wl_ <| i_ H6 rfl (v := .bool true) (dd_nt rfl (H6.ev 18 rfl) rfl) fun a7 H7 => wl_ <| p_ H7 rfl rfl fun a8 H8 => wl_ <| k_ H8 (wg_ H8 rfl rfl rfl rfl) rfl fun a9 H9 => wl_ <| k_ H9 (wg_ H9 rfl rfl rfl rfl) rfl fun a10 H10 => wl_ <| k_ H10 (wg_ H10 rfl rfl rfl rfl) rfl fun a11 H11 => wl_ <| p_ H11 rfl rfl fun a12 H12 => ln_ <| nx <| ct_ H12 rfl <| sq_ <| rl_ <| wl_ <| c_ H12 rfl HS1 (dcs Tryd.func8 rfl (args0 ) (tabwakes_any W1) (.bool true)) fun W13 HS13 a13 H13 => ?_
   clear H3 a3 H6 a6 H7 a7 H8 a8 H9 a9 H10 a10 H11 a11
   refine wl_ <| p_ H13 rfl rfl fun a14 H14 => ln_ <| nx <| wp_ret <| tr <| ret_run H14.env0 (res_t Tryd.results4 (H14.get 6 rfl)) <| ?_
   clear H12 a12 HS1 H13 a13
   exact ⟨rfl, HS13.below⟩
  case true =>
   refine wl_ <| ic H3 rfl (v := .bool true) (dc_ Tryd.func7 rfl (args1 (H3.ev 17 rfl)) (fairV_any _ _ _ (volL l) W1 (HVl _ HS1.below) hn0) (fun _ w9 h9 => ⟨_, h9.1, by rw [hb5], h9.2.symm⟩)) fun a15 H15 => wl_ <| i_ H15 rfl (v := .bool false) (dd_nt rfl (H15.ev 18 rfl) rfl) fun a16 H16 => wl_ <| p_ H16 rfl rfl fun a17 H17 => wl_ <| ig H17 (wg_ H17 rfl rfl rfl rfl) rfl (dd_mv rfl (H17.ev 1 rfl)) fun a18 H18 => ?_
   clear H3 a3 H15 a15 H16 a16 H17 a17
   cases hb20 : fairV (volL m)
   case false =>
    refine wl_ <| icg H18 (wg_ H18 rfl rfl rfl rfl) rfl (v := .bool false) (dc_ Tryd.func7 rfl (args1 (H18.ev 21 rfl)) (fairV_any _ _ _ (volL m) W1 (HVm _ HS1.below) hn2) (fun _ w9 h9 => ⟨_, h9.1, by rw [hb20], h9.2.symm⟩)) fun a21 H21 => wl_ <| ig H21 (wg_ H21 rfl rfl rfl rfl) rfl (v := .bool true) (dd_nt rfl (H21.ev 22 rfl) rfl) fun a22 H22 => wl_ <| p_ H22 rfl rfl fun a23 H23 => ln_ <| nx <| ct_ H23 rfl <| sq_ <| rl_ <| wl_ <| c_ H23 rfl HS1 (dcs Tryd.func8 rfl (args0 ) (tabwakes_any W1) (.bool true)) fun W24 HS24 a24 H24 => wl_ <| p_ H24 rfl rfl fun a25 H25 => ln_ <| nx <| wp_ret <| tr <| ret_run H25.env0 (res_t Tryd.results4 (H25.get 6 rfl)) <| ?_
    clear H18 a18 H21 a21 H22 a22 H23 a23 HS1 H24 a24
    exact ⟨rfl, HS24.below⟩
   case true =>
    refine wl_ <| icg H18 (wg_ H18 rfl rfl rfl rfl) rfl (v := .bool true) (dc_ Tryd.func7 rfl (args1 (H18.ev 21 rfl)) (fairV_any _ _ _ (volL m) W1 (HVm _ HS1.below) hn2) (fun _ w9 h9 => ⟨_, h9.1, by rw [hb20], h9.2.symm⟩)) fun a26 H26 => wl_ <| ig H26 (wg_ H26 rfl rfl rfl rfl) rfl (v := .bool false) (dd_nt rfl (H26.ev 22 rfl) rfl) fun a27 H27 => wl_ <| p_ H27 rfl rfl fun a28 H28 => ln_ <| nx <| cf_ H28 rfl <| wp_skip <| nx <| sq_ <| rl_ <| ?_
    clear H18 a18 H26 a26 H27 a27
    have hn1 := fair_n hb5 hln
    have hm1 := fair_m hb5
    have hn3 := fair_n hb20 hln2
    have hm3 := fair_m hb20
    refine wl_ <| p_ H28 rfl rfl fun a29 H29 => wl_ <| c_ H29 rfl HS1 (dcs Tryd.func10 rfl (args1 (H29.ev 27 rfl)) (enct_any _ _ _ l W1 (HVl _ HS1.below) (Nat.le_trans hn1 (by decide)) hm1) (.tuple #[.agg (bs (encT l)), .int .i64 (encE l)])) fun W30 HS30 a30 H30 => wl_ <| p_ H30 rfl rfl fun a31 H31 => wl_ <| i_ H31 rfl (dd_ext rfl (H31.ev 26 rfl) rfl) fun a32 H32 => wl_ <| i_ H32 rfl (dd_ext rfl (H32.ev 26 rfl) rfl) fun a33 H33 => wl_ <| n_ H33 rfl (fun _ h => dd_new HS30 (bs (zer 32)) rfl (z := .agg (bs (zer 32))) (by kernel_rfl) rfl h) fun g7 W34 HS34 a34 H34 => wl_ <| t_ rfl (fun _ h => dd_setrow HS34 1 rfl rfl (H34.ev 7 rfl) (H34.ev 29 rfl) (by kernel_rfl) (((size_bs _).trans (length_encT _)) : (bs (encT l)).size = 32) (((size_bs _).trans (length_zer 32)) : (bs (zer 32)).size = 32) (one_bs _) h) fun W35 HS35 => wl_ <| p_ H34 rfl rfl fun a36 H36 => ?_
    clear H28 a28 H29 a29 HS1 H30 a30 H31 a31 H32 a32 HS30 H33 a33 HS34
    refine ln_ <| nx <| sq_ <| rl_ <| wl_ <| p_ H36 rfl rfl fun a37 H37 => wl_ <| c_ H37 rfl HS35 (dcs Tryd.func10 rfl (args1 (H37.ev 32 rfl)) (enct_any _ _ _ m W35 (HVm _ HS35.below) (Nat.le_trans hn3 (by decide)) hm3) (.tuple #[.agg (bs (encT m)), .int .i64 (encE m)])) fun W38 HS38 a38 H38 => wl_ <| p_ H38 rfl rfl fun a39 H39 => wl_ <| i_ H39 rfl (dd_ext rfl (H39.ev 31 rfl) rfl) fun a40 H40 => wl_ <| i_ H40 rfl (dd_ext rfl (H40.ev 31 rfl) rfl) fun a41 H41 => wl_ <| n_ H41 rfl (fun _ h => dd_new HS38 (bs (zer 32)) rfl (z := .agg (bs (zer 32))) (by kernel_rfl) rfl h) fun g9 W42 HS42 a42 H42 => wl_ <| t_ rfl (fun _ h => dd_setrow HS42 2 rfl rfl (H42.ev 9 rfl) (H42.ev 34 rfl) (by kernel_rfl) (((size_bs _).trans (length_encT _)) : (bs (encT m)).size = 32) (((size_bs _).trans (length_zer 32)) : (bs (zer 32)).size = 32) (one_bs _) h) fun W43 HS43 => wl_ <| p_ H42 rfl rfl fun a44 H44 => ?_
    clear H34 a34 H36 a36 H37 a37 HS35 H38 a38 H39 a39 H40 a40 HS38 H41 a41 HS42
    refine ln_ <| ?_
    clear H42 a42
    have H45 := H44.sel [1, 0, 5, 7, 8, 9, 10] rfl
    refine nx <| sq_ <| sq_ <| rl_ <| wl_ <| p_ H45 rfl rfl fun a46 H46 => ?_
    clear H44 H45 a44
    by_cases hc48 : (encE l : Int) = 0
    ·
     refine wl_ <| i_ H46 rfl (dd_cmp rfl (H46.ev 36 rfl) rfl (eq_t hc48)) fun a49 H49 => ln_ <| nx <| ct_ H49 rfl <| sq_ <| rl_ <| wl_ <| i_ H49 rfl (v := .agg (bs (encT l))) (dd_load HS43 1 0 rfl rfl (H49.ev 7 rfl) (slab_whole _) Tryd.underlying24 rfl (by rw [show (bs (encT l)).size = 32 from ((size_bs _).trans (length_encT _))]; kernel_rfl)) fun a50 H50 => ?_
     clear H46 a46 H49 a49
     refine wl_ <| d_ H50 rfl (R := fun v w9 => ∃ A52 N52 C52, v = .tuple #[.slice A52 N52 C52, .int .i64 0] ∧ ((volL l).length = N52 ∧ N52 ≤ 3) ∧ (OV W43.heap.size w9 (.slice A52 N52 C52) (volL l)) ∧ Below W43.heap.size W43 w9) (dc_ Tryd.func12 rfl (args1 (H50.ev 39 rfl)) (dect_any (encT l) W43 (length_encT _)) (fun _ w9 ⟨v9, he, ho, hb⟩ => by rw [(tab_back (encE_z.1 hc48)).2.1] at he; rw [(tab_back (encE_z.1 hc48)).1] at ho; obtain ⟨A9, n9, c9, rfl, h1, _⟩ := OV.form2 ho; exact ⟨_, he, A9, n9, c9, rfl, ⟨h1, by rw [← h1, len_volL]; exact (goodT_parts (encE_z.1 hc48)).1⟩, ho, hb⟩)) ?_
     rintro _ W51 ⟨A52, N52, C52, rfl, hNd52, hov52, hb51⟩ a51 H51
     have HS51 := HS43.same hb51
     clear H50 a50
     have HBs53 : Below w.heap.size w W51 := HS51.below
     have HVlr := fun (W9 : World) (hb9 : Below W51.heap.size W51 W9) => HVl W9 (HBs53.trans (hb9.mono HBs53.size))
     clear HVl
     have HVl := HVlr
     clear HVlr
     have HVmr := fun (W9 : World) (hb9 : Below W51.heap.size W51 W9) => HVm W9 (HBs53.trans (hb9.mono HBs53.size))
     clear HVm
     have HVm := HVmr
     clear HVmr
     have HR53_0 := fun (W9 : World) (hb9 : Below W51.heap.size W51 W9) => (HS51.row 0 rfl).call hb9
     have HR53_1 := fun (W9 : World) (hb9 : Below W51.heap.size W51 W9) => (HS51.row 1 rfl).call hb9
     have HR53_2 := fun (W9 : World) (hb9 : Below W51.heap.size W51 W9) => (HS51.row 2 rfl).call hb9
     have HSb53 := St.nil W51 noF
     clear HS51
     have HVd52 := fun (W9 : World) (hb9 : Below W51.heap.size W51 W9) => ((hov52.vols (Nat.le_trans (Nat.le_of_eq hNd52.1) (Nat.le_trans hNd52.2 (by decide)))).below hb9 (Nat.le_refl _))
     have hMd52 := hm1
     clear HS43 hb51
     refine wl_ <| p_ H51 rfl rfl fun a54 H54 => wl_ <| i_ H54 rfl (dd_ext rfl (H54.ev 38 rfl) rfl) fun a55 H55 => wl_ <| i_ H55 rfl (dd_ext rfl (H55.ev 38 rfl) rfl) fun a56 H56 => q_ H56 2 rfl fun a57 H57 => ln_ <| nx <| sq_ <| rl_ <| wl_ <| p_ H57 rfl rfl fun a58 H58 => wl_ <| i_ H58 rfl (dd_cmp rfl (H58.ev 43 rfl) rfl (ne_f (by decide))) fun a59 H59 => wl_ <| p_ H59 rfl rfl fun a60 H60 => wl_ <| ig H60 (wg_ H60 rfl rfl rfl rfl) rfl (dd_mv rfl (H60.ev 11 rfl)) fun a61 H61 => ?_
     clear H51 a51 H54 a54 H55 a55 H56 a56 H57 a57 H58 a58 H59 a59
     refine wl_ <| ig H61 (wg_ H61 rfl rfl rfl rfl) rfl (dd_mv rfl (H61.ev 0 rfl)) fun a62 H62 => wl_ <| cg H62 (wg_ H62 rfl rfl rfl rfl) rfl HSb53 (v := .bool true) (dc_ Tryd.func16 rfl (args2 (H62.ev 46 rfl) (H62.ev 47 rfl)) (keepvols_any (volL l) (volL l) _ _ _ _ _ _ W51 (HVd52 _ HSb53.below) (HVl _ HSb53.below) (Nat.le_trans hNd52.2 (by decide)) (Nat.le_trans hn1 (by decide)) (vols_lenB (hMd52))) (fun _ w9 h9 => ⟨_, h9.1, by rw [decide_eq_true rfl], h9.2⟩)) fun W63 HS63 a63 H63 => wl_ <| ig H63 (wg_ H63 rfl rfl rfl rfl) rfl (v := .bool false) (dd_nt rfl (H63.ev 48 rfl) rfl) fun a64 H64 => wl_ <| p_ H64 rfl rfl fun a65 H65 => ln_ <| ?_
     clear H60 a60 H61 a61 H62 a62 HSb53 H63 a63 H64 a64
     have H66 := H65.sel [1, 0, 5, 7, 8, 9, 10, 50] rfl
     refine nx <| cf_ H66 rfl <| wp_skip <| nx <| sq_ <| sq_ <| ?_
     clear H65
     by_cases hc72 : (encE m : Int) = 0
     ·
      cases hb83 : decide (encT l = encT m)
      case false =>
       refine wi_ HS63 [] rfl [] rfl fun HSh84 hx84 => hp_ H66 0 hx84 rfl rfl rfl fun a85 H85 => ht_ H85 1 hx84 rfl rfl (fun _ _ _ => dd_cmp rfl (H85.ev 51 rfl) rfl (eq_t hc48)) fun a86 H86 => hp_ H86 2 hx84 rfl rfl rfl fun a87 H87 => htg H87 3 hx84 rfl (wg_ H87 rfl rfl rfl rfl) rfl (fun _ _ _ => dd_mv rfl (H87.ev 10 rfl)) fun a88 H88 => htg H88 4 hx84 rfl (wg_ H88 rfl rfl rfl rfl) rfl (fun _ _ _ => dd_cmp rfl (H88.ev 54 rfl) rfl (eq_t hc72)) fun a89 H89 => hp_ H89 5 hx84 rfl rfl rfl fun a90 H90 => hp_ H90 6 hx84 rfl rfl rfl fun a91 H91 => ?_
       clear HS63 H66 a65 H85 a85 H86 a86 H87 a87 H88 a88 H89 a89
       refine htg H91 7 hx84 rfl (wg_ H91 rfl rfl rfl rfl) rfl (v := .agg (bs (encT l))) (fun _ _ HS9 => dd_loadR (HR53_1 _ HS9.below) rfl (H91.ev 7 rfl) (slab_whole _) Tryd.underlying24 rfl (by rw [show (bs (encT l)).size = 32 from ((size_bs _).trans (length_encT _))]; kernel_rfl)) fun a92 H92 => htg H92 8 hx84 rfl (wg_ H92 rfl rfl rfl rfl) rfl (v := .agg (bs (encT m))) (fun _ _ HS9 => dd_loadR (HR53_2 _ HS9.below) rfl (H92.ev 9 rfl) (slab_whole _) Tryd.underlying24 rfl (by rw [show (bs (encT m)).size = 32 from ((size_bs _).trans (length_encT _))]; kernel_rfl)) fun a93 H93 => htg H93 9 hx84 rfl (wg_ H93 rfl rfl rfl rfl) rfl (v := .bool false) (fun _ _ _ => dd_eqa (b := false) rfl (H93.ev 58 rfl) (H93.ev 59 rfl) (by kernel_rfl) (fun w => by have h9 := eql_blk (encT l) (encT m) (length_encT _) (length_encT _) w; rw [hb83] at h9; exact h9)) fun a94 H94 => htg H94 10 hx84 rfl (wg_ H94 rfl rfl rfl rfl) rfl (fun _ _ _ => dd_mv rfl (H94.ev 0 rfl)) fun a95 H95 => htg H95 11 hx84 rfl (wg_ H95 rfl rfl rfl rfl) rfl (fun _ _ _ => dd_mv rfl (H95.ev 1 rfl)) fun a96 H96 => h1_ 12 rfl <| cg H96 (wg_ H96 rfl rfl rfl rfl) rfl HSh84 (v := .bool false) (dc_ Tryd.func16 rfl (args2 (H96.ev 61 rfl) (H96.ev 62 rfl)) (keepvols_any (volL l) (volL m) _ _ _ _ _ _ W63.drew (HVl _ HSh84.below) (HVm _ HSh84.below) (Nat.le_trans hn1 (by decide)) (Nat.le_trans hn3 (by decide)) (vols_lenB hm1)) (fun _ w9 h9 => ⟨_, h9.1, by rw [vols_dec (encE_z.1 hc48) (encE_z.1 hc72), hb83], h9.2⟩)) fun W97 HS97 a97 H97 => sx_ (sxi HS97 [] rfl) fun hx98 => htg H97 13 hx98 rfl (wg_ H97 rfl rfl rfl rfl) rfl (v := .bool false) (fun _ _ _ => dd_neb rfl (H97.ev 60 rfl) (H97.ev 63 rfl) Tryd.underlying4 rfl) fun a99 H99 => ?_
       clear H90 a90 H91 a91 H92 a92 H93 a93 H94 a94 H95 a95 H96 a96 HSh84 hx84
       refine hp_ H99 14 hx98 rfl rfl rfl fun a100 H100 => ?_
       clear H97 a97 H99 a99
       refine wpAnyH_done (by kernel_rfl) ?_ _
       clear hx98
       refine nx <| cf_ H100 rfl <| wp_skip <| nx <| sq_ <| rl_ <| wl_ <| i_ H100 rfl (v := .agg (bs qb)) (dd_loadR (HR53_0 _ HS97.below) rfl (H100.ev 5 rfl) (slab_whole _) Tryd.underlying24 rfl (by rw [show (bs qb).size = 32 from ((size_bs _).trans hqb)]; kernel_rfl)) fun a101 H101 => ?_
       clear H100 a100
       refine wl_ <| d_ H101 rfl (R := fun v w9 => ∃ A103 N103 C103, v = .tuple #[.slice A103 N103 C103, .int .i64 (decE qb)] ∧ ((volL (decLT qb)).length = N103 ∧ N103 ≤ 3) ∧ (OV W97.heap.size w9 (.slice A103 N103 C103) (volL (decLT qb))) ∧ Below W97.heap.size W97 w9) (dc_ Tryd.func12 rfl (args1 (H101.ev 67 rfl)) (dect_any qb W97 hqb) (fun _ w9 ⟨v9, he, ho, hb⟩ => by obtain ⟨A9, n9, c9, rfl, h1, _⟩ := OV.form2 ho; exact ⟨_, he, A9, n9, c9, rfl, ⟨h1, by rw [← h1, len_volL]; exact (decLT_len _)⟩, ho, hb⟩)) ?_
       rintro _ W102 ⟨A103, N103, C103, rfl, hNd103, hov103, hb102⟩ a102 H102
       have HS102 := HS97.same hb102
       clear H101 a101
       have HBs104 : Below W51.heap.size W51 W102 := HS102.below
       have HVlr := fun (W9 : World) (hb9 : Below W102.heap.size W102 W9) => HVl W9 (HBs104.trans (hb9.mono HBs104.size))
       clear HVl
       have HVl := HVlr
       clear HVlr
       have HVmr := fun (W9 : World) (hb9 : Below W102.heap.size W102 W9) => HVm W9 (HBs104.trans (hb9.mono HBs104.size))
       clear HVm
       have HVm := HVmr
       clear HVmr
       have HR53_0r := fun (W9 : World) (hb9 : Below W102.heap.size W102 W9) => HR53_0 W9 (HBs104.trans (hb9.mono HBs104.size))
       clear HR53_0
       have HR53_0 := HR53_0r
       clear HR53_0r
       have HR53_1r := fun (W9 : World) (hb9 : Below W102.heap.size W102 W9) => HR53_1 W9 (HBs104.trans (hb9.mono HBs104.size))
       clear HR53_1
       have HR53_1 := HR53_1r
       clear HR53_1r
       have HR53_2r := fun (W9 : World) (hb9 : Below W102.heap.size W102 W9) => HR53_2 W9 (HBs104.trans (hb9.mono HBs104.size))
       clear HR53_2
       have HR53_2 := HR53_2r
       clear HR53_2r
       have HVd52r := fun (W9 : World) (hb9 : Below W102.heap.size W102 W9) => HVd52 W9 (HBs104.trans (hb9.mono HBs104.size))
       clear HVd52
       have HVd52 := HVd52r
       clear HVd52r
       have HSb104 := St.nil W102 noF
       clear HS102
       have HVd103 := fun (W9 : World) (hb9 : Below W102.heap.size W102 W9) => ((hov103.vols (Nat.le_trans (Nat.le_of_eq hNd103.1) (Nat.le_trans hNd103.2 (by decide)))).below hb9 (Nat.le_refl _))
       have hMd103 := decLT_small qb
       clear HS97 hb102
       refine wl_ <| p_ H102 rfl rfl fun a105 H105 => wl_ <| i_ H105 rfl (dd_ext rfl (H105.ev 66 rfl) rfl) fun a106 H106 => wl_ <| i_ H106 rfl (dd_ext rfl (H106.ev 66 rfl) rfl) fun a107 H107 => q_ H107 2 rfl fun a108 H108 => ln_ <| ?_
       clear H102 a102 H105 a105 H106 a106 H107 a107
       have H109 := H108.sel [5, 13, 14] rfl
       refine nx <| sq_ <| sq_ <| rl_ <| wl_ <| p_ H109 rfl rfl fun a110 H110 => ?_
       clear H108 H109 a108
       by_cases hc112 : (decE qb : Int) = 0
       ·
        refine wl_ <| i_ H110 rfl (dd_cmp rfl (H110.ev 71 rfl) rfl (eq_t hc112)) fun a113 H113 => ln_ <| nx <| ct_ H113 rfl <| sq_ <| rl_ <| wl_ <| p_ H113 rfl rfl fun a114 H114 => wl_ <| c_ H114 rfl HSb104 (v := .tuple #[.agg (bs (encT (decLT qb))), .int .i64 0]) (dc_ Tryd.func10 rfl (args1 (H114.ev 74 rfl)) (enct_any _ _ _ (decLT qb) W102 (HVd103 _ HSb104.below) (Nat.le_trans hNd103.2 (by decide)) (hMd103)) (fun _ w9 h9 => ⟨_, by rw [encE_z.2 (okD_parts (decE_z.1 hc112)).1] at h9; exact h9.1, rfl, h9.2⟩)) fun W115 HS115 a115 H115 => wl_ <| p_ H115 rfl rfl fun a116 H116 => wl_ <| i_ H116 rfl (dd_ext rfl (H116.ev 73 rfl) rfl) fun a117 H117 => wl_ <| i_ H117 rfl (dd_ext rfl (H117.ev 73 rfl) rfl) fun a118 H118 => wl_ <| n_ H118 rfl (fun _ h => dd_new HS115 (bs (zer 32)) rfl (z := .agg (bs (zer 32))) (by kernel_rfl) rfl h) fun g15 W119 HS119 a119 H119 => wl_ <| t_ rfl (fun _ h => dd_setrow HS119 0 rfl rfl (H119.ev 15 rfl) (H119.ev 76 rfl) (by kernel_rfl) (((size_bs _).trans (length_encT _)) : (bs (encT (decLT qb))).size = 32) (((size_bs _).trans (length_zer 32)) : (bs (zer 32)).size = 32) (one_bs _) h) fun W120 HS120 => ?_
        clear H110 a110 H113 a113 H114 a114 HSb104 H115 a115 H116 a116 H117 a117 HS115 H118 a118
        refine wl_ <| p_ H119 rfl rfl fun a121 H121 => ln_ <| nx <| sq_ <| rl_ <| wl_ <| p_ H121 rfl rfl fun a122 H122 => wl_ <| i_ H122 rfl (dd_cmp rfl (H122.ev 78 rfl) rfl (ne_f (by decide))) fun a123 H123 => wl_ <| p_ H123 rfl rfl fun a124 H124 => wl_ <| ig H124 (wg_ H124 rfl rfl rfl rfl) rfl (v := .agg (bs (encT (decLT qb)))) (dd_load HS120 0 0 rfl rfl (H124.ev 15 rfl) (slab_whole _) Tryd.underlying24 rfl (by rw [show (bs (encT (decLT qb))).size = 32 from ((size_bs _).trans (length_encT _))]; kernel_rfl)) fun a125 H125 => wl_ <| ig H125 (wg_ H125 rfl rfl rfl rfl) rfl (v := .agg (bs qb)) (dd_loadR (HR53_0 _ HS120.below) rfl (H125.ev 5 rfl) (slab_whole _) Tryd.underlying24 rfl (by rw [show (bs qb).size = 32 from ((size_bs _).trans hqb)]; kernel_rfl)) fun a126 H126 => wl_ <| ig H126 (wg_ H126 rfl rfl rfl rfl) rfl (v := .bool false) (dd_nea (b := true) rfl (H126.ev 81 rfl) (H126.ev 82 rfl) (by kernel_rfl) (fun w => by have h9 := eql_blk (encT (decLT qb)) qb (length_encT _) hqb w; rw [decide_eq_true (okD_parts (decE_z.1 hc112)).2] at h9; exact h9) rfl) fun a127 H127 => q_ H127 2 rfl fun a128 H128 => ?_
        clear HS119 H119 a119 H121 a121 H122 a122 H123 a123 H124 a124 H125 a125 H126 a126
        refine wl_ <| ig H128 (wg_ H128 rfl rfl rfl rfl) rfl (dd_mv rfl (H128.ev 13 rfl)) fun a129 H129 => wl_ <| cg H129 (wg_ H129 rfl rfl rfl rfl) rfl HS120 (v := .bool true) (dc_ Tryd.func14 rfl (args1 (H129.ev 86 rfl)) (goodt_any _ _ _ (decLT qb) W120 (HVd103 _ HS120.below) (Nat.le_trans hNd103.2 (by decide)) (hMd103)) (fun _ w9 h9 => ⟨_, h9.1, by rw [(okD_parts (decE_z.1 hc112)).1], h9.2⟩)) fun W130 HS130 a130 H130 => wl_ <| ig H130 (wg_ H130 rfl rfl rfl rfl) rfl (v := .bool false) (dd_nt rfl (H130.ev 87 rfl) rfl) fun a131 H131 => wl_ <| p_ H131 rfl rfl fun a132 H132 => ln_ <| ?_
        clear H127 a127 H128 a128 H129 a129 HS120 H130 a130 H131 a131
        have H133 := H132.sel [89] rfl
        refine nx <| cf_ H133 rfl <| wp_skip <| nx <| sq_ <| rl_ <| wl_ <| c_ H133 rfl HS130 (dcs Tryd.func8 rfl (args0 ) (tabwakes_any W130) (.bool true)) fun W134 HS134 a134 H134 => wl_ <| p_ H134 rfl rfl fun a135 H135 => ln_ <| nx <| wp_ret <| ret_run H135.env0 (res_t Tryd.results4 (H135.get 6 rfl)) <| ?_
        clear H132 H133 a132 HS130 H134 a134
        exact ⟨rfl, (HBs53.trans ((HBs104.trans (HS134.below.mono HBs104.size)).mono HBs53.size))⟩
       ·
        refine wl_ <| i_ H110 rfl (dd_cmp rfl (H110.ev 71 rfl) rfl (eq_f hc112)) fun a136 H136 => ln_ <| nx <| cf_ H136 rfl <| wp_skip <| nx <| sq_ <| rl_ <| wl_ <| c_ H136 rfl HSb104 (dcs Tryd.func8 rfl (args0 ) (tabwakes_any W102) (.bool true)) fun W137 HS137 a137 H137 => wl_ <| p_ H137 rfl rfl fun a138 H138 => ln_ <| nx <| wp_ret <| ret_run H138.env0 (res_t Tryd.results4 (H138.get 6 rfl)) <| ?_
        clear H110 a110 H136 a136 HSb104 H137 a137
        exact ⟨rfl, (HBs53.trans ((HBs104.trans (HS137.below.mono HBs104.size)).mono HBs53.size))⟩
      case true =>
       refine wi_ HS63 [] rfl [] rfl fun HSh139 hx139 => hp_ H66 0 hx139 rfl rfl rfl fun a140 H140 => ht_ H140 1 hx139 rfl rfl (fun _ _ _ => dd_cmp rfl (H140.ev 51 rfl) rfl (eq_t hc48)) fun a141 H141 => hp_ H141 2 hx139 rfl rfl rfl fun a142 H142 => htg H142 3 hx139 rfl (wg_ H142 rfl rfl rfl rfl) rfl (fun _ _ _ => dd_mv rfl (H142.ev 10 rfl)) fun a143 H143 => htg H143 4 hx139 rfl (wg_ H143 rfl rfl rfl rfl) rfl (fun _ _ _ => dd_cmp rfl (H143.ev 54 rfl) rfl (eq_t hc72)) fun a144 H144 => hp_ H144 5 hx139 rfl rfl rfl fun a145 H145 => hp_ H145 6 hx139 rfl rfl rfl fun a146 H146 => ?_
       clear HS63 H66 a65 H140 a140 H141 a141 H142 a142 H143 a143 H144 a144
       refine htg H146 7 hx139 rfl (wg_ H146 rfl rfl rfl rfl) rfl (v := .agg (bs (encT l))) (fun _ _ HS9 => dd_loadR (HR53_1 _ HS9.below) rfl (H146.ev 7 rfl) (slab_whole _) Tryd.underlying24 rfl (by rw [show (bs (encT l)).size = 32 from ((size_bs _).trans (length_encT _))]; kernel_rfl)) fun a147 H147 => htg H147 8 hx139 rfl (wg_ H147 rfl rfl rfl rfl) rfl (v := .agg (bs (encT m))) (fun _ _ HS9 => dd_loadR (HR53_2 _ HS9.below) rfl (H147.ev 9 rfl) (slab_whole _) Tryd.underlying24 rfl (by rw [show (bs (encT m)).size = 32 from ((size_bs _).trans (length_encT _))]; kernel_rfl)) fun a148 H148 => htg H148 9 hx139 rfl (wg_ H148 rfl rfl rfl rfl) rfl (v := .bool true) (fun _ _ _ => dd_eqa (b := true) rfl (H148.ev 58 rfl) (H148.ev 59 rfl) (by kernel_rfl) (fun w => by have h9 := eql_blk (encT l) (encT m) (length_encT _) (length_encT _) w; rw [hb83] at h9; exact h9)) fun a149 H149 => htg H149 10 hx139 rfl (wg_ H149 rfl rfl rfl rfl) rfl (fun _ _ _ => dd_mv rfl (H149.ev 0 rfl)) fun a150 H150 => htg H150 11 hx139 rfl (wg_ H150 rfl rfl rfl rfl) rfl (fun _ _ _ => dd_mv rfl (H150.ev 1 rfl)) fun a151 H151 => h1_ 12 rfl <| cg H151 (wg_ H151 rfl rfl rfl rfl) rfl HSh139 (v := .bool true) (dc_ Tryd.func16 rfl (args2 (H151.ev 61 rfl) (H151.ev 62 rfl)) (keepvols_any (volL l) (volL m) _ _ _ _ _ _ W63.drew (HVl _ HSh139.below) (HVm _ HSh139.below) (Nat.le_trans hn1 (by decide)) (Nat.le_trans hn3 (by decide)) (vols_lenB hm1)) (fun _ w9 h9 => ⟨_, h9.1, by rw [vols_dec (encE_z.1 hc48) (encE_z.1 hc72), hb83], h9.2⟩)) fun W152 HS152 a152 H152 => sx_ (sxi HS152 [] rfl) fun hx153 => htg H152 13 hx153 rfl (wg_ H152 rfl rfl rfl rfl) rfl (v := .bool false) (fun _ _ _ => dd_neb rfl (H152.ev 60 rfl) (H152.ev 63 rfl) Tryd.underlying4 rfl) fun a154 H154 => ?_
       clear H145 a145 H146 a146 H147 a147 H148 a148 H149 a149 H150 a150 H151 a151 HSh139 hx139
       refine hp_ H154 14 hx153 rfl rfl rfl fun a155 H155 => ?_
       clear H152 a152 H154 a154
       refine wpAnyH_done (by kernel_rfl) ?_ _
       clear hx153
       refine nx <| cf_ H155 rfl <| wp_skip <| nx <| sq_ <| rl_ <| wl_ <| i_ H155 rfl (v := .agg (bs qb)) (dd_loadR (HR53_0 _ HS152.below) rfl (H155.ev 5 rfl) (slab_whole _) Tryd.underlying24 rfl (by rw [show (bs qb).size = 32 from ((size_bs _).trans hqb)]; kernel_rfl)) fun a156 H156 => ?_
       clear H155 a155
       refine wl_ <| d_ H156 rfl (R := fun v w9 => ∃ A158 N158 C158, v = .tuple #[.slice A158 N158 C158, .int .i64 (decE qb)] ∧ ((volL (decLT qb)).length = N158 ∧ N158 ≤ 3) ∧ (OV W152.heap.size w9 (.slice A158 N158 C158) (volL (decLT qb))) ∧ Below W152.heap.size W152 w9) (dc_ Tryd.func12 rfl (args1 (H156.ev 67 rfl)) (dect_any qb W152 hqb) (fun _ w9 ⟨v9, he, ho, hb⟩ => by obtain ⟨A9, n9, c9, rfl, h1, _⟩ := OV.form2 ho; exact ⟨_, he, A9, n9, c9, rfl, ⟨h1, by rw [← h1, len_volL]; exact (decLT_len _)⟩, ho, hb⟩)) ?_
       rintro _ W157 ⟨A158, N158, C158, rfl, hNd158, hov158, hb157⟩ a157 H157
       have HS157 := HS152.same hb157
       clear H156 a156
       have HBs159 : Below W51.heap.size W51 W157 := HS157.below
       have HVlr := fun (W9 : World) (hb9 : Below W157.heap.size W157 W9) => HVl W9 (HBs159.trans (hb9.mono HBs159.size))
       clear HVl
       have HVl := HVlr
       clear HVlr
       have HVmr := fun (W9 : World) (hb9 : Below W157.heap.size W157 W9) => HVm W9 (HBs159.trans (hb9.mono HBs159.size))
       clear HVm
       have HVm := HVmr
       clear HVmr
       have HR53_0r := fun (W9 : World) (hb9 : Below W157.heap.size W157 W9) => HR53_0 W9 (HBs159.trans (hb9.mono HBs159.size))
       clear HR53_0
       have HR53_0 := HR53_0r
       clear HR53_0r
       have HR53_1r := fun (W9 : World) (hb9 : Below W157.heap.size W157 W9) => HR53_1 W9 (HBs159.trans (hb9.mono HBs159.size))
       clear HR53_1
       have HR53_1 := HR53_1r
       clear HR53_1r
       have HR53_2r := fun (W9 : World) (hb9 : Below W157.heap.size W157 W9) => HR53_2 W9 (HBs159.trans (hb9.mono HBs159.size))
       clear HR53_2
       have HR53_2 := HR53_2r
       clear HR53_2r
       have HVd52r := fun (W9 : World) (hb9 : Below W157.heap.size W157 W9) => HVd52 W9 (HBs159.trans (hb9.mono HBs159.size))
       clear HVd52
       have HVd52 := HVd52r
       clear HVd52r
       have HSb159 := St.nil W157 noF
       clear HS157
       have HVd158 := fun (W9 : World) (hb9 : Below W157.heap.size W157 W9) => ((hov158.vols (Nat.le_trans (Nat.le_of_eq hNd158.1) (Nat.le_trans hNd158.2 (by decide)))).below hb9 (Nat.le_refl _))
       have hMd158 := decLT_small qb
       clear HS152 hb157
       refine wl_ <| p_ H157 rfl rfl fun a160 H160 => wl_ <| i_ H160 rfl (dd_ext rfl (H160.ev 66 rfl) rfl) fun a161 H161 => wl_ <| i_ H161 rfl (dd_ext rfl (H161.ev 66 rfl) rfl) fun a162 H162 => q_ H162 2 rfl fun a163 H163 => ln_ <| ?_
       clear H157 a157 H160 a160 H161 a161 H162 a162
       have H164 := H163.sel [5, 13, 14] rfl
       refine nx <| sq_ <| sq_ <| rl_ <| wl_ <| p_ H164 rfl rfl fun a165 H165 => ?_
       clear H163 H164 a163
       by_cases hc167 : (decE qb : Int) = 0
       ·
        refine wl_ <| i_ H165 rfl (dd_cmp rfl (H165.ev 71 rfl) rfl (eq_t hc167)) fun a168 H168 => ln_ <| nx <| ct_ H168 rfl <| sq_ <| rl_ <| wl_ <| p_ H168 rfl rfl fun a169 H169 => wl_ <| c_ H169 rfl HSb159 (v := .tuple #[.agg (bs (encT (decLT qb))), .int .i64 0]) (dc_ Tryd.func10 rfl (args1 (H169.ev 74 rfl)) (enct_any _ _ _ (decLT qb) W157 (HVd158 _ HSb159.below) (Nat.le_trans hNd158.2 (by decide)) (hMd158)) (fun _ w9 h9 => ⟨_, by rw [encE_z.2 (okD_parts (decE_z.1 hc167)).1] at h9; exact h9.1, rfl, h9.2⟩)) fun W170 HS170 a170 H170 => wl_ <| p_ H170 rfl rfl fun a171 H171 => wl_ <| i_ H171 rfl (dd_ext rfl (H171.ev 73 rfl) rfl) fun a172 H172 => wl_ <| i_ H172 rfl (dd_ext rfl (H172.ev 73 rfl) rfl) fun a173 H173 => wl_ <| n_ H173 rfl (fun _ h => dd_new HS170 (bs (zer 32)) rfl (z := .agg (bs (zer 32))) (by kernel_rfl) rfl h) fun g15 W174 HS174 a174 H174 => wl_ <| t_ rfl (fun _ h => dd_setrow HS174 0 rfl rfl (H174.ev 15 rfl) (H174.ev 76 rfl) (by kernel_rfl) (((size_bs _).trans (length_encT _)) : (bs (encT (decLT qb))).size = 32) (((size_bs _).trans (length_zer 32)) : (bs (zer 32)).size = 32) (one_bs _) h) fun W175 HS175 => ?_
        clear H165 a165 H168 a168 H169 a169 HSb159 H170 a170 H171 a171 H172 a172 HS170 H173 a173
        refine wl_ <| p_ H174 rfl rfl fun a176 H176 => ln_ <| nx <| sq_ <| rl_ <| wl_ <| p_ H176 rfl rfl fun a177 H177 => wl_ <| i_ H177 rfl (dd_cmp rfl (H177.ev 78 rfl) rfl (ne_f (by decide))) fun a178 H178 => wl_ <| p_ H178 rfl rfl fun a179 H179 => wl_ <| ig H179 (wg_ H179 rfl rfl rfl rfl) rfl (v := .agg (bs (encT (decLT qb)))) (dd_load HS175 0 0 rfl rfl (H179.ev 15 rfl) (slab_whole _) Tryd.underlying24 rfl (by rw [show (bs (encT (decLT qb))).size = 32 from ((size_bs _).trans (length_encT _))]; kernel_rfl)) fun a180 H180 => wl_ <| ig H180 (wg_ H180 rfl rfl rfl rfl) rfl (v := .agg (bs qb)) (dd_loadR (HR53_0 _ HS175.below) rfl (H180.ev 5 rfl) (slab_whole _) Tryd.underlying24 rfl (by rw [show (bs qb).size = 32 from ((size_bs _).trans hqb)]; kernel_rfl)) fun a181 H181 => wl_ <| ig H181 (wg_ H181 rfl rfl rfl rfl) rfl (v := .bool false) (dd_nea (b := true) rfl (H181.ev 81 rfl) (H181.ev 82 rfl) (by kernel_rfl) (fun w => by have h9 := eql_blk (encT (decLT qb)) qb (length_encT _) hqb w; rw [decide_eq_true (okD_parts (decE_z.1 hc167)).2] at h9; exact h9) rfl) fun a182 H182 => q_ H182 2 rfl fun a183 H183 => ?_
        clear HS174 H174 a174 H176 a176 H177 a177 H178 a178 H179 a179 H180 a180 H181 a181
        refine wl_ <| ig H183 (wg_ H183 rfl rfl rfl rfl) rfl (dd_mv rfl (H183.ev 13 rfl)) fun a184 H184 => wl_ <| cg H184 (wg_ H184 rfl rfl rfl rfl) rfl HS175 (v := .bool true) (dc_ Tryd.func14 rfl (args1 (H184.ev 86 rfl)) (goodt_any _ _ _ (decLT qb) W175 (HVd158 _ HS175.below) (Nat.le_trans hNd158.2 (by decide)) (hMd158)) (fun _ w9 h9 => ⟨_, h9.1, by rw [(okD_parts (decE_z.1 hc167)).1], h9.2⟩)) fun W185 HS185 a185 H185 => wl_ <| ig H185 (wg_ H185 rfl rfl rfl rfl) rfl (v := .bool false) (dd_nt rfl (H185.ev 87 rfl) rfl) fun a186 H186 => wl_ <| p_ H186 rfl rfl fun a187 H187 => ln_ <| ?_
        clear H182 a182 H183 a183 H184 a184 HS175 H185 a185 H186 a186
        have H188 := H187.sel [89] rfl
        refine nx <| cf_ H188 rfl <| wp_skip <| nx <| sq_ <| rl_ <| wl_ <| c_ H188 rfl HS185 (dcs Tryd.func8 rfl (args0 ) (tabwakes_any W185) (.bool true)) fun W189 HS189 a189 H189 => wl_ <| p_ H189 rfl rfl fun a190 H190 => ln_ <| nx <| wp_ret <| ret_run H190.env0 (res_t Tryd.results4 (H190.get 6 rfl)) <| ?_
        clear H187 H188 a187 HS185 H189 a189
        exact ⟨rfl, (HBs53.trans ((HBs159.trans (HS189.below.mono HBs159.size)).mono HBs53.size))⟩
       ·
        refine wl_ <| i_ H165 rfl (dd_cmp rfl (H165.ev 71 rfl) rfl (eq_f hc167)) fun a191 H191 => ln_ <| nx <| cf_ H191 rfl <| wp_skip <| nx <| sq_ <| rl_ <| wl_ <| c_ H191 rfl HSb159 (dcs Tryd.func8 rfl (args0 ) (tabwakes_any W157) (.bool true)) fun W192 HS192 a192 H192 => wl_ <| p_ H192 rfl rfl fun a193 H193 => ln_ <| nx <| wp_ret <| ret_run H193.env0 (res_t Tryd.results4 (H193.get 6 rfl)) <| ?_
        clear H165 a165 H191 a191 HSb159 H192 a192
        exact ⟨rfl, (HBs53.trans ((HBs159.trans (HS192.below.mono HBs159.size)).mono HBs53.size))⟩
     ·
      refine wi_ HS63 [] rfl [] rfl fun HSh194 hx194 => hp_ H66 0 hx194 rfl rfl rfl fun a195 H195 => ht_ H195 1 hx194 rfl rfl (fun _ _ _ => dd_cmp rfl (H195.ev 51 rfl) rfl (eq_t hc48)) fun a196 H196 => hp_ H196 2 hx194 rfl rfl rfl fun a197 H197 => htg H197 3 hx194 rfl (wg_ H197 rfl rfl rfl rfl) rfl (fun _ _ _ => dd_mv rfl (H197.ev 10 rfl)) fun a198 H198 => htg H198 4 hx194 rfl (wg_ H198 rfl rfl rfl rfl) rfl (fun _ _ _ => dd_cmp rfl (H198.ev 54 rfl) rfl (eq_f hc72)) fun a199 H199 => hp_ H199 5 hx194 rfl rfl rfl fun a200 H200 => hp_ H200 6 hx194 rfl rfl rfl fun a201 H201 => ?_
      clear HS63 H66 a65 H195 a195 H196 a196 H197 a197 H198 a198 H199 a199
      refine hk_ H201 7 hx194 rfl (wg_ H201 rfl rfl rfl rfl) rfl fun a202 H202 => hk_ H202 8 hx194 rfl (wg_ H202 rfl rfl rfl rfl) rfl fun a203 H203 => hk_ H203 9 hx194 rfl (wg_ H203 rfl rfl rfl rfl) rfl fun a204 H204 => hk_ H204 10 hx194 rfl (wg_ H204 rfl rfl rfl rfl) rfl fun a205 H205 => hk_ H205 11 hx194 rfl (wg_ H205 rfl rfl rfl rfl) rfl fun a206 H206 => hk_ H206 12 hx194 rfl (wg_ H206 rfl rfl rfl rfl) rfl fun a207 H207 => hk_ H207 13 hx194 rfl (wg_ H207 rfl rfl rfl rfl) rfl fun a208 H208 => hp_ H208 14 hx194 rfl rfl rfl fun a209 H209 => ?_
      clear H200 a200 H201 a201 H202 a202 H203 a203 H204 a204 H205 a205 H206 a206 H207 a207
      clear H208 a208
      refine wpAnyH_done (by kernel_rfl) ?_ _
      clear hx194
      refine nx <| cf_ H209 rfl <| wp_skip <| nx <| sq_ <| rl_ <| wl_ <| i_ H209 rfl (v := .agg (bs qb)) (dd_loadR (HR53_0 _ HSh194.below) rfl (H209.ev 5 rfl) (slab_whole _) Tryd.underlying24 rfl (by rw [show (bs qb).size = 32 from ((size_bs _).trans hqb)]; kernel_rfl)) fun a210 H210 => ?_
      clear H209 a209
      refine wl_ <| d_ H210 rfl (R := fun v w9 => ∃ A212 N212 C212, v = .tuple #[.slice A212 N212 C212, .int .i64 (decE qb)] ∧ ((volL (decLT qb)).length = N212 ∧ N212 ≤ 3) ∧ (OV W63.drew.heap.size w9 (.slice A212 N212 C212) (volL (decLT qb))) ∧ Below W63.drew.heap.size W63.drew w9) (dc_ Tryd.func12 rfl (args1 (H210.ev 67 rfl)) (dect_any qb W63.drew hqb) (fun _ w9 ⟨v9, he, ho, hb⟩ => by obtain ⟨A9, n9, c9, rfl, h1, _⟩ := OV.form2 ho; exact ⟨_, he, A9, n9, c9, rfl, ⟨h1, by rw [← h1, len_volL]; exact (decLT_len _)⟩, ho, hb⟩)) ?_
      rintro _ W211 ⟨A212, N212, C212, rfl, hNd212, hov212, hb211⟩ a211 H211
      have HS211 := HSh194.same hb211
      clear H210 a210
      have HBs213 : Below W51.heap.size W51 W211 := HS211.below
      have HVlr := fun (W9 : World) (hb9 : Below W211.heap.size W211 W9) => HVl W9 (HBs213.trans (hb9.mono HBs213.size))
      clear HVl
      have HVl := HVlr
      clear HVlr
      have HVmr := fun (W9 : World) (hb9 : Below W211.heap.size W211 W9) => HVm W9 (HBs213.trans (hb9.mono HBs213.size))
      clear HVm
      have HVm := HVmr
      clear HVmr
      have HR53_0r := fun (W9 : World) (hb9 : Below W211.heap.size W211 W9) => HR53_0 W9 (HBs213.trans (hb9.mono HBs213.size))
      clear HR53_0
      have HR53_0 := HR53_0r
      clear HR53_0r
      have HR53_1r := fun (W9 : World) (hb9 : Below W211.heap.size W211 W9) => HR53_1 W9 (HBs213.trans (hb9.mono HBs213.size))
      clear HR53_1
      have HR53_1 := HR53_1r
      clear HR53_1r
      have HR53_2r := fun (W9 : World) (hb9 : Below W211.heap.size W211 W9) => HR53_2 W9 (HBs213.trans (hb9.mono HBs213.size))
      clear HR53_2
      have HR53_2 := HR53_2r
      clear HR53_2r
      have HVd52r := fun (W9 : World) (hb9 : Below W211.heap.size W211 W9) => HVd52 W9 (HBs213.trans (hb9.mono HBs213.size))
      clear HVd52
      have HVd52 := HVd52r
      clear HVd52r
      have HSb213 := St.nil W211 noF
      clear HS211
      have HVd212 := fun (W9 : World) (hb9 : Below W211.heap.size W211 W9) => ((hov212.vols (Nat.le_trans (Nat.le_of_eq hNd212.1) (Nat.le_trans hNd212.2 (by decide)))).below hb9 (Nat.le_refl _))
      have hMd212 := decLT_small qb
      clear HSh194 hb211
      refine wl_ <| p_ H211 rfl rfl fun a214 H214 => wl_ <| i_ H214 rfl (dd_ext rfl (H214.ev 66 rfl) rfl) fun a215 H215 => wl_ <| i_ H215 rfl (dd_ext rfl (H215.ev 66 rfl) rfl) fun a216 H216 => q_ H216 2 rfl fun a217 H217 => ln_ <| ?_
      clear H211 a211 H214 a214 H215 a215 H216 a216
      have H218 := H217.sel [5, 13, 14] rfl
      refine nx <| sq_ <| sq_ <| rl_ <| wl_ <| p_ H218 rfl rfl fun a219 H219 => ?_
      clear H217 H218 a217
      by_cases hc221 : (decE qb : Int) = 0
      ·
       refine wl_ <| i_ H219 rfl (dd_cmp rfl (H219.ev 71 rfl) rfl (eq_t hc221)) fun a222 H222 => ln_ <| nx <| ct_ H222 rfl <| sq_ <| rl_ <| wl_ <| p_ H222 rfl rfl fun a223 H223 => wl_ <| c_ H223 rfl HSb213 (v := .tuple #[.agg (bs (encT (decLT qb))), .int .i64 0]) (dc_ Tryd.func10 rfl (args1 (H223.ev 74 rfl)) (enct_any _ _ _ (decLT qb) W211 (HVd212 _ HSb213.below) (Nat.le_trans hNd212.2 (by decide)) (hMd212)) (fun _ w9 h9 => ⟨_, by rw [encE_z.2 (okD_parts (decE_z.1 hc221)).1] at h9; exact h9.1, rfl, h9.2⟩)) fun W224 HS224 a224 H224 => wl_ <| p_ H224 rfl rfl fun a225 H225 => wl_ <| i_ H225 rfl (dd_ext rfl (H225.ev 73 rfl) rfl) fun a226 H226 => wl_ <| i_ H226 rfl (dd_ext rfl (H226.ev 73 rfl) rfl) fun a227 H227 => wl_ <| n_ H227 rfl (fun _ h => dd_new HS224 (bs (zer 32)) rfl (z := .agg (bs (zer 32))) (by kernel_rfl) rfl h) fun g15 W228 HS228 a228 H228 => wl_ <| t_ rfl (fun _ h => dd_setrow HS228 0 rfl rfl (H228.ev 15 rfl) (H228.ev 76 rfl) (by kernel_rfl) (((size_bs _).trans (length_encT _)) : (bs (encT (decLT qb))).size = 32) (((size_bs _).trans (length_zer 32)) : (bs (zer 32)).size = 32) (one_bs _) h) fun W229 HS229 => ?_
       clear H219 a219 H222 a222 H223 a223 HSb213 H224 a224 H225 a225 H226 a226 HS224 H227 a227
       refine wl_ <| p_ H228 rfl rfl fun a230 H230 => ln_ <| nx <| sq_ <| rl_ <| wl_ <| p_ H230 rfl rfl fun a231 H231 => wl_ <| i_ H231 rfl (dd_cmp rfl (H231.ev 78 rfl) rfl (ne_f (by decide))) fun a232 H232 => wl_ <| p_ H232 rfl rfl fun a233 H233 => wl_ <| ig H233 (wg_ H233 rfl rfl rfl rfl) rfl (v := .agg (bs (encT (decLT qb)))) (dd_load HS229 0 0 rfl rfl (H233.ev 15 rfl) (slab_whole _) Tryd.underlying24 rfl (by rw [show (bs (encT (decLT qb))).size = 32 from ((size_bs _).trans (length_encT _))]; kernel_rfl)) fun a234 H234 => wl_ <| ig H234 (wg_ H234 rfl rfl rfl rfl) rfl (v := .agg (bs qb)) (dd_loadR (HR53_0 _ HS229.below) rfl (H234.ev 5 rfl) (slab_whole _) Tryd.underlying24 rfl (by rw [show (bs qb).size = 32 from ((size_bs _).trans hqb)]; kernel_rfl)) fun a235 H235 => wl_ <| ig H235 (wg_ H235 rfl rfl rfl rfl) rfl (v := .bool false) (dd_nea (b := true) rfl (H235.ev 81 rfl) (H235.ev 82 rfl) (by kernel_rfl) (fun w => by have h9 := eql_blk (encT (decLT qb)) qb (length_encT _) hqb w; rw [decide_eq_true (okD_parts (decE_z.1 hc221)).2] at h9; exact h9) rfl) fun a236 H236 => q_ H236 2 rfl fun a237 H237 => ?_
       clear HS228 H228 a228 H230 a230 H231 a231 H232 a232 H233 a233 H234 a234 H235 a235
       refine wl_ <| ig H237 (wg_ H237 rfl rfl rfl rfl) rfl (dd_mv rfl (H237.ev 13 rfl)) fun a238 H238 => wl_ <| cg H238 (wg_ H238 rfl rfl rfl rfl) rfl HS229 (v := .bool true) (dc_ Tryd.func14 rfl (args1 (H238.ev 86 rfl)) (goodt_any _ _ _ (decLT qb) W229 (HVd212 _ HS229.below) (Nat.le_trans hNd212.2 (by decide)) (hMd212)) (fun _ w9 h9 => ⟨_, h9.1, by rw [(okD_parts (decE_z.1 hc221)).1], h9.2⟩)) fun W239 HS239 a239 H239 => wl_ <| ig H239 (wg_ H239 rfl rfl rfl rfl) rfl (v := .bool false) (dd_nt rfl (H239.ev 87 rfl) rfl) fun a240 H240 => wl_ <| p_ H240 rfl rfl fun a241 H241 => ln_ <| ?_
       clear H236 a236 H237 a237 H238 a238 HS229 H239 a239 H240 a240
       have H242 := H241.sel [89] rfl
       refine nx <| cf_ H242 rfl <| wp_skip <| nx <| sq_ <| rl_ <| wl_ <| c_ H242 rfl HS239 (dcs Tryd.func8 rfl (args0 ) (tabwakes_any W239) (.bool true)) fun W243 HS243 a243 H243 => wl_ <| p_ H243 rfl rfl fun a244 H244 => ln_ <| nx <| wp_ret <| ret_run H244.env0 (res_t Tryd.results4 (H244.get 6 rfl)) <| ?_
       clear H241 H242 a241 HS239 H243 a243
       exact ⟨rfl, (HBs53.trans ((HBs213.trans (HS243.below.mono HBs213.size)).mono HBs53.size))⟩
      ·
       refine wl_ <| i_ H219 rfl (dd_cmp rfl (H219.ev 71 rfl) rfl (eq_f hc221)) fun a245 H245 => ln_ <| nx <| cf_ H245 rfl <| wp_skip <| nx <| sq_ <| rl_ <| wl_ <| c_ H245 rfl HSb213 (dcs Tryd.func8 rfl (args0 ) (tabwakes_any W211) (.bool true)) fun W246 HS246 a246 H246 => wl_ <| p_ H246 rfl rfl fun a247 H247 => ln_ <| nx <| wp_ret <| ret_run H247.env0 (res_t Tryd.results4 (H247.get 6 rfl)) <| ?_
       clear H219 a219 H245 a245 HSb213 H246 a246
       exact ⟨rfl, (HBs53.trans ((HBs213.trans (HS246.below.mono HBs213.size)).mono HBs53.size))⟩
    ·
     refine wl_ <| i_ H46 rfl (dd_cmp rfl (H46.ev 36 rfl) rfl (eq_f hc48)) fun a248 H248 => ln_ <| nx <| cf_ H248 rfl <| wp_skip <| nx <| sq_ <| sq_ <| ?_
     clear H46 a46
     refine wi_ HS43 [0, 1, 2] rfl [0, 1, 2] rfl fun HSh249 hx249 => hp_ H248 0 hx249 rfl rfl rfl fun a250 H250 => ht_ H250 1 hx249 rfl rfl (fun _ _ _ => dd_cmp rfl (H250.ev 51 rfl) rfl (eq_f hc48)) fun a251 H251 => hp_ H251 2 hx249 rfl rfl rfl fun a252 H252 => hk_ H252 3 hx249 rfl (wg_ H252 rfl rfl rfl rfl) rfl fun a253 H253 => hk_ H253 4 hx249 rfl (wg_ H253 rfl rfl rfl rfl) rfl fun a254 H254 => hp_ H254 5 hx249 rfl rfl rfl fun a255 H255 => hp_ H255 6 hx249 rfl rfl rfl fun a256 H256 => ?_
     clear HS43 H248 a248 H250 a250 H251 a251 H252 a252 H253 a253 H254 a254
     refine hk_ H256 7 hx249 rfl (wg_ H256 rfl rfl rfl rfl) rfl fun a257 H257 => hk_ H257 8 hx249 rfl (wg_ H257 rfl rfl rfl rfl) rfl fun a258 H258 => hk_ H258 9 hx249 rfl (wg_ H258 rfl rfl rfl rfl) rfl fun a259 H259 => hk_ H259 10 hx249 rfl (wg_ H259 rfl rfl rfl rfl) rfl fun a260 H260 => hk_ H260 11 hx249 rfl (wg_ H260 rfl rfl rfl rfl) rfl fun a261 H261 => hk_ H261 12 hx249 rfl (wg_ H261 rfl rfl rfl rfl) rfl fun a262 H262 => hk_ H262 13 hx249 rfl (wg_ H262 rfl rfl rfl rfl) rfl fun a263 H263 => hp_ H263 14 hx249 rfl rfl rfl fun a264 H264 => ?_
     clear H255 a255 H256 a256 H257 a257 H258 a258 H259 a259 H260 a260 H261 a261 H262 a262
     clear H263 a263
     refine wpAnyH_done (by kernel_rfl) ?_ _
     clear hx249
     refine nx <| cf_ H264 rfl <| wp_skip <| nx <| sq_ <| rl_ <| wl_ <| i_ H264 rfl (v := .agg (bs qb)) (dd_load HSh249 0 0 rfl rfl (H264.ev 5 rfl) (slab_whole _) Tryd.underlying24 rfl (by rw [show (bs qb).size = 32 from ((size_bs _).trans hqb)]; kernel_rfl)) fun a265 H265 => ?_
     clear H264 a264
     refine wl_ <| d_ H265 rfl (R := fun v w9 => ∃ A267 N267 C267, v = .tuple #[.slice A267 N267 C267, .int .i64 (decE qb)] ∧ ((volL (decLT qb)).length = N267 ∧ N267 ≤ 3) ∧ (OV W43.drew.heap.size w9 (.slice A267 N267 C267) (volL (decLT qb))) ∧ Below W43.drew.heap.size W43.drew w9) (dc_ Tryd.func12 rfl (args1 (H265.ev 67 rfl)) (dect_any qb W43.drew hqb) (fun _ w9 ⟨v9, he, ho, hb⟩ => by obtain ⟨A9, n9, c9, rfl, h1, _⟩ := OV.form2 ho; exact ⟨_, he, A9, n9, c9, rfl, ⟨h1, by rw [← h1, len_volL]; exact (decLT_len _)⟩, ho, hb⟩)) ?_
     rintro _ W266 ⟨A267, N267, C267, rfl, hNd267, hov267, hb266⟩ a266 H266
     have HS266 := HSh249.same hb266
     clear H265 a265
     have HBs268 : Below w.heap.size w W266 := HS266.below
     have HVlr := fun (W9 : World) (hb9 : Below W266.heap.size W266 W9) => HVl W9 (HBs268.trans (hb9.mono HBs268.size))
     clear HVl
     have HVl := HVlr
     clear HVlr
     have HVmr := fun (W9 : World) (hb9 : Below W266.heap.size W266 W9) => HVm W9 (HBs268.trans (hb9.mono HBs268.size))
     clear HVm
     have HVm := HVmr
     clear HVmr
     have HR268_0 := fun (W9 : World) (hb9 : Below W266.heap.size W266 W9) => (HS266.row 0 rfl).call hb9
     have HR268_1 := fun (W9 : World) (hb9 : Below W266.heap.size W266 W9) => (HS266.row 1 rfl).call hb9
     have HR268_2 := fun (W9 : World) (hb9 : Below W266.heap.size W266 W9) => (HS266.row 2 rfl).call hb9
     have HSb268 := St.nil W266 noF
     clear HS266
     have HVd267 := fun (W9 : World) (hb9 : Below W266.heap.size W266 W9) => ((hov267.vols (Nat.le_trans (Nat.le_of_eq hNd267.1) (Nat.le_trans hNd267.2 (by decide)))).below hb9 (Nat.le_refl _))
     have hMd267 := decLT_small qb
     clear HSh249 hb266
     refine wl_ <| p_ H266 rfl rfl fun a269 H269 => wl_ <| i_ H269 rfl (dd_ext rfl (H269.ev 66 rfl) rfl) fun a270 H270 => wl_ <| i_ H270 rfl (dd_ext rfl (H270.ev 66 rfl) rfl) fun a271 H271 => q_ H271 2 rfl fun a272 H272 => ln_ <| ?_
     clear H266 a266 H269 a269 H270 a270 H271 a271
     have H273 := H272.sel [5, 13, 14] rfl
     refine nx <| sq_ <| sq_ <| rl_ <| wl_ <| p_ H273 rfl rfl fun a274 H274 => ?_
     clear H272 H273 a272
     by_cases hc276 : (decE qb : Int) = 0
     ·
      refine wl_ <| i_ H274 rfl (dd_cmp rfl (H274.ev 71 rfl) rfl (eq_t hc276)) fun a277 H277 => ln_ <| nx <| ct_ H277 rfl <| sq_ <| rl_ <| wl_ <| p_ H277 rfl rfl fun a278 H278 => wl_ <| c_ H278 rfl HSb268 (v := .tuple #[.agg (bs (encT (decLT qb))), .int .i64 0]) (dc_ Tryd.func10 rfl (args1 (H278.ev 74 rfl)) (enct_any _ _ _ (decLT qb) W266 (HVd267 _ HSb268.below) (Nat.le_trans hNd267.2 (by decide)) (hMd267)) (fun _ w9 h9 => ⟨_, by rw [encE_z.2 (okD_parts (decE_z.1 hc276)).1] at h9; exact h9.1, rfl, h9.2⟩)) fun W279 HS279 a279 H279 => wl_ <| p_ H279 rfl rfl fun a280 H280 => wl_ <| i_ H280 rfl (dd_ext rfl (H280.ev 73 rfl) rfl) fun a281 H281 => wl_ <| i_ H281 rfl (dd_ext rfl (H281.ev 73 rfl) rfl) fun a282 H282 => wl_ <| n_ H282 rfl (fun _ h => dd_new HS279 (bs (zer 32)) rfl (z := .agg (bs (zer 32))) (by kernel_rfl) rfl h) fun g15 W283 HS283 a283 H283 => wl_ <| t_ rfl (fun _ h => dd_setrow HS283 0 rfl rfl (H283.ev 15 rfl) (H283.ev 76 rfl) (by kernel_rfl) (((size_bs _).trans (length_encT _)) : (bs (encT (decLT qb))).size = 32) (((size_bs _).trans (length_zer 32)) : (bs (zer 32)).size = 32) (one_bs _) h) fun W284 HS284 => ?_
      clear H274 a274 H277 a277 H278 a278 HSb268 H279 a279 H280 a280 H281 a281 HS279 H282 a282
      refine wl_ <| p_ H283 rfl rfl fun a285 H285 => ln_ <| nx <| sq_ <| rl_ <| wl_ <| p_ H285 rfl rfl fun a286 H286 => wl_ <| i_ H286 rfl (dd_cmp rfl (H286.ev 78 rfl) rfl (ne_f (by decide))) fun a287 H287 => wl_ <| p_ H287 rfl rfl fun a288 H288 => wl_ <| ig H288 (wg_ H288 rfl rfl rfl rfl) rfl (v := .agg (bs (encT (decLT qb)))) (dd_load HS284 0 0 rfl rfl (H288.ev 15 rfl) (slab_whole _) Tryd.underlying24 rfl (by rw [show (bs (encT (decLT qb))).size = 32 from ((size_bs _).trans (length_encT _))]; kernel_rfl)) fun a289 H289 => wl_ <| ig H289 (wg_ H289 rfl rfl rfl rfl) rfl (v := .agg (bs qb)) (dd_loadR (HR268_0 _ HS284.below) rfl (H289.ev 5 rfl) (slab_whole _) Tryd.underlying24 rfl (by rw [show (bs qb).size = 32 from ((size_bs _).trans hqb)]; kernel_rfl)) fun a290 H290 => wl_ <| ig H290 (wg_ H290 rfl rfl rfl rfl) rfl (v := .bool false) (dd_nea (b := true) rfl (H290.ev 81 rfl) (H290.ev 82 rfl) (by kernel_rfl) (fun w => by have h9 := eql_blk (encT (decLT qb)) qb (length_encT _) hqb w; rw [decide_eq_true (okD_parts (decE_z.1 hc276)).2] at h9; exact h9) rfl) fun a291 H291 => q_ H291 2 rfl fun a292 H292 => ?_
      clear HS283 H283 a283 H285 a285 H286 a286 H287 a287 H288 a288 H289 a289 H290 a290
      refine wl_ <| ig H292 (wg_ H292 rfl rfl rfl rfl) rfl (dd_mv rfl (H292.ev 13 rfl)) fun a293 H293 => wl_ <| cg H293 (wg_ H293 rfl rfl rfl rfl) rfl HS284 (v := .bool true) (dc_ Tryd.func14 rfl (args1 (H293.ev 86 rfl)) (goodt_any _ _ _ (decLT qb) W284 (HVd267 _ HS284.below) (Nat.le_trans hNd267.2 (by decide)) (hMd267)) (fun _ w9 h9 => ⟨_, h9.1, by rw [(okD_parts (decE_z.1 hc276)).1], h9.2⟩)) fun W294 HS294 a294 H294 => wl_ <| ig H294 (wg_ H294 rfl rfl rfl rfl) rfl (v := .bool false) (dd_nt rfl (H294.ev 87 rfl) rfl) fun a295 H295 => wl_ <| p_ H295 rfl rfl fun a296 H296 => ln_ <| ?_
      clear H291 a291 H292 a292 H293 a293 HS284 H294 a294 H295 a295
      have H297 := H296.sel [89] rfl
      refine nx <| cf_ H297 rfl <| wp_skip <| nx <| sq_ <| rl_ <| wl_ <| c_ H297 rfl HS294 (dcs Tryd.func8 rfl (args0 ) (tabwakes_any W294) (.bool true)) fun W298 HS298 a298 H298 => wl_ <| p_ H298 rfl rfl fun a299 H299 => ln_ <| nx <| wp_ret <| ret_run H299.env0 (res_t Tryd.results4 (H299.get 6 rfl)) <| ?_
      clear H296 H297 a296 HS294 H298 a298
      exact ⟨rfl, (HBs268.trans (HS298.below.mono HBs268.size))⟩
     ·
      refine wl_ <| i_ H274 rfl (dd_cmp rfl (H274.ev 71 rfl) rfl (eq_f hc276)) fun a300 H300 => ln_ <| nx <| cf_ H300 rfl <| wp_skip <| nx <| sq_ <| rl_ <| wl_ <| c_ H300 rfl HSb268 (dcs Tryd.func8 rfl (args0 ) (tabwakes_any W266) (.bool true)) fun W301 HS301 a301 H301 => wl_ <| p_ H301 rfl rfl fun a302 H302 => ln_ <| nx <| wp_ret <| ret_run H302.env0 (res_t Tryd.results4 (H302.get 6 rfl)) <| ?_
      clear H274 a274 H300 a300 HSb268 H301 a301
      exact ⟨rfl, (HBs268.trans (HS301.below.mono HBs268.size))⟩
end Go.Proofs.YtpmedgibnnonkaaDoor

/- TableTells, as its tied card: for every slice of volumes, name and block the call returns true and changes nothing that it was handed. Conditions: those of the row (the tables of runes lie as the program's text lays them, which the card ties to the pruned copy). -/
set_option maxRecDepth 4000
namespace Go.Proofs.YtpmedgibnnonkaaDoor.tableTells
open Go Go.ChangeShapes Go.WideShapes Go.ChangeAt Go.RowKit

theorem contract (H : Type) (enc : TypeId × Value → H) (W : World) (base : Nat) (args : Array Value) (ds gs : List (DataW H)) (before : List MemPlace)
    (hval : ∀ (j : Nat) t v, Tryd.f3.params[j]? = some t → args[j]? = some v → Value.okWide Tryd.prog W .any base t v)
    (hW : DataW.Whole enc Tryd.prog Tryd.f3.params.toList Rows.tableTellsSpec.vars false W args.toList ds gs before) (_ : laidMetH Tryd.prog Rows.tableTellsRow.laid W) :
    Calls Tryd.prog 3 args W fun e W' => ∃ v, e = .returned v ∧ Rows.tableTellsSpec.post enc Tryd.prog Tryd.f3 false true false false W args v W' := by
  have hW' := hW
  obtain ⟨p, q, hA0, hV, rfl, _, _⟩ := hW
  have hA : DataW.TrodAll enc Tryd.prog W 0 (fun _ => true) true Tryd.f3.params.toList args.toList ds p := hA0
  rw [Tryd.params3] at hA hval
  obtain ⟨v0, vs0, d0, ds0, p0, q0, hargs, rfl, rfl, h0, r0⟩ := trodAll_cons hA
  obtain ⟨v1, vs1, d1, ds1, p1, q1, rfl, rfl, rfl, h1, r1⟩ := trodAll_cons r0
  obtain ⟨v2, vs2, d2, ds2, p2, q2, rfl, rfl, rfl, h2, r2⟩ := trodAll_cons r1
  obtain ⟨rfl, rfl, rfl⟩ := trodAll_nil r2
  obtain rfl : args = #[v0, v1, v2] := by cases args; simp_all
  obtain ⟨rfl, rfl⟩ := trodVars_none hV
  have hlt0 : ∀ x ∈ p0, x.block < W.heap.size := fun x hx => hW'.lt x (by simp [hx])
  have hlt1 : ∀ x ∈ p1, x.block < W.heap.size := fun x hx => hW'.lt x (by simp [hx])
  have hlt2 : ∀ x ∈ p2, x.block < W.heap.size := fun x hx => hW'.lt x (by simp [hx])
  obtain ⟨A0, n0, c0, l0, rfl, hS0, hm0⟩ := open_vols (hval 0 22 v0 rfl rfl) h0 hlt0
  obtain ⟨q1, rfl, hm1⟩ := open_name (hval 1 9 v1 rfl rfl) h1
  obtain ⟨q2, hq2, rfl⟩ := open_argBytes Tryd.underlying24 Tryd.underlying5 (by kernel_rfl) (by kernel_rfl) (hval 2 24 v2 rfl rfl) h2 hlt2
  refine (tabtells_walk A0 n0 c0 l0 q1 q2 W hS0 hm0 hm1 hq2).mono fun e W' ⟨he, hb⟩ => ?_
  subst he
  exact ⟨_, rfl, [d0, d1, d2], [], _, [], _, [], hW', trodAll_cons_mk (shut_bool Tryd.underlying4 _) trodAll_mk0, trodAll_cons_mk (Below.trod laidOutT (by kernel_rfl) (of_decide_eq_true (by kernel_rfl)) h0 hb hlt0) (trodAll_cons_mk (Below.trod laidOutT (by kernel_rfl) (of_decide_eq_true (by kernel_rfl)) h1 hb hlt1) (trodAll_cons_mk (Below.trod laidOutT (by kernel_rfl) (of_decide_eq_true (by kernel_rfl)) h2 hb hlt2) trodAll_mk0)), rfl, hb.frame _, fun h => by cases h⟩

theorem laid_met (os : Os) : laidMet Tryd.prog Rows.tableTellsRow.laid ((laidWorld os).forCall (fun _ _ => 0) ⟨#[], #[.slice none 0 0, .string ⟨#[]⟩, .agg (bs (zer 32))], []⟩).memory :=
  laidMet_of_run' 8 (by kernel_rfl) (by kernel_rfl)
theorem reads (os : Os) {H : Type} (enc : TypeId × Value → H) : ∃ places, DataW.whole enc Tryd.prog ((laidWorld os).forCall (fun _ _ => 0) ⟨#[], #[.slice none 0 0, .string ⟨#[]⟩, .agg (bs (zer 32))], []⟩).memory Tryd.f3.params.toList Rows.tableTellsSpec.vars false #[(Value.slice none 0 0), (Value.string ⟨#[]⟩), (Value.agg (bs (zer 32)))].toList 8 = some ([.nil, .lit (.string []), .agg (List.replicate 32 (.lit (.int .u8 0)))], [], places) :=
  ⟨[], by kernel_rfl⟩

set_option maxRecDepth 100000 in
theorem lifted (os : Os) (started : os.Started) (H : Type) (enc : TypeId × Value → H) (F : Stop.Interp) :
    ReturnsInHanded {} Tryd.checked os 3 .any ((OpenSpec.ofChange Rows.tableTellsSpec).preRow enc Tryd.prog Tryd.f3 Rows.tableTellsRow.domain false Rows.tableTellsRow.laid) (((OpenSpec.ofChange Rows.tableTellsSpec).at F).post enc Tryd.prog Tryd.f3 false true false false) := by
  obtain ⟨places, hx⟩ := reads os enc
  refine returnsInHanded_of_row (C := Tryd.checked) (s := OpenSpec.ofChange Rows.tableTellsSpec) ownK started (by kernel_rfl) Tryd.func3
    (witness_row_at (enc := enc) (C := Tryd.checked) false (laidWorld os) #[.slice none 0 0, .string ⟨#[]⟩, .agg (bs (zer 32))] rfl (by kernel_rfl) (by kernel_rfl) (by kernel_rfl)
      (OpenSpec.preRow_of_cond 8 hx (by kernel_rfl) (fun k hk => by cases hk) (by kernel_rfl) (laid_met os))) ?_
  intro W base args ds gs before hval hW _ _ _ hL _ _
  exact contract H enc W base args ds gs before hval hW hL

theorem said : Rows.TableTellsSaid :=
  OpenClaim.holds_of_cond 3 Tryd.f3 rfl rfl rfl rfl rfl rfl rfl ⟨rfl, rfl, rfl, rfl, rfl⟩ rfl rfl rfl rfl rfl (by kernel_rfl) Tryd.func3 (by kernel_rfl)
    (of_decide_eq_true (by kernel_rfl)) (by unfold Func.isWrapper; first | (rw [if_pos (by decide +kernel)]; kernel_rfl) | (rw [if_neg (by decide +kernel)]; exact ⟨rfl, rfl⟩))
    (fun os started H enc _ F => by rw [OpenClaim.pre_eq_preRow]; exact lifted os started H enc F)

theorem plain (f : FuncId) (fn : Func) (hf : Tryd.pinned.checked.prog.funcNamed Rows.tableTellsRow.func = some f) (hfn : Tryd.pinned.checked.prog.funcs[f]? = some fn) :
    false = Tryd.pinned.checked.prog.looks [] ∧ ∀ (j : Nat) t, fn.params[j]? = some t → Tryd.pinned.checked.prog.wantsStandIn t = false := by
  obtain rfl : f = 3 := Option.some.inj ((show Tryd.prog.funcNamed Rows.tableTellsRow.func = some 3 by kernel_rfl).symm.trans hf) |>.symm
  obtain rfl : fn = Tryd.f3 := (Option.some.inj (Tryd.func3.symm.trans hfn)).symm
  refine ⟨by kernel_rfl, fun j t ht => ?_⟩
  rw [Tryd.params3] at ht
  have hm : t = 22 ∨ t = 9 ∨ t = 24 := by simpa using Array.mem_of_getElem? ht
  rcases hm with rfl | rfl | rfl
  · exact (show Tryd.prog.wantsStandIn 22 = false by kernel_rfl)
  · exact (show Tryd.prog.wantsStandIn 9 = false by kernel_rfl)
  · exact (show Tryd.prog.wantsStandIn 24 = false by kernel_rfl)

theorem card : Rows.TableTellsCardSaid :=
  Claim7.holds_tied_plain_at .later [] _ _ _ _ said (fun _ h => by cases h) (by kernel_rfl) (fun _ h => by cases h) tableTells_row_tie rfl ⟨rfl, rfl⟩ (by kernel_rfl) rfl plain (by kernel_rfl)
end Go.Proofs.YtpmedgibnnonkaaDoor.tableTells
