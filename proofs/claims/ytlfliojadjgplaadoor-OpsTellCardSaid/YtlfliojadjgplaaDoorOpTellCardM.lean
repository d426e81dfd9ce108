/- OpsTell, as its tied card: for every block as a table, name, number and block the call returns true and changes nothing that it was handed. Conditions: those of the row (the tables of runes lie as the program's text lays them, which the card ties to the pruned copy). -/
import Derived.Test.YtlfliojadjgplaaDoorMAw3
import Derived.Test.YtlfliojadjgplaaDoorMNode0
/- The statement OpsTell: its walk. -/
set_option maxRecDepth 4000
namespace Go.Proofs.YtlfliojadjgplaaDoor
open Go Go.RowKit
theorem volsOf_bnd (qb : List (BitVec 8)) (i : Int) (k : Nat) : 0 ≤ (volsOf (decLT qb) i).getD k 0 ∧ (volsOf (decLT qb) i).getD k 0 < 256 := by
  have key : ∀ x ∈ decLT qb, ∀ y ∈ x.2, 0 ≤ y ∧ y < 256 := fun x hx y hy => by
    unfold decLT decQ at hx
    split at hx
    · obtain ⟨j, _, rfl⟩ := List.mem_map.1 hx
      unfold volQ fromL at hy
      obtain ⟨b, _, rfl⟩ := List.mem_map.1 hy
      exact ⟨bd_lo b, bd_hi b⟩
    · cases hx
  unfold volsOf
  split
  · rename_i x hx
    rw [List.getD_eq_getElem?_getD]
    cases hk : x.2[k]? with
    | none => exact ⟨Int.le_refl _, by decide⟩
    | some y => exact key x (List.mem_of_getElem? hx) y (List.mem_of_getElem? hk)
  · exact ⟨by simp, by simp⟩
theorem write_bnd (qb q : List (BitVec 8)) (x : Int) {d : List (BitVec 8)} (hd : d.length = 32) : ∀ y ∈ writeP (decLT qb) q x d, y.2.length = 32 ∧ -9223372036854775808 ≤ y.1 ∧ y.1 < 9223372036854775808 := fun y hy => by
  unfold writeP at hy
  split at hy
  · rw [List.mem_singleton] at hy
    subst hy
    refine ⟨hd, ?_⟩
    unfold placeI
    have := volsOf_bnd qb (findI q (decLT qb)) x.toNat
    simp only
    split
    · omega
    · split <;> omega
  · cases hy
theorem write_small (l : List Tv) (q : List (BitVec 8)) (x : Int) (d : List (BitVec 8)) : (writeP l q x d).length ≤ 1000000 := by unfold writeP; split <;> simp
theorem make_bnd (l : List Tv) (q : List (BitVec 8)) (n : Int) : ∀ y ∈ makeP l q n, y.2.length = 32 ∧ -9223372036854775808 ≤ y.1 ∧ y.1 < 9223372036854775808 := fun y hy => by
  unfold makeP at hy
  split at hy
  · rcases List.mem_append.1 hy with hy | hy
    · obtain ⟨b, hb, rfl⟩ := List.mem_map.1 hy
      exact ⟨length_zer 32, take_i64 l n b hb⟩
    · rw [List.mem_singleton] at hy
      subst hy
      exact ⟨length_encT _, by show (-9223372036854775808 : Int) ≤ 0; decide, by show (0 : Int) < 9223372036854775808; decide⟩
  · cases hy
theorem make_small (l : List Tv) (q : List (BitVec 8)) (n : Int) : (makeP l q n).length ≤ 1000000 := by
  unfold makeP
  have := takeV_len (usedV (volL l)) n
  split
  · rw [List.length_append, List.length_map]; show (takeV _ _).length + 1 ≤ _; omega
  · simp
theorem gone_bnd (l : List Tv) (q : List (BitVec 8)) : ∀ y ∈ goneP l q, y.2.length = 32 ∧ -9223372036854775808 ≤ y.1 ∧ y.1 < 9223372036854775808 := fun y hy => by
  unfold goneP at hy
  split at hy
  · cases hy
  · rw [List.mem_singleton] at hy
    subst hy
    exact ⟨length_encT _, by show (-9223372036854775808 : Int) ≤ 0; decide, by show (0 : Int) < 9223372036854775808; decide⟩
theorem gone_small (l : List Tv) (q : List (BitVec 8)) : (goneP l q).length ≤ 1000000 := by unfold goneP; split <;> simp
set_option maxHeartbeats 1600000 in
theorem optell_walk (qb q d : List (BitVec 8)) (x : Int) (w : World) (hqb : qb.length = 32) (hq : q.length ≤ maxLen) (hd : d.length = 32) :
    Calls Tryd.prog 3 #[.agg (bs qb), .agg (catA [[.string (strB q)], [.int .i64 x], bytesV d])] w fun e w' => e = .returned (.bool true) ∧ Below w.heap.size w w' := by
  have HS := St.nil w noF
  refine enter_en Tryd.func3 rfl Tryd.ntmps3 (Nat.le_of_ble_eq_true rfl) fun a0 (HA0 : En 133 [(0, .agg (bs qb)), (1, .agg (catA [[.string (strB q)], [.int .i64 x], bytesV d]))] a0) => ?_
  refine sq_ <| rl_ <| wl_ <| n_ HA0 rfl (fun _ h => dd_box HS rfl (HA0.ev 0 rfl) (cs := (bs qb)) rfl h) fun _ _ HS1 _ H1 => wl_ <| n_ H1 rfl (fun _ h => dd_box HS1 rfl (H1.ev 1 rfl) (cs := (catA [[.string (strB q)], [.int .i64 x], bytesV d])) rfl h) fun _ W2 HS2 _ H2 => wl_ <| p_ H2 rfl rfl fun _ H3 => ln_ <| nx <| sq_ <| sq_ <| rl_ <| wl_ <| i_ H3 rfl (xf 0 0 rfl (H3.ev 3 rfl)) fun _ H4 => wl_ <| i_ H4 rfl (dd_get HS2 1 0 rfl rfl (H4.ev 11 rfl) (cat_get (lens_cons rfl (lens_cons rfl (lens_cons (len_bv hd) (lens_nil)))) 0 rfl rfl) Tryd.underlying9 rfl) fun _ H5 => wl_ <| i_ H5 rfl (v := .int .i64 q.length) (dd_lens rfl (H5.ev 12 rfl) Tryd.underlying9 (by rw [strB_size])) fun _ H6 => ?_
  clear HS HA0 HS1 H1 H2 H3 H4 H5
  by_cases hc8 : (100 : Int) < q.length
  ·
   refine wl_ <| i_ H6 rfl (dd_cmp rfl (H6.ev 13 rfl) rfl (gt_t hc8)) fun _ H9 => ln_ <| nx <| ct_ H9 rfl <| sq_ <| rl_ <| wl_ <| c_ H9 rfl HS2 (dcs Tryd.func7 rfl (args0 ) (opwakes_any W2) (.bool true)) fun _ HS10 _ H10 => wl_ <| p_ H10 rfl rfl fun _ H11 => ln_ <| nx <| wp_ret <| tr <| ret_run H11.env0 (res_t Tryd.results3 (H11.get 4 rfl)) <| ?_
   clear H6 H9 HS2 H10
   exact ⟨rfl, HS10.below⟩
  refine wl_ <| i_ H6 rfl (dd_cmp rfl (H6.ev 13 rfl) rfl (gt_f hc8)) fun _ H12 => ln_ <| nx <| cf_ H12 rfl <| wp_skip <| nx <| sq_ <| rl_ <| wl_ <| i_ H12 rfl (v := .agg (bs qb)) (dd_load HS2 0 0 rfl rfl (H12.ev 2 rfl) (slab_whole _) Tryd.underlying23 rfl (by rw [show (bs qb).size = 32 from ((size_bs _).trans hqb)]; kernel_rfl)) fun _ H13 => wl_ <| i_ H13 rfl (xf 0 0 rfl (H13.ev 3 rfl)) fun _ H14 => wl_ <| i_ H14 rfl (dd_get HS2 1 0 rfl rfl (H14.ev 18 rfl) (cat_get (lens_cons rfl (lens_cons rfl (lens_cons (len_bv hd) (lens_nil)))) 0 rfl rfl) Tryd.underlying9 rfl) fun _ H15 => wl_ <| i_ H15 rfl (xf 1 1 rfl (H15.ev 3 rfl)) fun _ H16 => wl_ <| i_ H16 rfl (dd_get HS2 1 1 rfl rfl (H16.ev 20 rfl) (cat_get (lens_cons rfl (lens_cons rfl (lens_cons (len_bv hd) (lens_nil)))) 1 rfl rfl) Tryd.underlying3 rfl) fun _ H17 => wl_ <| c_ H17 rfl HS2 (dcs Tryd.func8 rfl (args3 (H17.ev 17 rfl) (H17.ev 19 rfl) (H17.ev 21 rfl)) (place_any qb q x W2 hqb) (.tuple #[.int .i64 (placeI (decLT qb) q x), .int .i64 (placeE (decLT qb) q x)])) fun W18 HS18 _ H18 => wl_ <| p_ H18 rfl rfl fun _ H19 => ?_
  clear H6 H12 H13 H14 H15 H16 H17 HS2
  refine wl_ <| i_ H19 rfl (v := .int .i64 (placeI (decLT qb) q x)) (dd_ext rfl (H19.ev 16 rfl) rfl) fun _ H20 => wl_ <| i_ H20 rfl (v := .int .i64 (placeE (decLT qb) q x)) (dd_ext rfl (H20.ev 16 rfl) rfl) fun _ H21 => q_ H21 2 rfl fun _ H22 => ln_ <| ?_
  clear H18 H19 H20 H21
  have H23 := H22.sel [2, 3, 5, 6] rfl
  refine nx <| sq_ <| rl_ <| wl_ <| i_ H23 rfl (v := .agg (bs qb)) (dd_load HS18 0 0 rfl rfl (H23.ev 2 rfl) (slab_whole _) Tryd.underlying23 rfl (by rw [show (bs qb).size = 32 from ((size_bs _).trans hqb)]; kernel_rfl)) fun _ H24 => wl_ <| i_ H24 rfl (xf 0 0 rfl (H24.ev 3 rfl)) fun _ H25 => wl_ <| i_ H25 rfl (dd_get HS18 1 0 rfl rfl (H25.ev 27 rfl) (cat_get (lens_cons rfl (lens_cons rfl (lens_cons (len_bv hd) (lens_nil)))) 0 rfl rfl) Tryd.underlying9 rfl) fun _ H26 => wl_ <| i_ H26 rfl (xf 1 1 rfl (H26.ev 3 rfl)) fun _ H27 => wl_ <| i_ H27 rfl (dd_get HS18 1 1 rfl rfl (H27.ev 29 rfl) (cat_get (lens_cons rfl (lens_cons rfl (lens_cons (len_bv hd) (lens_nil)))) 1 rfl rfl) Tryd.underlying3 rfl) fun _ H28 => wl_ <| c_ H28 rfl HS18 (dcs Tryd.func9 rfl (args3 (H28.ev 26 rfl) (H28.ev 28 rfl) (H28.ev 30 rfl)) (rplace_any qb q x W18 hqb) (.tuple #[.int .i64 (placeI (decLT qb) q x), .int .i64 (placeE (decLT qb) q x)])) fun W29 HS29 _ H29 => wl_ <| p_ H29 rfl rfl fun _ H30 => wl_ <| i_ H30 rfl (v := .int .i64 (placeI (decLT qb) q x)) (dd_ext rfl (H30.ev 25 rfl) rfl) fun _ H31 => ?_
  clear H22 H23 H24 H25 H26 H27 H28 HS18 H29
  refine wl_ <| i_ H31 rfl (v := .int .i64 (placeE (decLT qb) q x)) (dd_ext rfl (H31.ev 25 rfl) rfl) fun _ H32 => q_ H32 2 rfl fun _ H33 => ln_ <| nx <| sq_ <| sq_ <| ?_
  clear H30 H31 H32
  refine wi_ HS29 [0, 1] rfl [0, 1] rfl fun HSh34 hx34 => hp_ H33 0 hx34 rfl rfl rfl fun _ H35 => hp_ H35 1 hx34 rfl rfl rfl fun _ H36 => ht_ H36 2 hx34 rfl rfl (fun _ _ _ => dd_cmp rfl (H36.ev 34 rfl) (H36.ev 35 rfl) (ne_f rfl)) fun _ H37 => hp_ H37 3 hx34 rfl rfl rfl fun _ H38 => htg H38 4 hx34 rfl (wg_ H38 rfl rfl rfl rfl) rfl (fun _ _ _ => dd_mv rfl (H38.ev 6 rfl)) fun _ H39 => htg H39 5 hx34 rfl (wg_ H39 rfl rfl rfl rfl) rfl (fun _ _ _ => dd_mv rfl (H39.ev 8 rfl)) fun _ H40 => htg H40 6 hx34 rfl (wg_ H40 rfl rfl rfl rfl) rfl (fun _ _ _ => dd_cmp rfl (H40.ev 38 rfl) (H40.ev 39 rfl) (ne_f rfl)) fun _ H41 => ?_
  clear HS29 H33 H35 H36 H37 H38 H39
  refine hp_ H41 7 hx34 rfl rfl rfl fun _ H42 => hp_ H42 8 hx34 rfl rfl rfl fun _ H43 => htg H43 9 hx34 rfl (wg_ H43 rfl rfl rfl rfl) rfl (v := .agg (bs qb)) (fun _ _ HS9 => dd_load HS9 0 0 rfl rfl (H43.ev 2 rfl) (slab_whole _) Tryd.underlying23 rfl (by rw [show (bs qb).size = 32 from ((size_bs _).trans hqb)]; kernel_rfl)) fun _ H44 => htg H44 11 hx34 rfl (wg_ H44 rfl rfl rfl rfl) rfl (v := .agg (bs qb)) (fun _ _ HS9 => dd_load HS9 0 0 rfl rfl (H44.ev 2 rfl) (slab_whole _) Tryd.underlying23 rfl (by rw [show (bs qb).size = 32 from ((size_bs _).trans hqb)]; kernel_rfl)) fun _ H45 => ?_
  clear H40 H41 H42 H43 H44
  refine h1_ 10 rfl <| dr_ H45 (wg_ H45 rfl rfl rfl rfl) rfl (R := fun v w9 => ∃ A47 N47 C47 Bb47, v = .slice A47 N47 C47 ∧ ((volL (decLT qb)).length = N47 ∧ N47 ≤ 3) ∧ (W29.drew.heap.size ≤ Bb47 ∧ Bb47 ≤ w9.heap.size) ∧ (OV Bb47 w9 (.slice A47 N47 C47) (volL (decLT qb))) ∧ Below W29.drew.heap.size W29.drew w9) (dc_ Tryd.func11 rfl (args1 (H45.ev 43 rfl)) (volumes_any qb W29.drew hqb) (fun _ w9 ⟨v9, B9, he, h4, h5, ho, hb⟩ => by obtain ⟨A9, n9, c9, rfl, h1, _⟩ := OV.form2 ho; exact ⟨_, he, A9, n9, c9, B9, rfl, ⟨h1, by rw [← h1, len_volL]; exact decLT_len _⟩, ⟨h4, h5⟩, ho, hb⟩)) ?_
  rintro _ W46 ⟨A47, N47, C47, Bb47, rfl, hNd47, hBb47, hov47, hb46⟩ a46 H46
  have HS46 := HSh34.same hb46
  clear H45
  clear HSh34 hb46
  refine sx_ (sxi HS46 [0, 1] rfl) fun hx48 => ?_
  clear hx34
  refine h1_ 12 rfl <| dr_ H46 (wg_ H46 rfl rfl rfl rfl) rfl (R := fun v w9 => ∃ A50 N50 C50 Bb50, v = .slice A50 N50 C50 ∧ ((volL (decLT qb)).length = N50 ∧ N50 ≤ 3) ∧ (W46.heap.size ≤ Bb50 ∧ Bb50 ≤ w9.heap.size) ∧ (OV Bb50 w9 (.slice A50 N50 C50) (volL (decLT qb))) ∧ Below W46.heap.size W46 w9) (dc_ Tryd.func12 rfl (args1 (H46.ev 45 rfl)) (rvolumes_any qb W46 hqb) (fun _ w9 ⟨v9, B9, he, h4, h5, ho, hb⟩ => by obtain ⟨A9, n9, c9, rfl, h1, _⟩ := OV.form2 ho; exact ⟨_, he, A9, n9, c9, B9, rfl, ⟨h1, by rw [← h1, len_volL]; exact decLT_len _⟩, ⟨h4, h5⟩, ho, hb⟩)) ?_
  rintro _ W49 ⟨A50, N50, C50, Bb50, rfl, hNd50, hBb50, hov50, hb49⟩ a49 H49
  have HS49 := HS46.same hb49
  clear H46
  have hov47_50 := hov47.call hb49 hBb47.2
  clear HS46 hb49
  refine sx_ (sxi HS49 [0, 1] rfl) fun hx51 => h1_ 13 rfl <| cg H49 (wg_ H49 rfl rfl rfl rfl) rfl HS49 (v := .bool true) (dc_ Tryd.func10 rfl (args2 (H49.ev 44 rfl) (H49.ev 46 rfl)) (keepvols_any (volL (decLT qb)) (volL (decLT qb)) _ _ _ _ _ _ W49 (hov47_50.vols (Nat.le_trans (Nat.le_of_eq hNd47.1) (Nat.le_trans hNd47.2 (by decide)))) (hov50.vols (Nat.le_trans (Nat.le_of_eq hNd50.1) (Nat.le_trans hNd50.2 (by decide)))) (Nat.le_trans hNd47.2 (by decide)) (Nat.le_trans hNd50.2 (by decide)) (vols_lenB (decLT_small qb))) (fun _ w9 h9 => ⟨_, h9.1, by rw [decide_eq_true rfl], h9.2⟩)) fun W52 HS52 _ H52 => sx_ (sxi HS52 [0, 1] rfl) fun hx53 => htg H52 14 hx53 rfl (wg_ H52 rfl rfl rfl rfl) rfl (v := .bool false) (fun _ _ _ => dd_nt rfl (H52.ev 47 rfl) rfl) fun _ H54 => hp_ H54 15 hx53 rfl rfl rfl fun _ H55 => ?_
  clear hx48 H49 HS49 hx51 H52 H54
  refine wpAnyH_done (by kernel_rfl) ?_ _
  clear hx53
  refine nx <| cf_ H55 rfl <| wp_skip <| nx <| sq_ <| rl_ <| wl_ <| i_ H55 rfl (v := .agg (bs qb)) (dd_load HS52 0 0 rfl rfl (H55.ev 2 rfl) (slab_whole _) Tryd.underlying23 rfl (by rw [show (bs qb).size = 32 from ((size_bs _).trans hqb)]; kernel_rfl)) fun _ H56 => wl_ <| i_ H56 rfl (xf 0 0 rfl (H56.ev 3 rfl)) fun _ H57 => wl_ <| i_ H57 rfl (dd_get HS52 1 0 rfl rfl (H57.ev 52 rfl) (cat_get (lens_cons rfl (lens_cons rfl (lens_cons (len_bv hd) (lens_nil)))) 0 rfl rfl) Tryd.underlying9 rfl) fun _ H58 => wl_ <| i_ H58 rfl (xf 1 1 rfl (H58.ev 3 rfl)) fun _ H59 => wl_ <| i_ H59 rfl (dd_get HS52 1 1 rfl rfl (H59.ev 54 rfl) (cat_get (lens_cons rfl (lens_cons rfl (lens_cons (len_bv hd) (lens_nil)))) 1 rfl rfl) Tryd.underlying3 rfl) fun _ H60 => wl_ <| i_ H60 rfl (xf 2 2 rfl (H60.ev 3 rfl)) fun _ H61 => wl_ <| i_ H61 rfl (v := .agg (bs d)) (dd_load HS52 1 2 rfl rfl (H61.ev 56 rfl) (cat_slab1 (lens_cons rfl (lens_cons rfl (lens_cons (len_bv hd) (lens_nil)))) 2 rfl rfl) Tryd.underlying23 rfl (by rw [show (bs d).size = 32 from ((size_bs _).trans hd)]; kernel_rfl)) fun _ H62 => ?_
  clear H55 H56 H57 H58 H59 H60 H61
  refine wl_ <| d_ H62 rfl (R := fun v w9 => ∃ vp64, v = .tuple #[vp64, .int .i64 (placeE (decLT qb) q x)] ∧ (PutsAt w9 vp64 (writeP (decLT qb) q x d)) ∧ Below W52.heap.size W52 w9) (dc_ Tryd.func13 rfl (args4 (H62.ev 51 rfl) (H62.ev 53 rfl) (H62.ev 55 rfl) (H62.ev 57 rfl)) (write_any qb q d x W52 hqb hd) (fun _ w9 ⟨v9, he, ho, hb⟩ => ⟨_, he, v9, rfl, puts_own ho (write_bnd qb q x hd), hb⟩)) ?_
  rintro _ W63 ⟨vp64, rfl, hp64, hb63⟩ a63 H63
  have HS63 := HS52.same hb63
  clear H62
  have HBs65 : Below w.heap.size w W63 := HS63.below
  have HR65_0 := fun (W9 : World) (hb9 : Below W63.heap.size W63 W9) => (HS63.row 0 rfl).call hb9
  have HR65_1 := fun (W9 : World) (hb9 : Below W63.heap.size W63 W9) => (HS63.row 1 rfl).call hb9
  have HSb65 := St.nil W63 noF
  clear HS63
  have HP64 := fun (W9 : World) (hb9 : Below W63.heap.size W63 W9) => hp64.below hb9 (Nat.le_refl _)
  clear HS52 hb63
  refine wl_ <| p_ H63 rfl rfl fun _ H66 => wl_ <| i_ H66 rfl (v := vp64) (dd_ext rfl (H66.ev 50 rfl) rfl) fun _ H67 => wl_ <| i_ H67 rfl (v := .int .i64 (placeE (decLT qb) q x)) (dd_ext rfl (H67.ev 50 rfl) rfl) fun _ H68 => q_ H68 2 rfl fun _ H69 => ln_ <| ?_
  clear H63 H66 H67 H68
  have H70 := H69.sel [2, 3, 9, 6] rfl
  refine nx <| sq_ <| rl_ <| wl_ <| i_ H70 rfl (v := .agg (bs qb)) (dd_loadR (HR65_0 _ HSb65.below) rfl (H70.ev 2 rfl) (slab_whole _) Tryd.underlying23 rfl (by rw [show (bs qb).size = 32 from ((size_bs _).trans hqb)]; kernel_rfl)) fun _ H71 => wl_ <| i_ H71 rfl (xf 0 0 rfl (H71.ev 3 rfl)) fun _ H72 => wl_ <| i_ H72 rfl (dd_getR (HR65_1 _ HSb65.below) rfl (H72.ev 63 rfl) (cat_get (lens_cons rfl (lens_cons rfl (lens_cons (len_bv hd) (lens_nil)))) 0 rfl rfl) Tryd.underlying9 rfl) fun _ H73 => wl_ <| i_ H73 rfl (xf 1 1 rfl (H73.ev 3 rfl)) fun _ H74 => wl_ <| i_ H74 rfl (dd_getR (HR65_1 _ HSb65.below) rfl (H74.ev 65 rfl) (cat_get (lens_cons rfl (lens_cons rfl (lens_cons (len_bv hd) (lens_nil)))) 1 rfl rfl) Tryd.underlying3 rfl) fun _ H75 => wl_ <| i_ H75 rfl (xf 2 2 rfl (H75.ev 3 rfl)) fun _ H76 => wl_ <| i_ H76 rfl (v := .agg (bs d)) (dd_loadR (HR65_1 _ HSb65.below) rfl (H76.ev 67 rfl) (cat_slab1 (lens_cons rfl (lens_cons rfl (lens_cons (len_bv hd) (lens_nil)))) 2 rfl rfl) Tryd.underlying23 rfl (by rw [show (bs d).size = 32 from ((size_bs _).trans hd)]; kernel_rfl)) fun _ H77 => ?_
  clear H69 H70 H71 H72 H73 H74 H75 H76
  refine wl_ <| d_ H77 rfl (R := fun v w9 => ∃ vp79, v = .tuple #[vp79, .int .i64 (placeE (decLT qb) q x)] ∧ (PutsAt w9 vp79 (writeP (decLT qb) q x d)) ∧ Below W63.heap.size W63 w9) (dc_ Tryd.func14 rfl (args4 (H77.ev 62 rfl) (H77.ev 64 rfl) (H77.ev 66 rfl) (H77.ev 68 rfl)) (rwrite_any qb q d x W63 hqb hd) (fun _ w9 ⟨v9, he, ho, hb⟩ => ⟨_, he, v9, rfl, puts_own ho (write_bnd qb q x hd), hb⟩)) ?_
  rintro _ W78 ⟨vp79, rfl, hp79, hb78⟩ a78 H78
  have HS78 := HSb65.same hb78
  clear H77
  have HBs80 : Below W63.heap.size W63 W78 := HS78.below
  have HR65_0r := fun (W9 : World) (hb9 : Below W78.heap.size W78 W9) => HR65_0 W9 (HBs80.trans (hb9.mono HBs80.size))
  clear HR65_0
  have HR65_0 := HR65_0r
  clear HR65_0r
  have HR65_1r := fun (W9 : World) (hb9 : Below W78.heap.size W78 W9) => HR65_1 W9 (HBs80.trans (hb9.mono HBs80.size))
  clear HR65_1
  have HR65_1 := HR65_1r
  clear HR65_1r
  have HP64r := fun (W9 : World) (hb9 : Below W78.heap.size W78 W9) => HP64 W9 (HBs80.trans (hb9.mono HBs80.size))
  clear HP64
  have HP64 := HP64r
  clear HP64r
  have HSb80 := St.nil W78 noF
  clear HS78
  have HP79 := fun (W9 : World) (hb9 : Below W78.heap.size W78 W9) => hp79.below hb9 (Nat.le_refl _)
  clear HSb65 hb78
  refine wl_ <| p_ H78 rfl rfl fun _ H81 => wl_ <| i_ H81 rfl (v := vp79) (dd_ext rfl (H81.ev 61 rfl) rfl) fun _ H82 => wl_ <| i_ H82 rfl (v := .int .i64 (placeE (decLT qb) q x)) (dd_ext rfl (H82.ev 61 rfl) rfl) fun _ H83 => q_ H83 2 rfl fun _ H84 => ln_ <| nx <| sq_ <| sq_ <| rl_ <| q_ H84 2 rfl fun _ H85 => wl_ <| c_ H85 rfl HSb80 (v := .bool true) (dc_ Tryd.func15 rfl (args2 (H85.ev 72 rfl) (H85.ev 73 rfl)) (keepputs_any (writeP (decLT qb) q x d) (writeP (decLT qb) q x d) _ _ W78 (HP64 _ HSb80.below) (HP79 _ HSb80.below) (write_small _ _ _ _)) (fun _ w9 h9 => ⟨_, h9.1, by rw [decide_eq_true rfl], h9.2⟩)) fun W86 HS86 _ H86 => wl_ <| i_ H86 rfl (v := .bool false) (dd_nt rfl (H86.ev 74 rfl) rfl) fun _ H87 => wl_ <| p_ H87 rfl rfl fun _ H88 => ?_
  clear H78 H81 H82 H83 H84 H85 HSb80 H86
  refine wl_ <| ig H88 (wg_ H88 rfl rfl rfl rfl) rfl (dd_mv rfl (H88.ev 6 rfl)) fun _ H89 => wl_ <| ig H89 (wg_ H89 rfl rfl rfl rfl) rfl (dd_mv rfl (H89.ev 8 rfl)) fun _ H90 => wl_ <| ig H90 (wg_ H90 rfl rfl rfl rfl) rfl (dd_cmp rfl (H90.ev 77 rfl) (H90.ev 78 rfl) (ne_f rfl)) fun _ H91 => wl_ <| p_ H91 rfl rfl fun _ H92 => ln_ <| ?_
  clear H87 H88 H89 H90 H91
  have H93 := H92.sel [2, 3, 80] rfl
  refine nx <| cf_ H93 rfl <| wp_skip <| nx <| sq_ <| rl_ <| wl_ <| i_ H93 rfl (v := .agg (bs qb)) (dd_loadR (HR65_0 _ HS86.below) rfl (H93.ev 2 rfl) (slab_whole _) Tryd.underlying23 rfl (by rw [show (bs qb).size = 32 from ((size_bs _).trans hqb)]; kernel_rfl)) fun _ H94 => wl_ <| i_ H94 rfl (xf 0 0 rfl (H94.ev 3 rfl)) fun _ H95 => wl_ <| i_ H95 rfl (dd_getR (HR65_1 _ HS86.below) rfl (H95.ev 83 rfl) (cat_get (lens_cons rfl (lens_cons rfl (lens_cons (len_bv hd) (lens_nil)))) 0 rfl rfl) Tryd.underlying9 rfl) fun _ H96 => wl_ <| i_ H96 rfl (xf 1 1 rfl (H96.ev 3 rfl)) fun _ H97 => wl_ <| i_ H97 rfl (dd_getR (HR65_1 _ HS86.below) rfl (H97.ev 85 rfl) (cat_get (lens_cons rfl (lens_cons rfl (lens_cons (len_bv hd) (lens_nil)))) 1 rfl rfl) Tryd.underlying3 rfl) fun _ H98 => ?_
  clear H92 H93 H94 H95 H96 H97
  refine wl_ <| d_ H98 rfl (R := fun v w9 => ∃ vp100, v = .tuple #[vp100, .int .i64 (makeE (decLT qb) q x)] ∧ (PutsAt w9 vp100 (makeP (decLT qb) q x)) ∧ Below W86.heap.size W86 w9) (dc_ Tryd.func16 rfl (args3 (H98.ev 82 rfl) (H98.ev 84 rfl) (H98.ev 86 rfl)) (make_any qb q x W86 hqb hq) (fun _ w9 ⟨v9, he, ho, hb⟩ => ⟨_, he, v9, rfl, puts_own ho (make_bnd _ _ _), hb⟩)) ?_
  rintro _ W99 ⟨vp100, rfl, hp100, hb99⟩ a99 H99
  have HS99 := HS86.same hb99
  clear H98
  have HBs101 : Below W78.heap.size W78 W99 := HS99.below
  have HR65_0r := fun (W9 : World) (hb9 : Below W99.heap.size W99 W9) => HR65_0 W9 (HBs101.trans (hb9.mono HBs101.size))
  clear HR65_0
  have HR65_0 := HR65_0r
  clear HR65_0r
  have HR65_1r := fun (W9 : World) (hb9 : Below W99.heap.size W99 W9) => HR65_1 W9 (HBs101.trans (hb9.mono HBs101.size))
  clear HR65_1
  have HR65_1 := HR65_1r
  clear HR65_1r
  have HP64r := fun (W9 : World) (hb9 : Below W99.heap.size W99 W9) => HP64 W9 (HBs101.trans (hb9.mono HBs101.size))
  clear HP64
  have HP64 := HP64r
  clear HP64r
  have HP79r := fun (W9 : World) (hb9 : Below W99.heap.size W99 W9) => HP79 W9 (HBs101.trans (hb9.mono HBs101.size))
  clear HP79
  have HP79 := HP79r
  clear HP79r
  have HSb101 := St.nil W99 noF
  clear HS99
  have HP100 := fun (W9 : World) (hb9 : Below W99.heap.size W99 W9) => hp100.below hb9 (Nat.le_refl _)
  clear HS86 hb99
  refine wl_ <| p_ H99 rfl rfl fun _ H102 => wl_ <| i_ H102 rfl (v := vp100) (dd_ext rfl (H102.ev 81 rfl) rfl) fun _ H103 => wl_ <| i_ H103 rfl (v := .int .i64 (makeE (decLT qb) q x)) (dd_ext rfl (H103.ev 81 rfl) rfl) fun _ H104 => q_ H104 2 rfl fun _ H105 => ln_ <| nx <| sq_ <| rl_ <| wl_ <| i_ H105 rfl (v := .agg (bs qb)) (dd_loadR (HR65_0 _ HSb101.below) rfl (H105.ev 2 rfl) (slab_whole _) Tryd.underlying23 rfl (by rw [show (bs qb).size = 32 from ((size_bs _).trans hqb)]; kernel_rfl)) fun _ H106 => wl_ <| i_ H106 rfl (xf 0 0 rfl (H106.ev 3 rfl)) fun _ H107 => wl_ <| i_ H107 rfl (dd_getR (HR65_1 _ HSb101.below) rfl (H107.ev 92 rfl) (cat_get (lens_cons rfl (lens_cons rfl (lens_cons (len_bv hd) (lens_nil)))) 0 rfl rfl) Tryd.underlying9 rfl) fun _ H108 => wl_ <| i_ H108 rfl (xf 1 1 rfl (H108.ev 3 rfl)) fun _ H109 => ?_
  clear H99 H102 H103 H104 H105 H106 H107
  refine wl_ <| i_ H109 rfl (dd_getR (HR65_1 _ HSb101.below) rfl (H109.ev 94 rfl) (cat_get (lens_cons rfl (lens_cons rfl (lens_cons (len_bv hd) (lens_nil)))) 1 rfl rfl) Tryd.underlying3 rfl) fun _ H110 => ?_
  clear H108 H109
  refine wl_ <| d_ H110 rfl (R := fun v w9 => ∃ vp112, v = .tuple #[vp112, .int .i64 (makeE (decLT qb) q x)] ∧ (PutsAt w9 vp112 (makeP (decLT qb) q x)) ∧ Below W99.heap.size W99 w9) (dc_ Tryd.func17 rfl (args3 (H110.ev 91 rfl) (H110.ev 93 rfl) (H110.ev 95 rfl)) (rmake_any qb q x W99 hqb hq) (fun _ w9 ⟨v9, he, ho, hb⟩ => ⟨_, he, v9, rfl, puts_own ho (make_bnd _ _ _), hb⟩)) ?_
  rintro _ W111 ⟨vp112, rfl, hp112, hb111⟩ a111 H111
  have HS111 := HSb101.same hb111
  clear H110
  have HBs113 : Below W99.heap.size W99 W111 := HS111.below
  have HR65_0r := fun (W9 : World) (hb9 : Below W111.heap.size W111 W9) => HR65_0 W9 (HBs113.trans (hb9.mono HBs113.size))
  clear HR65_0
  have HR65_0 := HR65_0r
  clear HR65_0r
  have HR65_1r := fun (W9 : World) (hb9 : Below W111.heap.size W111 W9) => HR65_1 W9 (HBs113.trans (hb9.mono HBs113.size))
  clear HR65_1
  have HR65_1 := HR65_1r
  clear HR65_1r
  have HP64r := fun (W9 : World) (hb9 : Below W111.heap.size W111 W9) => HP64 W9 (HBs113.trans (hb9.mono HBs113.size))
  clear HP64
  have HP64 := HP64r
  clear HP64r
  have HP79r := fun (W9 : World) (hb9 : Below W111.heap.size W111 W9) => HP79 W9 (HBs113.trans (hb9.mono HBs113.size))
  clear HP79
  have HP79 := HP79r
  clear HP79r
  have HP100r := fun (W9 : World) (hb9 : Below W111.heap.size W111 W9) => HP100 W9 (HBs113.trans (hb9.mono HBs113.size))
  clear HP100
  have HP100 := HP100r
  clear HP100r
  have HSb113 := St.nil W111 noF
  clear HS111
  have HP112 := fun (W9 : World) (hb9 : Below W111.heap.size W111 W9) => hp112.below hb9 (Nat.le_refl _)
  clear HSb101 hb111
  refine wl_ <| p_ H111 rfl rfl fun _ H114 => wl_ <| i_ H114 rfl (v := vp112) (dd_ext rfl (H114.ev 90 rfl) rfl) fun _ H115 => wl_ <| i_ H115 rfl (v := .int .i64 (makeE (decLT qb) q x)) (dd_ext rfl (H115.ev 90 rfl) rfl) fun _ H116 => q_ H116 2 rfl fun _ H117 => ln_ <| ?_
  clear H111 H114 H115 H116
  have H118 := H117.sel [2, 3, 9, 6, 10, 8] rfl
  refine nx <| sq_ <| sq_ <| rl_ <| q_ H118 2 rfl fun _ H119 => wl_ <| c_ H119 rfl HSb113 (v := .bool true) (dc_ Tryd.func15 rfl (args2 (H119.ev 99 rfl) (H119.ev 100 rfl)) (keepputs_any (makeP (decLT qb) q x) (makeP (decLT qb) q x) _ _ W111 (HP100 _ HSb113.below) (HP112 _ HSb113.below) (make_small _ _ _)) (fun _ w9 h9 => ⟨_, h9.1, by rw [decide_eq_true rfl], h9.2⟩)) fun W120 HS120 _ H120 => wl_ <| i_ H120 rfl (v := .bool false) (dd_nt rfl (H120.ev 101 rfl) rfl) fun _ H121 => wl_ <| p_ H121 rfl rfl fun _ H122 => wl_ <| ig H122 (wg_ H122 rfl rfl rfl rfl) rfl (dd_mv rfl (H122.ev 6 rfl)) fun _ H123 => wl_ <| ig H123 (wg_ H123 rfl rfl rfl rfl) rfl (dd_mv rfl (H123.ev 8 rfl)) fun _ H124 => wl_ <| ig H124 (wg_ H124 rfl rfl rfl rfl) rfl (dd_cmp rfl (H124.ev 104 rfl) (H124.ev 105 rfl) (ne_f rfl)) fun _ H125 => wl_ <| p_ H125 rfl rfl fun _ H126 => ?_
  clear H117 H118 H119 HSb113 H120 H121 H122 H123 H124
  refine ln_ <| nx <| cf_ H126 rfl <| wp_skip <| nx <| sq_ <| rl_ <| wl_ <| i_ H126 rfl (v := .agg (bs qb)) (dd_loadR (HR65_0 _ HS120.below) rfl (H126.ev 2 rfl) (slab_whole _) Tryd.underlying23 rfl (by rw [show (bs qb).size = 32 from ((size_bs _).trans hqb)]; kernel_rfl)) fun _ H127 => wl_ <| i_ H127 rfl (xf 0 0 rfl (H127.ev 3 rfl)) fun _ H128 => wl_ <| i_ H128 rfl (dd_getR (HR65_1 _ HS120.below) rfl (H128.ev 110 rfl) (cat_get (lens_cons rfl (lens_cons rfl (lens_cons (len_bv hd) (lens_nil)))) 0 rfl rfl) Tryd.underlying9 rfl) fun _ H129 => ?_
  clear H125 H126 H127 H128
  refine wl_ <| d_ H129 rfl (R := fun v w9 => ∃ vp131, v = .tuple #[vp131, .int .i64 (goneE (decLT qb) q)] ∧ (PutsAt w9 vp131 (goneP (decLT qb) q)) ∧ Below W120.heap.size W120 w9) (dc_ Tryd.func18 rfl (args2 (H129.ev 109 rfl) (H129.ev 111 rfl)) (gone_any qb q W120 hqb) (fun _ w9 ⟨v9, he, ho, hb⟩ => ⟨_, he, v9, rfl, puts_own ho (gone_bnd _ _), hb⟩)) ?_
  rintro _ W130 ⟨vp131, rfl, hp131, hb130⟩ a130 H130
  have HS130 := HS120.same hb130
  clear H129
  have HBs132 : Below W111.heap.size W111 W130 := HS130.below
  have HR65_0r := fun (W9 : World) (hb9 : Below W130.heap.size W130 W9) => HR65_0 W9 (HBs132.trans (hb9.mono HBs132.size))
  clear HR65_0
  have HR65_0 := HR65_0r
  clear HR65_0r
  have HR65_1r := fun (W9 : World) (hb9 : Below W130.heap.size W130 W9) => HR65_1 W9 (HBs132.trans (hb9.mono HBs132.size))
  clear HR65_1
  have HR65_1 := HR65_1r
  clear HR65_1r
  have HP64r := fun (W9 : World) (hb9 : Below W130.heap.size W130 W9) => HP64 W9 (HBs132.trans (hb9.mono HBs132.size))
  clear HP64
  have HP64 := HP64r
  clear HP64r
  have HP79r := fun (W9 : World) (hb9 : Below W130.heap.size W130 W9) => HP79 W9 (HBs132.trans (hb9.mono HBs132.size))
  clear HP79
  have HP79 := HP79r
  clear HP79r
  have HP100r := fun (W9 : World) (hb9 : Below W130.heap.size W130 W9) => HP100 W9 (HBs132.trans (hb9.mono HBs132.size))
  clear HP100
  have HP100 := HP100r
  clear HP100r
  have HP112r := fun (W9 : World) (hb9 : Below W130.heap.size W130 W9) => HP112 W9 (HBs132.trans (hb9.mono HBs132.size))
  clear HP112
  have HP112 := HP112r
  clear HP112r
  have HSb132 := St.nil W130 noF
  clear HS130
  have HP131 := fun (W9 : World) (hb9 : Below W130.heap.size W130 W9) => hp131.below hb9 (Nat.le_refl _)
  clear HS120 hb130
  refine wl_ <| p_ H130 rfl rfl fun _ H133 => wl_ <| i_ H133 rfl (v := vp131) (dd_ext rfl (H133.ev 108 rfl) rfl) fun _ H134 => wl_ <| i_ H134 rfl (v := .int .i64 (goneE (decLT qb) q)) (dd_ext rfl (H134.ev 108 rfl) rfl) fun _ H135 => q_ H135 2 rfl fun _ H136 => ln_ <| ?_
  clear H130 H133 H134 H135
  have H137 := H136.sel [2, 3, 9, 6] rfl
  refine nx <| sq_ <| rl_ <| wl_ <| i_ H137 rfl (v := .agg (bs qb)) (dd_loadR (HR65_0 _ HSb132.below) rfl (H137.ev 2 rfl) (slab_whole _) Tryd.underlying23 rfl (by rw [show (bs qb).size = 32 from ((size_bs _).trans hqb)]; kernel_rfl)) fun _ H138 => wl_ <| i_ H138 rfl (xf 0 0 rfl (H138.ev 3 rfl)) fun _ H139 => wl_ <| i_ H139 rfl (dd_getR (HR65_1 _ HSb132.below) rfl (H139.ev 117 rfl) (cat_get (lens_cons rfl (lens_cons rfl (lens_cons (len_bv hd) (lens_nil)))) 0 rfl rfl) Tryd.underlying9 rfl) fun _ H140 => ?_
  clear H136 H137 H138 H139
  refine wl_ <| d_ H140 rfl (R := fun v w9 => ∃ vp142, v = .tuple #[vp142, .int .i64 (goneE (decLT qb) q)] ∧ (PutsAt w9 vp142 (goneP (decLT qb) q)) ∧ Below W130.heap.size W130 w9) (dc_ Tryd.func19 rfl (args2 (H140.ev 116 rfl) (H140.ev 118 rfl)) (rgone_any qb q W130 hqb) (fun _ w9 ⟨v9, he, ho, hb⟩ => ⟨_, he, v9, rfl, puts_own ho (gone_bnd _ _), hb⟩)) ?_
  rintro _ W141 ⟨vp142, rfl, hp142, hb141⟩ a141 H141
  have HS141 := HSb132.same hb141
  clear H140
  have HBs143 : Below W130.heap.size W130 W141 := HS141.below
  have HR65_0r := fun (W9 : World) (hb9 : Below W141.heap.size W141 W9) => HR65_0 W9 (HBs143.trans (hb9.mono HBs143.size))
  clear HR65_0
  have HR65_0 := HR65_0r
  clear HR65_0r
  have HR65_1r := fun (W9 : World) (hb9 : Below W141.heap.size W141 W9) => HR65_1 W9 (HBs143.trans (hb9.mono HBs143.size))
  clear HR65_1
  have HR65_1 := HR65_1r
  clear HR65_1r
  have HP64r := fun (W9 : World) (hb9 : Below W141.heap.size W141 W9) => HP64 W9 (HBs143.trans (hb9.mono HBs143.size))
  clear HP64
  have HP64 := HP64r
  clear HP64r
  have HP79r := fun (W9 : World) (hb9 : Below W141.heap.size W141 W9) => HP79 W9 (HBs143.trans (hb9.mono HBs143.size))
  clear HP79
  have HP79 := HP79r
  clear HP79r
  have HP100r := fun (W9 : World) (hb9 : Below W141.heap.size W141 W9) => HP100 W9 (HBs143.trans (hb9.mono HBs143.size))
  clear HP100
  have HP100 := HP100r
  clear HP100r
  have HP112r := fun (W9 : World) (hb9 : Below W141.heap.size W141 W9) => HP112 W9 (HBs143.trans (hb9.mono HBs143.size))
  clear HP112
  have HP112 := HP112r
  clear HP112r
  have HP131r := fun (W9 : World) (hb9 : Below W141.heap.size W141 W9) => HP131 W9 (HBs143.trans (hb9.mono HBs143.size))
  clear HP131
  have HP131 := HP131r
  clear HP131r
  have HSb143 := St.nil W141 noF
  clear HS141
  have HP142 := fun (W9 : World) (hb9 : Below W141.heap.size W141 W9) => hp142.below hb9 (Nat.le_refl _)
  clear HSb132 hb141
  refine wl_ <| p_ H141 rfl rfl fun _ H144 => wl_ <| i_ H144 rfl (v := vp142) (dd_ext rfl (H144.ev 115 rfl) rfl) fun _ H145 => wl_ <| i_ H145 rfl (v := .int .i64 (goneE (decLT qb) q)) (dd_ext rfl (H145.ev 115 rfl) rfl) fun _ H146 => q_ H146 2 rfl fun _ H147 => ln_ <| nx <| sq_ <| rl_ <| q_ H147 2 rfl fun _ H148 => wl_ <| c_ H148 rfl HSb143 (v := .bool true) (dc_ Tryd.func15 rfl (args2 (H148.ev 122 rfl) (H148.ev 123 rfl)) (keepputs_any (goneP (decLT qb) q) (goneP (decLT qb) q) _ _ W141 (HP131 _ HSb143.below) (HP142 _ HSb143.below) (gone_small _ _)) (fun _ w9 h9 => ⟨_, h9.1, by rw [decide_eq_true rfl], h9.2⟩)) fun W149 HS149 _ H149 => wl_ <| p_ H149 rfl rfl fun _ H150 => wl_ <| ig H150 (wg_ H150 rfl rfl rfl rfl) rfl (dd_mv rfl (H150.ev 6 rfl)) fun _ H151 => ?_
  clear H141 H144 H145 H146 H147 H148 HSb143 H149
  refine wl_ <| ig H151 (wg_ H151 rfl rfl rfl rfl) rfl (dd_mv rfl (H151.ev 8 rfl)) fun _ H152 => wl_ <| ig H152 (wg_ H152 rfl rfl rfl rfl) rfl (dd_cmp rfl (H152.ev 126 rfl) (H152.ev 127 rfl) (eq_t rfl)) fun _ H153 => q_ H153 2 rfl fun _ H154 => wl_ <| cg H154 (wg_ H154 rfl rfl rfl rfl) rfl HS149 (dcs Tryd.func7 rfl (args0 ) (opwakes_any W149) (.bool true)) fun _ HS155 _ H155 => q_ H155 2 rfl fun _ H156 => ln_ <| ?_
  clear H150 H151 H152 H153 H154 HS149 H155
  have H157 := H156.sel [4] rfl
  refine nx <| wp_ret <| ret_run H157.env0 (res_t Tryd.results3 (H157.get 4 rfl)) <| ?_
  clear H156
  exact ⟨rfl, (HBs65.trans ((HBs80.trans ((HBs101.trans ((HBs113.trans ((HBs132.trans ((HBs143.trans (HS155.below.mono HBs143.size)).mono HBs132.size)).mono HBs113.size)).mono HBs101.size)).mono HBs80.size)).mono HBs65.size))⟩
end Go.Proofs.YtlfliojadjgplaaDoor

/- OpsTell, as its tied card: for every block as a table, name, number and block the call returns true and changes nothing that it was handed. Conditions: those of the row (the tables of runes lie as the program's text lays them, which the card ties to the pruned copy). -/
set_option maxRecDepth 4000
namespace Go.Proofs.YtlfliojadjgplaaDoor.opsTell
open Go Go.ChangeShapes Go.WideShapes Go.ChangeAt Go.RowKit

theorem contract (H : Type) (enc : TypeId × Value → H) (W : World) (base : Nat) (args : Array Value) (ds gs : List (DataW H)) (before : List MemPlace)
    (hval : ∀ (j : Nat) t v, Tryd.f3.params[j]? = some t → args[j]? = some v → Value.okWide Tryd.prog W .any base t v)
    (hW : DataW.Whole enc Tryd.prog Tryd.f3.params.toList Rows.opsTellSpec.vars false W args.toList ds gs before) (_ : laidMetH Tryd.prog Rows.opsTellRow.laid W) :
    Calls Tryd.prog 3 args W fun e W' => ∃ v, e = .returned v ∧ Rows.opsTellSpec.post enc Tryd.prog Tryd.f3 false true false false W args v W' := by
  have hW' := hW
  obtain ⟨p, q, hA0, hV, rfl, _, _⟩ := hW
  have hA : DataW.TrodAll enc Tryd.prog W 0 (fun _ => true) true Tryd.f3.params.toList args.toList ds p := hA0
  rw [Tryd.params3] at hA hval
  obtain ⟨v0, vs0, d0, ds0, p0, q0, hargs, rfl, rfl, h0, r0⟩ := trodAll_cons hA
  obtain ⟨v1, vs1, d1, ds1, p1, q1, rfl, rfl, rfl, h1, r1⟩ := trodAll_cons r0
  obtain ⟨rfl, rfl, rfl⟩ := trodAll_nil r1
  obtain rfl : args = #[v0, v1] := by cases args; simp_all
  obtain ⟨rfl, rfl⟩ := trodVars_none hV
  have hlt0 : ∀ x ∈ p0, x.block < W.heap.size := fun x hx => hW'.lt x (by simp [hx])
  have hlt1 : ∀ x ∈ p1, x.block < W.heap.size := fun x hx => hW'.lt x (by simp [hx])
  obtain ⟨q0, hq0, rfl⟩ := open_argBytes Tryd.underlying23 Tryd.underlying5 (by kernel_rfl) (by kernel_rfl) (hval 0 23 v0 rfl rfl) h0 hlt0
  obtain ⟨s1, d1x, x1, rfl, hs1, hd1⟩ := open_askd13 (hval 1 25 v1 rfl rfl) h1 hlt1
  refine (optell_walk q0 s1 d1x x1 W hq0 hs1 hd1).mono fun e W' ⟨he, hb⟩ => ?_
  subst he
  exact ⟨_, rfl, [d0, d1], [], _, [], _, [], hW', trodAll_cons_mk (shut_bool Tryd.underlying4 _) trodAll_mk0, trodAll_cons_mk (Below.trod laidOutT (by kernel_rfl) (of_decide_eq_true (by kernel_rfl)) h0 hb hlt0) (trodAll_cons_mk (Below.trod laidOutT (by kernel_rfl) (of_decide_eq_true (by kernel_rfl)) h1 hb hlt1) trodAll_mk0), rfl, hb.frame _, fun h => by cases h⟩

theorem laid_met (os : Os) : laidMet Tryd.prog Rows.opsTellRow.laid ((laidWorld os).forCall (fun _ _ => 0) ⟨#[], #[.agg (bs (zer 32)), .agg (#[Value.string ⟨#[]⟩, Value.int .i64 0] ++ bs (zer 32))], []⟩).memory :=
  laidMet_of_run' 8 (by kernel_rfl) (by kernel_rfl)
theorem reads (os : Os) {H : Type} (enc : TypeId × Value → H) : ∃ places, DataW.whole enc Tryd.prog ((laidWorld os).forCall (fun _ _ => 0) ⟨#[], #[.agg (bs (zer 32)), .agg (#[Value.string ⟨#[]⟩, Value.int .i64 0] ++ bs (zer 32))], []⟩).memory Tryd.f3.params.toList Rows.opsTellSpec.vars false #[(Value.agg (bs (zer 32))), (Value.agg (#[Value.string ⟨#[]⟩, Value.int .i64 0] ++ bs (zer 32)))].toList 8 = some ([.agg (List.replicate 32 (.lit (.int .u8 0))), .agg [.lit (.string []), .lit (.int .i64 0), .agg (List.replicate 32 (.lit (.int .u8 0)))]], [], places) :=
  ⟨[], by kernel_rfl⟩

set_option maxRecDepth 100000 in
theorem lifted (os : Os) (started : os.Started) (H : Type) (enc : TypeId × Value → H) (F : Stop.Interp) :
    ReturnsInHanded {} Tryd.checked os 3 .any ((OpenSpec.ofChange Rows.opsTellSpec).preRow enc Tryd.prog Tryd.f3 Rows.opsTellRow.domain false Rows.opsTellRow.laid) (((OpenSpec.ofChange Rows.opsTellSpec).at F).post enc Tryd.prog Tryd.f3 false true false false) := by
  obtain ⟨places, hx⟩ := reads os enc
  refine returnsInHanded_of_row (C := Tryd.checked) (s := OpenSpec.ofChange Rows.opsTellSpec) ownK started (by kernel_rfl) Tryd.func3
    (witness_row_at (enc := enc) (C := Tryd.checked) false (laidWorld os) #[.agg (bs (zer 32)), .agg (#[Value.string ⟨#[]⟩, Value.int .i64 0] ++ bs (zer 32))] rfl (by kernel_rfl) (by kernel_rfl) (by kernel_rfl)
      (OpenSpec.preRow_of_cond 8 hx (by kernel_rfl) (fun k hk => by cases hk) (by kernel_rfl) (laid_met os))) ?_
  intro W base args ds gs before hval hW _ _ _ hL _ _
  exact contract H enc W base args ds gs before hval hW hL

theorem said : Rows.OpsTellSaid :=
  OpenClaim.holds_of_cond 3 Tryd.f3 rfl rfl rfl rfl rfl rfl rfl ⟨rfl, rfl, rfl, rfl, rfl⟩ rfl rfl rfl rfl rfl (by kernel_rfl) Tryd.func3 (by kernel_rfl)
    (of_decide_eq_true (by kernel_rfl)) (by unfold Func.isWrapper; first | (rw [if_pos (by decide +kernel)]; kernel_rfl) | (rw [if_neg (by decide +kernel)]; exact ⟨rfl, rfl⟩))
    (fun os started H enc _ F => by rw [OpenClaim.pre_eq_preRow]; exact lifted os started H enc F)

theorem plain (f : FuncId) (fn : Func) (hf : Tryd.pinned.checked.prog.funcNamed Rows.opsTellRow.func = some f) (hfn : Tryd.pinned.checked.prog.funcs[f]? = some fn) :
    false = Tryd.pinned.checked.prog.looks [] ∧ ∀ (j : Nat) t, fn.params[j]? = some t → Tryd.pinned.checked.prog.wantsStandIn t = false := by
  obtain rfl : f = 3 := Option.some.inj ((show Tryd.prog.funcNamed Rows.opsTellRow.func = some 3 by kernel_rfl).symm.trans hf) |>.symm
  obtain rfl : fn = Tryd.f3 := (Option.some.inj (Tryd.func3.symm.trans hfn)).symm
  refine ⟨by kernel_rfl, fun j t ht => ?_⟩
  rw [Tryd.params3] at ht
  have hm : t = 23 ∨ t = 25 := by simpa using Array.mem_of_getElem? ht
  rcases hm with rfl | rfl
  · exact (show Tryd.prog.wantsStandIn 23 = false by kernel_rfl)
  · exact (show Tryd.prog.wantsStandIn 25 = false by kernel_rfl)

theorem card : Rows.OpsTellCardSaid :=
  Claim7.holds_tied_plain_at .later [] _ _ _ _ said (fun _ h => by cases h) (by kernel_rfl) (fun _ h => by cases h) opsTell_row_tie rfl ⟨rfl, rfl⟩ (by kernel_rfl) rfl plain (by kernel_rfl)
end Go.Proofs.YtlfliojadjgplaaDoor.opsTell
