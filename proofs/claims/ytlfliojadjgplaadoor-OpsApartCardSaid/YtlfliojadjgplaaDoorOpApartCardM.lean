/- OpsApart, as its tied card: for every slice of volumes, four bytes and block the call returns true and changes nothing that it was handed. Conditions: those of the row (the tables of runes lie as the program's text lays them, which the card ties to the pruned copy). -/
import Derived.Test.YtlfliojadjgplaaDoorMAw2
import Derived.Test.YtlfliojadjgplaaDoorMNode0
import Derived.Test.YtlfliojadjgplaaDoorMGen0
/- The statement OpsApart: its walk. -/
set_option maxRecDepth 4000
namespace Go.Proofs.YtlfliojadjgplaaDoor
open Go Go.RowKit
theorem rgoodt_big (A : Option Addr) (n c : Nat) (l : List Tv) (w : World) (hl : l.length = n) (h3 : (3 : Int) < n) : Calls Tryd.prog 20 #[.slice A n c] w fun e w' => e = .returned (.bool (goodT l)) ∧ Below w.heap.size w w' := by
  have HS := St.nil w noF
  refine enter_en Tryd.func20 rfl Tryd.ntmps20 (Nat.le_of_ble_eq_true rfl) fun a0 (HA0 : En 71 [(0, .slice A n c)] a0) => ?_
  refine sq_ <| rl_ <| wl_ <| p_ HA0 rfl rfl fun _ H1 => ln_ <| nx <| sq_ <| sq_ <| rl_ <| wl_ <| p_ H1 rfl rfl fun _ H2 => wl_ <| i_ H2 rfl (v := .int .i64 n) (dd_len rfl (H2.ev 8 rfl) Tryd.underlying33) fun _ H3 => wl_ <| i_ H3 rfl (dd_cmp rfl (H3.ev 9 rfl) rfl (gt_t h3)) fun _ H4 => ln_ <| nx <| ct_ H4 rfl <| sq_ <| rl_ <| wl_ <| p_ H4 rfl rfl fun _ H5 => ln_ <| nx <| wp_ret <| tr <| ret_run H5.env0 (res_t Tryd.results20 (H5.get 2 rfl)) <| ?_
  clear HA0 H1 H2 H3 H4
  exact ⟨by rw [goodT_long (by omega)], HS.below⟩
theorem rgoodt_all (A : Option Addr) (n c : Nat) (l : List Tv) (w : World) (hv : VolsAt w (.slice A n c) (volL l)) : Calls Tryd.prog 20 #[.slice A n c] w fun e w' => e = .returned (.bool (goodT l)) ∧ Below w.heap.size w w' := by
  by_cases h : n ≤ 1000000
  · exact rgoodt_any A n c l w hv h
  · exact rgoodt_big A n c l w (by rw [← len_volL]; exact vols_len hv) (by omega)
theorem ap_small {l : List Tv} (h : goodT l = true) : l.length ≤ 3 ∧ ∀ x ∈ l, x.2.length ≤ 1000000 := by
  obtain ⟨h1, h2, _⟩ := goodT_parts h
  refine ⟨h1, fun x hx => ?_⟩
  obtain ⟨j, hj⟩ := List.getElem?_of_mem hx
  have := h2 j x hj
  unfold okT at this
  simp only [Bool.and_eq_true, decide_eq_true_eq] at this
  omega
section
variable {l : List Tv} {i j x y : Nat} {p q d : List (BitVec 8)} {L M : List Int}
theorem ap_in (h : goodT l = true) (hg : l[i]? = some (p, L)) (hx : x < L.length) : placeE (decLT (encT l)) p (x : Int) = 0 ∧ placeI (decLT (encT l)) p (x : Int) = L.getD x 0 := by
  rw [(tab_back h).1]
  have hf : findI p l = (i : Int) := find_good h hg
  have hg2 : l[(findI p l).toNat]? = some (p, L) := by rw [hf]; exact hg
  exact place_0 (by rw [hf]; omega) hg2 (by omega)
theorem ap_out (h : goodT l = true) (hg : l[i]? = some (p, L)) (hx : ¬ x < L.length) : placeE (decLT (encT l)) p (x : Int) = 17 := by
  rw [(tab_back h).1]
  have hf : findI p l = (i : Int) := find_good h hg
  have hg2 : l[(findI p l).toNat]? = some (p, L) := by rw [hf]; exact hg
  exact (place_17 (by rw [hf]; omega) hg2 (by omega)).1
theorem ap_P (h : goodT l = true) (hg : l[i]? = some (p, L)) (hx : x < L.length) : writeP (decLT (encT l)) p (x : Int) d = [(L.getD x 0, d)] := by
  rw [write_yes (ap_in h hg hx).1, (ap_in h hg hx).2]
theorem ap_okF (h : goodT l = true) : okF (flatB l) := (free_okF l).1 (decide_eq_true (goodT_parts h).2.2)
theorem ap_mem (hg : l[i]? = some (p, L)) (hx : x < L.length) : L.getD x 0 ∈ flatB l := by
  unfold flatB
  rw [List.mem_flatMap]
  refine ⟨(p, L), List.mem_of_getElem? hg, ?_⟩
  rw [List.getD_eq_getElem?_getD, List.getElem?_eq_getElem hx]
  exact List.getElem_mem hx
theorem ap_ne0 (h : goodT l = true) (hg : l[i]? = some (p, L)) (hx : x < L.length) : ¬ L.getD x 0 = 0 := fun e => by
  have := (ap_okF h).2 _ (ap_mem hg hx)
  omega
theorem ap_same (hi : (i : Int) = j) (hx : (x : Int) = y) (hg : l[i]? = some (p, L)) (hh : l[j]? = some (q, M)) : L.getD x 0 = M.getD y 0 := by
  obtain rfl : i = j := by omega
  obtain rfl : x = y := by omega
  rw [hg] at hh
  cases hh
  rfl
theorem ap_nodup {L : List Int} (h : L.Nodup) (hx : x < L.length) (hy : y < L.length) (e : L.getD x 0 = L.getD y 0) : x = y := by
  rw [List.getD_eq_getElem?_getD, List.getD_eq_getElem?_getD, List.getElem?_eq_getElem hx, List.getElem?_eq_getElem hy] at e
  have hp := List.pairwise_iff_getElem.1 h
  rcases Nat.lt_trichotomy x y with h1 | h1 | h1
  · exact absurd e (hp x y hx hy h1)
  · exact h1
  · exact absurd e.symm (hp y x hy hx h1)
theorem ap_flat : ∀ (l : List Tv) (i j x y : Nat) (p q : List (BitVec 8)) (L M : List Int), (flatB l).Nodup → l[i]? = some (p, L) → l[j]? = some (q, M) → x < L.length → y < M.length → L.getD x 0 = M.getD y 0 → i = j ∧ x = y
  | [], i, _, _, _, _, _, _, _, _, h, _, _, _, _ => by simp at h
  | v :: l, i, j, x, y, p, q, L, M, hn, hi, hj, hx, hy, e => by
    have hn : (v.2 ++ flatB l).Nodup := hn
    obtain ⟨h1, h2, h3⟩ := List.nodup_append.1 hn
    match i, j, hi, hj with
    | 0, 0, hi, hj =>
      cases hi; cases hj
      exact ⟨rfl, ap_nodup h1 hx hy e⟩
    | 0, j + 1, hi, hj =>
      cases hi
      have hm := ap_mem (l := l) (by simpa using hj) hy
      have hl : L.getD x 0 ∈ L := by
        rw [List.getD_eq_getElem?_getD, List.getElem?_eq_getElem hx]; exact List.getElem_mem hx
      exact absurd e (h3 _ hl _ hm)
    | i + 1, 0, hi, hj =>
      cases hj
      have hm := ap_mem (l := l) (by simpa using hi) hx
      have hl : M.getD y 0 ∈ M := by
        rw [List.getD_eq_getElem?_getD, List.getElem?_eq_getElem hy]; exact List.getElem_mem hy
      exact absurd e.symm (h3 _ hl _ hm)
    | i + 1, j + 1, hi, hj =>
      obtain ⟨e1, e2⟩ := ap_flat l i j x y p q L M h2 (by simpa using hi) (by simpa using hj) hx hy e
      exact ⟨by omega, e2⟩
theorem ap_diff (h : goodT l = true) (hg : l[i]? = some (p, L)) (hh : l[j]? = some (q, M)) (hx : x < L.length) (hy : y < M.length) (hne : ¬ (i = j ∧ x = y)) : ¬ L.getD x 0 = M.getD y 0 := fun e =>
  hne (ap_flat l i j x y p q L M (ap_okF h).1 hg hh hx hy e)
end
set_option maxHeartbeats 1600000 in
theorem opapart_walk (A : Option Addr) (n c : Nat) (l0 : List Vl) (z d : List (BitVec 8)) (w : World) (h0 : VolsAt w (.slice A n c) l0) (_ : n ≤ maxLen) (hz : z.length = 4) (hd : d.length = 32) :
    Calls Tryd.prog 5 #[.slice A n c, .agg (bs z), .agg (bs d)] w fun e w' => e = .returned (.bool true) ∧ Below w.heap.size w w' := by
  obtain ⟨l, rfl⟩ := volL_all l0
  have HS := St.nil w noF
  have HVl : ∀ W, Below w.heap.size w W → VolsAt W (.slice A n c) (volL l) := fun W hb => h0.below hb (Nat.le_refl _)
  have hln : l.length = n := by rw [← len_volL]; exact vols_len h0
  by_cases hn : n = 0
  · subst hn
    refine enter_en Tryd.func5 rfl Tryd.ntmps5 (Nat.le_of_ble_eq_true rfl) fun a0 (HA0 : En 172 [(0, .slice A 0 c), (1, .agg (bs z)), (2, .agg (bs d))] a0) => ?_
    refine sq_ <| rl_ <| wl_ <| n_ HA0 rfl (fun _ h => dd_box HS rfl (HA0.ev 1 rfl) (cs := (bs z)) rfl h) fun _ _ HS1 _ H1 => wl_ <| n_ H1 rfl (fun _ h => dd_box HS1 rfl (H1.ev 2 rfl) (cs := (bs d)) rfl h) fun _ W2 HS2 _ H2 => wl_ <| p_ H2 rfl rfl fun _ H3 => ln_ <| nx <| sq_ <| sq_ <| rl_ <| wl_ <| p_ H3 rfl rfl fun _ H4 => ?_
    clear HS HA0 HS1 H1 H2 H3
    cases hb6 : goodT l
    ·
     refine wl_ <| c_ H4 rfl HS2 (v := .bool false) (dc_ Tryd.func20 rfl (args1 (H4.ev 17 rfl)) (rgoodt_all _ _ _ l W2 (HVl _ HS2.below)) (fun _ w9 h9 => ⟨_, h9.1, by rw [hb6], h9.2⟩)) fun W7 HS7 _ H7 => wl_ <| i_ H7 rfl (v := .bool true) (dd_nt rfl (H7.ev 18 rfl) rfl) fun _ H8 => wl_ <| p_ H8 rfl rfl fun _ H9 => wl_ <| k_ H9 (wg_ H9 rfl rfl rfl rfl) rfl fun _ H10 => wl_ <| k_ H10 (wg_ H10 rfl rfl rfl rfl) rfl fun _ H11 => wl_ <| k_ H11 (wg_ H11 rfl rfl rfl rfl) rfl fun _ H12 => wl_ <| p_ H12 rfl rfl fun _ H13 => ln_ <| nx <| ct_ H13 rfl <| sq_ <| rl_ <| wl_ <| c_ H13 rfl HS7 (dcs Tryd.func7 rfl (args0 ) (opwakes_any W7) (.bool true)) fun _ HS14 _ H14 => ?_
     clear H4 HS2 H7 H8 H9 H10 H11 H12
     refine wl_ <| p_ H14 rfl rfl fun _ H15 => ln_ <| nx <| wp_ret <| tr <| ret_run H15.env0 (res_t Tryd.results5 (H15.get 6 rfl)) <| ?_
     clear H13 HS7 H14
     exact ⟨rfl, HS14.below⟩
    refine wl_ <| c_ H4 rfl HS2 (v := .bool true) (dc_ Tryd.func20 rfl (args1 (H4.ev 17 rfl)) (rgoodt_all _ _ _ l W2 (HVl _ HS2.below)) (fun _ w9 h9 => ⟨_, h9.1, by rw [hb6], h9.2⟩)) fun W16 HS16 _ H16 => wl_ <| i_ H16 rfl (v := .bool false) (dd_nt rfl (H16.ev 18 rfl) rfl) fun _ H17 => wl_ <| p_ H17 rfl rfl fun _ H18 => wl_ <| ig H18 (wg_ H18 rfl rfl rfl rfl) rfl (dd_mv rfl (H18.ev 0 rfl)) fun _ H19 => wl_ <| ig H19 (wg_ H19 rfl rfl rfl rfl) rfl (v := .int .i64 0) (dd_len rfl (H19.ev 21 rfl) Tryd.underlying33) fun _ H20 => wl_ <| ig H20 (wg_ H20 rfl rfl rfl rfl) rfl (dd_cmp rfl (H20.ev 22 rfl) rfl (eq_t (by decide))) fun _ H21 => wl_ <| p_ H21 rfl rfl fun _ H22 => ln_ <| nx <| ct_ H22 rfl <| sq_ <| rl_ <| wl_ <| c_ H22 rfl HS16 (dcs Tryd.func7 rfl (args0 ) (opwakes_any W16) (.bool true)) fun _ HS23 _ H23 => ?_
    clear H4 HS2 H16 H17 H18 H19 H20 H21
    refine wl_ <| p_ H23 rfl rfl fun _ H24 => ln_ <| nx <| wp_ret <| tr <| ret_run H24.env0 (res_t Tryd.results5 (H24.get 6 rfl)) <| ?_
    clear H22 HS16 H23
    exact ⟨rfl, HS23.below⟩
  · obtain ⟨b, o, rfl⟩ := vols_some h0 (by omega)
    refine enter_en Tryd.func5 rfl Tryd.ntmps5 (Nat.le_of_ble_eq_true rfl) fun a0 (HA0 : En 172 [(0, .slice (some ⟨b, o, none⟩) n c), (1, .agg (bs z)), (2, .agg (bs d))] a0) => ?_
    refine sq_ <| rl_ <| wl_ <| n_ HA0 rfl (fun _ h => dd_box HS rfl (HA0.ev 1 rfl) (cs := (bs z)) rfl h) fun g4 _ HS1 _ H1 => wl_ <| n_ H1 rfl (fun _ h => dd_box HS1 rfl (H1.ev 2 rfl) (cs := (bs d)) rfl h) fun g5 W2 HS2 _ H2 => wl_ <| p_ H2 rfl rfl fun _ H3 => ln_ <| nx <| sq_ <| sq_ <| rl_ <| wl_ <| p_ H3 rfl rfl fun _ H4 => ?_
    clear HS HA0 HS1 H1 H2 H3
    cases hb6 : goodT l
    ·
     refine wl_ <| c_ H4 rfl HS2 (v := .bool false) (dc_ Tryd.func20 rfl (args1 (H4.ev 17 rfl)) (rgoodt_all _ _ _ l W2 (HVl _ HS2.below)) (fun _ w9 h9 => ⟨_, h9.1, by rw [hb6], h9.2⟩)) fun W7 HS7 _ H7 => wl_ <| i_ H7 rfl (v := .bool true) (dd_nt rfl (H7.ev 18 rfl) rfl) fun _ H8 => wl_ <| p_ H8 rfl rfl fun a9 H9 => wl_ <| k_ H9 (wg_ H9 rfl rfl rfl rfl) rfl fun _ H10 => wl_ <| k_ H10 (wg_ H10 rfl rfl rfl rfl) rfl fun _ H11 => wl_ <| k_ H11 (wg_ H11 rfl rfl rfl rfl) rfl fun _ H12 => wl_ <| p_ H12 rfl rfl fun _ H13 => ln_ <| nx <| ct_ H13 rfl <| sq_ <| rl_ <| wl_ <| c_ H13 rfl HS7 (dcs Tryd.func7 rfl (args0 ) (opwakes_any W7) (.bool true)) fun _ HS14 _ H14 => ?_
     clear H4 HS2 H7 H8 H9 H10 H11 H12
     refine wl_ <| p_ H14 rfl rfl fun _ H15 => ln_ <| nx <| wp_ret <| tr <| ret_run H15.env0 (res_t Tryd.results5 (H15.get 6 rfl)) <| ?_
     clear H13 HS7 H14
     exact ⟨rfl, HS14.below⟩
    refine wl_ <| c_ H4 rfl HS2 (v := .bool true) (dc_ Tryd.func20 rfl (args1 (H4.ev 17 rfl)) (rgoodt_all _ _ _ l W2 (HVl _ HS2.below)) (fun _ w9 h9 => ⟨_, h9.1, by rw [hb6], h9.2⟩)) fun W16 HS16 _ H16 => wl_ <| i_ H16 rfl (v := .bool false) (dd_nt rfl (H16.ev 18 rfl) rfl) fun _ H17 => wl_ <| p_ H17 rfl rfl fun _ H18 => wl_ <| ig H18 (wg_ H18 rfl rfl rfl rfl) rfl (dd_mv rfl (H18.ev 0 rfl)) fun _ H19 => wl_ <| ig H19 (wg_ H19 rfl rfl rfl rfl) rfl (v := .int .i64 n) (dd_len rfl (H19.ev 21 rfl) Tryd.underlying33) fun _ H20 => ?_
    clear H4 HS2 H16 H17 H18 H19
    by_cases hc22 : (n : Int) = 0
    ·
     refine wl_ <| ig H20 (wg_ H20 rfl rfl rfl rfl) rfl (dd_cmp rfl (H20.ev 22 rfl) rfl (eq_t hc22)) fun _ H23 => wl_ <| p_ H23 rfl rfl fun _ H24 => ln_ <| nx <| ct_ H24 rfl <| sq_ <| rl_ <| wl_ <| c_ H24 rfl HS16 (dcs Tryd.func7 rfl (args0 ) (opwakes_any W16) (.bool true)) fun _ HS25 _ H25 => wl_ <| p_ H25 rfl rfl fun _ H26 => ln_ <| nx <| wp_ret <| tr <| ret_run H26.env0 (res_t Tryd.results5 (H26.get 6 rfl)) <| ?_
     clear H20 H23 H24 HS16 H25
     exact ⟨rfl, HS25.below⟩
    refine wl_ <| ig H20 (wg_ H20 rfl rfl rfl rfl) rfl (dd_cmp rfl (H20.ev 22 rfl) rfl (eq_f hc22)) fun _ H27 => wl_ <| p_ H27 rfl rfl fun _ H28 => ln_ <| nx <| cf_ H28 rfl <| wp_skip <| nx <| sq_ <| rl_ <| ?_
    clear H20 H27
    obtain ⟨hn3, hm1⟩ := ap_small hb6
    have hn3 : n ≤ 3 := by omega
    refine wl_ <| p_ H28 rfl rfl fun _ H29 => wl_ <| c_ H29 rfl HS16 (v := .tuple #[.agg (bs (encT l)), .int .i64 0]) (dc_ Tryd.func21 rfl (args1 (H29.ev 27 rfl)) (enct_any _ _ _ l W16 (HVl _ HS16.below) (by omega) hm1) (fun _ w9 h9 => ⟨_, by rw [encE_z.2 hb6] at h9; exact h9.1, rfl, h9.2⟩)) fun _ HS30 _ H30 => wl_ <| p_ H30 rfl rfl fun _ H31 => wl_ <| i_ H31 rfl (v := .agg (bs (encT l))) (dd_ext rfl (H31.ev 26 rfl) rfl) fun _ H32 => wl_ <| i_ H32 rfl (v := .int .i64 0) (dd_ext rfl (H32.ev 26 rfl) rfl) fun _ H33 => wl_ <| n_ H33 rfl (fun _ h => dd_new HS30 (bs (zer 32)) rfl (z := .agg (bs (zer 32))) (by kernel_rfl) rfl h) fun g7 _ HS34 _ H34 => wl_ <| t_ rfl (fun _ h => dd_setrow HS34 2 rfl rfl (H34.ev 7 rfl) (H34.ev 29 rfl) (by kernel_rfl) (((size_bs _).trans (length_encT _)) : (bs (encT l)).size = 32) (((size_bs _).trans (length_zer 32)) : (bs (zer 32)).size = 32) (one_bs _) h) fun W35 HS35 => wl_ <| p_ H34 rfl rfl fun _ H36 => ?_
    clear H28 H29 HS16 H30 H31 H32 HS30 H33 HS34
    refine ln_ <| ?_
    clear H34
    have H37 := H36.sel [0, 4, 5, 7, 8] rfl
    refine nx <| sq_ <| ?_
    clear H36
    refine wi_ HS35 [0, 1, 2] rfl [0, 1, 2] rfl fun HSh38 hx38 => ht_ H37 0 hx38 rfl rfl (fun _ _ _ => xA 4 1 0 rfl (H37.ev 4 rfl) rfl) fun _ H39 => ht_ H39 1 hx38 rfl rfl (fun _ _ HS9 => dd_get HS9 0 0 rfl rfl (H39.ev 31 rfl) (bs_get hz 0 (by decide)) Tryd.underlying5 rfl) fun _ H40 => ht_ H40 2 hx38 rfl rfl (v := .int .i64 (bd (z.getD 0 0#8))) (fun _ _ _ => dd_conv (k := .i64) rfl (H40.ev 32 rfl) Tryd.underlying5 (by kernel_rfl) (i64_bdA _)) fun _ H41 => hp_ H41 3 hx38 rfl rfl rfl fun _ H42 => ht_ H42 4 hx38 rfl rfl (v := .int .i64 n) (fun _ _ _ => dd_len rfl (H42.ev 34 rfl) Tryd.underlying33) fun _ H43 => ?_
    clear HS35 H37 H39 H40 H41 H42
    obtain ⟨i1, hi1, li1⟩ := mod_nat (bd (z.getD 0 0#8)) n (bd_lo _) (by omega)
    refine ht_ H43 5 hx38 rfl rfl (v := .int .i64 i1) (fun _ _ _ => dd_rem rfl (H43.ev 33 rfl) (H43.ev 35 rfl) (by omega) hi1) fun _ H44 => ht_ H44 6 hx38 rfl rfl (fun _ _ _ => xA 4 1 1 rfl (H44.ev 4 rfl) rfl) fun _ H45 => ht_ H45 7 hx38 rfl rfl (fun _ _ HS9 => dd_get HS9 0 1 rfl rfl (H45.ev 37 rfl) (bs_get hz 1 (by decide)) Tryd.underlying5 rfl) fun _ H46 => ht_ H46 8 hx38 rfl rfl (v := .int .i64 (bd (z.getD 1 0#8))) (fun _ _ _ => dd_conv (k := .i64) rfl (H46.ev 38 rfl) Tryd.underlying5 (by kernel_rfl) (i64_bdA _)) fun _ H47 => hp_ H47 9 hx38 rfl rfl rfl fun _ H48 => ht_ H48 10 hx38 rfl rfl (v := .int .i64 n) (fun _ _ _ => dd_len rfl (H48.ev 40 rfl) Tryd.underlying33) fun _ H49 => ?_
    clear H43 H44 H45 H46 H47 H48
    obtain ⟨j1, hj1, lj1⟩ := mod_nat (bd (z.getD 1 0#8)) n (bd_lo _) (by omega)
    refine ht_ H49 11 hx38 rfl rfl (v := .int .i64 j1) (fun _ _ _ => dd_rem rfl (H49.ev 39 rfl) (H49.ev 41 rfl) (by omega) hj1) fun _ H50 => hp_ H50 12 hx38 rfl rfl rfl fun _ H51 => hp_ H51 13 hx38 rfl rfl rfl fun _ H52 => ?_
    clear H49 H50 H51
    refine wpAnyH_done (by kernel_rfl) ?_ _
    clear hx38
    refine nx <| sq_ <| ?_
    refine wi_ HSh38 [0, 1, 2] rfl [0, 1, 2] rfl fun HSh53 hx53 => ht_ H52 0 hx53 rfl rfl (fun _ _ _ => xA 4 1 2 rfl (H52.ev 4 rfl) rfl) fun _ H54 => ht_ H54 1 hx53 rfl rfl (fun _ _ HS9 => dd_get HS9 0 2 rfl rfl (H54.ev 43 rfl) (bs_get hz 2 (by decide)) Tryd.underlying5 rfl) fun _ H55 => ht_ H55 2 hx53 rfl rfl (v := .int .i64 (bd (z.getD 2 0#8))) (fun _ _ _ => dd_conv (k := .i64) rfl (H55.ev 44 rfl) Tryd.underlying5 (by kernel_rfl) (i64_bdA _)) fun _ H56 => ?_
    clear HSh38 H52 H54 H55
    obtain ⟨x1, hx1, lx1⟩ := mod_nat (bd (z.getD 2 0#8)) 5 (bd_lo _) (by omega)
    refine ht_ H56 3 hx53 rfl rfl (v := .int .i64 x1) (fun _ _ _ => dd_rem rfl (H56.ev 45 rfl) rfl (by omega) hx1) fun _ H57 => ht_ H57 4 hx53 rfl rfl (fun _ _ _ => xA 4 1 3 rfl (H57.ev 4 rfl) rfl) fun _ H58 => ht_ H58 5 hx53 rfl rfl (fun _ _ HS9 => dd_get HS9 0 3 rfl rfl (H58.ev 47 rfl) (bs_get hz 3 (by decide)) Tryd.underlying5 rfl) fun _ H59 => ht_ H59 6 hx53 rfl rfl (v := .int .i64 (bd (z.getD 3 0#8))) (fun _ _ _ => dd_conv (k := .i64) rfl (H59.ev 48 rfl) Tryd.underlying5 (by kernel_rfl) (i64_bdA _)) fun _ H60 => ?_
    clear H56 H57 H58 H59
    obtain ⟨y1, hy1, ly1⟩ := mod_nat (bd (z.getD 3 0#8)) 5 (bd_lo _) (by omega)
    refine ht_ H60 7 hx53 rfl rfl (v := .int .i64 y1) (fun _ _ _ => dd_rem rfl (H60.ev 49 rfl) rfl (by omega) hy1) fun _ H61 => hp_ H61 8 hx53 rfl rfl rfl fun _ H62 => hp_ H62 9 hx53 rfl rfl rfl fun _ H63 => ?_
    clear H60 H61 H62
    refine wpAnyH_done (by kernel_rfl) ?_ _
    clear hx53
    refine nx <| sq_ <| ?_
    obtain ⟨p64, L64, B64, m64, c64, hg64, hr64, hm64, hp64⟩ := vols_getC (HVl _ (Below.refl _ _)) (k := i1) (by omega)
    by_cases hc65 : (x1 : Int) < m64
    ·
     refine wi_ HSh53 [0, 1, 2] rfl [0, 1, 2] rfl fun HSh66 hx66 => ht_ H63 0 hx66 rfl rfl (v := .agg (bs (encT l))) (fun _ _ HS9 => dd_load HS9 2 0 rfl rfl (H63.ev 7 rfl) (slab_whole _) Tryd.underlying23 rfl (by rw [show (bs (encT l)).size = 32 from ((size_bs _).trans (length_encT _))]; kernel_rfl)) fun _ H67 => hp_ H67 1 hx66 rfl rfl rfl fun _ H68 => hp_ H68 2 hx66 rfl rfl rfl fun _ H69 => ht_ H69 3 hx66 rfl rfl (fun _ _ _ => xSo 2 (o + i1 * 2) rfl (H69.ev 53 rfl) (H69.ev 54 rfl)) fun _ H70 => ht_ H70 4 hx66 rfl rfl (fun _ _ _ => xf 0 (o + i1 * 2) rfl (H70.ev 55 rfl)) fun _ H71 => ht_ H71 5 hx66 rfl rfl (fun _ _ HS9 => dd_at rfl (H71.ev 56 rfl) ((hr64 _ HS9.below).1 0 _ rfl) Tryd.underlying9 rfl) fun _ H72 => hp_ H72 6 hx66 rfl rfl rfl fun _ H73 => ?_
     clear HSh53 H63 H67 H68 H69 H70 H71
     refine ht_ H73 7 hx66 rfl rfl (v := .agg (bs d)) (fun _ _ HS9 => dd_load HS9 1 0 rfl rfl (H73.ev 5 rfl) (slab_whole _) Tryd.underlying23 rfl (by rw [show (bs d).size = 32 from ((size_bs _).trans hd)]; kernel_rfl)) fun _ H74 => ?_
     clear H72 H73
     refine h1_ 8 rfl <| d_ H74 rfl (R := fun v w9 => ∃ gp76 cp76 cbp76, v = .tuple #[.slice (some ⟨gp76, 0, none⟩) 1 cp76, .int .i64 0] ∧ (W35.drew.drew.drew.heap.size ≤ gp76) ∧ (Row w9 gp76 51 cbp76) ∧ (OwnC cbp76 cp76 1 33 (((([(L64.getD x1 0, d)] : List Pt)).map pcell).flatten)) ∧ Below W35.drew.drew.drew.heap.size W35.drew.drew.drew w9) (dc_ Tryd.func13 rfl (args4 (H74.ev 52 rfl) (H74.ev 57 rfl) (H74.ev 58 rfl) (H74.ev 59 rfl)) (write_any (encT l) p64 d x1 W35.drew.drew.drew (length_encT _) hd) (fun _ w9 ⟨v9, he, ho, hb⟩ => by rw [(ap_in hb6 hg64 (by omega)).1] at he; rw [(ap_P hb6 hg64 (by omega))] at ho; obtain ⟨g9, c9, cb9, rfl, h1, h2, h3⟩ := ownc_pos ho (Nat.succ_pos _); exact ⟨_, he, g9, c9, cb9, rfl, h1, h2, h3, hb⟩)) ?_
     rintro _ W75 ⟨gp76, cp76, cbp76, rfl, hg76, hr76, Op76, hb75⟩ a75 H75
     have HS75 := HSh66.same hb75
     clear H74
     have HS75j : St w noF [⟨g4, 58, bs z⟩, ⟨g5, 23, bs d⟩, ⟨g7, 23, bs (encT l)⟩, ⟨gp76, 51, cbp76⟩] W75 := HSh66.joins hb75 hr76 hg76
     clear HS75 hr76 hg76
     clear HSh66 hb75
     refine sx_ (sxi HS75j [0, 1, 2, 3] rfl) fun hx77 => hp_ H75 9 hx77 rfl rfl rfl fun _ H78 => ht_ H78 10 hx77 rfl rfl (v := .slice (some ⟨gp76, 0, none⟩) 1 cp76) (fun _ _ _ => dd_ext rfl (H78.ev 51 rfl) rfl) fun _ H79 => ht_ H79 11 hx77 rfl rfl (v := .int .i64 0) (fun _ _ _ => dd_ext rfl (H79.ev 51 rfl) rfl) fun _ H80 => hp_ H80 12 hx77 rfl rfl rfl fun _ H81 => hp_ H81 13 hx77 rfl rfl rfl fun _ H82 => ?_
     clear hx66 H75 H78 H79 H80 H81
     refine wpAnyH_done (by kernel_rfl) ?_ _
     clear hx77
     refine nx <| sq_ <| ?_
     obtain ⟨p83, L83, B83, m83, c83, hg83, hr83, hm83, hp83⟩ := vols_getC (HVl _ (Below.refl _ _)) (k := j1) (by omega)
     by_cases hc84 : (y1 : Int) < m83
     ·
      refine wi_ HS75j [0, 1, 2] rfl [0, 1, 2, 3] rfl fun HSh85 hx85 => ht_ H82 0 hx85 rfl rfl (v := .agg (bs (encT l))) (fun _ _ HS9 => dd_load HS9 2 0 rfl rfl (H82.ev 7 rfl) (slab_whole _) Tryd.underlying23 rfl (by rw [show (bs (encT l)).size = 32 from ((size_bs _).trans (length_encT _))]; kernel_rfl)) fun _ H86 => hp_ H86 1 hx85 rfl rfl rfl fun _ H87 => hp_ H87 2 hx85 rfl rfl rfl fun _ H88 => ht_ H88 3 hx85 rfl rfl (fun _ _ _ => xSo 2 (o + j1 * 2) rfl (H88.ev 65 rfl) (H88.ev 66 rfl)) fun _ H89 => ht_ H89 4 hx85 rfl rfl (fun _ _ _ => xf 0 (o + j1 * 2) rfl (H89.ev 67 rfl)) fun _ H90 => ht_ H90 5 hx85 rfl rfl (fun _ _ HS9 => dd_at rfl (H90.ev 68 rfl) ((hr83 _ HS9.below).1 0 _ rfl) Tryd.underlying9 rfl) fun _ H91 => hp_ H91 6 hx85 rfl rfl rfl fun _ H92 => ?_
      clear HS75j H82 H86 H87 H88 H89 H90
      refine ht_ H92 7 hx85 rfl rfl (v := .agg (bs d)) (fun _ _ HS9 => dd_load HS9 1 0 rfl rfl (H92.ev 5 rfl) (slab_whole _) Tryd.underlying23 rfl (by rw [show (bs d).size = 32 from ((size_bs _).trans hd)]; kernel_rfl)) fun _ H93 => ?_
      clear H91 H92
      refine h1_ 8 rfl <| d_ H93 rfl (R := fun v w9 => ∃ gp95 cp95 cbp95, v = .tuple #[.slice (some ⟨gp95, 0, none⟩) 1 cp95, .int .i64 0] ∧ (W75.drew.heap.size ≤ gp95) ∧ (Row w9 gp95 51 cbp95) ∧ (OwnC cbp95 cp95 1 33 (((([(L83.getD y1 0, d)] : List Pt)).map pcell).flatten)) ∧ Below W75.drew.heap.size W75.drew w9) (dc_ Tryd.func13 rfl (args4 (H93.ev 64 rfl) (H93.ev 69 rfl) (H93.ev 70 rfl) (H93.ev 71 rfl)) (write_any (encT l) p83 d y1 W75.drew (length_encT _) hd) (fun _ w9 ⟨v9, he, ho, hb⟩ => by rw [(ap_in hb6 hg83 (by omega)).1] at he; rw [(ap_P hb6 hg83 (by omega))] at ho; obtain ⟨g9, c9, cb9, rfl, h1, h2, h3⟩ := ownc_pos ho (Nat.succ_pos _); exact ⟨_, he, g9, c9, cb9, rfl, h1, h2, h3, hb⟩)) ?_
      rintro _ W94 ⟨gp95, cp95, cbp95, rfl, hg95, hr95, Op95, hb94⟩ a94 H94
      have HS94 := HSh85.same hb94
      clear H93
      have HS94j : St w noF [⟨g4, 58, bs z⟩, ⟨g5, 23, bs d⟩, ⟨g7, 23, bs (encT l)⟩, ⟨gp76, 51, cbp76⟩, ⟨gp95, 51, cbp95⟩] W94 := HSh85.joins hb94 hr95 hg95
      clear HS94 hr95 hg95
      clear HSh85 hb94
      refine sx_ (sxi HS94j [0, 1, 2, 3, 4] rfl) fun hx96 => hp_ H94 9 hx96 rfl rfl rfl fun _ H97 => ht_ H97 10 hx96 rfl rfl (v := .slice (some ⟨gp95, 0, none⟩) 1 cp95) (fun _ _ _ => dd_ext rfl (H97.ev 63 rfl) rfl) fun _ H98 => ht_ H98 11 hx96 rfl rfl (v := .int .i64 0) (fun _ _ _ => dd_ext rfl (H98.ev 63 rfl) rfl) fun _ H99 => hp_ H99 12 hx96 rfl rfl rfl fun _ H100 => hp_ H100 13 hx96 rfl rfl rfl fun _ H101 => ?_
      clear hx85 H94 H97 H98 H99 H100
      refine wpAnyH_done (by kernel_rfl) ?_ _
      clear hx96
      refine nx <| sq_ <| sq_ <| rl_ <| wl_ <| p_ H101 rfl rfl fun _ H102 => wl_ <| i_ H102 rfl (dd_cmp rfl (H102.ev 75 rfl) rfl (ne_f (by decide))) fun _ H103 => wl_ <| p_ H103 rfl rfl fun _ H104 => wl_ <| ig H104 (wg_ H104 rfl rfl rfl rfl) rfl (dd_mv rfl (H104.ev 14 rfl)) fun _ H105 => wl_ <| ig H105 (wg_ H105 rfl rfl rfl rfl) rfl (dd_cmp rfl (H105.ev 78 rfl) rfl (eq_t (by decide))) fun _ H106 => wl_ <| ig H106 (wg_ H106 rfl rfl rfl rfl) rfl (dd_mv rfl (H106.ev 11 rfl)) fun _ H107 => wl_ <| ig H107 (wg_ H107 rfl rfl rfl rfl) rfl (dd_mv rfl (H107.ev 0 rfl)) fun _ H108 => wl_ <| ig H108 (wg_ H108 rfl rfl rfl rfl) rfl (dd_mv rfl (H108.ev 9 rfl)) fun _ H109 => ?_
      clear H101 H102 H103 H104 H105 H106 H107
      refine wl_ <| ig H109 (wg_ H109 rfl rfl rfl rfl) rfl (xSo 2 (o + i1 * 2) rfl (H109.ev 81 rfl) (H109.ev 82 rfl)) fun _ H110 => wl_ <| ig H110 (wg_ H110 rfl rfl rfl rfl) rfl (xf 1 (o + i1 * 2 + 1) rfl (H110.ev 83 rfl)) fun _ H111 => wl_ <| ig H111 (wg_ H111 rfl rfl rfl rfl) rfl (dd_at rfl (H111.ev 84 rfl) ((hr64 _ HS94j.below).1 1 _ rfl) Tryd.underlying54 rfl) fun _ H112 => wl_ <| ig H112 (wg_ H112 rfl rfl rfl rfl) rfl (v := .int .i64 m64) (dd_len rfl (H112.ev 85 rfl) Tryd.underlying54) fun _ H113 => wl_ <| ig H113 (wg_ H113 rfl rfl rfl rfl) rfl (dd_cmp rfl (H113.ev 80 rfl) (H113.ev 86 rfl) (lt_t hc65)) fun _ H114 => wl_ <| ig H114 (wg_ H114 rfl rfl rfl rfl) rfl (v := .bool false) (dd_neb rfl (H114.ev 79 rfl) (H114.ev 87 rfl) Tryd.underlying4 rfl) fun _ H115 => q_ H115 2 rfl fun _ H116 => wl_ <| ig H116 (wg_ H116 rfl rfl rfl rfl) rfl (dd_mv rfl (H116.ev 16 rfl)) fun _ H117 => ?_
      clear H108 H109 H110 H111 H112 H113 H114 H115
      refine wl_ <| ig H117 (wg_ H117 rfl rfl rfl rfl) rfl (dd_cmp rfl (H117.ev 91 rfl) rfl (eq_t (by decide))) fun _ H118 => wl_ <| ig H118 (wg_ H118 rfl rfl rfl rfl) rfl (dd_mv rfl (H118.ev 12 rfl)) fun _ H119 => wl_ <| ig H119 (wg_ H119 rfl rfl rfl rfl) rfl (dd_mv rfl (H119.ev 0 rfl)) fun _ H120 => wl_ <| ig H120 (wg_ H120 rfl rfl rfl rfl) rfl (dd_mv rfl (H120.ev 10 rfl)) fun _ H121 => wl_ <| ig H121 (wg_ H121 rfl rfl rfl rfl) rfl (xSo 2 (o + j1 * 2) rfl (H121.ev 94 rfl) (H121.ev 95 rfl)) fun _ H122 => wl_ <| ig H122 (wg_ H122 rfl rfl rfl rfl) rfl (xf 1 (o + j1 * 2 + 1) rfl (H122.ev 96 rfl)) fun _ H123 => wl_ <| ig H123 (wg_ H123 rfl rfl rfl rfl) rfl (dd_at rfl (H123.ev 97 rfl) ((hr83 _ HS94j.below).1 1 _ rfl) Tryd.underlying54 rfl) fun _ H124 => wl_ <| ig H124 (wg_ H124 rfl rfl rfl rfl) rfl (v := .int .i64 m83) (dd_len rfl (H124.ev 98 rfl) Tryd.underlying54) fun _ H125 => ?_
      clear H116 H117 H118 H119 H120 H121 H122 H123
      refine wl_ <| ig H125 (wg_ H125 rfl rfl rfl rfl) rfl (dd_cmp rfl (H125.ev 93 rfl) (H125.ev 99 rfl) (lt_t hc84)) fun _ H126 => wl_ <| ig H126 (wg_ H126 rfl rfl rfl rfl) rfl (v := .bool false) (dd_neb rfl (H126.ev 92 rfl) (H126.ev 100 rfl) Tryd.underlying4 rfl) fun _ H127 => wl_ <| p_ H127 rfl rfl fun _ H128 => ln_ <| ?_
      clear H124 H125 H126 H127
      have H129 := H128.sel [5, 9, 10, 11, 12, 13, 14, 15, 16, 102] rfl
      refine nx <| cf_ H129 rfl <| wp_skip <| nx <| sq_ <| sq_ <| rl_ <| wl_ <| p_ H129 rfl rfl fun _ H130 => wl_ <| i_ H130 rfl (dd_cmp rfl (H130.ev 103 rfl) rfl (ne_f (by decide))) fun _ H131 => wl_ <| p_ H131 rfl rfl fun _ H132 => wl_ <| ig H132 (wg_ H132 rfl rfl rfl rfl) rfl (dd_mv rfl (H132.ev 16 rfl)) fun _ H133 => wl_ <| ig H133 (wg_ H133 rfl rfl rfl rfl) rfl (dd_cmp rfl (H133.ev 106 rfl) rfl (ne_f (by decide))) fun _ H134 => wl_ <| p_ H134 rfl rfl fun _ H135 => ln_ <| nx <| cf_ H135 rfl <| wp_skip <| nx <| sq_ <| ?_
      clear H128 H129 H130 H131 H132 H133 H134
      by_cases hc171 : (i1 : Int) = j1
      ·
       by_cases hc211 : (x1 : Int) = y1
       ·
        refine wp_cut (fun a9 w9 => En 172 [(6, .bool true)] a9 ∧ St w noF [⟨g4, 58, bs z⟩, ⟨g5, 23, bs d⟩, ⟨g7, 23, bs (encT l)⟩, ⟨gp76, 51, cbp76⟩, ⟨gp95, 51, cbp95⟩] w9) ?_ ?_
        ·
         refine wi_ HS94j [0, 1, 2] rfl [0, 1, 2, 3, 4] rfl fun HSh212 hx212 => hp_ H135 0 hx212 rfl rfl rfl fun _ H213 => ht_ H213 1 hx212 rfl rfl (v := .int .i64 1) (fun _ _ _ => dd_len rfl (H213.ev 126 rfl) Tryd.underlying35) fun _ H214 => ht_ H214 2 hx212 rfl rfl (fun _ _ _ => dd_cmp rfl (H214.ev 127 rfl) rfl (eq_t (by decide))) fun _ H215 => hp_ H215 3 hx212 rfl rfl rfl fun _ H216 => htg H216 4 hx212 rfl (wg_ H216 rfl rfl rfl rfl) rfl (fun _ _ _ => dd_mv rfl (H216.ev 15 rfl)) fun _ H217 => htg H217 5 hx212 rfl (wg_ H217 rfl rfl rfl rfl) rfl (v := .int .i64 1) (fun _ _ _ => dd_len rfl (H217.ev 130 rfl) Tryd.underlying35) fun _ H218 => htg H218 6 hx212 rfl (wg_ H218 rfl rfl rfl rfl) rfl (fun _ _ _ => dd_cmp rfl (H218.ev 131 rfl) rfl (eq_t (by decide))) fun _ H219 => ?_
         clear HS94j H135 H213 H214 H215 H216 H217
         refine hp_ H219 7 hx212 rfl rfl rfl fun _ H220 => hp_ H220 8 hx212 rfl rfl rfl fun _ H221 => htg H221 9 hx212 rfl (wg_ H221 rfl rfl rfl rfl) rfl (fun _ _ _ => dd_mv rfl (H221.ev 13 rfl)) fun _ H222 => htg H222 10 hx212 rfl (wg_ H222 rfl rfl rfl rfl) rfl (fun _ _ _ => xS 33 0 rfl (H222.ev 135 rfl) rfl) fun _ H223 => htg H223 11 hx212 rfl (wg_ H223 rfl rfl rfl rfl) rfl (fun _ _ _ => xf 0 0 rfl (H223.ev 136 rfl)) fun _ H224 => h1_ 12 rfl <| ig H224 (wg_ H224 rfl rfl rfl rfl) rfl (dd_get HSh212 3 0 rfl rfl (H224.ev 137 rfl) (put_at Op76 0 rfl (pt_cons hd pt_nil)) Tryd.underlying3 rfl) fun _ H225 => sx_ (sxi HSh212 [0, 1, 2, 3, 4] rfl) fun hx226 => htg H225 13 hx226 rfl (wg_ H225 rfl rfl rfl rfl) rfl (fun _ _ _ => dd_cmp rfl (H225.ev 138 rfl) rfl (ne_t (ap_ne0 hb6 hg64 (by omega)))) fun _ H227 => ?_
         clear H218 H219 H220 H221 H222 H223 H224 hx212
         refine hp_ H227 14 hx226 rfl rfl rfl fun _ H228 => hp_ H228 15 hx226 rfl rfl rfl fun _ H229 => htg H229 16 hx226 rfl (wg_ H229 rfl rfl rfl rfl) rfl (fun _ _ _ => dd_mv rfl (H229.ev 13 rfl)) fun _ H230 => htg H230 17 hx226 rfl (wg_ H230 rfl rfl rfl rfl) rfl (fun _ _ _ => xS 33 0 rfl (H230.ev 142 rfl) rfl) fun _ H231 => htg H231 18 hx226 rfl (wg_ H231 rfl rfl rfl rfl) rfl (fun _ _ _ => xf 1 1 rfl (H231.ev 143 rfl)) fun _ H232 => htg H232 20 hx226 rfl (wg_ H232 rfl rfl rfl rfl) rfl (v := .agg (bs d)) (fun _ _ HS9 => dd_load HS9 1 0 rfl rfl (H232.ev 5 rfl) (slab_whole _) Tryd.underlying23 rfl (by rw [show (bs d).size = 32 from ((size_bs _).trans hd)]; kernel_rfl)) fun _ H233 => h1_ 19 rfl <| ig H233 (wg_ H233 rfl rfl rfl rfl) rfl (v := .agg (bs d)) (dd_load HSh212 3 1 rfl rfl (H233.ev 144 rfl) (put_dat Op76 0 rfl hd (pt_cons hd pt_nil)) Tryd.underlying23 rfl (by rw [show (bs d).size = 32 from ((size_bs _).trans hd)]; kernel_rfl)) fun _ H234 => sx_ (sxi HSh212 [0, 1, 2, 3, 4] rfl) fun hx235 => ?_
         clear H225 H227 H228 H229 H230 H231 H232 H233
         refine htg H234 21 hx235 rfl (wg_ H234 rfl rfl rfl rfl) rfl (v := .bool true) (fun _ _ _ => dd_eqa (b := true) rfl (H234.ev 145 rfl) (H234.ev 146 rfl) (by kernel_rfl) (fun w => by have h9 := eql_blk d d hd hd w; rw [decide_eq_true rfl] at h9; exact h9)) fun _ H236 => hp_ H236 22 hx235 rfl rfl rfl fun _ H237 => hp_ H237 23 hx235 rfl rfl rfl fun _ H238 => htg H238 24 hx235 rfl (wg_ H238 rfl rfl rfl rfl) rfl (fun _ _ _ => dd_mv rfl (H238.ev 13 rfl)) fun _ H239 => htg H239 25 hx235 rfl (wg_ H239 rfl rfl rfl rfl) rfl (fun _ _ _ => xS 33 0 rfl (H239.ev 150 rfl) rfl) fun _ H240 => htg H240 26 hx235 rfl (wg_ H240 rfl rfl rfl rfl) rfl (fun _ _ _ => xf 0 0 rfl (H240.ev 151 rfl)) fun _ H241 => htg H241 28 hx235 rfl (wg_ H241 rfl rfl rfl rfl) rfl (fun _ _ _ => dd_mv rfl (H241.ev 15 rfl)) fun _ H242 => htg H242 29 hx235 rfl (wg_ H242 rfl rfl rfl rfl) rfl (fun _ _ _ => xS 33 0 rfl (H242.ev 154 rfl) rfl) fun _ H243 => ?_
         clear hx226 H234 H236 H237 H238 H239 H240 H241
         refine htg H243 30 hx235 rfl (wg_ H243 rfl rfl rfl rfl) rfl (fun _ _ _ => xf 0 0 rfl (H243.ev 155 rfl)) fun _ H244 => htg H244 33 hx235 rfl (wg_ H244 rfl rfl rfl rfl) rfl (fun _ _ _ => dd_mv rfl (H244.ev 9 rfl)) fun _ H245 => htg H245 34 hx235 rfl (wg_ H245 rfl rfl rfl rfl) rfl (fun _ _ _ => dd_mv rfl (H245.ev 10 rfl)) fun _ H246 => htg H246 35 hx235 rfl (wg_ H246 rfl rfl rfl rfl) rfl (fun _ _ _ => dd_cmp rfl (H246.ev 159 rfl) (H246.ev 160 rfl) (eq_t hc171)) fun _ H247 => htg H247 36 hx235 rfl (wg_ H247 rfl rfl rfl rfl) rfl (fun _ _ _ => dd_mv rfl (H247.ev 161 rfl)) fun _ H248 => htg H248 37 hx235 rfl (wg_ H248 rfl rfl rfl rfl) rfl (fun _ _ _ => dd_mv rfl (H248.ev 11 rfl)) fun _ H249 => htg H249 38 hx235 rfl (wg_ H249 rfl rfl rfl rfl) rfl (fun _ _ _ => dd_mv rfl (H249.ev 12 rfl)) fun _ H250 => htg H250 39 hx235 rfl (wg_ H250 rfl rfl rfl rfl) rfl (fun _ _ _ => dd_cmp rfl (H250.ev 163 rfl) (H250.ev 164 rfl) (eq_t hc211)) fun _ H251 => ?_
         clear H242 H243 H244 H245 H246 H247 H248 H249
         refine htg H251 40 hx235 rfl (wg_ H251 rfl rfl rfl rfl) rfl (fun _ _ _ => dd_pickT rfl (H251.ev 162 rfl) (H251.ev 165 rfl)) fun _ H252 => ?_
         clear H250 H251
         refine wpAnyH_all (rs := [27, 31]) (by kernel_rfl) (by decide) (hm_cons ?_ (hm_cons ?_ hm_nil))
         ·
          refine ho_ rfl <| ig H252 (wg_ H252 rfl rfl rfl rfl) rfl (dd_get HSh212 3 0 rfl rfl (H252.ev 152 rfl) (put_at Op76 0 rfl (pt_cons hd pt_nil)) Tryd.underlying3 rfl) fun _ H253 => sx_ (sxi HSh212 [0, 1, 2, 3, 4] rfl) fun hx254 => h1_ 31 rfl <| ig H253 (wg_ H253 rfl rfl rfl rfl) rfl (dd_get HSh212 4 0 rfl rfl (H253.ev 156 rfl) (put_at Op95 0 rfl (pt_cons hd pt_nil)) Tryd.underlying3 rfl) fun _ H255 => sx_ (sxi HSh212 [0, 1, 2, 3, 4] rfl) fun hx256 => htg H255 32 hx256 rfl (wg_ H255 rfl rfl rfl rfl) rfl (fun _ _ _ => dd_cmp rfl (H255.ev 153 rfl) (H255.ev 157 rfl) (eq_t (ap_same hc171 hc211 hg64 hg83))) fun _ H257 => htg H257 41 hx256 rfl (wg_ H257 rfl rfl rfl rfl) rfl (v := .bool true) (fun _ _ _ => dd_eqb rfl (H257.ev 158 rfl) (H257.ev 166 rfl) Tryd.underlying4 rfl) fun _ H258 => hp_ H258 42 hx256 rfl rfl rfl fun _ H259 => hp_ H259 43 hx256 rfl rfl rfl fun _ H260 => ?_
          clear H252 H253 hx254 H255 H257 H258
          refine h1_ 44 rfl <| cg H260 (wg_ H260 rfl rfl rfl rfl) rfl HSh212 (dcs Tryd.func7 rfl (args0 ) (opwakes_any W94.drew) (.bool true)) fun _ HS261 _ H261 => sx_ (sxi HS261 [0, 1, 2, 3, 4] rfl) fun hx262 => hp_ H261 45 hx262 rfl rfl rfl fun _ H263 => hp_ H263 46 hx262 rfl rfl rfl fun _ H264 => ?_
          clear H259 H260 HSh212 hx256 H261 H263
          refine wpAnyH_done (by kernel_rfl) ?_ _
          clear hx262
          exact nx ⟨H264.sel [6] rfl, ss HS261 [0, 1, 2, 3, 4]⟩
         refine ho_ rfl <| ig H252 (wg_ H252 rfl rfl rfl rfl) rfl (dd_get HSh212 4 0 rfl rfl (H252.ev 156 rfl) (put_at Op95 0 rfl (pt_cons hd pt_nil)) Tryd.underlying3 rfl) fun _ H265 => sx_ (sxi HSh212 [0, 1, 2, 3, 4] rfl) fun hx266 => h1_ 27 rfl <| ig H265 (wg_ H265 rfl rfl rfl rfl) rfl (dd_get HSh212 3 0 rfl rfl (H265.ev 152 rfl) (put_at Op76 0 rfl (pt_cons hd pt_nil)) Tryd.underlying3 rfl) fun _ H267 => sx_ (sxi HSh212 [0, 1, 2, 3, 4] rfl) fun hx268 => htg H267 32 hx268 rfl (wg_ H267 rfl rfl rfl rfl) rfl (fun _ _ _ => dd_cmp rfl (H267.ev 153 rfl) (H267.ev 157 rfl) (eq_t (ap_same hc171 hc211 hg64 hg83))) fun _ H269 => htg H269 41 hx268 rfl (wg_ H269 rfl rfl rfl rfl) rfl (v := .bool true) (fun _ _ _ => dd_eqb rfl (H269.ev 158 rfl) (H269.ev 166 rfl) Tryd.underlying4 rfl) fun _ H270 => hp_ H270 42 hx268 rfl rfl rfl fun _ H271 => hp_ H271 43 hx268 rfl rfl rfl fun _ H272 => ?_
         clear H252 H265 hx266 H267 H269 H270
         refine h1_ 44 rfl <| cg H272 (wg_ H272 rfl rfl rfl rfl) rfl HSh212 (dcs Tryd.func7 rfl (args0 ) (opwakes_any W94.drew) (.bool true)) fun _ HS273 _ H273 => sx_ (sxi HS273 [0, 1, 2, 3, 4] rfl) fun hx274 => hp_ H273 45 hx274 rfl rfl rfl fun _ H275 => hp_ H275 46 hx274 rfl rfl rfl fun _ H276 => ?_
         clear H271 H272 HSh212 hx268 H273 H275
         refine wpAnyH_done (by kernel_rfl) ?_ _
         clear hx274
         exact nx ⟨H276.sel [6] rfl, ss HS273 [0, 1, 2, 3, 4]⟩
        rintro aj212 wj212 ⟨Hj212, HSj212⟩
        refine nx <| wp_ret <| ret_run Hj212.env0 (res_t Tryd.results5 (Hj212.get 6 rfl)) <| ?_
        exact ⟨rfl, HSj212.below⟩
       refine wp_cut (fun a9 w9 => En 172 [(6, .bool true)] a9 ∧ St w noF [⟨g4, 58, bs z⟩, ⟨g5, 23, bs d⟩, ⟨g7, 23, bs (encT l)⟩, ⟨gp76, 51, cbp76⟩, ⟨gp95, 51, cbp95⟩] w9) ?_ ?_
       ·
        refine wi_ HS94j [0, 1, 2] rfl [0, 1, 2, 3, 4] rfl fun HSh278 hx278 => hp_ H135 0 hx278 rfl rfl rfl fun _ H279 => ht_ H279 1 hx278 rfl rfl (v := .int .i64 1) (fun _ _ _ => dd_len rfl (H279.ev 126 rfl) Tryd.underlying35) fun _ H280 => ht_ H280 2 hx278 rfl rfl (fun _ _ _ => dd_cmp rfl (H280.ev 127 rfl) rfl (eq_t (by decide))) fun _ H281 => hp_ H281 3 hx278 rfl rfl rfl fun _ H282 => htg H282 4 hx278 rfl (wg_ H282 rfl rfl rfl rfl) rfl (fun _ _ _ => dd_mv rfl (H282.ev 15 rfl)) fun _ H283 => htg H283 5 hx278 rfl (wg_ H283 rfl rfl rfl rfl) rfl (v := .int .i64 1) (fun _ _ _ => dd_len rfl (H283.ev 130 rfl) Tryd.underlying35) fun _ H284 => htg H284 6 hx278 rfl (wg_ H284 rfl rfl rfl rfl) rfl (fun _ _ _ => dd_cmp rfl (H284.ev 131 rfl) rfl (eq_t (by decide))) fun _ H285 => ?_
        clear HS94j H135 H279 H280 H281 H282 H283
        refine hp_ H285 7 hx278 rfl rfl rfl fun _ H286 => hp_ H286 8 hx278 rfl rfl rfl fun _ H287 => htg H287 9 hx278 rfl (wg_ H287 rfl rfl rfl rfl) rfl (fun _ _ _ => dd_mv rfl (H287.ev 13 rfl)) fun _ H288 => htg H288 10 hx278 rfl (wg_ H288 rfl rfl rfl rfl) rfl (fun _ _ _ => xS 33 0 rfl (H288.ev 135 rfl) rfl) fun _ H289 => htg H289 11 hx278 rfl (wg_ H289 rfl rfl rfl rfl) rfl (fun _ _ _ => xf 0 0 rfl (H289.ev 136 rfl)) fun _ H290 => h1_ 12 rfl <| ig H290 (wg_ H290 rfl rfl rfl rfl) rfl (dd_get HSh278 3 0 rfl rfl (H290.ev 137 rfl) (put_at Op76 0 rfl (pt_cons hd pt_nil)) Tryd.underlying3 rfl) fun _ H291 => sx_ (sxi HSh278 [0, 1, 2, 3, 4] rfl) fun hx292 => htg H291 13 hx292 rfl (wg_ H291 rfl rfl rfl rfl) rfl (fun _ _ _ => dd_cmp rfl (H291.ev 138 rfl) rfl (ne_t (ap_ne0 hb6 hg64 (by omega)))) fun _ H293 => ?_
        clear H284 H285 H286 H287 H288 H289 H290 hx278
        refine hp_ H293 14 hx292 rfl rfl rfl fun _ H294 => hp_ H294 15 hx292 rfl rfl rfl fun _ H295 => htg H295 16 hx292 rfl (wg_ H295 rfl rfl rfl rfl) rfl (fun _ _ _ => dd_mv rfl (H295.ev 13 rfl)) fun _ H296 => htg H296 17 hx292 rfl (wg_ H296 rfl rfl rfl rfl) rfl (fun _ _ _ => xS 33 0 rfl (H296.ev 142 rfl) rfl) fun _ H297 => htg H297 18 hx292 rfl (wg_ H297 rfl rfl rfl rfl) rfl (fun _ _ _ => xf 1 1 rfl (H297.ev 143 rfl)) fun _ H298 => htg H298 20 hx292 rfl (wg_ H298 rfl rfl rfl rfl) rfl (v := .agg (bs d)) (fun _ _ HS9 => dd_load HS9 1 0 rfl rfl (H298.ev 5 rfl) (slab_whole _) Tryd.underlying23 rfl (by rw [show (bs d).size = 32 from ((size_bs _).trans hd)]; kernel_rfl)) fun _ H299 => h1_ 19 rfl <| ig H299 (wg_ H299 rfl rfl rfl rfl) rfl (v := .agg (bs d)) (dd_load HSh278 3 1 rfl rfl (H299.ev 144 rfl) (put_dat Op76 0 rfl hd (pt_cons hd pt_nil)) Tryd.underlying23 rfl (by rw [show (bs d).size = 32 from ((size_bs _).trans hd)]; kernel_rfl)) fun _ H300 => sx_ (sxi HSh278 [0, 1, 2, 3, 4] rfl) fun hx301 => ?_
        clear H291 H293 H294 H295 H296 H297 H298 H299
        refine htg H300 21 hx301 rfl (wg_ H300 rfl rfl rfl rfl) rfl (v := .bool true) (fun _ _ _ => dd_eqa (b := true) rfl (H300.ev 145 rfl) (H300.ev 146 rfl) (by kernel_rfl) (fun w => by have h9 := eql_blk d d hd hd w; rw [decide_eq_true rfl] at h9; exact h9)) fun _ H302 => hp_ H302 22 hx301 rfl rfl rfl fun _ H303 => hp_ H303 23 hx301 rfl rfl rfl fun _ H304 => htg H304 24 hx301 rfl (wg_ H304 rfl rfl rfl rfl) rfl (fun _ _ _ => dd_mv rfl (H304.ev 13 rfl)) fun _ H305 => htg H305 25 hx301 rfl (wg_ H305 rfl rfl rfl rfl) rfl (fun _ _ _ => xS 33 0 rfl (H305.ev 150 rfl) rfl) fun _ H306 => htg H306 26 hx301 rfl (wg_ H306 rfl rfl rfl rfl) rfl (fun _ _ _ => xf 0 0 rfl (H306.ev 151 rfl)) fun _ H307 => htg H307 28 hx301 rfl (wg_ H307 rfl rfl rfl rfl) rfl (fun _ _ _ => dd_mv rfl (H307.ev 15 rfl)) fun _ H308 => htg H308 29 hx301 rfl (wg_ H308 rfl rfl rfl rfl) rfl (fun _ _ _ => xS 33 0 rfl (H308.ev 154 rfl) rfl) fun _ H309 => ?_
        clear hx292 H300 H302 H303 H304 H305 H306 H307
        refine htg H309 30 hx301 rfl (wg_ H309 rfl rfl rfl rfl) rfl (fun _ _ _ => xf 0 0 rfl (H309.ev 155 rfl)) fun _ H310 => htg H310 33 hx301 rfl (wg_ H310 rfl rfl rfl rfl) rfl (fun _ _ _ => dd_mv rfl (H310.ev 9 rfl)) fun _ H311 => htg H311 34 hx301 rfl (wg_ H311 rfl rfl rfl rfl) rfl (fun _ _ _ => dd_mv rfl (H311.ev 10 rfl)) fun _ H312 => htg H312 35 hx301 rfl (wg_ H312 rfl rfl rfl rfl) rfl (fun _ _ _ => dd_cmp rfl (H312.ev 159 rfl) (H312.ev 160 rfl) (eq_t hc171)) fun _ H313 => htg H313 36 hx301 rfl (wg_ H313 rfl rfl rfl rfl) rfl (fun _ _ _ => dd_mv rfl (H313.ev 161 rfl)) fun _ H314 => htg H314 37 hx301 rfl (wg_ H314 rfl rfl rfl rfl) rfl (fun _ _ _ => dd_mv rfl (H314.ev 11 rfl)) fun _ H315 => htg H315 38 hx301 rfl (wg_ H315 rfl rfl rfl rfl) rfl (fun _ _ _ => dd_mv rfl (H315.ev 12 rfl)) fun _ H316 => htg H316 39 hx301 rfl (wg_ H316 rfl rfl rfl rfl) rfl (fun _ _ _ => dd_cmp rfl (H316.ev 163 rfl) (H316.ev 164 rfl) (eq_f hc211)) fun _ H317 => ?_
        clear H308 H309 H310 H311 H312 H313 H314 H315
        refine htg H317 40 hx301 rfl (wg_ H317 rfl rfl rfl rfl) rfl (fun _ _ _ => dd_pickT rfl (H317.ev 162 rfl) (H317.ev 165 rfl)) fun _ H318 => ?_
        clear H316 H317
        refine wpAnyH_all (rs := [27, 31]) (by kernel_rfl) (by decide) (hm_cons ?_ (hm_cons ?_ hm_nil))
        ·
         refine ho_ rfl <| ig H318 (wg_ H318 rfl rfl rfl rfl) rfl (dd_get HSh278 3 0 rfl rfl (H318.ev 152 rfl) (put_at Op76 0 rfl (pt_cons hd pt_nil)) Tryd.underlying3 rfl) fun _ H319 => sx_ (sxi HSh278 [0, 1, 2, 3, 4] rfl) fun hx320 => h1_ 31 rfl <| ig H319 (wg_ H319 rfl rfl rfl rfl) rfl (dd_get HSh278 4 0 rfl rfl (H319.ev 156 rfl) (put_at Op95 0 rfl (pt_cons hd pt_nil)) Tryd.underlying3 rfl) fun _ H321 => sx_ (sxi HSh278 [0, 1, 2, 3, 4] rfl) fun hx322 => htg H321 32 hx322 rfl (wg_ H321 rfl rfl rfl rfl) rfl (fun _ _ _ => dd_cmp rfl (H321.ev 153 rfl) (H321.ev 157 rfl) (eq_f (ap_diff hb6 hg64 hg83 (by omega) (by omega) (by omega)))) fun _ H323 => htg H323 41 hx322 rfl (wg_ H323 rfl rfl rfl rfl) rfl (v := .bool true) (fun _ _ _ => dd_eqb rfl (H323.ev 158 rfl) (H323.ev 166 rfl) Tryd.underlying4 rfl) fun _ H324 => hp_ H324 42 hx322 rfl rfl rfl fun _ H325 => hp_ H325 43 hx322 rfl rfl rfl fun _ H326 => ?_
         clear H318 H319 hx320 H321 H323 H324
         refine h1_ 44 rfl <| cg H326 (wg_ H326 rfl rfl rfl rfl) rfl HSh278 (dcs Tryd.func7 rfl (args0 ) (opwakes_any W94.drew) (.bool true)) fun _ HS327 _ H327 => sx_ (sxi HS327 [0, 1, 2, 3, 4] rfl) fun hx328 => hp_ H327 45 hx328 rfl rfl rfl fun _ H329 => hp_ H329 46 hx328 rfl rfl rfl fun _ H330 => ?_
         clear H325 H326 HSh278 hx322 H327 H329
         refine wpAnyH_done (by kernel_rfl) ?_ _
         clear hx328
         exact nx ⟨H330.sel [6] rfl, ss HS327 [0, 1, 2, 3, 4]⟩
        refine ho_ rfl <| ig H318 (wg_ H318 rfl rfl rfl rfl) rfl (dd_get HSh278 4 0 rfl rfl (H318.ev 156 rfl) (put_at Op95 0 rfl (pt_cons hd pt_nil)) Tryd.underlying3 rfl) fun _ H331 => sx_ (sxi HSh278 [0, 1, 2, 3, 4] rfl) fun hx332 => h1_ 27 rfl <| ig H331 (wg_ H331 rfl rfl rfl rfl) rfl (dd_get HSh278 3 0 rfl rfl (H331.ev 152 rfl) (put_at Op76 0 rfl (pt_cons hd pt_nil)) Tryd.underlying3 rfl) fun _ H333 => sx_ (sxi HSh278 [0, 1, 2, 3, 4] rfl) fun hx334 => htg H333 32 hx334 rfl (wg_ H333 rfl rfl rfl rfl) rfl (fun _ _ _ => dd_cmp rfl (H333.ev 153 rfl) (H333.ev 157 rfl) (eq_f (ap_diff hb6 hg64 hg83 (by omega) (by omega) (by omega)))) fun _ H335 => htg H335 41 hx334 rfl (wg_ H335 rfl rfl rfl rfl) rfl (v := .bool true) (fun _ _ _ => dd_eqb rfl (H335.ev 158 rfl) (H335.ev 166 rfl) Tryd.underlying4 rfl) fun _ H336 => hp_ H336 42 hx334 rfl rfl rfl fun _ H337 => hp_ H337 43 hx334 rfl rfl rfl fun _ H338 => ?_
        clear H318 H331 hx332 H333 H335 H336
        refine h1_ 44 rfl <| cg H338 (wg_ H338 rfl rfl rfl rfl) rfl HSh278 (dcs Tryd.func7 rfl (args0 ) (opwakes_any W94.drew) (.bool true)) fun _ HS339 _ H339 => sx_ (sxi HS339 [0, 1, 2, 3, 4] rfl) fun hx340 => hp_ H339 45 hx340 rfl rfl rfl fun _ H341 => hp_ H341 46 hx340 rfl rfl rfl fun _ H342 => ?_
        clear H337 H338 HSh278 hx334 H339 H341
        refine wpAnyH_done (by kernel_rfl) ?_ _
        clear hx340
        exact nx ⟨H342.sel [6] rfl, ss HS339 [0, 1, 2, 3, 4]⟩
       rintro aj278 wj278 ⟨Hj278, HSj278⟩
       refine nx <| wp_ret <| ret_run Hj278.env0 (res_t Tryd.results5 (Hj278.get 6 rfl)) <| ?_
       exact ⟨rfl, HSj278.below⟩
      by_cases hc389 : (x1 : Int) = y1
      ·
       refine wp_cut (fun a9 w9 => En 172 [(6, .bool true)] a9 ∧ St w noF [⟨g4, 58, bs z⟩, ⟨g5, 23, bs d⟩, ⟨g7, 23, bs (encT l)⟩, ⟨gp76, 51, cbp76⟩, ⟨gp95, 51, cbp95⟩] w9) ?_ ?_
       ·
        refine wi_ HS94j [0, 1, 2] rfl [0, 1, 2, 3, 4] rfl fun HSh390 hx390 => hp_ H135 0 hx390 rfl rfl rfl fun _ H391 => ht_ H391 1 hx390 rfl rfl (v := .int .i64 1) (fun _ _ _ => dd_len rfl (H391.ev 126 rfl) Tryd.underlying35) fun _ H392 => ht_ H392 2 hx390 rfl rfl (fun _ _ _ => dd_cmp rfl (H392.ev 127 rfl) rfl (eq_t (by decide))) fun _ H393 => hp_ H393 3 hx390 rfl rfl rfl fun _ H394 => htg H394 4 hx390 rfl (wg_ H394 rfl rfl rfl rfl) rfl (fun _ _ _ => dd_mv rfl (H394.ev 15 rfl)) fun _ H395 => htg H395 5 hx390 rfl (wg_ H395 rfl rfl rfl rfl) rfl (v := .int .i64 1) (fun _ _ _ => dd_len rfl (H395.ev 130 rfl) Tryd.underlying35) fun _ H396 => htg H396 6 hx390 rfl (wg_ H396 rfl rfl rfl rfl) rfl (fun _ _ _ => dd_cmp rfl (H396.ev 131 rfl) rfl (eq_t (by decide))) fun _ H397 => ?_
        clear HS94j H135 H391 H392 H393 H394 H395
        refine hp_ H397 7 hx390 rfl rfl rfl fun _ H398 => hp_ H398 8 hx390 rfl rfl rfl fun _ H399 => htg H399 9 hx390 rfl (wg_ H399 rfl rfl rfl rfl) rfl (fun _ _ _ => dd_mv rfl (H399.ev 13 rfl)) fun _ H400 => htg H400 10 hx390 rfl (wg_ H400 rfl rfl rfl rfl) rfl (fun _ _ _ => xS 33 0 rfl (H400.ev 135 rfl) rfl) fun _ H401 => htg H401 11 hx390 rfl (wg_ H401 rfl rfl rfl rfl) rfl (fun _ _ _ => xf 0 0 rfl (H401.ev 136 rfl)) fun _ H402 => h1_ 12 rfl <| ig H402 (wg_ H402 rfl rfl rfl rfl) rfl (dd_get HSh390 3 0 rfl rfl (H402.ev 137 rfl) (put_at Op76 0 rfl (pt_cons hd pt_nil)) Tryd.underlying3 rfl) fun _ H403 => sx_ (sxi HSh390 [0, 1, 2, 3, 4] rfl) fun hx404 => htg H403 13 hx404 rfl (wg_ H403 rfl rfl rfl rfl) rfl (fun _ _ _ => dd_cmp rfl (H403.ev 138 rfl) rfl (ne_t (ap_ne0 hb6 hg64 (by omega)))) fun _ H405 => ?_
        clear H396 H397 H398 H399 H400 H401 H402 hx390
        refine hp_ H405 14 hx404 rfl rfl rfl fun _ H406 => hp_ H406 15 hx404 rfl rfl rfl fun _ H407 => htg H407 16 hx404 rfl (wg_ H407 rfl rfl rfl rfl) rfl (fun _ _ _ => dd_mv rfl (H407.ev 13 rfl)) fun _ H408 => htg H408 17 hx404 rfl (wg_ H408 rfl rfl rfl rfl) rfl (fun _ _ _ => xS 33 0 rfl (H408.ev 142 rfl) rfl) fun _ H409 => htg H409 18 hx404 rfl (wg_ H409 rfl rfl rfl rfl) rfl (fun _ _ _ => xf 1 1 rfl (H409.ev 143 rfl)) fun _ H410 => htg H410 20 hx404 rfl (wg_ H410 rfl rfl rfl rfl) rfl (v := .agg (bs d)) (fun _ _ HS9 => dd_load HS9 1 0 rfl rfl (H410.ev 5 rfl) (slab_whole _) Tryd.underlying23 rfl (by rw [show (bs d).size = 32 from ((size_bs _).trans hd)]; kernel_rfl)) fun _ H411 => h1_ 19 rfl <| ig H411 (wg_ H411 rfl rfl rfl rfl) rfl (v := .agg (bs d)) (dd_load HSh390 3 1 rfl rfl (H411.ev 144 rfl) (put_dat Op76 0 rfl hd (pt_cons hd pt_nil)) Tryd.underlying23 rfl (by rw [show (bs d).size = 32 from ((size_bs _).trans hd)]; kernel_rfl)) fun _ H412 => sx_ (sxi HSh390 [0, 1, 2, 3, 4] rfl) fun hx413 => ?_
        clear H403 H405 H406 H407 H408 H409 H410 H411
        refine htg H412 21 hx413 rfl (wg_ H412 rfl rfl rfl rfl) rfl (v := .bool true) (fun _ _ _ => dd_eqa (b := true) rfl (H412.ev 145 rfl) (H412.ev 146 rfl) (by kernel_rfl) (fun w => by have h9 := eql_blk d d hd hd w; rw [decide_eq_true rfl] at h9; exact h9)) fun _ H414 => hp_ H414 22 hx413 rfl rfl rfl fun _ H415 => hp_ H415 23 hx413 rfl rfl rfl fun _ H416 => htg H416 24 hx413 rfl (wg_ H416 rfl rfl rfl rfl) rfl (fun _ _ _ => dd_mv rfl (H416.ev 13 rfl)) fun _ H417 => htg H417 25 hx413 rfl (wg_ H417 rfl rfl rfl rfl) rfl (fun _ _ _ => xS 33 0 rfl (H417.ev 150 rfl) rfl) fun _ H418 => htg H418 26 hx413 rfl (wg_ H418 rfl rfl rfl rfl) rfl (fun _ _ _ => xf 0 0 rfl (H418.ev 151 rfl)) fun _ H419 => htg H419 28 hx413 rfl (wg_ H419 rfl rfl rfl rfl) rfl (fun _ _ _ => dd_mv rfl (H419.ev 15 rfl)) fun _ H420 => htg H420 29 hx413 rfl (wg_ H420 rfl rfl rfl rfl) rfl (fun _ _ _ => xS 33 0 rfl (H420.ev 154 rfl) rfl) fun _ H421 => ?_
        clear hx404 H412 H414 H415 H416 H417 H418 H419
        refine htg H421 30 hx413 rfl (wg_ H421 rfl rfl rfl rfl) rfl (fun _ _ _ => xf 0 0 rfl (H421.ev 155 rfl)) fun _ H422 => htg H422 33 hx413 rfl (wg_ H422 rfl rfl rfl rfl) rfl (fun _ _ _ => dd_mv rfl (H422.ev 9 rfl)) fun _ H423 => htg H423 34 hx413 rfl (wg_ H423 rfl rfl rfl rfl) rfl (fun _ _ _ => dd_mv rfl (H423.ev 10 rfl)) fun _ H424 => htg H424 35 hx413 rfl (wg_ H424 rfl rfl rfl rfl) rfl (fun _ _ _ => dd_cmp rfl (H424.ev 159 rfl) (H424.ev 160 rfl) (eq_f hc171)) fun _ H425 => htg H425 36 hx413 rfl (wg_ H425 rfl rfl rfl rfl) rfl (fun _ _ _ => dd_mv rfl (H425.ev 161 rfl)) fun _ H426 => hk_ H426 37 hx413 rfl (wg_ H426 rfl rfl rfl rfl) rfl fun _ H427 => hk_ H427 38 hx413 rfl (wg_ H427 rfl rfl rfl rfl) rfl fun _ H428 => hk_ H428 39 hx413 rfl (wg_ H428 rfl rfl rfl rfl) rfl fun _ H429 => ?_
        clear H420 H421 H422 H423 H424 H425 H426 H427
        refine htg H429 40 hx413 rfl (wg_ H429 rfl rfl rfl rfl) rfl (fun _ _ _ => dd_pickF rfl (H429.ev 162 rfl) rfl) fun _ H430 => ?_
        clear H428 H429
        refine wpAnyH_all (rs := [27, 31]) (by kernel_rfl) (by decide) (hm_cons ?_ (hm_cons ?_ hm_nil))
        ·
         refine ho_ rfl <| ig H430 (wg_ H430 rfl rfl rfl rfl) rfl (dd_get HSh390 3 0 rfl rfl (H430.ev 152 rfl) (put_at Op76 0 rfl (pt_cons hd pt_nil)) Tryd.underlying3 rfl) fun _ H431 => sx_ (sxi HSh390 [0, 1, 2, 3, 4] rfl) fun hx432 => h1_ 31 rfl <| ig H431 (wg_ H431 rfl rfl rfl rfl) rfl (dd_get HSh390 4 0 rfl rfl (H431.ev 156 rfl) (put_at Op95 0 rfl (pt_cons hd pt_nil)) Tryd.underlying3 rfl) fun _ H433 => sx_ (sxi HSh390 [0, 1, 2, 3, 4] rfl) fun hx434 => htg H433 32 hx434 rfl (wg_ H433 rfl rfl rfl rfl) rfl (fun _ _ _ => dd_cmp rfl (H433.ev 153 rfl) (H433.ev 157 rfl) (eq_f (ap_diff hb6 hg64 hg83 (by omega) (by omega) (by omega)))) fun _ H435 => htg H435 41 hx434 rfl (wg_ H435 rfl rfl rfl rfl) rfl (v := .bool true) (fun _ _ _ => dd_eqb rfl (H435.ev 158 rfl) (H435.ev 166 rfl) Tryd.underlying4 rfl) fun _ H436 => hp_ H436 42 hx434 rfl rfl rfl fun _ H437 => hp_ H437 43 hx434 rfl rfl rfl fun _ H438 => ?_
         clear H430 H431 hx432 H433 H435 H436
         refine h1_ 44 rfl <| cg H438 (wg_ H438 rfl rfl rfl rfl) rfl HSh390 (dcs Tryd.func7 rfl (args0 ) (opwakes_any W94.drew) (.bool true)) fun _ HS439 _ H439 => sx_ (sxi HS439 [0, 1, 2, 3, 4] rfl) fun hx440 => hp_ H439 45 hx440 rfl rfl rfl fun _ H441 => hp_ H441 46 hx440 rfl rfl rfl fun _ H442 => ?_
         clear H437 H438 HSh390 hx434 H439 H441
         refine wpAnyH_done (by kernel_rfl) ?_ _
         clear hx440
         exact nx ⟨H442.sel [6] rfl, ss HS439 [0, 1, 2, 3, 4]⟩
        refine ho_ rfl <| ig H430 (wg_ H430 rfl rfl rfl rfl) rfl (dd_get HSh390 4 0 rfl rfl (H430.ev 156 rfl) (put_at Op95 0 rfl (pt_cons hd pt_nil)) Tryd.underlying3 rfl) fun _ H443 => sx_ (sxi HSh390 [0, 1, 2, 3, 4] rfl) fun hx444 => h1_ 27 rfl <| ig H443 (wg_ H443 rfl rfl rfl rfl) rfl (dd_get HSh390 3 0 rfl rfl (H443.ev 152 rfl) (put_at Op76 0 rfl (pt_cons hd pt_nil)) Tryd.underlying3 rfl) fun _ H445 => sx_ (sxi HSh390 [0, 1, 2, 3, 4] rfl) fun hx446 => htg H445 32 hx446 rfl (wg_ H445 rfl rfl rfl rfl) rfl (fun _ _ _ => dd_cmp rfl (H445.ev 153 rfl) (H445.ev 157 rfl) (eq_f (ap_diff hb6 hg64 hg83 (by omega) (by omega) (by omega)))) fun _ H447 => htg H447 41 hx446 rfl (wg_ H447 rfl rfl rfl rfl) rfl (v := .bool true) (fun _ _ _ => dd_eqb rfl (H447.ev 158 rfl) (H447.ev 166 rfl) Tryd.underlying4 rfl) fun _ H448 => hp_ H448 42 hx446 rfl rfl rfl fun _ H449 => hp_ H449 43 hx446 rfl rfl rfl fun _ H450 => ?_
        clear H430 H443 hx444 H445 H447 H448
        refine h1_ 44 rfl <| cg H450 (wg_ H450 rfl rfl rfl rfl) rfl HSh390 (dcs Tryd.func7 rfl (args0 ) (opwakes_any W94.drew) (.bool true)) fun _ HS451 _ H451 => sx_ (sxi HS451 [0, 1, 2, 3, 4] rfl) fun hx452 => hp_ H451 45 hx452 rfl rfl rfl fun _ H453 => hp_ H453 46 hx452 rfl rfl rfl fun _ H454 => ?_
        clear H449 H450 HSh390 hx446 H451 H453
        refine wpAnyH_done (by kernel_rfl) ?_ _
        clear hx452
        exact nx ⟨H454.sel [6] rfl, ss HS451 [0, 1, 2, 3, 4]⟩
       rintro aj390 wj390 ⟨Hj390, HSj390⟩
       refine nx <| wp_ret <| ret_run Hj390.env0 (res_t Tryd.results5 (Hj390.get 6 rfl)) <| ?_
       exact ⟨rfl, HSj390.below⟩
      refine wp_cut (fun a9 w9 => En 172 [(6, .bool true)] a9 ∧ St w noF [⟨g4, 58, bs z⟩, ⟨g5, 23, bs d⟩, ⟨g7, 23, bs (encT l)⟩, ⟨gp76, 51, cbp76⟩, ⟨gp95, 51, cbp95⟩] w9) ?_ ?_
      ·
       refine wi_ HS94j [0, 1, 2] rfl [0, 1, 2, 3, 4] rfl fun HSh456 hx456 => hp_ H135 0 hx456 rfl rfl rfl fun _ H457 => ht_ H457 1 hx456 rfl rfl (v := .int .i64 1) (fun _ _ _ => dd_len rfl (H457.ev 126 rfl) Tryd.underlying35) fun _ H458 => ht_ H458 2 hx456 rfl rfl (fun _ _ _ => dd_cmp rfl (H458.ev 127 rfl) rfl (eq_t (by decide))) fun _ H459 => hp_ H459 3 hx456 rfl rfl rfl fun _ H460 => htg H460 4 hx456 rfl (wg_ H460 rfl rfl rfl rfl) rfl (fun _ _ _ => dd_mv rfl (H460.ev 15 rfl)) fun _ H461 => htg H461 5 hx456 rfl (wg_ H461 rfl rfl rfl rfl) rfl (v := .int .i64 1) (fun _ _ _ => dd_len rfl (H461.ev 130 rfl) Tryd.underlying35) fun _ H462 => htg H462 6 hx456 rfl (wg_ H462 rfl rfl rfl rfl) rfl (fun _ _ _ => dd_cmp rfl (H462.ev 131 rfl) rfl (eq_t (by decide))) fun _ H463 => ?_
       clear HS94j H135 H457 H458 H459 H460 H461
       refine hp_ H463 7 hx456 rfl rfl rfl fun _ H464 => hp_ H464 8 hx456 rfl rfl rfl fun _ H465 => htg H465 9 hx456 rfl (wg_ H465 rfl rfl rfl rfl) rfl (fun _ _ _ => dd_mv rfl (H465.ev 13 rfl)) fun _ H466 => htg H466 10 hx456 rfl (wg_ H466 rfl rfl rfl rfl) rfl (fun _ _ _ => xS 33 0 rfl (H466.ev 135 rfl) rfl) fun _ H467 => htg H467 11 hx456 rfl (wg_ H467 rfl rfl rfl rfl) rfl (fun _ _ _ => xf 0 0 rfl (H467.ev 136 rfl)) fun _ H468 => h1_ 12 rfl <| ig H468 (wg_ H468 rfl rfl rfl rfl) rfl (dd_get HSh456 3 0 rfl rfl (H468.ev 137 rfl) (put_at Op76 0 rfl (pt_cons hd pt_nil)) Tryd.underlying3 rfl) fun _ H469 => sx_ (sxi HSh456 [0, 1, 2, 3, 4] rfl) fun hx470 => htg H469 13 hx470 rfl (wg_ H469 rfl rfl rfl rfl) rfl (fun _ _ _ => dd_cmp rfl (H469.ev 138 rfl) rfl (ne_t (ap_ne0 hb6 hg64 (by omega)))) fun _ H471 => ?_
       clear H462 H463 H464 H465 H466 H467 H468 hx456
       refine hp_ H471 14 hx470 rfl rfl rfl fun _ H472 => hp_ H472 15 hx470 rfl rfl rfl fun _ H473 => htg H473 16 hx470 rfl (wg_ H473 rfl rfl rfl rfl) rfl (fun _ _ _ => dd_mv rfl (H473.ev 13 rfl)) fun _ H474 => htg H474 17 hx470 rfl (wg_ H474 rfl rfl rfl rfl) rfl (fun _ _ _ => xS 33 0 rfl (H474.ev 142 rfl) rfl) fun _ H475 => htg H475 18 hx470 rfl (wg_ H475 rfl rfl rfl rfl) rfl (fun _ _ _ => xf 1 1 rfl (H475.ev 143 rfl)) fun _ H476 => htg H476 20 hx470 rfl (wg_ H476 rfl rfl rfl rfl) rfl (v := .agg (bs d)) (fun _ _ HS9 => dd_load HS9 1 0 rfl rfl (H476.ev 5 rfl) (slab_whole _) Tryd.underlying23 rfl (by rw [show (bs d).size = 32 from ((size_bs _).trans hd)]; kernel_rfl)) fun _ H477 => h1_ 19 rfl <| ig H477 (wg_ H477 rfl rfl rfl rfl) rfl (v := .agg (bs d)) (dd_load HSh456 3 1 rfl rfl (H477.ev 144 rfl) (put_dat Op76 0 rfl hd (pt_cons hd pt_nil)) Tryd.underlying23 rfl (by rw [show (bs d).size = 32 from ((size_bs _).trans hd)]; kernel_rfl)) fun _ H478 => sx_ (sxi HSh456 [0, 1, 2, 3, 4] rfl) fun hx479 => ?_
       clear H469 H471 H472 H473 H474 H475 H476 H477
       refine htg H478 21 hx479 rfl (wg_ H478 rfl rfl rfl rfl) rfl (v := .bool true) (fun _ _ _ => dd_eqa (b := true) rfl (H478.ev 145 rfl) (H478.ev 146 rfl) (by kernel_rfl) (fun w => by have h9 := eql_blk d d hd hd w; rw [decide_eq_true rfl] at h9; exact h9)) fun _ H480 => hp_ H480 22 hx479 rfl rfl rfl fun _ H481 => hp_ H481 23 hx479 rfl rfl rfl fun _ H482 => htg H482 24 hx479 rfl (wg_ H482 rfl rfl rfl rfl) rfl (fun _ _ _ => dd_mv rfl (H482.ev 13 rfl)) fun _ H483 => htg H483 25 hx479 rfl (wg_ H483 rfl rfl rfl rfl) rfl (fun _ _ _ => xS 33 0 rfl (H483.ev 150 rfl) rfl) fun _ H484 => htg H484 26 hx479 rfl (wg_ H484 rfl rfl rfl rfl) rfl (fun _ _ _ => xf 0 0 rfl (H484.ev 151 rfl)) fun _ H485 => htg H485 28 hx479 rfl (wg_ H485 rfl rfl rfl rfl) rfl (fun _ _ _ => dd_mv rfl (H485.ev 15 rfl)) fun _ H486 => htg H486 29 hx479 rfl (wg_ H486 rfl rfl rfl rfl) rfl (fun _ _ _ => xS 33 0 rfl (H486.ev 154 rfl) rfl) fun _ H487 => ?_
       clear hx470 H478 H480 H481 H482 H483 H484 H485
       refine htg H487 30 hx479 rfl (wg_ H487 rfl rfl rfl rfl) rfl (fun _ _ _ => xf 0 0 rfl (H487.ev 155 rfl)) fun _ H488 => htg H488 33 hx479 rfl (wg_ H488 rfl rfl rfl rfl) rfl (fun _ _ _ => dd_mv rfl (H488.ev 9 rfl)) fun _ H489 => htg H489 34 hx479 rfl (wg_ H489 rfl rfl rfl rfl) rfl (fun _ _ _ => dd_mv rfl (H489.ev 10 rfl)) fun _ H490 => htg H490 35 hx479 rfl (wg_ H490 rfl rfl rfl rfl) rfl (fun _ _ _ => dd_cmp rfl (H490.ev 159 rfl) (H490.ev 160 rfl) (eq_f hc171)) fun _ H491 => htg H491 36 hx479 rfl (wg_ H491 rfl rfl rfl rfl) rfl (fun _ _ _ => dd_mv rfl (H491.ev 161 rfl)) fun _ H492 => hk_ H492 37 hx479 rfl (wg_ H492 rfl rfl rfl rfl) rfl fun _ H493 => hk_ H493 38 hx479 rfl (wg_ H493 rfl rfl rfl rfl) rfl fun _ H494 => hk_ H494 39 hx479 rfl (wg_ H494 rfl rfl rfl rfl) rfl fun _ H495 => ?_
       clear H486 H487 H488 H489 H490 H491 H492 H493
       refine htg H495 40 hx479 rfl (wg_ H495 rfl rfl rfl rfl) rfl (fun _ _ _ => dd_pickF rfl (H495.ev 162 rfl) rfl) fun _ H496 => ?_
       clear H494 H495
       refine wpAnyH_all (rs := [27, 31]) (by kernel_rfl) (by decide) (hm_cons ?_ (hm_cons ?_ hm_nil))
       ·
        refine ho_ rfl <| ig H496 (wg_ H496 rfl rfl rfl rfl) rfl (dd_get HSh456 3 0 rfl rfl (H496.ev 152 rfl) (put_at Op76 0 rfl (pt_cons hd pt_nil)) Tryd.underlying3 rfl) fun _ H497 => sx_ (sxi HSh456 [0, 1, 2, 3, 4] rfl) fun hx498 => h1_ 31 rfl <| ig H497 (wg_ H497 rfl rfl rfl rfl) rfl (dd_get HSh456 4 0 rfl rfl (H497.ev 156 rfl) (put_at Op95 0 rfl (pt_cons hd pt_nil)) Tryd.underlying3 rfl) fun _ H499 => sx_ (sxi HSh456 [0, 1, 2, 3, 4] rfl) fun hx500 => htg H499 32 hx500 rfl (wg_ H499 rfl rfl rfl rfl) rfl (fun _ _ _ => dd_cmp rfl (H499.ev 153 rfl) (H499.ev 157 rfl) (eq_f (ap_diff hb6 hg64 hg83 (by omega) (by omega) (by omega)))) fun _ H501 => htg H501 41 hx500 rfl (wg_ H501 rfl rfl rfl rfl) rfl (v := .bool true) (fun _ _ _ => dd_eqb rfl (H501.ev 158 rfl) (H501.ev 166 rfl) Tryd.underlying4 rfl) fun _ H502 => hp_ H502 42 hx500 rfl rfl rfl fun _ H503 => hp_ H503 43 hx500 rfl rfl rfl fun _ H504 => ?_
        clear H496 H497 hx498 H499 H501 H502
        refine h1_ 44 rfl <| cg H504 (wg_ H504 rfl rfl rfl rfl) rfl HSh456 (dcs Tryd.func7 rfl (args0 ) (opwakes_any W94.drew) (.bool true)) fun _ HS505 _ H505 => sx_ (sxi HS505 [0, 1, 2, 3, 4] rfl) fun hx506 => hp_ H505 45 hx506 rfl rfl rfl fun _ H507 => hp_ H507 46 hx506 rfl rfl rfl fun _ H508 => ?_
        clear H503 H504 HSh456 hx500 H505 H507
        refine wpAnyH_done (by kernel_rfl) ?_ _
        clear hx506
        exact nx ⟨H508.sel [6] rfl, ss HS505 [0, 1, 2, 3, 4]⟩
       refine ho_ rfl <| ig H496 (wg_ H496 rfl rfl rfl rfl) rfl (dd_get HSh456 4 0 rfl rfl (H496.ev 156 rfl) (put_at Op95 0 rfl (pt_cons hd pt_nil)) Tryd.underlying3 rfl) fun _ H509 => sx_ (sxi HSh456 [0, 1, 2, 3, 4] rfl) fun hx510 => h1_ 27 rfl <| ig H509 (wg_ H509 rfl rfl rfl rfl) rfl (dd_get HSh456 3 0 rfl rfl (H509.ev 152 rfl) (put_at Op76 0 rfl (pt_cons hd pt_nil)) Tryd.underlying3 rfl) fun _ H511 => sx_ (sxi HSh456 [0, 1, 2, 3, 4] rfl) fun hx512 => htg H511 32 hx512 rfl (wg_ H511 rfl rfl rfl rfl) rfl (fun _ _ _ => dd_cmp rfl (H511.ev 153 rfl) (H511.ev 157 rfl) (eq_f (ap_diff hb6 hg64 hg83 (by omega) (by omega) (by omega)))) fun _ H513 => htg H513 41 hx512 rfl (wg_ H513 rfl rfl rfl rfl) rfl (v := .bool true) (fun _ _ _ => dd_eqb rfl (H513.ev 158 rfl) (H513.ev 166 rfl) Tryd.underlying4 rfl) fun _ H514 => hp_ H514 42 hx512 rfl rfl rfl fun _ H515 => hp_ H515 43 hx512 rfl rfl rfl fun _ H516 => ?_
       clear H496 H509 hx510 H511 H513 H514
       refine h1_ 44 rfl <| cg H516 (wg_ H516 rfl rfl rfl rfl) rfl HSh456 (dcs Tryd.func7 rfl (args0 ) (opwakes_any W94.drew) (.bool true)) fun _ HS517 _ H517 => sx_ (sxi HS517 [0, 1, 2, 3, 4] rfl) fun hx518 => hp_ H517 45 hx518 rfl rfl rfl fun _ H519 => hp_ H519 46 hx518 rfl rfl rfl fun _ H520 => ?_
       clear H515 H516 HSh456 hx512 H517 H519
       refine wpAnyH_done (by kernel_rfl) ?_ _
       clear hx518
       exact nx ⟨H520.sel [6] rfl, ss HS517 [0, 1, 2, 3, 4]⟩
      rintro aj456 wj456 ⟨Hj456, HSj456⟩
      refine nx <| wp_ret <| ret_run Hj456.env0 (res_t Tryd.results5 (Hj456.get 6 rfl)) <| ?_
      exact ⟨rfl, HSj456.below⟩
     refine wi_ HS75j [0, 1, 2] rfl [0, 1, 2, 3] rfl fun HSh522 hx522 => ht_ H82 0 hx522 rfl rfl (v := .agg (bs (encT l))) (fun _ _ HS9 => dd_load HS9 2 0 rfl rfl (H82.ev 7 rfl) (slab_whole _) Tryd.underlying23 rfl (by rw [show (bs (encT l)).size = 32 from ((size_bs _).trans (length_encT _))]; kernel_rfl)) fun _ H523 => hp_ H523 1 hx522 rfl rfl rfl fun _ H524 => hp_ H524 2 hx522 rfl rfl rfl fun _ H525 => ht_ H525 3 hx522 rfl rfl (fun _ _ _ => xSo 2 (o + j1 * 2) rfl (H525.ev 65 rfl) (H525.ev 66 rfl)) fun _ H526 => ht_ H526 4 hx522 rfl rfl (fun _ _ _ => xf 0 (o + j1 * 2) rfl (H526.ev 67 rfl)) fun _ H527 => ht_ H527 5 hx522 rfl rfl (fun _ _ HS9 => dd_at rfl (H527.ev 68 rfl) ((hr83 _ HS9.below).1 0 _ rfl) Tryd.underlying9 rfl) fun _ H528 => hp_ H528 6 hx522 rfl rfl rfl fun _ H529 => ?_
     clear HS75j H82 H523 H524 H525 H526 H527
     refine ht_ H529 7 hx522 rfl rfl (v := .agg (bs d)) (fun _ _ HS9 => dd_load HS9 1 0 rfl rfl (H529.ev 5 rfl) (slab_whole _) Tryd.underlying23 rfl (by rw [show (bs d).size = 32 from ((size_bs _).trans hd)]; kernel_rfl)) fun _ H530 => ?_
     clear H528 H529
     refine h1_ 8 rfl <| d_ H530 rfl (R := fun v w9 => ∃ vp532, v = .tuple #[vp532, .int .i64 17] ∧ Below W75.drew.heap.size W75.drew w9) (dc_ Tryd.func13 rfl (args4 (H530.ev 64 rfl) (H530.ev 69 rfl) (H530.ev 70 rfl) (H530.ev 71 rfl)) (write_any (encT l) p83 d y1 W75.drew (length_encT _) hd) (fun _ w9 ⟨v9, he, _, hb⟩ => by rw [(ap_out hb6 hg83 (by omega))] at he; exact ⟨_, he, v9, rfl, hb⟩)) ?_
     rintro _ W531 ⟨vp532, rfl, hb531⟩ a531 H531
     have HS531 := HSh522.same hb531
     clear H530
     clear HSh522 hb531
     refine sx_ (sxi HS531 [0, 1, 2, 3] rfl) fun hx533 => hp_ H531 9 hx533 rfl rfl rfl fun _ H534 => ht_ H534 10 hx533 rfl rfl (v := vp532) (fun _ _ _ => dd_ext rfl (H534.ev 63 rfl) rfl) fun _ H535 => ht_ H535 11 hx533 rfl rfl (v := .int .i64 17) (fun _ _ _ => dd_ext rfl (H535.ev 63 rfl) rfl) fun _ H536 => hp_ H536 12 hx533 rfl rfl rfl fun _ H537 => hp_ H537 13 hx533 rfl rfl rfl fun _ H538 => ?_
     clear hx522 H531 H534 H535 H536 H537
     refine wpAnyH_done (by kernel_rfl) ?_ _
     clear hx533
     refine nx <| sq_ <| sq_ <| rl_ <| wl_ <| p_ H538 rfl rfl fun _ H539 => wl_ <| i_ H539 rfl (dd_cmp rfl (H539.ev 75 rfl) rfl (ne_f (by decide))) fun _ H540 => wl_ <| p_ H540 rfl rfl fun _ H541 => wl_ <| ig H541 (wg_ H541 rfl rfl rfl rfl) rfl (dd_mv rfl (H541.ev 14 rfl)) fun _ H542 => wl_ <| ig H542 (wg_ H542 rfl rfl rfl rfl) rfl (dd_cmp rfl (H542.ev 78 rfl) rfl (eq_t (by decide))) fun _ H543 => wl_ <| ig H543 (wg_ H543 rfl rfl rfl rfl) rfl (dd_mv rfl (H543.ev 11 rfl)) fun _ H544 => wl_ <| ig H544 (wg_ H544 rfl rfl rfl rfl) rfl (dd_mv rfl (H544.ev 0 rfl)) fun _ H545 => wl_ <| ig H545 (wg_ H545 rfl rfl rfl rfl) rfl (dd_mv rfl (H545.ev 9 rfl)) fun _ H546 => ?_
     clear H538 H539 H540 H541 H542 H543 H544
     refine wl_ <| ig H546 (wg_ H546 rfl rfl rfl rfl) rfl (xSo 2 (o + i1 * 2) rfl (H546.ev 81 rfl) (H546.ev 82 rfl)) fun _ H547 => wl_ <| ig H547 (wg_ H547 rfl rfl rfl rfl) rfl (xf 1 (o + i1 * 2 + 1) rfl (H547.ev 83 rfl)) fun _ H548 => wl_ <| ig H548 (wg_ H548 rfl rfl rfl rfl) rfl (dd_at rfl (H548.ev 84 rfl) ((hr64 _ HS531.below).1 1 _ rfl) Tryd.underlying54 rfl) fun _ H549 => wl_ <| ig H549 (wg_ H549 rfl rfl rfl rfl) rfl (v := .int .i64 m64) (dd_len rfl (H549.ev 85 rfl) Tryd.underlying54) fun _ H550 => wl_ <| ig H550 (wg_ H550 rfl rfl rfl rfl) rfl (dd_cmp rfl (H550.ev 80 rfl) (H550.ev 86 rfl) (lt_t hc65)) fun _ H551 => wl_ <| ig H551 (wg_ H551 rfl rfl rfl rfl) rfl (v := .bool false) (dd_neb rfl (H551.ev 79 rfl) (H551.ev 87 rfl) Tryd.underlying4 rfl) fun _ H552 => q_ H552 2 rfl fun _ H553 => wl_ <| ig H553 (wg_ H553 rfl rfl rfl rfl) rfl (dd_mv rfl (H553.ev 16 rfl)) fun _ H554 => ?_
     clear H545 H546 H547 H548 H549 H550 H551 H552
     refine wl_ <| ig H554 (wg_ H554 rfl rfl rfl rfl) rfl (dd_cmp rfl (H554.ev 91 rfl) rfl (eq_f (by decide))) fun _ H555 => wl_ <| ig H555 (wg_ H555 rfl rfl rfl rfl) rfl (dd_mv rfl (H555.ev 12 rfl)) fun _ H556 => wl_ <| ig H556 (wg_ H556 rfl rfl rfl rfl) rfl (dd_mv rfl (H556.ev 0 rfl)) fun _ H557 => wl_ <| ig H557 (wg_ H557 rfl rfl rfl rfl) rfl (dd_mv rfl (H557.ev 10 rfl)) fun _ H558 => wl_ <| ig H558 (wg_ H558 rfl rfl rfl rfl) rfl (xSo 2 (o + j1 * 2) rfl (H558.ev 94 rfl) (H558.ev 95 rfl)) fun _ H559 => wl_ <| ig H559 (wg_ H559 rfl rfl rfl rfl) rfl (xf 1 (o + j1 * 2 + 1) rfl (H559.ev 96 rfl)) fun _ H560 => wl_ <| ig H560 (wg_ H560 rfl rfl rfl rfl) rfl (dd_at rfl (H560.ev 97 rfl) ((hr83 _ HS531.below).1 1 _ rfl) Tryd.underlying54 rfl) fun _ H561 => wl_ <| ig H561 (wg_ H561 rfl rfl rfl rfl) rfl (v := .int .i64 m83) (dd_len rfl (H561.ev 98 rfl) Tryd.underlying54) fun _ H562 => ?_
     clear H553 H554 H555 H556 H557 H558 H559 H560
     refine wl_ <| ig H562 (wg_ H562 rfl rfl rfl rfl) rfl (dd_cmp rfl (H562.ev 93 rfl) (H562.ev 99 rfl) (lt_f hc84)) fun _ H563 => wl_ <| ig H563 (wg_ H563 rfl rfl rfl rfl) rfl (v := .bool false) (dd_neb rfl (H563.ev 92 rfl) (H563.ev 100 rfl) Tryd.underlying4 rfl) fun _ H564 => wl_ <| p_ H564 rfl rfl fun _ H565 => ln_ <| ?_
     clear H561 H562 H563 H564
     have H566 := H565.sel [5, 9, 10, 11, 12, 13, 14, 15, 16, 102] rfl
     refine nx <| cf_ H566 rfl <| wp_skip <| nx <| sq_ <| sq_ <| rl_ <| wl_ <| p_ H566 rfl rfl fun _ H567 => wl_ <| i_ H567 rfl (dd_cmp rfl (H567.ev 103 rfl) rfl (ne_f (by decide))) fun _ H568 => wl_ <| p_ H568 rfl rfl fun _ H569 => wl_ <| ig H569 (wg_ H569 rfl rfl rfl rfl) rfl (dd_mv rfl (H569.ev 16 rfl)) fun _ H570 => wl_ <| ig H570 (wg_ H570 rfl rfl rfl rfl) rfl (dd_cmp rfl (H570.ev 106 rfl) rfl (ne_t (by decide))) fun _ H571 => wl_ <| p_ H571 rfl rfl fun _ H572 => ln_ <| nx <| ct_ H572 rfl <| sq_ <| rl_ <| wl_ <| p_ H572 rfl rfl fun _ H573 => wl_ <| i_ H573 rfl (dd_cmp rfl (H573.ev 109 rfl) rfl (eq_t (by decide))) fun _ H574 => ?_
     clear H565 H566 H567 H568 H569 H570 H571 H572
     refine wl_ <| p_ H574 rfl rfl fun _ H575 => wl_ <| k_ H575 (wg_ H575 rfl rfl rfl rfl) rfl fun _ H576 => wl_ <| k_ H576 (wg_ H576 rfl rfl rfl rfl) rfl fun _ H577 => q_ H577 2 rfl fun _ H578 => wl_ <| ig H578 (wg_ H578 rfl rfl rfl rfl) rfl (dd_mv rfl (H578.ev 16 rfl)) fun _ H579 => wl_ <| ig H579 (wg_ H579 rfl rfl rfl rfl) rfl (dd_cmp rfl (H579.ev 116 rfl) rfl (eq_f (by decide))) fun _ H580 => wl_ <| ig H580 (wg_ H580 rfl rfl rfl rfl) rfl (dd_mv rfl (H580.ev 117 rfl)) fun _ H581 => wl_ <| ig H581 (wg_ H581 rfl rfl rfl rfl) rfl (dd_mv rfl (H581.ev 16 rfl)) fun _ H582 => ?_
     clear H573 H574 H575 H576 H577 H578 H579 H580
     refine wl_ <| ig H582 (wg_ H582 rfl rfl rfl rfl) rfl (dd_cmp rfl (H582.ev 119 rfl) rfl (eq_t (by decide))) fun _ H583 => wl_ <| ig H583 (wg_ H583 rfl rfl rfl rfl) rfl (dd_pickF rfl (H583.ev 118 rfl) (H583.ev 120 rfl)) fun _ H584 => q_ H584 2 rfl fun _ H585 => wl_ <| cg H585 (wg_ H585 rfl rfl rfl rfl) rfl HS531 (dcs Tryd.func7 rfl (args0 ) (opwakes_any W531) (.bool true)) fun _ HS586 _ H586 => q_ H586 2 rfl fun _ H587 => ln_ <| ?_
     clear H581 H582 H583 H584 H585 HS531 H586
     have H588 := H587.sel [6] rfl
     refine nx <| wp_ret <| tr <| ret_run H588.env0 (res_t Tryd.results5 (H588.get 6 rfl)) <| ?_
     clear H587
     exact ⟨rfl, HS586.below⟩
    refine wi_ HSh53 [0, 1, 2] rfl [0, 1, 2] rfl fun HSh589 hx589 => ht_ H63 0 hx589 rfl rfl (v := .agg (bs (encT l))) (fun _ _ HS9 => dd_load HS9 2 0 rfl rfl (H63.ev 7 rfl) (slab_whole _) Tryd.underlying23 rfl (by rw [show (bs (encT l)).size = 32 from ((size_bs _).trans (length_encT _))]; kernel_rfl)) fun _ H590 => hp_ H590 1 hx589 rfl rfl rfl fun _ H591 => hp_ H591 2 hx589 rfl rfl rfl fun _ H592 => ht_ H592 3 hx589 rfl rfl (fun _ _ _ => xSo 2 (o + i1 * 2) rfl (H592.ev 53 rfl) (H592.ev 54 rfl)) fun _ H593 => ht_ H593 4 hx589 rfl rfl (fun _ _ _ => xf 0 (o + i1 * 2) rfl (H593.ev 55 rfl)) fun _ H594 => ht_ H594 5 hx589 rfl rfl (fun _ _ HS9 => dd_at rfl (H594.ev 56 rfl) ((hr64 _ HS9.below).1 0 _ rfl) Tryd.underlying9 rfl) fun _ H595 => hp_ H595 6 hx589 rfl rfl rfl fun _ H596 => ?_
    clear HSh53 H63 H590 H591 H592 H593 H594
    refine ht_ H596 7 hx589 rfl rfl (v := .agg (bs d)) (fun _ _ HS9 => dd_load HS9 1 0 rfl rfl (H596.ev 5 rfl) (slab_whole _) Tryd.underlying23 rfl (by rw [show (bs d).size = 32 from ((size_bs _).trans hd)]; kernel_rfl)) fun _ H597 => ?_
    clear H595 H596
    refine h1_ 8 rfl <| d_ H597 rfl (R := fun v w9 => ∃ vp599, v = .tuple #[vp599, .int .i64 17] ∧ Below W35.drew.drew.drew.heap.size W35.drew.drew.drew w9) (dc_ Tryd.func13 rfl (args4 (H597.ev 52 rfl) (H597.ev 57 rfl) (H597.ev 58 rfl) (H597.ev 59 rfl)) (write_any (encT l) p64 d x1 W35.drew.drew.drew (length_encT _) hd) (fun _ w9 ⟨v9, he, _, hb⟩ => by rw [(ap_out hb6 hg64 (by omega))] at he; exact ⟨_, he, v9, rfl, hb⟩)) ?_
    rintro _ W598 ⟨vp599, rfl, hb598⟩ a598 H598
    have HS598 := HSh589.same hb598
    clear H597
    clear HSh589 hb598
    refine sx_ (sxi HS598 [0, 1, 2] rfl) fun hx600 => hp_ H598 9 hx600 rfl rfl rfl fun _ H601 => ht_ H601 10 hx600 rfl rfl (v := vp599) (fun _ _ _ => dd_ext rfl (H601.ev 51 rfl) rfl) fun _ H602 => ht_ H602 11 hx600 rfl rfl (v := .int .i64 17) (fun _ _ _ => dd_ext rfl (H602.ev 51 rfl) rfl) fun _ H603 => hp_ H603 12 hx600 rfl rfl rfl fun _ H604 => hp_ H604 13 hx600 rfl rfl rfl fun _ H605 => ?_
    clear hx589 H598 H601 H602 H603 H604
    refine wpAnyH_done (by kernel_rfl) ?_ _
    clear hx600
    refine nx <| sq_ <| ?_
    obtain ⟨p606, L606, B606, m606, c606, hg606, hr606, hm606, hp606⟩ := vols_getC (HVl _ (Below.refl _ _)) (k := j1) (by omega)
    by_cases hc607 : (y1 : Int) < m606
    ·
     refine wi_ HS598 [0, 1, 2] rfl [0, 1, 2] rfl fun HSh608 hx608 => ht_ H605 0 hx608 rfl rfl (v := .agg (bs (encT l))) (fun _ _ HS9 => dd_load HS9 2 0 rfl rfl (H605.ev 7 rfl) (slab_whole _) Tryd.underlying23 rfl (by rw [show (bs (encT l)).size = 32 from ((size_bs _).trans (length_encT _))]; kernel_rfl)) fun _ H609 => hp_ H609 1 hx608 rfl rfl rfl fun _ H610 => hp_ H610 2 hx608 rfl rfl rfl fun _ H611 => ht_ H611 3 hx608 rfl rfl (fun _ _ _ => xSo 2 (o + j1 * 2) rfl (H611.ev 65 rfl) (H611.ev 66 rfl)) fun _ H612 => ht_ H612 4 hx608 rfl rfl (fun _ _ _ => xf 0 (o + j1 * 2) rfl (H612.ev 67 rfl)) fun _ H613 => ht_ H613 5 hx608 rfl rfl (fun _ _ HS9 => dd_at rfl (H613.ev 68 rfl) ((hr606 _ HS9.below).1 0 _ rfl) Tryd.underlying9 rfl) fun _ H614 => hp_ H614 6 hx608 rfl rfl rfl fun _ H615 => ?_
     clear HS598 H605 H609 H610 H611 H612 H613
     refine ht_ H615 7 hx608 rfl rfl (v := .agg (bs d)) (fun _ _ HS9 => dd_load HS9 1 0 rfl rfl (H615.ev 5 rfl) (slab_whole _) Tryd.underlying23 rfl (by rw [show (bs d).size = 32 from ((size_bs _).trans hd)]; kernel_rfl)) fun _ H616 => ?_
     clear H614 H615
     refine h1_ 8 rfl <| d_ H616 rfl (R := fun v w9 => ∃ gp618 cp618 cbp618, v = .tuple #[.slice (some ⟨gp618, 0, none⟩) 1 cp618, .int .i64 0] ∧ (W598.drew.heap.size ≤ gp618) ∧ (Row w9 gp618 51 cbp618) ∧ (OwnC cbp618 cp618 1 33 (((([(L606.getD y1 0, d)] : List Pt)).map pcell).flatten)) ∧ Below W598.drew.heap.size W598.drew w9) (dc_ Tryd.func13 rfl (args4 (H616.ev 64 rfl) (H616.ev 69 rfl) (H616.ev 70 rfl) (H616.ev 71 rfl)) (write_any (encT l) p606 d y1 W598.drew (length_encT _) hd) (fun _ w9 ⟨v9, he, ho, hb⟩ => by rw [(ap_in hb6 hg606 (by omega)).1] at he; rw [(ap_P hb6 hg606 (by omega))] at ho; obtain ⟨g9, c9, cb9, rfl, h1, h2, h3⟩ := ownc_pos ho (Nat.succ_pos _); exact ⟨_, he, g9, c9, cb9, rfl, h1, h2, h3, hb⟩)) ?_
     rintro _ W617 ⟨gp618, cp618, cbp618, rfl, hg618, hr618, Op618, hb617⟩ a617 H617
     have HS617 := HSh608.same hb617
     clear H616
     have HS617j : St w noF [⟨g4, 58, bs z⟩, ⟨g5, 23, bs d⟩, ⟨g7, 23, bs (encT l)⟩, ⟨gp618, 51, cbp618⟩] W617 := HSh608.joins hb617 hr618 hg618
     clear HS617 hr618 hg618
     clear HSh608 hb617
     refine sx_ (sxi HS617j [0, 1, 2, 3] rfl) fun hx619 => hp_ H617 9 hx619 rfl rfl rfl fun _ H620 => ht_ H620 10 hx619 rfl rfl (v := .slice (some ⟨gp618, 0, none⟩) 1 cp618) (fun _ _ _ => dd_ext rfl (H620.ev 63 rfl) rfl) fun _ H621 => ht_ H621 11 hx619 rfl rfl (v := .int .i64 0) (fun _ _ _ => dd_ext rfl (H621.ev 63 rfl) rfl) fun _ H622 => hp_ H622 12 hx619 rfl rfl rfl fun _ H623 => hp_ H623 13 hx619 rfl rfl rfl fun _ H624 => ?_
     clear hx608 H617 H620 H621 H622 H623
     refine wpAnyH_done (by kernel_rfl) ?_ _
     clear hx619
     refine nx <| sq_ <| sq_ <| rl_ <| wl_ <| p_ H624 rfl rfl fun _ H625 => wl_ <| i_ H625 rfl (dd_cmp rfl (H625.ev 75 rfl) rfl (ne_f (by decide))) fun _ H626 => wl_ <| p_ H626 rfl rfl fun _ H627 => wl_ <| ig H627 (wg_ H627 rfl rfl rfl rfl) rfl (dd_mv rfl (H627.ev 14 rfl)) fun _ H628 => wl_ <| ig H628 (wg_ H628 rfl rfl rfl rfl) rfl (dd_cmp rfl (H628.ev 78 rfl) rfl (eq_f (by decide))) fun _ H629 => wl_ <| ig H629 (wg_ H629 rfl rfl rfl rfl) rfl (dd_mv rfl (H629.ev 11 rfl)) fun _ H630 => wl_ <| ig H630 (wg_ H630 rfl rfl rfl rfl) rfl (dd_mv rfl (H630.ev 0 rfl)) fun _ H631 => wl_ <| ig H631 (wg_ H631 rfl rfl rfl rfl) rfl (dd_mv rfl (H631.ev 9 rfl)) fun _ H632 => ?_
     clear H624 H625 H626 H627 H628 H629 H630
     refine wl_ <| ig H632 (wg_ H632 rfl rfl rfl rfl) rfl (xSo 2 (o + i1 * 2) rfl (H632.ev 81 rfl) (H632.ev 82 rfl)) fun _ H633 => wl_ <| ig H633 (wg_ H633 rfl rfl rfl rfl) rfl (xf 1 (o + i1 * 2 + 1) rfl (H633.ev 83 rfl)) fun _ H634 => wl_ <| ig H634 (wg_ H634 rfl rfl rfl rfl) rfl (dd_at rfl (H634.ev 84 rfl) ((hr64 _ HS617j.below).1 1 _ rfl) Tryd.underlying54 rfl) fun _ H635 => wl_ <| ig H635 (wg_ H635 rfl rfl rfl rfl) rfl (v := .int .i64 m64) (dd_len rfl (H635.ev 85 rfl) Tryd.underlying54) fun _ H636 => wl_ <| ig H636 (wg_ H636 rfl rfl rfl rfl) rfl (dd_cmp rfl (H636.ev 80 rfl) (H636.ev 86 rfl) (lt_f hc65)) fun _ H637 => wl_ <| ig H637 (wg_ H637 rfl rfl rfl rfl) rfl (v := .bool false) (dd_neb rfl (H637.ev 79 rfl) (H637.ev 87 rfl) Tryd.underlying4 rfl) fun _ H638 => q_ H638 2 rfl fun _ H639 => wl_ <| ig H639 (wg_ H639 rfl rfl rfl rfl) rfl (dd_mv rfl (H639.ev 16 rfl)) fun _ H640 => ?_
     clear H631 H632 H633 H634 H635 H636 H637 H638
     refine wl_ <| ig H640 (wg_ H640 rfl rfl rfl rfl) rfl (dd_cmp rfl (H640.ev 91 rfl) rfl (eq_t (by decide))) fun _ H641 => wl_ <| ig H641 (wg_ H641 rfl rfl rfl rfl) rfl (dd_mv rfl (H641.ev 12 rfl)) fun _ H642 => wl_ <| ig H642 (wg_ H642 rfl rfl rfl rfl) rfl (dd_mv rfl (H642.ev 0 rfl)) fun _ H643 => wl_ <| ig H643 (wg_ H643 rfl rfl rfl rfl) rfl (dd_mv rfl (H643.ev 10 rfl)) fun _ H644 => wl_ <| ig H644 (wg_ H644 rfl rfl rfl rfl) rfl (xSo 2 (o + j1 * 2) rfl (H644.ev 94 rfl) (H644.ev 95 rfl)) fun _ H645 => wl_ <| ig H645 (wg_ H645 rfl rfl rfl rfl) rfl (xf 1 (o + j1 * 2 + 1) rfl (H645.ev 96 rfl)) fun _ H646 => wl_ <| ig H646 (wg_ H646 rfl rfl rfl rfl) rfl (dd_at rfl (H646.ev 97 rfl) ((hr606 _ HS617j.below).1 1 _ rfl) Tryd.underlying54 rfl) fun _ H647 => wl_ <| ig H647 (wg_ H647 rfl rfl rfl rfl) rfl (v := .int .i64 m606) (dd_len rfl (H647.ev 98 rfl) Tryd.underlying54) fun _ H648 => ?_
     clear H639 H640 H641 H642 H643 H644 H645 H646
     refine wl_ <| ig H648 (wg_ H648 rfl rfl rfl rfl) rfl (dd_cmp rfl (H648.ev 93 rfl) (H648.ev 99 rfl) (lt_t hc607)) fun _ H649 => wl_ <| ig H649 (wg_ H649 rfl rfl rfl rfl) rfl (v := .bool false) (dd_neb rfl (H649.ev 92 rfl) (H649.ev 100 rfl) Tryd.underlying4 rfl) fun _ H650 => wl_ <| p_ H650 rfl rfl fun _ H651 => ln_ <| ?_
     clear H647 H648 H649 H650
     have H652 := H651.sel [5, 9, 10, 11, 12, 13, 14, 15, 16, 102] rfl
     refine nx <| cf_ H652 rfl <| wp_skip <| nx <| sq_ <| sq_ <| rl_ <| wl_ <| p_ H652 rfl rfl fun _ H653 => wl_ <| i_ H653 rfl (dd_cmp rfl (H653.ev 103 rfl) rfl (ne_t (by decide))) fun _ H654 => wl_ <| p_ H654 rfl rfl fun _ H655 => wl_ <| k_ H655 (wg_ H655 rfl rfl rfl rfl) rfl fun _ H656 => wl_ <| k_ H656 (wg_ H656 rfl rfl rfl rfl) rfl fun _ H657 => wl_ <| p_ H657 rfl rfl fun _ H658 => ln_ <| nx <| ct_ H658 rfl <| sq_ <| rl_ <| wl_ <| p_ H658 rfl rfl fun _ H659 => wl_ <| i_ H659 rfl (dd_cmp rfl (H659.ev 109 rfl) rfl (eq_f (by decide))) fun _ H660 => ?_
     clear H651 H652 H653 H654 H655 H656 H657 H658
     refine wl_ <| p_ H660 rfl rfl fun _ H661 => wl_ <| ig H661 (wg_ H661 rfl rfl rfl rfl) rfl (dd_mv rfl (H661.ev 14 rfl)) fun _ H662 => wl_ <| ig H662 (wg_ H662 rfl rfl rfl rfl) rfl (dd_cmp rfl (H662.ev 112 rfl) rfl (eq_t (by decide))) fun _ H663 => q_ H663 2 rfl fun _ H664 => wl_ <| ig H664 (wg_ H664 rfl rfl rfl rfl) rfl (dd_mv rfl (H664.ev 16 rfl)) fun _ H665 => wl_ <| ig H665 (wg_ H665 rfl rfl rfl rfl) rfl (dd_cmp rfl (H665.ev 116 rfl) rfl (eq_t (by decide))) fun _ H666 => wl_ <| ig H666 (wg_ H666 rfl rfl rfl rfl) rfl (dd_mv rfl (H666.ev 117 rfl)) fun _ H667 => wl_ <| k_ H667 (wg_ H667 rfl rfl rfl rfl) rfl fun _ H668 => ?_
     clear H659 H660 H661 H662 H663 H664 H665 H666
     refine wl_ <| k_ H668 (wg_ H668 rfl rfl rfl rfl) rfl fun _ H669 => wl_ <| ig H669 (wg_ H669 rfl rfl rfl rfl) rfl (dd_pickT rfl (H669.ev 118 rfl) rfl) fun _ H670 => q_ H670 2 rfl fun _ H671 => wl_ <| cg H671 (wg_ H671 rfl rfl rfl rfl) rfl HS617j (dcs Tryd.func7 rfl (args0 ) (opwakes_any W617) (.bool true)) fun _ HS672 _ H672 => q_ H672 2 rfl fun _ H673 => ln_ <| ?_
     clear H667 H668 H669 H670 H671 HS617j H672
     have H674 := H673.sel [6] rfl
     refine nx <| wp_ret <| tr <| ret_run H674.env0 (res_t Tryd.results5 (H674.get 6 rfl)) <| ?_
     clear H673
     exact ⟨rfl, HS672.below⟩
    refine wi_ HS598 [0, 1, 2] rfl [0, 1, 2] rfl fun HSh675 hx675 => ht_ H605 0 hx675 rfl rfl (v := .agg (bs (encT l))) (fun _ _ HS9 => dd_load HS9 2 0 rfl rfl (H605.ev 7 rfl) (slab_whole _) Tryd.underlying23 rfl (by rw [show (bs (encT l)).size = 32 from ((size_bs _).trans (length_encT _))]; kernel_rfl)) fun _ H676 => hp_ H676 1 hx675 rfl rfl rfl fun _ H677 => hp_ H677 2 hx675 rfl rfl rfl fun _ H678 => ht_ H678 3 hx675 rfl rfl (fun _ _ _ => xSo 2 (o + j1 * 2) rfl (H678.ev 65 rfl) (H678.ev 66 rfl)) fun _ H679 => ht_ H679 4 hx675 rfl rfl (fun _ _ _ => xf 0 (o + j1 * 2) rfl (H679.ev 67 rfl)) fun _ H680 => ht_ H680 5 hx675 rfl rfl (fun _ _ HS9 => dd_at rfl (H680.ev 68 rfl) ((hr606 _ HS9.below).1 0 _ rfl) Tryd.underlying9 rfl) fun _ H681 => hp_ H681 6 hx675 rfl rfl rfl fun _ H682 => ?_
    clear HS598 H605 H676 H677 H678 H679 H680
    refine ht_ H682 7 hx675 rfl rfl (v := .agg (bs d)) (fun _ _ HS9 => dd_load HS9 1 0 rfl rfl (H682.ev 5 rfl) (slab_whole _) Tryd.underlying23 rfl (by rw [show (bs d).size = 32 from ((size_bs _).trans hd)]; kernel_rfl)) fun _ H683 => ?_
    clear H681 H682
    refine h1_ 8 rfl <| d_ H683 rfl (R := fun v w9 => ∃ vp685, v = .tuple #[vp685, .int .i64 17] ∧ Below W598.drew.heap.size W598.drew w9) (dc_ Tryd.func13 rfl (args4 (H683.ev 64 rfl) (H683.ev 69 rfl) (H683.ev 70 rfl) (H683.ev 71 rfl)) (write_any (encT l) p606 d y1 W598.drew (length_encT _) hd) (fun _ w9 ⟨v9, he, _, hb⟩ => by rw [(ap_out hb6 hg606 (by omega))] at he; exact ⟨_, he, v9, rfl, hb⟩)) ?_
    rintro _ W684 ⟨vp685, rfl, hb684⟩ a684 H684
    have HS684 := HSh675.same hb684
    clear H683
    clear HSh675 hb684
    refine sx_ (sxi HS684 [0, 1, 2] rfl) fun hx686 => hp_ H684 9 hx686 rfl rfl rfl fun _ H687 => ht_ H687 10 hx686 rfl rfl (v := vp685) (fun _ _ _ => dd_ext rfl (H687.ev 63 rfl) rfl) fun _ H688 => ht_ H688 11 hx686 rfl rfl (v := .int .i64 17) (fun _ _ _ => dd_ext rfl (H688.ev 63 rfl) rfl) fun _ H689 => hp_ H689 12 hx686 rfl rfl rfl fun _ H690 => hp_ H690 13 hx686 rfl rfl rfl fun _ H691 => ?_
    clear hx675 H684 H687 H688 H689 H690
    refine wpAnyH_done (by kernel_rfl) ?_ _
    clear hx686
    refine nx <| sq_ <| sq_ <| rl_ <| wl_ <| p_ H691 rfl rfl fun _ H692 => wl_ <| i_ H692 rfl (dd_cmp rfl (H692.ev 75 rfl) rfl (ne_f (by decide))) fun _ H693 => wl_ <| p_ H693 rfl rfl fun _ H694 => wl_ <| ig H694 (wg_ H694 rfl rfl rfl rfl) rfl (dd_mv rfl (H694.ev 14 rfl)) fun _ H695 => wl_ <| ig H695 (wg_ H695 rfl rfl rfl rfl) rfl (dd_cmp rfl (H695.ev 78 rfl) rfl (eq_f (by decide))) fun _ H696 => wl_ <| ig H696 (wg_ H696 rfl rfl rfl rfl) rfl (dd_mv rfl (H696.ev 11 rfl)) fun _ H697 => wl_ <| ig H697 (wg_ H697 rfl rfl rfl rfl) rfl (dd_mv rfl (H697.ev 0 rfl)) fun _ H698 => wl_ <| ig H698 (wg_ H698 rfl rfl rfl rfl) rfl (dd_mv rfl (H698.ev 9 rfl)) fun _ H699 => ?_
    clear H691 H692 H693 H694 H695 H696 H697
    refine wl_ <| ig H699 (wg_ H699 rfl rfl rfl rfl) rfl (xSo 2 (o + i1 * 2) rfl (H699.ev 81 rfl) (H699.ev 82 rfl)) fun _ H700 => wl_ <| ig H700 (wg_ H700 rfl rfl rfl rfl) rfl (xf 1 (o + i1 * 2 + 1) rfl (H700.ev 83 rfl)) fun _ H701 => wl_ <| ig H701 (wg_ H701 rfl rfl rfl rfl) rfl (dd_at rfl (H701.ev 84 rfl) ((hr64 _ HS684.below).1 1 _ rfl) Tryd.underlying54 rfl) fun _ H702 => wl_ <| ig H702 (wg_ H702 rfl rfl rfl rfl) rfl (v := .int .i64 m64) (dd_len rfl (H702.ev 85 rfl) Tryd.underlying54) fun _ H703 => wl_ <| ig H703 (wg_ H703 rfl rfl rfl rfl) rfl (dd_cmp rfl (H703.ev 80 rfl) (H703.ev 86 rfl) (lt_f hc65)) fun _ H704 => wl_ <| ig H704 (wg_ H704 rfl rfl rfl rfl) rfl (v := .bool false) (dd_neb rfl (H704.ev 79 rfl) (H704.ev 87 rfl) Tryd.underlying4 rfl) fun _ H705 => q_ H705 2 rfl fun _ H706 => wl_ <| ig H706 (wg_ H706 rfl rfl rfl rfl) rfl (dd_mv rfl (H706.ev 16 rfl)) fun _ H707 => ?_
    clear H698 H699 H700 H701 H702 H703 H704 H705
    refine wl_ <| ig H707 (wg_ H707 rfl rfl rfl rfl) rfl (dd_cmp rfl (H707.ev 91 rfl) rfl (eq_f (by decide))) fun _ H708 => wl_ <| ig H708 (wg_ H708 rfl rfl rfl rfl) rfl (dd_mv rfl (H708.ev 12 rfl)) fun _ H709 => wl_ <| ig H709 (wg_ H709 rfl rfl rfl rfl) rfl (dd_mv rfl (H709.ev 0 rfl)) fun _ H710 => wl_ <| ig H710 (wg_ H710 rfl rfl rfl rfl) rfl (dd_mv rfl (H710.ev 10 rfl)) fun _ H711 => wl_ <| ig H711 (wg_ H711 rfl rfl rfl rfl) rfl (xSo 2 (o + j1 * 2) rfl (H711.ev 94 rfl) (H711.ev 95 rfl)) fun _ H712 => wl_ <| ig H712 (wg_ H712 rfl rfl rfl rfl) rfl (xf 1 (o + j1 * 2 + 1) rfl (H712.ev 96 rfl)) fun _ H713 => wl_ <| ig H713 (wg_ H713 rfl rfl rfl rfl) rfl (dd_at rfl (H713.ev 97 rfl) ((hr606 _ HS684.below).1 1 _ rfl) Tryd.underlying54 rfl) fun _ H714 => wl_ <| ig H714 (wg_ H714 rfl rfl rfl rfl) rfl (v := .int .i64 m606) (dd_len rfl (H714.ev 98 rfl) Tryd.underlying54) fun _ H715 => ?_
    clear H706 H707 H708 H709 H710 H711 H712 H713
    refine wl_ <| ig H715 (wg_ H715 rfl rfl rfl rfl) rfl (dd_cmp rfl (H715.ev 93 rfl) (H715.ev 99 rfl) (lt_f hc607)) fun _ H716 => wl_ <| ig H716 (wg_ H716 rfl rfl rfl rfl) rfl (v := .bool false) (dd_neb rfl (H716.ev 92 rfl) (H716.ev 100 rfl) Tryd.underlying4 rfl) fun _ H717 => wl_ <| p_ H717 rfl rfl fun _ H718 => ln_ <| ?_
    clear H714 H715 H716 H717
    have H719 := H718.sel [5, 9, 10, 11, 12, 13, 14, 15, 16, 102] rfl
    refine nx <| cf_ H719 rfl <| wp_skip <| nx <| sq_ <| sq_ <| rl_ <| wl_ <| p_ H719 rfl rfl fun _ H720 => wl_ <| i_ H720 rfl (dd_cmp rfl (H720.ev 103 rfl) rfl (ne_t (by decide))) fun _ H721 => wl_ <| p_ H721 rfl rfl fun _ H722 => wl_ <| k_ H722 (wg_ H722 rfl rfl rfl rfl) rfl fun _ H723 => wl_ <| k_ H723 (wg_ H723 rfl rfl rfl rfl) rfl fun _ H724 => wl_ <| p_ H724 rfl rfl fun _ H725 => ln_ <| nx <| ct_ H725 rfl <| sq_ <| rl_ <| wl_ <| p_ H725 rfl rfl fun _ H726 => wl_ <| i_ H726 rfl (dd_cmp rfl (H726.ev 109 rfl) rfl (eq_f (by decide))) fun _ H727 => ?_
    clear H718 H719 H720 H721 H722 H723 H724 H725
    refine wl_ <| p_ H727 rfl rfl fun _ H728 => wl_ <| ig H728 (wg_ H728 rfl rfl rfl rfl) rfl (dd_mv rfl (H728.ev 14 rfl)) fun _ H729 => wl_ <| ig H729 (wg_ H729 rfl rfl rfl rfl) rfl (dd_cmp rfl (H729.ev 112 rfl) rfl (eq_t (by decide))) fun _ H730 => q_ H730 2 rfl fun _ H731 => wl_ <| ig H731 (wg_ H731 rfl rfl rfl rfl) rfl (dd_mv rfl (H731.ev 16 rfl)) fun _ H732 => wl_ <| ig H732 (wg_ H732 rfl rfl rfl rfl) rfl (dd_cmp rfl (H732.ev 116 rfl) rfl (eq_f (by decide))) fun _ H733 => wl_ <| ig H733 (wg_ H733 rfl rfl rfl rfl) rfl (dd_mv rfl (H733.ev 117 rfl)) fun _ H734 => wl_ <| ig H734 (wg_ H734 rfl rfl rfl rfl) rfl (dd_mv rfl (H734.ev 16 rfl)) fun _ H735 => ?_
    clear H726 H727 H728 H729 H730 H731 H732 H733
    refine wl_ <| ig H735 (wg_ H735 rfl rfl rfl rfl) rfl (dd_cmp rfl (H735.ev 119 rfl) rfl (eq_t (by decide))) fun _ H736 => wl_ <| ig H736 (wg_ H736 rfl rfl rfl rfl) rfl (dd_pickF rfl (H736.ev 118 rfl) (H736.ev 120 rfl)) fun _ H737 => q_ H737 2 rfl fun _ H738 => wl_ <| cg H738 (wg_ H738 rfl rfl rfl rfl) rfl HS684 (dcs Tryd.func7 rfl (args0 ) (opwakes_any W684) (.bool true)) fun _ HS739 _ H739 => q_ H739 2 rfl fun _ H740 => ln_ <| ?_
    clear H734 H735 H736 H737 H738 HS684 H739
    have H741 := H740.sel [6] rfl
    refine nx <| wp_ret <| tr <| ret_run H741.env0 (res_t Tryd.results5 (H741.get 6 rfl)) <| ?_
    clear H740
    exact ⟨rfl, HS739.below⟩
end Go.Proofs.YtlfliojadjgplaaDoor

/- OpsApart, as its tied card: for every slice of volumes, four bytes and block the call returns true and changes nothing that it was handed. Conditions: those of the row (the tables of runes lie as the program's text lays them, which the card ties to the pruned copy). -/
set_option maxRecDepth 4000
namespace Go.Proofs.YtlfliojadjgplaaDoor.opsApart
open Go Go.ChangeShapes Go.WideShapes Go.ChangeAt Go.RowKit

theorem contract (H : Type) (enc : TypeId × Value → H) (W : World) (base : Nat) (args : Array Value) (ds gs : List (DataW H)) (before : List MemPlace)
    (hval : ∀ (j : Nat) t v, Tryd.f5.params[j]? = some t → args[j]? = some v → Value.okWide Tryd.prog W .any base t v)
    (hW : DataW.Whole enc Tryd.prog Tryd.f5.params.toList Rows.opsApartSpec.vars false W args.toList ds gs before) (_ : laidMetH Tryd.prog Rows.opsApartRow.laid W) :
    Calls Tryd.prog 5 args W fun e W' => ∃ v, e = .returned v ∧ Rows.opsApartSpec.post enc Tryd.prog Tryd.f5 false true false false W args v W' := by
  have hW' := hW
  obtain ⟨p, q, hA0, hV, rfl, _, _⟩ := hW
  have hA : DataW.TrodAll enc Tryd.prog W 0 (fun _ => true) true Tryd.f5.params.toList args.toList ds p := hA0
  rw [Tryd.params5] at hA hval
  obtain ⟨v0, vs0, d0, ds0, p0, q0, hargs, rfl, rfl, h0, r0⟩ := trodAll_cons hA
  obtain ⟨v1, vs1, d1, ds1, p1, q1, rfl, rfl, rfl, h1, r1⟩ := trodAll_cons r0
  obtain ⟨v2, vs2, d2, ds2, p2, q2, rfl, rfl, rfl, h2, r2⟩ := trodAll_cons r1
  obtain ⟨rfl, rfl, rfl⟩ := trodAll_nil r2
  obtain rfl : args = #[v0, v1, v2] := by cases args; simp_all
  obtain ⟨rfl, rfl⟩ := trodVars_none hV
  have hlt0 : ∀ x ∈ p0, x.block < W.heap.size := fun x hx => hW'.lt x (by simp [hx])
  have hlt1 : ∀ x ∈ p1, x.block < W.heap.size := fun x hx => hW'.lt x (by simp [hx])
  have hlt2 : ∀ x ∈ p2, x.block < W.heap.size := fun x hx => hW'.lt x (by simp [hx])
  obtain ⟨A0, n0, c0, l0, rfl, hS0, hm0⟩ := open_vols (hval 0 33 v0 rfl rfl) h0 hlt0
  obtain ⟨q1, hq1, rfl⟩ := open_argBytes Tryd.underlying58 Tryd.underlying5 (by kernel_rfl) (by kernel_rfl) (hval 1 58 v1 rfl rfl) h1 hlt1
  obtain ⟨q2, hq2, rfl⟩ := open_argBytes Tryd.underlying23 Tryd.underlying5 (by kernel_rfl) (by kernel_rfl) (hval 2 23 v2 rfl rfl) h2 hlt2
  refine (opapart_walk A0 n0 c0 l0 q1 q2 W hS0 hm0 hq1 hq2).mono fun e W' ⟨he, hb⟩ => ?_
  subst he
  exact ⟨_, rfl, [d0, d1, d2], [], _, [], _, [], hW', trodAll_cons_mk (shut_bool Tryd.underlying4 _) trodAll_mk0, trodAll_cons_mk (Below.trod laidOutT (by kernel_rfl) (of_decide_eq_true (by kernel_rfl)) h0 hb hlt0) (trodAll_cons_mk (Below.trod laidOutT (by kernel_rfl) (of_decide_eq_true (by kernel_rfl)) h1 hb hlt1) (trodAll_cons_mk (Below.trod laidOutT (by kernel_rfl) (of_decide_eq_true (by kernel_rfl)) h2 hb hlt2) trodAll_mk0)), rfl, hb.frame _, fun h => by cases h⟩

theorem laid_met (os : Os) : laidMet Tryd.prog Rows.opsApartRow.laid ((laidWorld os).forCall (fun _ _ => 0) ⟨#[], #[.slice none 0 0, .agg #[.int .u8 0, .int .u8 0, .int .u8 0, .int .u8 0], .agg (bs (zer 32))], []⟩).memory :=
  laidMet_of_run' 8 (by kernel_rfl) (by kernel_rfl)
theorem reads (os : Os) {H : Type} (enc : TypeId × Value → H) : ∃ places, DataW.whole enc Tryd.prog ((laidWorld os).forCall (fun _ _ => 0) ⟨#[], #[.slice none 0 0, .agg #[.int .u8 0, .int .u8 0, .int .u8 0, .int .u8 0], .agg (bs (zer 32))], []⟩).memory Tryd.f5.params.toList Rows.opsApartSpec.vars false #[(Value.slice none 0 0), (Value.agg #[.int .u8 0, .int .u8 0, .int .u8 0, .int .u8 0]), (Value.agg (bs (zer 32)))].toList 8 = some ([.nil, .agg (List.replicate 4 (.lit (.int .u8 0))), .agg (List.replicate 32 (.lit (.int .u8 0)))], [], places) :=
  ⟨[], by kernel_rfl⟩

set_option maxRecDepth 100000 in
theorem lifted (os : Os) (started : os.Started) (H : Type) (enc : TypeId × Value → H) (F : Stop.Interp) :
    ReturnsInHanded {} Tryd.checked os 5 .any ((OpenSpec.ofChange Rows.opsApartSpec).preRow enc Tryd.prog Tryd.f5 Rows.opsApartRow.domain false Rows.opsApartRow.laid) (((OpenSpec.ofChange Rows.opsApartSpec).at F).post enc Tryd.prog Tryd.f5 false true false false) := by
  obtain ⟨places, hx⟩ := reads os enc
  refine returnsInHanded_of_row (C := Tryd.checked) (s := OpenSpec.ofChange Rows.opsApartSpec) ownK started (by kernel_rfl) Tryd.func5
    (witness_row_at (enc := enc) (C := Tryd.checked) false (laidWorld os) #[.slice none 0 0, .agg #[.int .u8 0, .int .u8 0, .int .u8 0, .int .u8 0], .agg (bs (zer 32))] rfl (by kernel_rfl) (by kernel_rfl) (by kernel_rfl)
      (OpenSpec.preRow_of_cond 8 hx (by kernel_rfl) (fun k hk => by cases hk) (by kernel_rfl) (laid_met os))) ?_
  intro W base args ds gs before hval hW _ _ _ hL _ _
  exact contract H enc W base args ds gs before hval hW hL

theorem said : Rows.OpsApartSaid :=
  OpenClaim.holds_of_cond 5 Tryd.f5 rfl rfl rfl rfl rfl rfl rfl ⟨rfl, rfl, rfl, rfl, rfl⟩ rfl rfl rfl rfl rfl (by kernel_rfl) Tryd.func5 (by kernel_rfl)
    (of_decide_eq_true (by kernel_rfl)) (by unfold Func.isWrapper; first | (rw [if_pos (by decide +kernel)]; kernel_rfl) | (rw [if_neg (by decide +kernel)]; exact ⟨rfl, rfl⟩))
    (fun os started H enc _ F => by rw [OpenClaim.pre_eq_preRow]; exact lifted os started H enc F)

theorem plain (f : FuncId) (fn : Func) (hf : Tryd.pinned.checked.prog.funcNamed Rows.opsApartRow.func = some f) (hfn : Tryd.pinned.checked.prog.funcs[f]? = some fn) :
    false = Tryd.pinned.checked.prog.looks [] ∧ ∀ (j : Nat) t, fn.params[j]? = some t → Tryd.pinned.checked.prog.wantsStandIn t = false := by
  obtain rfl : f = 5 := Option.some.inj ((show Tryd.prog.funcNamed Rows.opsApartRow.func = some 5 by kernel_rfl).symm.trans hf) |>.symm
  obtain rfl : fn = Tryd.f5 := (Option.some.inj (Tryd.func5.symm.trans hfn)).symm
  refine ⟨by kernel_rfl, fun j t ht => ?_⟩
  rw [Tryd.params5] at ht
  have hm : t = 33 ∨ t = 58 ∨ t = 23 := by simpa using Array.mem_of_getElem? ht
  rcases hm with rfl | rfl | rfl
  · exact (show Tryd.prog.wantsStandIn 33 = false by kernel_rfl)
  · exact (show Tryd.prog.wantsStandIn 58 = false by kernel_rfl)
  · exact (show Tryd.prog.wantsStandIn 23 = false by kernel_rfl)

theorem card : Rows.OpsApartCardSaid :=
  Claim7.holds_tied_plain_at .later [] _ _ _ _ said (fun _ h => by cases h) (by kernel_rfl) (fun _ h => by cases h) opsApart_row_tie rfl ⟨rfl, rfl⟩ (by kernel_rfl) rfl plain (by kernel_rfl)
end Go.Proofs.YtlfliojadjgplaaDoor.opsApart
