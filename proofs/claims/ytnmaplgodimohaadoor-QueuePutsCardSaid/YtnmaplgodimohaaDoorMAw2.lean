/- Merged: OpsPlc OpsWt OpsMk OpsDel OpsDl OpsGn OpsOwn OpsGnR. -/
import Derived.Deep.DeepAppendRoom
import Derived.Test.YtnmaplgodimohaaDoorMAw1
import Derived.Test.YtnmaplgodimohaaDoorMAw0
/- The program's and the document's Volumes, Place, Write. -/
set_option maxRecDepth 4000
namespace Go.Proofs.YtnmaplgodimohaaDoor
open Go Go.RowKit
theorem write_no {l : List Tv} {q d : List (BitVec 8)} {x : Int} (h : ¬ placeE l q x = 0) : writeP l q x d = [] := if_neg h
theorem write_yes {l : List Tv} {q d : List (BitVec 8)} {x : Int} (h : placeE l q x = 0) : writeP l q x d = [(placeI l q x, d)] := if_pos h
theorem own_put1 {w : World} {g b : Nat} {z : Int} {d : List (BitVec 8)} (h : Row w g 70 (catA [[.int .i64 z], bytesV d])) (hd : d.length = 32) (hb : b ≤ g) : w.ownsRow b 70 33 (.slice (some ⟨g, 0, none⟩) 1 1) ([(z, d)] : List Pt).length (([(z, d)] : List Pt).map pcell).flatten := by
  have e : (catA [[.int .i64 z], bytesV d]).toList = ([(z, d)] : List Pt).flatMap pcell := by simp [catA, pcell]
  have hl : (([(z, d)] : List Pt).map pcell).flatten.length = 1 * 33 := len_puts (fun x hx => by simp at hx; subst hx; exact hd)
  refine ownc_to h ⟨Nat.le_refl _, by decide, ?_, hl, ?_⟩ hb
  · rw [← Array.length_toList, e, List.flatMap, hl]
  · rw [e, List.flatMap, List.take_of_length_le (by rw [hl]; exact Nat.le_refl _)]
theorem volumes_any (qb : List (BitVec 8)) (w : World) (hqb : qb.length = 32) : Calls Tryd.prog 32 #[.agg (bs qb)] w fun e w' => ∃ v B, e = .returned v ∧ w.heap.size ≤ B ∧ B ≤ w'.heap.size ∧ OV B w' v (volL (decLT qb)) ∧ Below w.heap.size w w' := by
  have HS := St.nil w noF
  refine enter_en Tryd.func32 rfl Tryd.ntmps32 (Nat.le_of_ble_eq_true rfl) fun a0 (HA0 : En 11 [(0, .agg (bs qb))] a0) => ?_
  refine sq_ <| rl_ <| wl_ <| n_ HA0 rfl (fun _ h => dd_box HS rfl (HA0.ev 0 rfl) (cs := (bs qb)) rfl h) fun _ W1 HS1 _ H1 => wl_ <| p_ H1 rfl rfl fun _ H2 => ln_ <| nx <| sq_ <| rl_ <| ?_
  clear HS HA0 H1
  have hS1 := HS1
  refine wl_ <| i_ H2 rfl (v := .agg (bs qb)) (dd_load HS1 0 0 rfl rfl (H2.ev 1 rfl) (slab_whole _) Tryd.underlying36 rfl (by rw [show (bs qb).size = 32 from ((size_bs _).trans hqb)]; kernel_rfl)) fun _ H3 => ?_
  clear H2
  refine wl_ <| d_ H3 rfl (R := fun v w9 => ∃ A5 N5 C5 Bb5, v = .tuple #[.slice A5 N5 C5, .int .i64 (decE qb)] ∧ ((volL (decLT qb)).length = N5 ∧ N5 ≤ 3) ∧ (W1.heap.size ≤ Bb5 ∧ Bb5 ≤ w9.heap.size) ∧ (OV Bb5 w9 (.slice A5 N5 C5) (volL (decLT qb))) ∧ Below W1.heap.size W1 w9) (dc_ Tryd.func44 rfl (args1 (H3.ev 6 rfl)) (dect_any qb W1 hqb) (fun _ w9 ⟨v9, he, ho, hb⟩ => by obtain ⟨A9, n9, c9, rfl, h1, _⟩ := OV.form2 ho; exact ⟨_, he, A9, n9, c9, _, rfl, ⟨h1, by rw [← h1, len_volL]; exact decLT_len _⟩, ⟨Nat.le_refl _, hb.size⟩, ho, hb⟩)) ?_
  rintro _ W4 ⟨A5, N5, C5, Bb5, rfl, hNd5, hBb5, hov5, hb4⟩ a4 H4
  have HS4 := HS1.same hb4
  clear H3
  have hln5 : (decLT qb).length = N5 := by rw [← len_volL]; exact hNd5.1
  have HBs6 : Below w.heap.size w W4 := HS4.below
  have HR6_0 := fun (W9 : World) (hb9 : Below W4.heap.size W4 W9) => (HS4.row 0 rfl).call hb9
  have HSb6 := St.nil W4 noF
  clear HS4
  have HVd5 := fun (W9 : World) (hb9 : Below W4.heap.size W4 W9) => ((hov5.vols (Nat.le_trans (Nat.le_of_eq hNd5.1) (Nat.le_trans hNd5.2 (by decide)))).below hb9 (Nat.le_refl _))
  clear HS1 hb4
  refine wl_ <| p_ H4 rfl rfl fun _ H7 => wl_ <| i_ H7 rfl (v := .slice A5 N5 C5) (dd_ext rfl (H7.ev 5 rfl) rfl) fun _ H8 => wl_ <| i_ H8 rfl (v := .int .i64 (decE qb)) (dd_ext rfl (H8.ev 5 rfl) rfl) fun _ H9 => q_ H9 2 rfl fun _ H10 => ln_ <| nx <| sq_ <| rl_ <| q_ H10 2 rfl fun _ H11 => ln_ <| nx <| wp_ret <| ret_run H11.env0 (res_t Tryd.results32 (H11.get 2 rfl)) <| ?_
  clear H4 H7 H8 H9 H10
  exact ⟨_, Bb5, rfl, Nat.le_trans hS1.below.size hBb5.1, Nat.le_trans hBb5.2 HSb6.below.size, hov5.call HSb6.below hBb5.2, (HBs6.trans (HSb6.below.mono HBs6.size))⟩
theorem rvolumes_any (qb : List (BitVec 8)) (w : World) (hqb : qb.length = 32) : Calls Tryd.prog 39 #[.agg (bs qb)] w fun e w' => ∃ v B, e = .returned v ∧ w.heap.size ≤ B ∧ B ≤ w'.heap.size ∧ OV B w' v (volL (decLT qb)) ∧ Below w.heap.size w w' := by
  have HS := St.nil w noF
  refine enter_en Tryd.func39 rfl Tryd.ntmps39 (Nat.le_of_ble_eq_true rfl) fun a0 (HA0 : En 11 [(0, .agg (bs qb))] a0) => ?_
  refine sq_ <| rl_ <| wl_ <| n_ HA0 rfl (fun _ h => dd_box HS rfl (HA0.ev 0 rfl) (cs := (bs qb)) rfl h) fun _ W1 HS1 _ H1 => wl_ <| p_ H1 rfl rfl fun _ H2 => ln_ <| nx <| sq_ <| rl_ <| ?_
  clear HS HA0 H1
  have hS1 := HS1
  refine wl_ <| i_ H2 rfl (v := .agg (bs qb)) (dd_load HS1 0 0 rfl rfl (H2.ev 1 rfl) (slab_whole _) Tryd.underlying36 rfl (by rw [show (bs qb).size = 32 from ((size_bs _).trans hqb)]; kernel_rfl)) fun _ H3 => ?_
  clear H2
  refine wl_ <| d_ H3 rfl (R := fun v w9 => ∃ A5 N5 C5 Bb5, v = .tuple #[.slice A5 N5 C5, .int .i64 (decE qb)] ∧ ((volL (decLT qb)).length = N5 ∧ N5 ≤ 3) ∧ (W1.heap.size ≤ Bb5 ∧ Bb5 ≤ w9.heap.size) ∧ (OV Bb5 w9 (.slice A5 N5 C5) (volL (decLT qb))) ∧ Below W1.heap.size W1 w9) (dc_ Tryd.func49 rfl (args1 (H3.ev 6 rfl)) (rdect_any qb W1 hqb) (fun _ w9 ⟨v9, he, ho, hb⟩ => by obtain ⟨A9, n9, c9, rfl, h1, _⟩ := OV.form2 ho; exact ⟨_, he, A9, n9, c9, _, rfl, ⟨h1, by rw [← h1, len_volL]; exact decLT_len _⟩, ⟨Nat.le_refl _, hb.size⟩, ho, hb⟩)) ?_
  rintro _ W4 ⟨A5, N5, C5, Bb5, rfl, hNd5, hBb5, hov5, hb4⟩ a4 H4
  have HS4 := HS1.same hb4
  clear H3
  have hln5 : (decLT qb).length = N5 := by rw [← len_volL]; exact hNd5.1
  have HBs6 : Below w.heap.size w W4 := HS4.below
  have HR6_0 := fun (W9 : World) (hb9 : Below W4.heap.size W4 W9) => (HS4.row 0 rfl).call hb9
  have HSb6 := St.nil W4 noF
  clear HS4
  have HVd5 := fun (W9 : World) (hb9 : Below W4.heap.size W4 W9) => ((hov5.vols (Nat.le_trans (Nat.le_of_eq hNd5.1) (Nat.le_trans hNd5.2 (by decide)))).below hb9 (Nat.le_refl _))
  clear HS1 hb4
  refine wl_ <| p_ H4 rfl rfl fun _ H7 => wl_ <| i_ H7 rfl (v := .slice A5 N5 C5) (dd_ext rfl (H7.ev 5 rfl) rfl) fun _ H8 => wl_ <| i_ H8 rfl (v := .int .i64 (decE qb)) (dd_ext rfl (H8.ev 5 rfl) rfl) fun _ H9 => q_ H9 2 rfl fun _ H10 => ln_ <| nx <| sq_ <| rl_ <| q_ H10 2 rfl fun _ H11 => ln_ <| nx <| wp_ret <| ret_run H11.env0 (res_t Tryd.results39 (H11.get 2 rfl)) <| ?_
  clear H4 H7 H8 H9 H10
  exact ⟨_, Bb5, rfl, Nat.le_trans hS1.below.size hBb5.1, Nat.le_trans hBb5.2 HSb6.below.size, hov5.call HSb6.below hBb5.2, (HBs6.trans (HSb6.below.mono HBs6.size))⟩
set_option maxHeartbeats 800000 in
theorem place_any (qb q : List (BitVec 8)) (x : Int) (w : World) (hqb : qb.length = 32) : Calls Tryd.prog 31 #[.agg (bs qb), .string (strB q), .int .i64 x] w fun e w' => e = .returned (.tuple #[.int .i64 (placeI (decLT qb) q x), .int .i64 (placeE (decLT qb) q x)]) ∧ Below w.heap.size w w' := by
  have HS := St.nil w noF
  refine enter_en Tryd.func31 rfl Tryd.ntmps31 (Nat.le_of_ble_eq_true rfl) fun a0 (HA0 : En 37 [(0, .agg (bs qb)), (1, .string (strB q)), (2, .int .i64 x)] a0) => ?_
  refine sq_ <| rl_ <| wl_ <| n_ HA0 rfl (fun _ h => dd_box HS rfl (HA0.ev 0 rfl) (cs := (bs qb)) rfl h) fun _ W1 HS1 _ H1 => q_ H1 2 rfl fun _ H2 => ln_ <| nx <| sq_ <| rl_ <| wl_ <| i_ H2 rfl (v := .agg (bs qb)) (dd_load HS1 0 0 rfl rfl (H2.ev 3 rfl) (slab_whole _) Tryd.underlying36 rfl (by rw [show (bs qb).size = 32 from ((size_bs _).trans hqb)]; kernel_rfl)) fun _ H3 => ?_
  clear HS HA0 H1 H2
  refine wl_ <| d_ H3 rfl (R := fun v w9 => ∃ A5 N5 C5 Bb5, v = .slice A5 N5 C5 ∧ ((volL (decLT qb)).length = N5 ∧ N5 ≤ 3) ∧ (W1.heap.size ≤ Bb5 ∧ Bb5 ≤ w9.heap.size) ∧ (OV Bb5 w9 (.slice A5 N5 C5) (volL (decLT qb))) ∧ Below W1.heap.size W1 w9) (dc_ Tryd.func32 rfl (args1 (H3.ev 10 rfl)) (volumes_any qb W1 hqb) (fun _ w9 ⟨v9, B9, he, h4, h5, ho, hb⟩ => by obtain ⟨A9, n9, c9, rfl, h1, _⟩ := OV.form2 ho; exact ⟨_, he, A9, n9, c9, B9, rfl, ⟨h1, by rw [← h1, len_volL]; exact decLT_len _⟩, ⟨h4, h5⟩, ho, hb⟩)) ?_
  rintro _ W4 ⟨A5, N5, C5, Bb5, rfl, hNd5, hBb5, hov5, hb4⟩ a4 H4
  have HS4 := HS1.same hb4
  clear H3
  have hln5 : (decLT qb).length = N5 := by rw [← len_volL]; exact hNd5.1
  have HBs6 : Below w.heap.size w W4 := HS4.below
  have HR6_0 := fun (W9 : World) (hb9 : Below W4.heap.size W4 W9) => (HS4.row 0 rfl).call hb9
  have HSb6 := St.nil W4 noF
  clear HS4
  have HVd5 := fun (W9 : World) (hb9 : Below W4.heap.size W4 W9) => ((hov5.vols (Nat.le_trans (Nat.le_of_eq hNd5.1) (Nat.le_trans hNd5.2 (by decide)))).below hb9 (Nat.le_refl _))
  clear HS1 hb4
  refine wl_ <| p_ H4 rfl rfl fun _ H7 => ln_ <| nx <| sq_ <| rl_ <| q_ H7 2 rfl fun _ H8 => ?_
  clear H4 H7
  have hfi10 := findI_is q (decLT qb)
  refine wl_ <| c_ H8 rfl HSb6 (dcs Tryd.func36 rfl (args2 (H8.ev 12 rfl) (H8.ev 13 rfl)) (find_any _ _ _ q (decLT qb) W4 (HVd5 _ HSb6.below) (Nat.le_trans hNd5.2 (by decide))) (.int .i64 (findI q (decLT qb)))) fun W9 HS9 _ H9 => wl_ <| p_ H9 rfl rfl fun _ H11 => ln_ <| nx <| sq_ <| sq_ <| rl_ <| wl_ <| p_ H11 rfl rfl fun _ H12 => ?_
  clear H8 HSb6 H9 H11
  by_cases hc14 : (findI q (decLT qb) : Int) < 0
  ·
   refine wl_ <| i_ H12 rfl (dd_cmp rfl (H12.ev 15 rfl) rfl (lt_t hc14)) fun _ H15 => ln_ <| nx <| ct_ H15 rfl <| sq_ <| rl_ <| q_ H15 2 rfl fun _ H16 => ln_ <| nx <| wp_ret <| tr <| ret_run H16.env0 (res_tt Tryd.results31 (H16.get 6 rfl) (H16.get 7 rfl)) <| ?_
   clear H12 H15
   exact ⟨by rw [(place_16 hc14).1, (place_16 (x := x) hc14).2], (HBs6.trans (HS9.below.mono HBs6.size))⟩
  refine wl_ <| i_ H12 rfl (dd_cmp rfl (H12.ev 15 rfl) rfl (lt_f hc14)) fun _ H17 => ln_ <| nx <| cf_ H17 rfl <| wp_skip <| nx <| sq_ <| sq_ <| rl_ <| wl_ <| p_ H17 rfl rfl fun _ H18 => ?_
  clear H12 H17
  by_cases hc20 : (x : Int) < 0
  ·
   refine wl_ <| i_ H18 rfl (dd_cmp rfl (H18.ev 17 rfl) rfl (lt_t hc20)) fun _ H21 => wl_ <| p_ H21 rfl rfl fun _ H22 => wl_ <| k_ H22 (wg_ H22 rfl rfl rfl rfl) rfl fun _ H23 => wl_ <| k_ H23 (wg_ H23 rfl rfl rfl rfl) rfl fun _ H24 => wl_ <| k_ H24 (wg_ H24 rfl rfl rfl rfl) rfl fun _ H25 => wl_ <| k_ H25 (wg_ H25 rfl rfl rfl rfl) rfl fun _ H26 => wl_ <| k_ H26 (wg_ H26 rfl rfl rfl rfl) rfl fun _ H27 => wl_ <| k_ H27 (wg_ H27 rfl rfl rfl rfl) rfl fun _ H28 => ?_
   clear H18 H21 H22 H23 H24 H25 H26
   refine wl_ <| k_ H28 (wg_ H28 rfl rfl rfl rfl) rfl fun _ H29 => wl_ <| k_ H29 (wg_ H29 rfl rfl rfl rfl) rfl fun _ H30 => wl_ <| p_ H30 rfl rfl fun _ H31 => ln_ <| ?_
   clear H27 H28 H29 H30
   have H32 := H31.sel [2, 8, 9, 28] rfl
   refine nx <| ct_ H32 rfl <| sq_ <| rl_ <| q_ H32 2 rfl fun _ H33 => ln_ <| nx <| wp_ret <| tr <| ret_run H33.env0 (res_tt Tryd.results31 (H33.get 6 rfl) (H33.get 7 rfl)) <| ?_
   clear H31 H32
   exact ⟨by rw [(place_17n (x := x) hc14 hc20).1, (place_17n (x := x) hc14 hc20).2], (HBs6.trans (HS9.below.mono HBs6.size))⟩
  refine wl_ <| i_ H18 rfl (dd_cmp rfl (H18.ev 17 rfl) rfl (lt_f hc20)) fun _ H34 => wl_ <| p_ H34 rfl rfl fun _ H35 => wl_ <| ig H35 (wg_ H35 rfl rfl rfl rfl) rfl (dd_mv rfl (H35.ev 2 rfl)) fun _ H36 => wl_ <| ig H36 (wg_ H36 rfl rfl rfl rfl) rfl (dd_mv rfl (H36.ev 8 rfl)) fun _ H37 => wl_ <| ig H37 (wg_ H37 rfl rfl rfl rfl) rfl (dd_mv rfl (H37.ev 9 rfl)) fun _ H38 => ?_
  clear H18 H34 H35 H36 H37
  obtain ⟨b40, o40, hA40⟩ := vols_some (HVd5 _ HS9.below) (by omega)
  have HVs40 := fun (W9 : World) (hb9 : Below W4.heap.size W4 W9) => hA40 ▸ HVd5 W9 hb9
  refine wl_ <| ig H38 (wg_ H38 rfl rfl rfl rfl) rfl (dd_idxS (sz := 2) (j := o40 + (Int.toNat (findI q (decLT qb))) * 2) rfl (sl_at (H38.ev 21 rfl) hA40) (H38.ev 22 rfl) (by kernel_rfl) (by omega) (by omega) (by omega)) fun _ H39 => wl_ <| ig H39 (wg_ H39 rfl rfl rfl rfl) rfl (xf 1 (o40 + (Int.toNat (findI q (decLT qb))) * 2 + 1) rfl (H39.ev 23 rfl)) fun _ H41 => ?_
  clear H38 H39
  obtain ⟨p43, L43, B43, m43, c43, hg43, hr43, hm43, hp43⟩ := vols_getC (HVs40 _ (Below.refl _ _)) (k := (Int.toNat (findI q (decLT qb)))) (by omega)
  refine wl_ <| ig H41 (wg_ H41 rfl rfl rfl rfl) rfl (dd_at rfl (H41.ev 24 rfl) ((hr43 _ HS9.below).1 1 _ rfl) Tryd.underlying45 rfl) fun _ H42 => wl_ <| ig H42 (wg_ H42 rfl rfl rfl rfl) rfl (v := .int .i64 m43) (dd_len rfl (H42.ev 25 rfl) Tryd.underlying45) fun _ H44 => ?_
  clear H41 H42
  by_cases hc46 : (m43 : Int) ≤ x
  ·
   refine wl_ <| ig H44 (wg_ H44 rfl rfl rfl rfl) rfl (dd_cmp rfl (H44.ev 20 rfl) (H44.ev 26 rfl) (ge_t hc46)) fun _ H47 => wl_ <| p_ H47 rfl rfl fun _ H48 => ln_ <| ?_
   clear H44 H47
   have H49 := H48.sel [2, 8, 9, 28] rfl
   refine nx <| ct_ H49 rfl <| sq_ <| rl_ <| q_ H49 2 rfl fun _ H50 => ln_ <| nx <| wp_ret <| tr <| ret_run H50.env0 (res_tt Tryd.results31 (H50.get 6 rfl) (H50.get 7 rfl)) <| ?_
   clear H48 H49
   exact ⟨by rw [(place_17 (x := x) hc14 hg43 (by omega)).1, (place_17 (x := x) hc14 hg43 (by omega)).2], (HBs6.trans (HS9.below.mono HBs6.size))⟩
  refine wl_ <| ig H44 (wg_ H44 rfl rfl rfl rfl) rfl (dd_cmp rfl (H44.ev 20 rfl) (H44.ev 26 rfl) (ge_f hc46)) fun _ H51 => wl_ <| p_ H51 rfl rfl fun _ H52 => ln_ <| ?_
  clear H44 H51
  have H53 := H52.sel [2, 8, 9, 28] rfl
  refine nx <| cf_ H53 rfl <| wp_skip <| nx <| sq_ <| rl_ <| q_ H53 2 rfl fun _ H54 => wl_ <| i_ H54 rfl (dd_idxS (sz := 2) (j := o40 + (Int.toNat (findI q (decLT qb))) * 2) rfl (sl_at (H54.ev 29 rfl) hA40) (H54.ev 30 rfl) (by kernel_rfl) (by omega) (by omega) (by omega)) fun _ H55 => wl_ <| i_ H55 rfl (xf 1 (o40 + (Int.toNat (findI q (decLT qb))) * 2 + 1) rfl (H55.ev 31 rfl)) fun _ H56 => wl_ <| i_ H56 rfl (dd_at rfl (H56.ev 32 rfl) ((hr43 _ HS9.below).1 1 _ rfl) Tryd.underlying45 rfl) fun _ H57 => wl_ <| p_ H57 rfl rfl fun _ H58 => ?_
  clear H52 H53 H54 H55 H56 H57
  obtain ⟨bi43, oi43, hB43⟩ := ints_addr (hr43 _ (Below.refl _ _)).2 (by omega)
  refine wl_ <| i_ H58 rfl (dd_idxS (sz := 1) (j := oi43 + (Int.toNat x)) rfl (sl_at (H58.ev 33 rfl) hB43) (H58.ev 34 rfl) (by kernel_rfl) (by omega) (by omega) (by omega)) fun _ H59 => wl_ <| i_ H59 rfl (dd_at rfl (H59.ev 35 rfl) (ints_atB (hr43 _ HS9.below).2 hB43 (Int.toNat x) (by omega)) Tryd.underlying3 rfl) fun _ H60 => q_ H60 2 rfl fun _ H61 => ln_ <| nx <| wp_ret <| ret_run H61.env0 (res_tt Tryd.results31 (H61.get 6 rfl) (H61.get 7 rfl)) <| ?_
  clear H58 H59 H60
  exact ⟨by rw [(place_0 (x := x) hc14 hg43 (by omega)).1, (place_0 (x := x) hc14 hg43 (by omega)).2], (HBs6.trans (HS9.below.mono HBs6.size))⟩
set_option maxHeartbeats 800000 in
theorem rplace_any (qb q : List (BitVec 8)) (x : Int) (w : World) (hqb : qb.length = 32) : Calls Tryd.prog 38 #[.agg (bs qb), .string (strB q), .int .i64 x] w fun e w' => e = .returned (.tuple #[.int .i64 (placeI (decLT qb) q x), .int .i64 (placeE (decLT qb) q x)]) ∧ Below w.heap.size w w' := by
  have HS := St.nil w noF
  refine enter_en Tryd.func38 rfl Tryd.ntmps38 (Nat.le_of_ble_eq_true rfl) fun a0 (HA0 : En 37 [(0, .agg (bs qb)), (1, .string (strB q)), (2, .int .i64 x)] a0) => ?_
  refine sq_ <| rl_ <| wl_ <| n_ HA0 rfl (fun _ h => dd_box HS rfl (HA0.ev 0 rfl) (cs := (bs qb)) rfl h) fun _ W1 HS1 _ H1 => q_ H1 2 rfl fun _ H2 => ln_ <| nx <| sq_ <| rl_ <| wl_ <| i_ H2 rfl (v := .agg (bs qb)) (dd_load HS1 0 0 rfl rfl (H2.ev 3 rfl) (slab_whole _) Tryd.underlying36 rfl (by rw [show (bs qb).size = 32 from ((size_bs _).trans hqb)]; kernel_rfl)) fun _ H3 => ?_
  clear HS HA0 H1 H2
  refine wl_ <| d_ H3 rfl (R := fun v w9 => ∃ A5 N5 C5 Bb5, v = .slice A5 N5 C5 ∧ ((volL (decLT qb)).length = N5 ∧ N5 ≤ 3) ∧ (W1.heap.size ≤ Bb5 ∧ Bb5 ≤ w9.heap.size) ∧ (OV Bb5 w9 (.slice A5 N5 C5) (volL (decLT qb))) ∧ Below W1.heap.size W1 w9) (dc_ Tryd.func39 rfl (args1 (H3.ev 10 rfl)) (rvolumes_any qb W1 hqb) (fun _ w9 ⟨v9, B9, he, h4, h5, ho, hb⟩ => by obtain ⟨A9, n9, c9, rfl, h1, _⟩ := OV.form2 ho; exact ⟨_, he, A9, n9, c9, B9, rfl, ⟨h1, by rw [← h1, len_volL]; exact decLT_len _⟩, ⟨h4, h5⟩, ho, hb⟩)) ?_
  rintro _ W4 ⟨A5, N5, C5, Bb5, rfl, hNd5, hBb5, hov5, hb4⟩ a4 H4
  have HS4 := HS1.same hb4
  clear H3
  have hln5 : (decLT qb).length = N5 := by rw [← len_volL]; exact hNd5.1
  have HBs6 : Below w.heap.size w W4 := HS4.below
  have HR6_0 := fun (W9 : World) (hb9 : Below W4.heap.size W4 W9) => (HS4.row 0 rfl).call hb9
  have HSb6 := St.nil W4 noF
  clear HS4
  have HVd5 := fun (W9 : World) (hb9 : Below W4.heap.size W4 W9) => ((hov5.vols (Nat.le_trans (Nat.le_of_eq hNd5.1) (Nat.le_trans hNd5.2 (by decide)))).below hb9 (Nat.le_refl _))
  clear HS1 hb4
  refine wl_ <| p_ H4 rfl rfl fun _ H7 => ln_ <| nx <| sq_ <| rl_ <| q_ H7 2 rfl fun _ H8 => ?_
  clear H4 H7
  have hfi10 := findI_is q (decLT qb)
  refine wl_ <| c_ H8 rfl HSb6 (dcs Tryd.func41 rfl (args2 (H8.ev 12 rfl) (H8.ev 13 rfl)) (rfind_any _ _ _ q (decLT qb) W4 (HVd5 _ HSb6.below) (Nat.le_trans hNd5.2 (by decide))) (.int .i64 (findI q (decLT qb)))) fun W9 HS9 _ H9 => wl_ <| p_ H9 rfl rfl fun _ H11 => ln_ <| nx <| sq_ <| sq_ <| rl_ <| wl_ <| p_ H11 rfl rfl fun _ H12 => ?_
  clear H8 HSb6 H9 H11
  by_cases hc14 : (findI q (decLT qb) : Int) < 0
  ·
   refine wl_ <| i_ H12 rfl (dd_cmp rfl (H12.ev 15 rfl) rfl (lt_t hc14)) fun _ H15 => ln_ <| nx <| ct_ H15 rfl <| sq_ <| rl_ <| q_ H15 2 rfl fun _ H16 => ln_ <| nx <| wp_ret <| tr <| ret_run H16.env0 (res_tt Tryd.results38 (H16.get 6 rfl) (H16.get 7 rfl)) <| ?_
   clear H12 H15
   exact ⟨by rw [(place_16 hc14).1, (place_16 (x := x) hc14).2], (HBs6.trans (HS9.below.mono HBs6.size))⟩
  refine wl_ <| i_ H12 rfl (dd_cmp rfl (H12.ev 15 rfl) rfl (lt_f hc14)) fun _ H17 => ln_ <| nx <| cf_ H17 rfl <| wp_skip <| nx <| sq_ <| sq_ <| rl_ <| wl_ <| p_ H17 rfl rfl fun _ H18 => ?_
  clear H12 H17
  by_cases hc20 : (x : Int) < 0
  ·
   refine wl_ <| i_ H18 rfl (dd_cmp rfl (H18.ev 17 rfl) rfl (lt_t hc20)) fun _ H21 => wl_ <| p_ H21 rfl rfl fun _ H22 => wl_ <| k_ H22 (wg_ H22 rfl rfl rfl rfl) rfl fun _ H23 => wl_ <| k_ H23 (wg_ H23 rfl rfl rfl rfl) rfl fun _ H24 => wl_ <| k_ H24 (wg_ H24 rfl rfl rfl rfl) rfl fun _ H25 => wl_ <| k_ H25 (wg_ H25 rfl rfl rfl rfl) rfl fun _ H26 => wl_ <| k_ H26 (wg_ H26 rfl rfl rfl rfl) rfl fun _ H27 => wl_ <| k_ H27 (wg_ H27 rfl rfl rfl rfl) rfl fun _ H28 => ?_
   clear H18 H21 H22 H23 H24 H25 H26
   refine wl_ <| k_ H28 (wg_ H28 rfl rfl rfl rfl) rfl fun _ H29 => wl_ <| k_ H29 (wg_ H29 rfl rfl rfl rfl) rfl fun _ H30 => wl_ <| p_ H30 rfl rfl fun _ H31 => ln_ <| ?_
   clear H27 H28 H29 H30
   have H32 := H31.sel [2, 8, 9, 28] rfl
   refine nx <| ct_ H32 rfl <| sq_ <| rl_ <| q_ H32 2 rfl fun _ H33 => ln_ <| nx <| wp_ret <| tr <| ret_run H33.env0 (res_tt Tryd.results38 (H33.get 6 rfl) (H33.get 7 rfl)) <| ?_
   clear H31 H32
   exact ⟨by rw [(place_17n (x := x) hc14 hc20).1, (place_17n (x := x) hc14 hc20).2], (HBs6.trans (HS9.below.mono HBs6.size))⟩
  refine wl_ <| i_ H18 rfl (dd_cmp rfl (H18.ev 17 rfl) rfl (lt_f hc20)) fun _ H34 => wl_ <| p_ H34 rfl rfl fun _ H35 => wl_ <| ig H35 (wg_ H35 rfl rfl rfl rfl) rfl (dd_mv rfl (H35.ev 2 rfl)) fun _ H36 => wl_ <| ig H36 (wg_ H36 rfl rfl rfl rfl) rfl (dd_mv rfl (H36.ev 8 rfl)) fun _ H37 => wl_ <| ig H37 (wg_ H37 rfl rfl rfl rfl) rfl (dd_mv rfl (H37.ev 9 rfl)) fun _ H38 => ?_
  clear H18 H34 H35 H36 H37
  obtain ⟨b40, o40, hA40⟩ := vols_some (HVd5 _ HS9.below) (by omega)
  have HVs40 := fun (W9 : World) (hb9 : Below W4.heap.size W4 W9) => hA40 ▸ HVd5 W9 hb9
  refine wl_ <| ig H38 (wg_ H38 rfl rfl rfl rfl) rfl (dd_idxS (sz := 2) (j := o40 + (Int.toNat (findI q (decLT qb))) * 2) rfl (sl_at (H38.ev 21 rfl) hA40) (H38.ev 22 rfl) (by kernel_rfl) (by omega) (by omega) (by omega)) fun _ H39 => wl_ <| ig H39 (wg_ H39 rfl rfl rfl rfl) rfl (xf 1 (o40 + (Int.toNat (findI q (decLT qb))) * 2 + 1) rfl (H39.ev 23 rfl)) fun _ H41 => ?_
  clear H38 H39
  obtain ⟨p43, L43, B43, m43, c43, hg43, hr43, hm43, hp43⟩ := vols_getC (HVs40 _ (Below.refl _ _)) (k := (Int.toNat (findI q (decLT qb)))) (by omega)
  refine wl_ <| ig H41 (wg_ H41 rfl rfl rfl rfl) rfl (dd_at rfl (H41.ev 24 rfl) ((hr43 _ HS9.below).1 1 _ rfl) Tryd.underlying45 rfl) fun _ H42 => wl_ <| ig H42 (wg_ H42 rfl rfl rfl rfl) rfl (v := .int .i64 m43) (dd_len rfl (H42.ev 25 rfl) Tryd.underlying45) fun _ H44 => ?_
  clear H41 H42
  by_cases hc46 : (m43 : Int) ≤ x
  ·
   refine wl_ <| ig H44 (wg_ H44 rfl rfl rfl rfl) rfl (dd_cmp rfl (H44.ev 20 rfl) (H44.ev 26 rfl) (ge_t hc46)) fun _ H47 => wl_ <| p_ H47 rfl rfl fun _ H48 => ln_ <| ?_
   clear H44 H47
   have H49 := H48.sel [2, 8, 9, 28] rfl
   refine nx <| ct_ H49 rfl <| sq_ <| rl_ <| q_ H49 2 rfl fun _ H50 => ln_ <| nx <| wp_ret <| tr <| ret_run H50.env0 (res_tt Tryd.results38 (H50.get 6 rfl) (H50.get 7 rfl)) <| ?_
   clear H48 H49
   exact ⟨by rw [(place_17 (x := x) hc14 hg43 (by omega)).1, (place_17 (x := x) hc14 hg43 (by omega)).2], (HBs6.trans (HS9.below.mono HBs6.size))⟩
  refine wl_ <| ig H44 (wg_ H44 rfl rfl rfl rfl) rfl (dd_cmp rfl (H44.ev 20 rfl) (H44.ev 26 rfl) (ge_f hc46)) fun _ H51 => wl_ <| p_ H51 rfl rfl fun _ H52 => ln_ <| ?_
  clear H44 H51
  have H53 := H52.sel [2, 8, 9, 28] rfl
  refine nx <| cf_ H53 rfl <| wp_skip <| nx <| sq_ <| rl_ <| q_ H53 2 rfl fun _ H54 => wl_ <| i_ H54 rfl (dd_idxS (sz := 2) (j := o40 + (Int.toNat (findI q (decLT qb))) * 2) rfl (sl_at (H54.ev 29 rfl) hA40) (H54.ev 30 rfl) (by kernel_rfl) (by omega) (by omega) (by omega)) fun _ H55 => wl_ <| i_ H55 rfl (xf 1 (o40 + (Int.toNat (findI q (decLT qb))) * 2 + 1) rfl (H55.ev 31 rfl)) fun _ H56 => wl_ <| i_ H56 rfl (dd_at rfl (H56.ev 32 rfl) ((hr43 _ HS9.below).1 1 _ rfl) Tryd.underlying45 rfl) fun _ H57 => wl_ <| p_ H57 rfl rfl fun _ H58 => ?_
  clear H52 H53 H54 H55 H56 H57
  obtain ⟨bi43, oi43, hB43⟩ := ints_addr (hr43 _ (Below.refl _ _)).2 (by omega)
  refine wl_ <| i_ H58 rfl (dd_idxS (sz := 1) (j := oi43 + (Int.toNat x)) rfl (sl_at (H58.ev 33 rfl) hB43) (H58.ev 34 rfl) (by kernel_rfl) (by omega) (by omega) (by omega)) fun _ H59 => wl_ <| i_ H59 rfl (dd_at rfl (H59.ev 35 rfl) (ints_atB (hr43 _ HS9.below).2 hB43 (Int.toNat x) (by omega)) Tryd.underlying3 rfl) fun _ H60 => q_ H60 2 rfl fun _ H61 => ln_ <| nx <| wp_ret <| ret_run H61.env0 (res_tt Tryd.results38 (H61.get 6 rfl) (H61.get 7 rfl)) <| ?_
  clear H58 H59 H60
  exact ⟨by rw [(place_0 (x := x) hc14 hg43 (by omega)).1, (place_0 (x := x) hc14 hg43 (by omega)).2], (HBs6.trans (HS9.below.mono HBs6.size))⟩
theorem write_any (qb q d : List (BitVec 8)) (x : Int) (w : World) (hqb : qb.length = 32) (hd : d.length = 32) : Calls Tryd.prog 24 #[.agg (bs qb), .string (strB q), .int .i64 x, .agg (bs d)] w fun e w' => ∃ v, e = .returned (.tuple #[v, .int .i64 (placeE (decLT qb) q x)]) ∧ w'.ownsRow w.heap.size 70 33 v (writeP (decLT qb) q x d).length ((writeP (decLT qb) q x d).map pcell).flatten ∧ Below w.heap.size w w' := by
  have HS := St.nil w noF
  refine enter_en Tryd.func24 rfl Tryd.ntmps24 (Nat.le_of_ble_eq_true rfl) fun a0 (HA0 : En 26 [(0, .agg (bs qb)), (1, .string (strB q)), (2, .int .i64 x), (3, .agg (bs d))] a0) => ?_
  refine sq_ <| rl_ <| wl_ <| n_ HA0 rfl (fun _ h => dd_box HS rfl (HA0.ev 0 rfl) (cs := (bs qb)) rfl h) fun _ _ HS1 _ H1 => wl_ <| n_ H1 rfl (fun _ h => dd_box HS1 rfl (H1.ev 3 rfl) (cs := (bs d)) rfl h) fun _ W2 HS2 _ H2 => q_ H2 2 rfl fun _ H3 => ln_ <| nx <| sq_ <| rl_ <| wl_ <| i_ H3 rfl (v := .agg (bs qb)) (dd_load HS2 0 0 rfl rfl (H3.ev 4 rfl) (slab_whole _) Tryd.underlying36 rfl (by rw [show (bs qb).size = 32 from ((size_bs _).trans hqb)]; kernel_rfl)) fun _ H4 => q_ H4 2 rfl fun _ H5 => wl_ <| c_ H5 rfl HS2 (dcs Tryd.func31 rfl (args3 (H5.ev 13 rfl) (H5.ev 14 rfl) (H5.ev 15 rfl)) (place_any qb q x W2 hqb) (.tuple #[.int .i64 (placeI (decLT qb) q x), .int .i64 (placeE (decLT qb) q x)])) fun _ HS6 _ H6 => wl_ <| p_ H6 rfl rfl fun _ H7 => wl_ <| i_ H7 rfl (v := .int .i64 (placeI (decLT qb) q x)) (dd_ext rfl (H7.ev 12 rfl) rfl) fun _ H8 => ?_
  clear HS HA0 HS1 H1 H2 H3 H4 H5 HS2 H6
  refine wl_ <| i_ H8 rfl (v := .int .i64 (placeE (decLT qb) q x)) (dd_ext rfl (H8.ev 12 rfl) rfl) fun _ H9 => q_ H9 2 rfl fun _ H10 => ln_ <| nx <| sq_ <| sq_ <| rl_ <| wl_ <| p_ H10 rfl rfl fun _ H11 => ?_
  clear H7 H8 H9 H10
  by_cases hc13 : (placeE (decLT qb) q x : Int) = 0
  ·
   refine wl_ <| i_ H11 rfl (dd_cmp rfl (H11.ev 19 rfl) rfl (ne_f hc13)) fun _ H14 => ln_ <| nx <| cf_ H14 rfl <| wp_skip <| nx <| sq_ <| rl_ <| wl_ <| p_ H14 rfl rfl fun _ H15 => wl_ <| i_ H15 rfl (v := .agg (bs d)) (dd_load HS6 1 0 rfl rfl (H15.ev 7 rfl) (slab_whole _) Tryd.underlying36 rfl (by rw [show (bs d).size = 32 from ((size_bs _).trans hd)]; kernel_rfl)) fun _ H16 => wl_ <| i_ H16 rfl (v := .agg (catA [[.int .i64 (placeI (decLT qb) q x)], bytesV d])) (dd_bld rfl (ps := [(0, .int .i64 (placeI (decLT qb) q x)), (1, .agg (bs d))]) (pr1 (H16.ev 22 rfl) (pr1 (H16.ev 23 rfl) (pr0))) (Lz := [[.int .i64 0], bytesV (zer 32)]) (by kernel_rfl) (lens_cons rfl (lens_cons (len_bv (length_zer 32)) (lens_nil))) (fit_cons (i := 0) rfl rfl (fit_cons (i := 1) rfl ((size_bs _).trans hd) (fit_nil))) (cs := catA [[.int .i64 (placeI (decLT qb) q x)], bytesV d]) rfl) fun _ H17 => wl_ <| n_ H17 rfl (fun _ h => dd_lit1 HS6 (z := .agg (catA [[.int .i64 0], bytesV (zer 32)])) (sz := 33) rfl (H17.ev 24 rfl) Tryd.underlying51 (by kernel_rfl) (cat_size (lens_cons rfl (lens_cons (len_bv hd) (lens_nil)))) rfl rfl h) fun _ _ HS18 _ H18 => q_ H18 2 rfl fun _ H19 => ln_ <| ?_
   clear H11 H14 H15 H16 HS6 H17 H18
   have H20 := H19.sel [8, 9] rfl
   refine nx <| wp_ret <| ret_run H20.env0 (res_tt Tryd.results24 (H20.get 8 rfl) (H20.get 9 rfl)) <| ?_
   clear H19
   exact ⟨_, by rw [hc13], by rw [write_yes hc13]; exact own_put1 (HS18.row 2 rfl) hd (st_fresh2 HS18 2 rfl), HS18.below⟩
  refine wl_ <| i_ H11 rfl (dd_cmp rfl (H11.ev 19 rfl) rfl (ne_t hc13)) fun _ H21 => ln_ <| nx <| ct_ H21 rfl <| sq_ <| rl_ <| q_ H21 3 rfl fun _ H22 => ln_ <| ?_
  clear H11 H21
  have H23 := H22.sel [8, 9] rfl
  refine nx <| wp_ret <| tr <| ret_run H23.env0 (res_tt Tryd.results24 (H23.get 8 rfl) (H23.get 9 rfl)) <| ?_
  clear H22
  exact ⟨_, rfl, by rw [write_no hc13]; exact World.ownsRow_nil _ _ _ _, HS6.below⟩
theorem rwrite_any (qb q d : List (BitVec 8)) (x : Int) (w : World) (hqb : qb.length = 32) (hd : d.length = 32) : Calls Tryd.prog 27 #[.agg (bs qb), .string (strB q), .int .i64 x, .agg (bs d)] w fun e w' => ∃ v, e = .returned (.tuple #[v, .int .i64 (placeE (decLT qb) q x)]) ∧ w'.ownsRow w.heap.size 70 33 v (writeP (decLT qb) q x d).length ((writeP (decLT qb) q x d).map pcell).flatten ∧ Below w.heap.size w w' := by
  have HS := St.nil w noF
  refine enter_en Tryd.func27 rfl Tryd.ntmps27 (Nat.le_of_ble_eq_true rfl) fun a0 (HA0 : En 26 [(0, .agg (bs qb)), (1, .string (strB q)), (2, .int .i64 x), (3, .agg (bs d))] a0) => ?_
  refine sq_ <| rl_ <| wl_ <| n_ HA0 rfl (fun _ h => dd_box HS rfl (HA0.ev 0 rfl) (cs := (bs qb)) rfl h) fun _ _ HS1 _ H1 => wl_ <| n_ H1 rfl (fun _ h => dd_box HS1 rfl (H1.ev 3 rfl) (cs := (bs d)) rfl h) fun _ W2 HS2 _ H2 => q_ H2 2 rfl fun _ H3 => ln_ <| nx <| sq_ <| rl_ <| wl_ <| i_ H3 rfl (v := .agg (bs qb)) (dd_load HS2 0 0 rfl rfl (H3.ev 4 rfl) (slab_whole _) Tryd.underlying36 rfl (by rw [show (bs qb).size = 32 from ((size_bs _).trans hqb)]; kernel_rfl)) fun _ H4 => q_ H4 2 rfl fun _ H5 => wl_ <| c_ H5 rfl HS2 (dcs Tryd.func38 rfl (args3 (H5.ev 13 rfl) (H5.ev 14 rfl) (H5.ev 15 rfl)) (rplace_any qb q x W2 hqb) (.tuple #[.int .i64 (placeI (decLT qb) q x), .int .i64 (placeE (decLT qb) q x)])) fun _ HS6 _ H6 => wl_ <| p_ H6 rfl rfl fun _ H7 => wl_ <| i_ H7 rfl (v := .int .i64 (placeI (decLT qb) q x)) (dd_ext rfl (H7.ev 12 rfl) rfl) fun _ H8 => ?_
  clear HS HA0 HS1 H1 H2 H3 H4 H5 HS2 H6
  refine wl_ <| i_ H8 rfl (v := .int .i64 (placeE (decLT qb) q x)) (dd_ext rfl (H8.ev 12 rfl) rfl) fun _ H9 => q_ H9 2 rfl fun _ H10 => ln_ <| nx <| sq_ <| sq_ <| rl_ <| wl_ <| p_ H10 rfl rfl fun _ H11 => ?_
  clear H7 H8 H9 H10
  by_cases hc13 : (placeE (decLT qb) q x : Int) = 0
  ·
   refine wl_ <| i_ H11 rfl (dd_cmp rfl (H11.ev 19 rfl) rfl (ne_f hc13)) fun _ H14 => ln_ <| nx <| cf_ H14 rfl <| wp_skip <| nx <| sq_ <| rl_ <| wl_ <| p_ H14 rfl rfl fun _ H15 => wl_ <| i_ H15 rfl (v := .agg (bs d)) (dd_load HS6 1 0 rfl rfl (H15.ev 7 rfl) (slab_whole _) Tryd.underlying36 rfl (by rw [show (bs d).size = 32 from ((size_bs _).trans hd)]; kernel_rfl)) fun _ H16 => wl_ <| i_ H16 rfl (v := .agg (catA [[.int .i64 (placeI (decLT qb) q x)], bytesV d])) (dd_bld rfl (ps := [(0, .int .i64 (placeI (decLT qb) q x)), (1, .agg (bs d))]) (pr1 (H16.ev 22 rfl) (pr1 (H16.ev 23 rfl) (pr0))) (Lz := [[.int .i64 0], bytesV (zer 32)]) (by kernel_rfl) (lens_cons rfl (lens_cons (len_bv (length_zer 32)) (lens_nil))) (fit_cons (i := 0) rfl rfl (fit_cons (i := 1) rfl ((size_bs _).trans hd) (fit_nil))) (cs := catA [[.int .i64 (placeI (decLT qb) q x)], bytesV d]) rfl) fun _ H17 => wl_ <| n_ H17 rfl (fun _ h => dd_lit1 HS6 (z := .agg (catA [[.int .i64 0], bytesV (zer 32)])) (sz := 33) rfl (H17.ev 24 rfl) Tryd.underlying51 (by kernel_rfl) (cat_size (lens_cons rfl (lens_cons (len_bv hd) (lens_nil)))) rfl rfl h) fun _ _ HS18 _ H18 => q_ H18 2 rfl fun _ H19 => ln_ <| ?_
   clear H11 H14 H15 H16 HS6 H17 H18
   have H20 := H19.sel [8, 9] rfl
   refine nx <| wp_ret <| ret_run H20.env0 (res_tt Tryd.results27 (H20.get 8 rfl) (H20.get 9 rfl)) <| ?_
   clear H19
   exact ⟨_, by rw [hc13], by rw [write_yes hc13]; exact own_put1 (HS18.row 2 rfl) hd (st_fresh2 HS18 2 rfl), HS18.below⟩
  refine wl_ <| i_ H11 rfl (dd_cmp rfl (H11.ev 19 rfl) rfl (ne_t hc13)) fun _ H21 => ln_ <| nx <| ct_ H21 rfl <| sq_ <| rl_ <| q_ H21 3 rfl fun _ H22 => ln_ <| ?_
  clear H11 H21
  have H23 := H22.sel [8, 9] rfl
  refine nx <| wp_ret <| tr <| ret_run H23.env0 (res_tt Tryd.results27 (H23.get 8 rfl) (H23.get 9 rfl)) <| ?_
  clear H22
  exact ⟨_, rfl, by rw [write_no hc13]; exact World.ownsRow_nil _ _ _ _, HS6.below⟩
end Go.Proofs.YtnmaplgodimohaaDoor

/- The program's mayMake, withTable. -/
set_option maxRecDepth 4000
namespace Go.Proofs.YtnmaplgodimohaaDoor
open Go Go.RowKit
section
variable {l : List Tv} {q : List (BitVec 8)} {n : Int}
theorem may_11 (h : goodN q = false) : mayE l q n = 11 := if_pos h
theorem may_16 (h : goodN q = true) (h2 : 0 ≤ findI q l) : mayE l q n = 16 := by unfold mayE; rw [if_neg (by rw [h]; decide), if_pos h2]
theorem may_17 (h : goodN q = true) (h2 : ¬ 0 ≤ findI q l) (h3 : n < 1 ∨ 4 < n) : mayE l q n = 17 := by unfold mayE; rw [if_neg (by rw [h]; decide), if_neg h2, if_pos h3]
theorem may_18 (h : goodN q = true) (h2 : ¬ 0 ≤ findI q l) (h3 : ¬ (n < 1 ∨ 4 < n)) (h4 : (3 : Int) ≤ l.length) : mayE l q n = 18 := by unfold mayE; rw [if_neg (by rw [h]; decide), if_neg h2, if_neg h3, if_pos h4]
theorem may_0 (h : goodN q = true) (h2 : ¬ 0 ≤ findI q l) (h3 : ¬ (n < 1 ∨ 4 < n)) (h4 : ¬ (3 : Int) ≤ l.length) : mayE l q n = 0 := by unfold mayE; rw [if_neg (by rw [h]; decide), if_neg h2, if_neg h3, if_neg h4]
theorem may_of0 (h : mayE l q n = 0) : goodN q = true ∧ ¬ 0 ≤ findI q l ∧ 1 ≤ n ∧ n ≤ 4 ∧ l.length ≤ 2 := by
  cases hg : goodN q with
  | false => rw [may_11 hg] at h; cases h
  | true =>
    by_cases h2 : 0 ≤ findI q l
    · rw [may_16 hg h2] at h; cases h
    by_cases h3 : n < 1 ∨ 4 < n
    · rw [may_17 hg h2 h3] at h; cases h
    by_cases h4 : (3 : Int) ≤ l.length
    · rw [may_18 hg h2 h3 h4] at h; cases h
    exact ⟨rfl, h2, by omega, by omega, by omega⟩
end
set_option maxHeartbeats 800000 in
theorem maymake_any (A : Option Addr) (N C : Nat) (l : List Tv) (q : List (BitVec 8)) (n : Int) (w : World) (hv : VolsAt w (.slice A N C) (volL l)) (hN : N ≤ 1000000) (hq : q.length ≤ maxLen) :
    Calls Tryd.prog 33 #[.string (strB q), .int .i64 n, .slice A N C] w fun e w' => e = .returned (.int .i64 (mayE l q n)) ∧ Below w.heap.size w w' := by
  have HS := St.nil w noF
  have HV : ∀ W, Below w.heap.size w W → VolsAt W (.slice A N C) (volL l) := fun W hb => hv.below hb (Nat.le_refl _)
  have hln : l.length = N := by rw [← len_volL]; exact vols_len hv
  refine enter_en Tryd.func33 rfl Tryd.ntmps33 (Nat.le_of_ble_eq_true rfl) fun a0 (HA0 : En 28 [(0, .string (strB q)), (1, .int .i64 n), (2, .slice A N C)] a0) => ?_
  refine sq_ <| rl_ <| wl_ <| p_ HA0 rfl rfl fun _ H1 => ln_ <| nx <| sq_ <| wp_block <| sq_ <| rl_ <| wl_ <| p_ H1 rfl rfl fun _ H2 => wl_ <| n_ H2 rfl (fun _ h => dd_lits HS #[.string (strB q)] rfl (ps := [(0, .string (strB q))]) (pr1 (H2.ev 8 rfl) (pr0)) (z := .string (⟨#[]⟩)) (sz := 1) Tryd.underlying88 (by kernel_rfl) rfl rfl (by kernel_rfl) h) fun _ W3 HS3 _ H3 => ?_
  clear HA0 H1 HS H2
  cases hb5 : goodN q
  ·
   refine wl_ <| c_ H3 rfl HS3 (v := .bool false) (dc_ Tryd.func45 rfl (args1 (H3.ev 9 rfl)) (good_any [q] _ W3 (strs_row (HS3.row 0 rfl) hq) (by unfold maxLen; simp)) (fun _ w9 h9 => ⟨_, h9.1, by rw [goodNs_oneT, hb5], h9.2⟩)) fun _ HS6 _ H6 => wl_ <| i_ H6 rfl (v := .bool true) (dd_nt rfl (H6.ev 10 rfl) rfl) fun _ H7 => wl_ <| p_ H7 rfl rfl fun _ H8 => ln_ <| nx <| ct_ H8 rfl <| sq_ <| rl_ <| wl_ <| p_ H8 rfl rfl fun _ H9 => ln_ <| nx <| wp_ret <| br_ <| tr <| ret_run H9.env0 (res_t Tryd.results33 (H9.get 6 rfl)) <| ?_
   clear H3 HS3 H6 H7 H8
   exact ⟨by rw [may_11 hb5], HS6.below⟩
  refine wl_ <| c_ H3 rfl HS3 (v := .bool true) (dc_ Tryd.func45 rfl (args1 (H3.ev 9 rfl)) (good_any [q] _ W3 (strs_row (HS3.row 0 rfl) hq) (by unfold maxLen; simp)) (fun _ w9 h9 => ⟨_, h9.1, by rw [goodNs_oneT, hb5], h9.2⟩)) fun W10 HS10 _ H10 => wl_ <| i_ H10 rfl (v := .bool false) (dd_nt rfl (H10.ev 10 rfl) rfl) fun _ H11 => wl_ <| p_ H11 rfl rfl fun _ H12 => ln_ <| nx <| cf_ H12 rfl <| sq_ <| rl_ <| q_ H12 2 rfl fun _ H13 => ?_
  clear H3 HS3 H10 H11 H12
  have hfi15 := findI_is q l
  refine wl_ <| c_ H13 rfl HS10 (dcs Tryd.func36 rfl (args2 (H13.ev 13 rfl) (H13.ev 14 rfl)) (find_any _ _ _ q l W10 (HV _ HS10.below) hN) (.int .i64 (findI q l))) fun _ HS14 _ H14 => ?_
  clear H13 HS10
  by_cases hc17 : (0 : Int) ≤ findI q l
  ·
   refine wl_ <| i_ H14 rfl (dd_cmp rfl (H14.ev 15 rfl) rfl (ge_t hc17)) fun _ H18 => wl_ <| p_ H18 rfl rfl fun _ H19 => ln_ <| nx <| ct_ H19 rfl <| sq_ <| rl_ <| wl_ <| p_ H19 rfl rfl fun _ H20 => ln_ <| nx <| wp_ret <| br_ <| tr <| ret_run H20.env0 (res_t Tryd.results33 (H20.get 6 rfl)) <| ?_
   clear H14 H18 H19
   exact ⟨by rw [may_16 hb5 hc17], HS14.below⟩
  refine wl_ <| i_ H14 rfl (dd_cmp rfl (H14.ev 15 rfl) rfl (ge_f hc17)) fun _ H21 => wl_ <| p_ H21 rfl rfl fun _ H22 => ln_ <| nx <| cf_ H22 rfl <| sq_ <| rl_ <| wl_ <| p_ H22 rfl rfl fun _ H23 => ?_
  clear H14 H21 H22
  by_cases hc25 : (n : Int) < 1
  ·
   refine wl_ <| i_ H23 rfl (dd_cmp rfl (H23.ev 18 rfl) rfl (lt_t hc25)) fun _ H26 => wl_ <| p_ H26 rfl rfl fun _ H27 => wl_ <| k_ H27 (wg_ H27 rfl rfl rfl rfl) rfl fun _ H28 => wl_ <| k_ H28 (wg_ H28 rfl rfl rfl rfl) rfl fun _ H29 => q_ H29 2 rfl fun _ H30 => ln_ <| ?_
   clear H23 H26 H27 H28 H29
   have H31 := H30.sel [2, 17] rfl
   refine nx <| ct_ H31 rfl <| sq_ <| rl_ <| wl_ <| p_ H31 rfl rfl fun _ H32 => ln_ <| nx <| wp_ret <| br_ <| tr <| ret_run H32.env0 (res_t Tryd.results33 (H32.get 6 rfl)) <| ?_
   clear H30 H31
   exact ⟨by rw [may_17 hb5 hc17 (by omega)], HS14.below⟩
  refine wl_ <| i_ H23 rfl (dd_cmp rfl (H23.ev 18 rfl) rfl (lt_f hc25)) fun _ H33 => wl_ <| p_ H33 rfl rfl fun _ H34 => wl_ <| ig H34 (wg_ H34 rfl rfl rfl rfl) rfl (dd_mv rfl (H34.ev 1 rfl)) fun _ H35 => ?_
  clear H23 H33 H34
  by_cases hc37 : (4 : Int) < n
  ·
   refine wl_ <| ig H35 (wg_ H35 rfl rfl rfl rfl) rfl (dd_cmp rfl (H35.ev 21 rfl) rfl (gt_t hc37)) fun _ H38 => q_ H38 2 rfl fun _ H39 => ln_ <| ?_
   clear H35 H38
   have H40 := H39.sel [2, 17] rfl
   refine nx <| ct_ H40 rfl <| sq_ <| rl_ <| wl_ <| p_ H40 rfl rfl fun _ H41 => ln_ <| nx <| wp_ret <| br_ <| tr <| ret_run H41.env0 (res_t Tryd.results33 (H41.get 6 rfl)) <| ?_
   clear H39 H40
   exact ⟨by rw [may_17 hb5 hc17 (by omega)], HS14.below⟩
  refine wl_ <| ig H35 (wg_ H35 rfl rfl rfl rfl) rfl (dd_cmp rfl (H35.ev 21 rfl) rfl (gt_f hc37)) fun _ H42 => q_ H42 2 rfl fun _ H43 => ln_ <| ?_
  clear H35 H42
  have H44 := H43.sel [2, 17] rfl
  refine nx <| cf_ H44 rfl <| sq_ <| rl_ <| wl_ <| p_ H44 rfl rfl fun _ H45 => wl_ <| i_ H45 rfl (v := .int .i64 N) (dd_len rfl (H45.ev 25 rfl) Tryd.underlying75) fun _ H46 => ?_
  clear H43 H44 H45
  by_cases hc48 : (3 : Int) ≤ N
  ·
   refine wl_ <| i_ H46 rfl (dd_cmp rfl (H46.ev 26 rfl) rfl (ge_t hc48)) fun _ H49 => wl_ <| p_ H49 rfl rfl fun _ H50 => ln_ <| nx <| ct_ H50 rfl <| sq_ <| rl_ <| wl_ <| p_ H50 rfl rfl fun _ H51 => ln_ <| nx <| wp_ret <| br_ <| tr <| ret_run H51.env0 (res_t Tryd.results33 (H51.get 6 rfl)) <| ?_
   clear H46 H49 H50
   exact ⟨by rw [may_18 hb5 hc17 (by omega) (by omega)], HS14.below⟩
  refine wl_ <| i_ H46 rfl (dd_cmp rfl (H46.ev 26 rfl) rfl (ge_f hc48)) fun _ H52 => wl_ <| p_ H52 rfl rfl fun _ H53 => ln_ <| nx <| cf_ H53 rfl <| wp_skip <| bn <| nx <| sq_ <| rl_ <| wl_ <| p_ H53 rfl rfl fun _ H54 => ln_ <| nx <| wp_ret <| ret_run H54.env0 (res_t Tryd.results33 (H54.get 6 rfl)) <| ?_
  clear H46 H52 H53
  exact ⟨by rw [may_0 hb5 hc17 (by omega) (by omega)], HS14.below⟩
theorem put_snoc {cb : Array Value} {c k : Nat} {P : List Pt} {z : Int} {d : List (BitVec 8)} (h : OwnC cb c k 33 ((P.map pcell).flatten ++ (catA [[.int .i64 z], bytesV d]).toList)) : OwnC cb c k 33 ((P ++ [(z, d)]).map pcell).flatten := by
  have e : (P.map pcell).flatten ++ (catA [[.int .i64 z], bytesV d]).toList = ((P ++ [(z, d)]).map pcell).flatten := by simp [catA, pcell]
  rw [← e]; exact h
set_option maxHeartbeats 800000 in
theorem withtable_own (A : Option Addr) (N C g k c : Nat) (l : List Tv) (P : List Pt) (zs : Array Value) (F : Nat → Prop) (w : World) (HS : St w F [⟨g, 70, zs⟩] w) (Oz : OwnC zs c k 33 (P.map pcell).flatten) (HV : ∀ W, Chg F w W → VolsAt W (.slice A N C) (volL l)) (hN : N ≤ 1000000) (hm : ∀ x ∈ l, x.2.length ≤ 1000000) (hk : k ≤ 100) :
    Calls Tryd.prog 35 #[.slice A N C, .slice (some ⟨g, 0, none⟩) k c] w fun e w' => ∃ g' c' cb', e = .returned (.slice (some ⟨g', 0, none⟩) (k + 1) c') ∧ OwnC cb' c' (k + 1) 33 ((P ++ [(0, encT l)]).map pcell).flatten ∧ St w F [⟨g', 70, cb'⟩] w' := by
  refine enter_en Tryd.func35 rfl Tryd.ntmps35 (Nat.le_of_ble_eq_true rfl) fun a0 (HA0 : En 17 [(0, .slice A N C), (1, .slice (some ⟨g, 0, none⟩) k c)] a0) => ?_
  refine sq_ <| rl_ <| wl_ <| p_ HA0 rfl rfl fun _ H1 => ln_ <| nx <| sq_ <| rl_ <| wl_ <| p_ H1 rfl rfl fun _ H2 => wl_ <| c_ H2 rfl HS (dcs Tryd.func48 rfl (args1 (H2.ev 8 rfl)) (enct_any _ _ _ l w (HV _ HS.chg) hN hm) (.tuple #[.agg (bs (encT l)), .int .i64 (encE l)])) fun _ HS3 _ H3 => wl_ <| p_ H3 rfl rfl fun _ H4 => wl_ <| i_ H4 rfl (v := .agg (bs (encT l))) (dd_ext rfl (H4.ev 7 rfl) rfl) fun _ H5 => wl_ <| i_ H5 rfl (v := .int .i64 (encE l)) (dd_ext rfl (H5.ev 7 rfl) rfl) fun _ H6 => wl_ <| n_ H6 rfl (fun _ h => dd_new HS3 (bs (zer 32)) rfl (z := .agg (bs (zer 32))) (by kernel_rfl) rfl h) fun g5 _ HS7 _ H7 => wl_ <| t_ rfl (fun _ h => dd_setrow HS7 1 rfl rfl (H7.ev 5 rfl) (H7.ev 10 rfl) (by kernel_rfl) (((size_bs _).trans (length_encT _)) : (bs (encT l)).size = 32) (((size_bs _).trans (length_zer 32)) : (bs (zer 32)).size = 32) (one_bs _) h) fun _ HS8 => ?_
  clear HA0 H1 H2 HS H3 H4 H5 HS3 H6
  refine wl_ <| p_ H7 rfl rfl fun _ H9 => ln_ <| nx <| sq_ <| rl_ <| wl_ <| p_ H9 rfl rfl fun _ H10 => wl_ <| i_ H10 rfl (v := .agg (bs (encT l))) (dd_load HS8 1 0 rfl rfl (H10.ev 5 rfl) (slab_whole _) Tryd.underlying36 rfl (by rw [show (bs (encT l)).size = 32 from ((size_bs _).trans (length_encT _))]; kernel_rfl)) fun _ H11 => wl_ <| i_ H11 rfl (v := .agg (catA [[.int .i64 0], bytesV (encT l)])) (dd_bld rfl (ps := [(0, .int .i64 0), (1, .agg (bs (encT l)))]) (pr1 rfl (pr1 (H11.ev 13 rfl) (pr0))) (Lz := [[.int .i64 0], bytesV (zer 32)]) (by kernel_rfl) (lens_cons rfl (lens_cons (len_bv (length_zer 32)) (lens_nil))) (fit_cons (i := 0) rfl rfl (fit_cons (i := 1) rfl ((size_bs _).trans (length_encT _)) (fit_nil))) (cs := catA [[.int .i64 0], bytesV (encT l)]) rfl) fun _ H12 => wl_ <| n_ H12 rfl (fun _ h => dd_lit1 HS8 (z := .agg (catA [[.int .i64 0], bytesV (zer 32)])) (sz := 33) rfl (H12.ev 14 rfl) Tryd.underlying51 (by kernel_rfl) (cat_size (lens_cons rfl (lens_cons (len_bv (length_encT _)) (lens_nil)))) rfl rfl h) fun g15 _ HS13 _ H13 => wl_ <| a_ H13 rfl (S := fun g16_15 cb16_15 => [⟨g5, 36, bs (encT l)⟩, ⟨g15, 70, catA [[.int .i64 0], bytesV (encT l)]⟩, ⟨g16_15, 70, cb16_15⟩]) (fun g16_15 c16_15 => .slice (some ⟨g16_15, 0, none⟩) (k + 1) c16_15) (T := fun _ c16_15 cb16_15 => OwnC cb16_15 c16_15 (k + 1) 33 (((P.map pcell).flatten) ++ (catA [[.int .i64 0], bytesV (encT l)]).toList)) (fun _ h => dd_app HS13 0 rfl Oz rfl (H13.ev 12 rfl) (z := .agg (catA [[.int .i64 0], bytesV (zer 32)])) (bytes := 40) Tryd.underlying51 (by kernel_rfl) rfl (by decide) ((catA [[.int .i64 0], bytesV (encT l)]).toList) (H13.ev 15 rfl) (lenA (cat_size (lens_cons rfl (lens_cons (len_bv (length_encT _)) (lens_nil))))) (row_news (HS13.row 2 rfl) 0 (slabA (slab_whole _))) (all_one (cat_one (ones_cons (ones_c rfl) (ones_cons (one_bytesV _) (ones_nil))))) (by unfold maxLen; omega) (by omega) h) fun g16_15 c16_15 cb16_15 _ O16_15 HS14 _ H14 => wl_ <| p_ H14 rfl rfl fun _ H16 => ln_ <| nx <| wp_ret <| ret_run H16.env0 (res_t Tryd.results35 (H16.get 4 rfl)) <| ?_
  clear HS7 H7 H9 H10 H11 HS8 H12 HS13 H13 H14
  exact ⟨g16_15, c16_15, cb16_15, rfl, put_snoc O16_15, ss HS14 [2]⟩
set_option maxHeartbeats 800000 in
theorem withtable_nil (A : Option Addr) (N C : Nat) (l : List Tv) (F : Nat → Prop) (w : World) (HV : ∀ W, Chg F w W → VolsAt W (.slice A N C) (volL l)) (hN : N ≤ 1000000) (hm : ∀ x ∈ l, x.2.length ≤ 1000000) :
    Calls Tryd.prog 35 #[.slice A N C, .slice none 0 0] w fun e w' => ∃ g' c' cb', e = .returned (.slice (some ⟨g', 0, none⟩) 1 c') ∧ OwnC cb' c' 1 33 (([(0, encT l)] : List Pt).map pcell).flatten ∧ St w F [⟨g', 70, cb'⟩] w' := by
  have HS := St.nil w F
  refine enter_en Tryd.func35 rfl Tryd.ntmps35 (Nat.le_of_ble_eq_true rfl) fun a0 (HA0 : En 17 [(0, .slice A N C), (1, .slice none 0 0)] a0) => ?_
  refine sq_ <| rl_ <| wl_ <| p_ HA0 rfl rfl fun _ H1 => ln_ <| nx <| sq_ <| rl_ <| wl_ <| p_ H1 rfl rfl fun _ H2 => wl_ <| c_ H2 rfl HS (dcs Tryd.func48 rfl (args1 (H2.ev 8 rfl)) (enct_any _ _ _ l w (HV _ HS.chg) hN hm) (.tuple #[.agg (bs (encT l)), .int .i64 (encE l)])) fun _ HS3 _ H3 => wl_ <| p_ H3 rfl rfl fun _ H4 => wl_ <| i_ H4 rfl (v := .agg (bs (encT l))) (dd_ext rfl (H4.ev 7 rfl) rfl) fun _ H5 => wl_ <| i_ H5 rfl (v := .int .i64 (encE l)) (dd_ext rfl (H5.ev 7 rfl) rfl) fun _ H6 => wl_ <| n_ H6 rfl (fun _ h => dd_new HS3 (bs (zer 32)) rfl (z := .agg (bs (zer 32))) (by kernel_rfl) rfl h) fun g5 _ HS7 _ H7 => wl_ <| t_ rfl (fun _ h => dd_setrow HS7 0 rfl rfl (H7.ev 5 rfl) (H7.ev 10 rfl) (by kernel_rfl) (((size_bs _).trans (length_encT _)) : (bs (encT l)).size = 32) (((size_bs _).trans (length_zer 32)) : (bs (zer 32)).size = 32) (one_bs _) h) fun _ HS8 => ?_
  clear HA0 H1 H2 HS H3 H4 H5 HS3 H6
  refine wl_ <| p_ H7 rfl rfl fun _ H9 => ln_ <| nx <| sq_ <| rl_ <| wl_ <| p_ H9 rfl rfl fun _ H10 => wl_ <| i_ H10 rfl (v := .agg (bs (encT l))) (dd_load HS8 0 0 rfl rfl (H10.ev 5 rfl) (slab_whole _) Tryd.underlying36 rfl (by rw [show (bs (encT l)).size = 32 from ((size_bs _).trans (length_encT _))]; kernel_rfl)) fun _ H11 => wl_ <| i_ H11 rfl (v := .agg (catA [[.int .i64 0], bytesV (encT l)])) (dd_bld rfl (ps := [(0, .int .i64 0), (1, .agg (bs (encT l)))]) (pr1 rfl (pr1 (H11.ev 13 rfl) (pr0))) (Lz := [[.int .i64 0], bytesV (zer 32)]) (by kernel_rfl) (lens_cons rfl (lens_cons (len_bv (length_zer 32)) (lens_nil))) (fit_cons (i := 0) rfl rfl (fit_cons (i := 1) rfl ((size_bs _).trans (length_encT _)) (fit_nil))) (cs := catA [[.int .i64 0], bytesV (encT l)]) rfl) fun _ H12 => wl_ <| n_ H12 rfl (fun _ h => dd_lit1 HS8 (z := .agg (catA [[.int .i64 0], bytesV (zer 32)])) (sz := 33) rfl (H12.ev 14 rfl) Tryd.underlying51 (by kernel_rfl) (cat_size (lens_cons rfl (lens_cons (len_bv (length_encT _)) (lens_nil)))) rfl rfl h) fun g15 _ HS13 _ H13 => wl_ <| a_ H13 rfl (S := fun g16_15 cb16_15 => [⟨g5, 36, bs (encT l)⟩, ⟨g15, 70, catA [[.int .i64 0], bytesV (encT l)]⟩, ⟨g16_15, 70, cb16_15⟩]) (fun g16_15 c16_15 => .slice (some ⟨g16_15, 0, none⟩) 1 c16_15) (T := fun _ c16_15 cb16_15 => OwnC cb16_15 c16_15 1 33 ((catA [[.int .i64 0], bytesV (encT l)]).toList)) (fun _ h => dd_app0 HS13 rfl (H13.ev 12 rfl) (z := .agg (catA [[.int .i64 0], bytesV (zer 32)])) (bytes := 40) (sz := 33) Tryd.underlying51 (by kernel_rfl) rfl (by decide) ((catA [[.int .i64 0], bytesV (encT l)]).toList) (H13.ev 15 rfl) (lenA (cat_size (lens_cons rfl (lens_cons (len_bv (length_encT _)) (lens_nil))))) (row_news (HS13.row 1 rfl) 0 (slabA (slab_whole _))) (all_one (cat_one (ones_cons (ones_c rfl) (ones_cons (one_bytesV _) (ones_nil))))) (by unfold maxLen; omega) (by omega) h) fun g16_15 c16_15 cb16_15 _ O16_15 HS14 _ H14 => wl_ <| p_ H14 rfl rfl fun _ H16 => ln_ <| nx <| wp_ret <| ret_run H16.env0 (res_t Tryd.results35 (H16.get 4 rfl)) <| ?_
  clear HS7 H7 H9 H10 H11 HS8 H12 HS13 H13 H14
  exact ⟨g16_15, c16_15, cb16_15, rfl, put_snoc (P := []) O16_15, ss HS14 [2]⟩
end Go.Proofs.YtnmaplgodimohaaDoor

/- The program's Make. -/
set_option maxRecDepth 4000
namespace Go.Proofs.YtnmaplgodimohaaDoor
open Go Go.RowKit
theorem take_len {u : BitVec 16} {n : Int} (h : takeE u n = 0) (h1 : 1 ≤ n) (h4 : n ≤ 4) : ((takeV u n).length : Int) = n := by
  unfold takeE at h
  unfold takeV
  rw [if_neg (by omega)] at h
  by_cases hl : ((freeL u).length : Int) < n
  · rw [if_pos hl] at h; cases h
  · rw [if_neg (by omega), List.length_take]; omega
theorem take_lenI {u : BitVec 16} {n : Int} {k : Nat} (h : takeE u n = 0) (h1 : 1 ≤ n) (h4 : n ≤ 4) (hk : n = (k : Int)) : (takeV u n).length = k := by have := take_len h h1 h4; omega
theorem take_i64 (l : List Tv) (n : Int) : ∀ x ∈ takeT l n, -9223372036854775808 ≤ x ∧ x < 9223372036854775808 := fun x hx => by
  have := takeV_bound _ _ x hx; omega
theorem vol_snoc (l : List Tv) (q : List (BitVec 8)) (n : Int) : volL l ++ [(strB q, takeT l n)] = volL (makeL l q n) := by simp [volL, makeL]
theorem makeL_small (qb q : List (BitVec 8)) (n : Int) : ∀ x ∈ makeL (decLT qb) q n, x.2.length ≤ 1000000 := fun x hx => by
  unfold makeL at hx
  rcases List.mem_append.1 hx with hx | hx
  · exact decLT_small qb x hx
  · obtain rfl : x = (q, takeT (decLT qb) n) := by simpa using hx
    exact Nat.le_trans (takeV_len _ _) (by decide)
section
variable {l : List Tv} {q : List (BitVec 8)} {n : Int}
theorem make_E0 (hM : mayE l q n = 0) (h : takeE (usedV (volL l)) n = 0) : makeE l q n = 0 := (if_pos hM).trans h
theorem make_E1 (hM : mayE l q n = 0) : makeE l q n = takeE (usedV (volL l)) n := if_pos hM
theorem make_E2 (hM : ¬ mayE l q n = 0) : makeE l q n = mayE l q n := if_neg hM
theorem make_ne (hM : mayE l q n = 0) (h : ¬ takeE (usedV (volL l)) n = 0) : ¬ makeE l q n = 0 := by rw [make_E1 hM]; exact h
theorem make_ne2 (hM : ¬ mayE l q n = 0) : ¬ makeE l q n = 0 := by rw [make_E2 hM]; exact hM
theorem make_P0 (h : ¬ makeE l q n = 0) : makeP l q n = [] := if_neg h
theorem make_P (h : makeE l q n = 0) : makeP l q n = (takeT l n).map (fun b => (b, zer 32)) ++ [(0, encT (makeL l q n))] := if_pos h
end
theorem own_puts {w : World} {B n : Nat} {v : Value} {P P2 : List Pt} (e : P = P2) (hl : P.length = n) (h : w.ownsRow B 70 33 v n (P2.map pcell).flatten) : w.ownsRow B 70 33 v P.length (P.map pcell).flatten := by
  subst e; rw [hl]; exact h
theorem zer_cat {T : List Int} {k : Nat} (hT : T.length = k) (cs : Array Value) (hk : k ≤ 100) (e : cs.toList = ((T.map fun b => ((b, zer 32) : Pt)).map pcell).flatten) : OwnC cs k k 33 ((T.map fun b => ((b, zer 32) : Pt)).map pcell).flatten := by
  have hl : ((T.map fun b => ((b, zer 32) : Pt)).map pcell).flatten.length = k * 33 := by
    rw [len_puts (fun x hx => by obtain ⟨b, _, rfl⟩ := List.mem_map.1 hx; exact length_zer 32), List.length_map, hT]
  exact ⟨Nat.le_refl _, by unfold maxLen; omega, by rw [← Array.length_toList, e, hl], hl, by rw [e, List.take_of_length_le (by rw [hl]; exact Nat.le_refl _)]⟩
theorem own_zeros1 {T : List Int} (hT : T.length = 1) : OwnC (catA [[.int .i64 (T.getD 0 0)], bytesV (zer 32)]) 1 1 33 ((T.map fun b => ((b, zer 32) : Pt)).map pcell).flatten := zer_cat hT _ (by decide) (by
  match T, hT with
  | [a], _ => simp [catA, pcell])
theorem own_zeros2 {T : List Int} (hT : T.length = 2) : OwnC (catA [[.int .i64 (T.getD 0 0)], bytesV (zer 32), [.int .i64 (T.getD 1 0)], bytesV (zer 32)]) 2 2 33 ((T.map fun b => ((b, zer 32) : Pt)).map pcell).flatten := zer_cat hT _ (by decide) (by
  match T, hT with
  | [a, b], _ => simp [catA, pcell])
theorem own_zeros3 {T : List Int} (hT : T.length = 3) : OwnC (catA [[.int .i64 (T.getD 0 0)], bytesV (zer 32), [.int .i64 (T.getD 1 0)], bytesV (zer 32), [.int .i64 (T.getD 2 0)], bytesV (zer 32)]) 3 3 33 ((T.map fun b => ((b, zer 32) : Pt)).map pcell).flatten := zer_cat hT _ (by decide) (by
  match T, hT with
  | [a, b, c], _ => simp [catA, pcell])
theorem own_zeros4 {T : List Int} (hT : T.length = 4) : OwnC (catA [[.int .i64 (T.getD 0 0)], bytesV (zer 32), [.int .i64 (T.getD 1 0)], bytesV (zer 32), [.int .i64 (T.getD 2 0)], bytesV (zer 32), [.int .i64 (T.getD 3 0)], bytesV (zer 32)]) 4 4 33 ((T.map fun b => ((b, zer 32) : Pt)).map pcell).flatten := zer_cat hT _ (by decide) (by
  match T, hT with
  | [a, b, c, d], _ => simp [catA, pcell])
set_option maxHeartbeats 1600000 in
theorem make_ok1 (qb q : List (BitVec 8)) (w : World) (hqb : qb.length = 32) (hq : q.length ≤ maxLen) (hM : mayE (decLT qb) q 1 = 0) : Calls Tryd.prog 25 #[.agg (bs qb), .string (strB q), .int .i64 1] w fun e w' => ∃ v, e = .returned (.tuple #[v, .int .i64 (makeE (decLT qb) q 1)]) ∧ w'.ownsRow w.heap.size 70 33 v (makeP (decLT qb) q 1).length ((makeP (decLT qb) q 1).map pcell).flatten ∧ Below w.heap.size w w' := by
  have HS := St.nil w noF
  refine enter_en Tryd.func25 rfl Tryd.ntmps25 (Nat.le_of_ble_eq_true rfl) fun a0 (HA0 : En 58 [(0, .agg (bs qb)), (1, .string (strB q)), (2, .int .i64 1)] a0) => ?_
  refine sq_ <| rl_ <| wl_ <| n_ HA0 rfl (fun _ h => dd_box HS rfl (HA0.ev 0 rfl) (cs := (bs qb)) rfl h) fun _ W1 HS1 _ H1 => q_ H1 2 rfl fun _ H2 => ln_ <| nx <| sq_ <| rl_ <| ?_
  clear HS HA0 H1
  have hS1 := HS1
  refine wl_ <| i_ H2 rfl (v := .agg (bs qb)) (dd_load HS1 0 0 rfl rfl (H2.ev 3 rfl) (slab_whole _) Tryd.underlying36 rfl (by rw [show (bs qb).size = 32 from ((size_bs _).trans hqb)]; kernel_rfl)) fun _ H3 => ?_
  clear H2
  refine wl_ <| d_ H3 rfl (R := fun v w9 => ∃ A5 N5 C5 Bb5, v = .slice A5 N5 C5 ∧ ((volL (decLT qb)).length = N5 ∧ N5 ≤ 3) ∧ (W1.heap.size ≤ Bb5 ∧ Bb5 ≤ w9.heap.size) ∧ (OV Bb5 w9 (.slice A5 N5 C5) (volL (decLT qb))) ∧ Below W1.heap.size W1 w9) (dc_ Tryd.func32 rfl (args1 (H3.ev 15 rfl)) (volumes_any qb W1 hqb) (fun _ w9 ⟨v9, B9, he, h4, h5, ho, hb⟩ => by obtain ⟨A9, n9, c9, rfl, h1, _⟩ := OV.form2 ho; exact ⟨_, he, A9, n9, c9, B9, rfl, ⟨h1, by rw [← h1, len_volL]; exact decLT_len _⟩, ⟨h4, h5⟩, ho, hb⟩)) ?_
  rintro _ W4 ⟨A5, N5, C5, Bb5, rfl, hNd5, hBb5, hov5, hb4⟩ a4 H4
  have HS4 := HS1.same hb4
  clear H3
  have hln5 : (decLT qb).length = N5 := by rw [← len_volL]; exact hNd5.1
  have HBs6 : Below w.heap.size w W4 := HS4.below
  have HR6_0 := fun (W9 : World) (hb9 : Below W4.heap.size W4 W9) => (HS4.row 0 rfl).call hb9
  have HSb6 := St.nil W4 noF
  clear HS4
  have HVd5 := fun (W9 : World) (hb9 : Below W4.heap.size W4 W9) => ((hov5.vols (Nat.le_trans (Nat.le_of_eq hNd5.1) (Nat.le_trans hNd5.2 (by decide)))).below hb9 (Nat.le_refl _))
  clear HS1 hb4
  refine wl_ <| p_ H4 rfl rfl fun _ H7 => ln_ <| nx <| sq_ <| sq_ <| rl_ <| q_ H7 3 rfl fun _ H8 => wl_ <| c_ H8 rfl HSb6 (v := .int .i64 0) (dc_ Tryd.func33 rfl (args3 (H8.ev 17 rfl) (H8.ev 18 rfl) (H8.ev 19 rfl)) (maymake_any _ _ _ (decLT qb) q 1 W4 (HVd5 _ HSb6.below) (Nat.le_trans hNd5.2 (by decide)) hq) (fun _ w9 h9 => ⟨_, h9.1, by rw [hM], h9.2⟩)) fun W9 HS9 _ H9 => wl_ <| p_ H9 rfl rfl fun _ H10 => ln_ <| nx <| sq_ <| rl_ <| wl_ <| p_ H10 rfl rfl fun _ H11 => wl_ <| i_ H11 rfl (dd_cmp rfl (H11.ev 21 rfl) rfl (ne_f (by decide))) fun _ H12 => ln_ <| nx <| cf_ H12 rfl <| wp_skip <| nx <| sq_ <| rl_ <| q_ H12 2 rfl fun _ H13 => ?_
  clear H4 H7 H8 HSb6 H9 H10 H11 H12
  by_cases hc15 : takeE (usedV (volL (decLT qb))) 1 = 0
  ·
   refine wl_ <| d_ H13 rfl (R := fun v w9 => ∃ gt17 ct17 cbt17, v = .tuple #[.slice (some ⟨gt17, 0, none⟩) 1 ct17, .int .i64 0] ∧ (W9.heap.size ≤ gt17) ∧ (Row w9 gt17 3 cbt17) ∧ (OwnC cbt17 ct17 1 1 (intsV (takeT (decLT qb) 1))) ∧ Below W9.heap.size W9 w9) (dc_ Tryd.func34 rfl (args2 (H13.ev 25 rfl) (H13.ev 26 rfl)) (take_any 1 _ _ _ (volL (decLT qb)) W9 (HVd5 _ HS9.below) (Nat.le_trans hNd5.2 (by decide)) (vols_lenB (decLT_small qb)) (by decide)) (fun _ w9 ⟨v9, he, ho, hb⟩ => by rw [hc15] at he; rw [take_lenI (k := 1) hc15 (by decide) (by decide) rfl] at ho; obtain ⟨g9, c9, cb9, rfl, h1, h2, h3⟩ := ownc_pos ho (by decide); exact ⟨_, he, g9, c9, cb9, rfl, h1, h2, h3, hb⟩)) ?_
   rintro _ W16 ⟨gt17, ct17, cbt17, rfl, hg17, hr17, Ot17, hb16⟩ a16 H16
   have HS16 := HS9.same hb16
   clear H13
   have hT : (takeT (decLT qb) 1).length = 1 := take_lenI hc15 (by decide) (by decide) rfl
   have HS16j : St W4 noF [⟨gt17, 3, cbt17⟩] W16 := HS9.joins hb16 hr17 hg17
   clear HS16 hr17 hg17
   clear HS9 hb16
   refine wl_ <| p_ H16 rfl rfl fun _ H18 => wl_ <| i_ H18 rfl (v := .slice (some ⟨gt17, 0, none⟩) 1 ct17) (dd_ext rfl (H18.ev 24 rfl) rfl) fun _ H19 => wl_ <| i_ H19 rfl (v := .int .i64 0) (dd_ext rfl (H19.ev 24 rfl) rfl) fun _ H20 => q_ H20 2 rfl fun _ H21 => ln_ <| ?_
   clear H16 H18 H19 H20
   have H22 := H21.sel [1, 8, 10, 11] rfl
   refine nx <| sq_ <| sq_ <| rl_ <| wl_ <| p_ H22 rfl rfl fun _ H23 => wl_ <| i_ H23 rfl (dd_cmp rfl (H23.ev 30 rfl) rfl (ne_f (by decide))) fun _ H24 => ln_ <| nx <| cf_ H24 rfl <| wp_skip <| nx <| sq_ <| rl_ <| wl_ <| p_ H24 rfl rfl fun _ H25 => wl_ <| i_ H25 rfl (v := .int .i64 1) (dd_len rfl (H25.ev 33 rfl) Tryd.underlying45) fun _ H26 => wl_ <| n_ H26 rfl (A := fun g35 => .slice (some ⟨g35, 0, none⟩) 1 1) (fun _ h => dd_mk HS16j rfl (H26.ev 34 rfl) (H26.ev 34 rfl) (z := .agg (catA [[.int .i64 0], bytesV (zer 32)])) (sz := 33) (bytes := 40) (cs := catA [[.int .i64 0], bytesV (zer 32)]) Tryd.underlying51 (by kernel_rfl) (by decide) (by decide) (by decide) (by kernel_rfl) h) fun g35 _ HS27 _ H27 => wl_ <| p_ H27 rfl rfl fun _ H28 => ln_ <| nx <| sq_ <| sq_ <| rl_ <| wl_ <| p_ H28 rfl rfl fun _ H29 => wl_ <| i_ H29 rfl (v := .int .i64 1) (dd_len rfl (H29.ev 36 rfl) Tryd.underlying45) fun _ H30 => ?_
   clear H21 H22 H23 H24 H25 HS16j H26 H27 H28
   refine wl_ <| p_ H30 rfl rfl fun _ H31 => ln_ <| nx <| wp_block <| wp_unr 2 <| unr_go <| sq_ <| rl_ <| wl_ <| i_ H31 rfl (dd_cmp rfl (H31.ev 38 rfl) (H31.ev 37 rfl) (lt_t (by decide))) fun _ H32 => ln_ <| nx <| sq_ <| ct_ H32 rfl <| wp_skip <| nx <| sq_ <| wp_block <| sq_ <| rl_ <| wl_ <| p_ H32 rfl rfl fun _ H33 => wl_ <| i_ H33 rfl (xS 1 0 rfl (H33.ev 36 rfl) (H33.ev 38 rfl)) fun _ H34 => wl_ <| i_ H34 rfl (dd_get HS27 0 0 rfl rfl (H34.ev 41 rfl) (own_getI Ot17 0 (by decide)) Tryd.underlying3 rfl) fun _ H35 => q_ H35 2 rfl fun _ H36 => ln_ <| nx <| rl_ <| q_ H36 3 rfl fun _ H37 => wl_ <| i_ H37 rfl (xS 33 0 rfl (H37.ev 43 rfl) (H37.ev 44 rfl)) fun _ H38 => ?_
   clear H29 H30 H31 H32 H33 H34 H35 H36
   refine wl_ <| i_ H38 rfl (xf 0 0 rfl (H38.ev 46 rfl)) fun _ H39 => wl_ <| t_ rfl (S := [⟨gt17, 3, cbt17⟩, ⟨g35, 70, catA [[.int .i64 ((takeT (decLT qb) 1).getD 0 0)], bytesV (zer 32)]⟩]) (fun _ h => dd_put HS27 1 0 rfl rfl (H39.ev 47 rfl) (H39.ev 45 rfl) (by kernel_rfl) rfl rfl (by rw [(cat_size (lens_cons rfl (lens_cons (len_bv (length_zer 32)) (lens_nil))))]; rfl) (cat_put (lens_cons rfl (lens_cons (len_bv (length_zer 32)) (lens_nil))) 0 rfl rfl) h) fun _ HS40 => ln_ <| ?_
   clear H37 H38 HS27
   have H41 := H39.sel [1, 8, 10, 12, 36, 37, 38] rfl
   refine bn <| nx <| rl_ <| wl_ <| i_ H41 rfl (v := .int .i64 1) (dd_ari rfl (H41.ev 38 rfl) rfl rfl (by decide)) fun _ H42 => wl_ <| p_ H42 rfl rfl fun _ H43 => ln_ <| nx <| unr_go <| sq_ <| rl_ <| wl_ <| i_ H43 rfl (dd_cmp rfl (H43.ev 38 rfl) (H43.ev 37 rfl) (lt_f (by decide))) fun _ H44 => ln_ <| nx <| sq_ <| cf_ H44 rfl <| wp_exit <| tx <| tx <| bx <| nx <| sq_ <| rl_ <| q_ H44 3 rfl fun _ H45 => wl_ <| i_ H45 rfl (v := .agg #[.string (strB q), .slice (some ⟨gt17, 0, none⟩) 1 ct17]) (dd_bld rfl (ps := [(0, .string (strB q)), (1, .slice (some ⟨gt17, 0, none⟩) 1 ct17)]) (pr1 (H45.ev 50 rfl) (pr1 (H45.ev 51 rfl) (pr0))) (Lz := [[.string (⟨#[]⟩)], [.slice none 0 0]]) (by kernel_rfl) (lens_cons rfl (lens_cons rfl (lens_nil))) (fit_cons (i := 0) rfl rfl (fit_cons (i := 1) rfl rfl (fit_nil))) (cs := #[.string (strB q), .slice (some ⟨gt17, 0, none⟩) 1 ct17]) rfl) fun _ H46 => wl_ <| n_ H46 rfl (fun _ h => dd_lits HS40 #[.string (strB q), .slice (some ⟨gt17, 0, none⟩) 1 ct17] rfl (ps := [(0, .agg #[.string (strB q), .slice (some ⟨gt17, 0, none⟩) 1 ct17])]) (pr1 (H46.ev 52 rfl) (pr0)) (z := .agg #[.string (⟨#[]⟩), .slice none 0 0]) (sz := 2) Tryd.underlying75 (by kernel_rfl) rfl rfl (by kernel_rfl) h) fun g53 _ HS47 _ H47 => ?_
   clear H39 H41 H42 H43 H44 H45 HS40 H46
   have hzB : Bb5 ≤ g35 := Nat.le_trans hBb5.2 (st_fresh2 HS47 1 rfl)
   refine wl_ <| d_ H47 rfl (R := fun v9 w9 => ∃ Ax : Option Addr, ∃ Nx : Nat, ∃ Cx : Nat, v9 = .slice Ax Nx Cx ∧ ((volL (decLT qb) ++ [(strB q, takeT (decLT qb) 1)]).length = Nx) ∧ (OV Bb5 w9 (.slice Ax Nx Cx) (volL (makeL (decLT qb) q 1))) ∧ St w noF [⟨gt17, 3, cbt17⟩, ⟨g35, 70, catA [[.int .i64 ((takeT (decLT qb) 1).getD 0 0)], bytesV (zer 32)]⟩, ⟨g53, 81, #[.string (strB q), .slice (some ⟨gt17, 0, none⟩) 1 ct17]⟩] w9) (dd_appV (w0 := w) HBs6 (Nat.le_trans hS1.below.size hBb5.1) hBb5.2 HS47 hov5 rfl (H47.ev 49 rfl) (H47.ev 53 rfl) (vol_litM hT (HS47.row 2 rfl) (inV_own hT (ownc_to (HS47.row 0 rfl) Ot17 (Nat.le_trans hBb5.2 (st_fresh2 HS47 0 rfl))) (take_i64 _ _)) (by rw [strB_size]; exact hq)) (by rw [len_volL, hln5]; show _ + 1 ≤ _; omega) (fun v9 w9 h1 h2 => by obtain ⟨A9, n9, c9, rfl, h3, _⟩ := OV.form2 h1; exact ⟨A9, n9, c9, rfl, h3, by rw [vol_snoc] at h1; exact h1, h2⟩)) ?_
   rintro _ W48 ⟨Ax, Nx, Cx, rfl, hNx, hovx, HS48⟩ a48 H48
   clear H47 HS47
   refine wl_ <| p_ H48 rfl rfl fun _ H49 => ln_ <| nx <| sq_ <| rl_ <| q_ H49 2 rfl fun _ H50 => ?_
   clear H48 H49
   have hNx3 : Nx ≤ 4 := by rw [← hNx, List.length_append, len_volL]; exact Nat.succ_le_succ (decLT_len qb)
   refine wl_ <| d_ H50 rfl (R := fun v9 w9 => ∃ gp : Nat, ∃ cp : Nat, ∃ cbp : Array Value, v9 = .slice (some ⟨gp, 0, none⟩) 2 cp ∧ (OwnC cbp cp 2 33 ((((takeT (decLT qb) 1).map (fun b => (b, zer 32)) ++ [(0, encT (makeL (decLT qb) q 1))]).map pcell).flatten)) ∧ St w noF [⟨gp, 70, cbp⟩] w9) (dc_ Tryd.func35 rfl (args2 (H50.ev 55 rfl) (H50.ev 56 rfl)) (withtable_own _ _ _ _ 1 _ (makeL (decLT qb) q 1) ((takeT (decLT qb) 1).map fun b => (b, zer 32)) _ _ _ (ss HS48 [1]).frame (own_zeros1 hT) (fun W9 h9 => (ov_frame hovx (HS48.row 1 rfl) hzB (Nat.le_trans hzB (Nat.le_of_lt (HS48.row 1 rfl).lt)) h9).vols (by have h8 := hNx; rw [vol_snoc] at h8; rw [h8]; exact Nat.le_trans hNx3 (by decide))) (Nat.le_trans hNx3 (by decide)) (makeL_small _ _ _) (by decide)) (fun _ w9 ⟨g9, c9, cb9, he, hO, hS⟩ => ⟨_, he, g9, c9, cb9, rfl, hO, (ss HS48 [1]).unframe hS⟩)) ?_
   rintro _ W51 ⟨gp, cp, cbp, rfl, Op, HS51⟩ a51 H51
   clear H50 HS48
   refine q_ H51 2 rfl fun _ H52 => ln_ <| ?_
   clear H51
   have H53 := H52.sel [6, 7] rfl
   refine nx <| wp_ret <| ret_run H53.env0 (res_tt Tryd.results25 (H53.get 6 rfl) (H53.get 7 rfl)) <| ?_
   clear H52
   have h0 := make_E0 hM hc15
   exact ⟨_, by rw [h0], own_puts (by rw [make_P h0]) (by rw [make_P h0, List.length_append, List.length_map, hT]; rfl) (ownc_to (HS51.row 0 rfl) Op (st_fresh2 HS51 0 rfl)), HS51.below⟩
  refine wl_ <| d_ H13 rfl (R := fun v w9 => ∃ vt55, v = .tuple #[vt55, .int .i64 (takeE (usedV (volL (decLT qb))) 1)] ∧ Below W9.heap.size W9 w9) (dc_ Tryd.func34 rfl (args2 (H13.ev 25 rfl) (H13.ev 26 rfl)) (take_any 1 _ _ _ (volL (decLT qb)) W9 (HVd5 _ HS9.below) (Nat.le_trans hNd5.2 (by decide)) (vols_lenB (decLT_small qb)) (by decide)) (fun _ w9 ⟨v9, he, _, hb⟩ => ⟨_, he, v9, rfl, hb⟩)) ?_
  rintro _ W54 ⟨vt55, rfl, hb54⟩ a54 H54
  have HS54 := HS9.same hb54
  clear H13
  clear HS9 hb54
  refine wl_ <| p_ H54 rfl rfl fun _ H56 => wl_ <| i_ H56 rfl (v := vt55) (dd_ext rfl (H56.ev 24 rfl) rfl) fun _ H57 => wl_ <| i_ H57 rfl (v := .int .i64 (takeE (usedV (volL (decLT qb))) 1)) (dd_ext rfl (H57.ev 24 rfl) rfl) fun _ H58 => q_ H58 2 rfl fun _ H59 => ln_ <| ?_
  clear H54 H56 H57 H58
  have H60 := H59.sel [1, 8, 10, 11] rfl
  refine nx <| sq_ <| sq_ <| rl_ <| wl_ <| p_ H60 rfl rfl fun _ H61 => wl_ <| i_ H61 rfl (dd_cmp rfl (H61.ev 30 rfl) rfl (ne_t hc15)) fun _ H62 => ln_ <| nx <| ct_ H62 rfl <| sq_ <| rl_ <| q_ H62 3 rfl fun _ H63 => ln_ <| nx <| wp_ret <| tr <| ret_run H63.env0 (res_tt Tryd.results25 (H63.get 6 rfl) (H63.get 7 rfl)) <| ?_
  clear H59 H60 H61 H62
  exact ⟨_, by rw [make_E1 hM], by rw [make_P0 (make_ne hM hc15)]; exact World.ownsRow_nil _ _ _ _, (HBs6.trans (HS54.below.mono HBs6.size))⟩
set_option maxHeartbeats 1600000 in
theorem make_ok2 (qb q : List (BitVec 8)) (w : World) (hqb : qb.length = 32) (hq : q.length ≤ maxLen) (hM : mayE (decLT qb) q 2 = 0) : Calls Tryd.prog 25 #[.agg (bs qb), .string (strB q), .int .i64 2] w fun e w' => ∃ v, e = .returned (.tuple #[v, .int .i64 (makeE (decLT qb) q 2)]) ∧ w'.ownsRow w.heap.size 70 33 v (makeP (decLT qb) q 2).length ((makeP (decLT qb) q 2).map pcell).flatten ∧ Below w.heap.size w w' := by
  have HS := St.nil w noF
  refine enter_en Tryd.func25 rfl Tryd.ntmps25 (Nat.le_of_ble_eq_true rfl) fun a0 (HA0 : En 58 [(0, .agg (bs qb)), (1, .string (strB q)), (2, .int .i64 2)] a0) => ?_
  refine sq_ <| rl_ <| wl_ <| n_ HA0 rfl (fun _ h => dd_box HS rfl (HA0.ev 0 rfl) (cs := (bs qb)) rfl h) fun _ W1 HS1 _ H1 => q_ H1 2 rfl fun _ H2 => ln_ <| nx <| sq_ <| rl_ <| ?_
  clear HS HA0 H1
  have hS1 := HS1
  refine wl_ <| i_ H2 rfl (v := .agg (bs qb)) (dd_load HS1 0 0 rfl rfl (H2.ev 3 rfl) (slab_whole _) Tryd.underlying36 rfl (by rw [show (bs qb).size = 32 from ((size_bs _).trans hqb)]; kernel_rfl)) fun _ H3 => ?_
  clear H2
  refine wl_ <| d_ H3 rfl (R := fun v w9 => ∃ A5 N5 C5 Bb5, v = .slice A5 N5 C5 ∧ ((volL (decLT qb)).length = N5 ∧ N5 ≤ 3) ∧ (W1.heap.size ≤ Bb5 ∧ Bb5 ≤ w9.heap.size) ∧ (OV Bb5 w9 (.slice A5 N5 C5) (volL (decLT qb))) ∧ Below W1.heap.size W1 w9) (dc_ Tryd.func32 rfl (args1 (H3.ev 15 rfl)) (volumes_any qb W1 hqb) (fun _ w9 ⟨v9, B9, he, h4, h5, ho, hb⟩ => by obtain ⟨A9, n9, c9, rfl, h1, _⟩ := OV.form2 ho; exact ⟨_, he, A9, n9, c9, B9, rfl, ⟨h1, by rw [← h1, len_volL]; exact decLT_len _⟩, ⟨h4, h5⟩, ho, hb⟩)) ?_
  rintro _ W4 ⟨A5, N5, C5, Bb5, rfl, hNd5, hBb5, hov5, hb4⟩ a4 H4
  have HS4 := HS1.same hb4
  clear H3
  have hln5 : (decLT qb).length = N5 := by rw [← len_volL]; exact hNd5.1
  have HBs6 : Below w.heap.size w W4 := HS4.below
  have HR6_0 := fun (W9 : World) (hb9 : Below W4.heap.size W4 W9) => (HS4.row 0 rfl).call hb9
  have HSb6 := St.nil W4 noF
  clear HS4
  have HVd5 := fun (W9 : World) (hb9 : Below W4.heap.size W4 W9) => ((hov5.vols (Nat.le_trans (Nat.le_of_eq hNd5.1) (Nat.le_trans hNd5.2 (by decide)))).below hb9 (Nat.le_refl _))
  clear HS1 hb4
  refine wl_ <| p_ H4 rfl rfl fun _ H7 => ln_ <| nx <| sq_ <| sq_ <| rl_ <| q_ H7 3 rfl fun _ H8 => wl_ <| c_ H8 rfl HSb6 (v := .int .i64 0) (dc_ Tryd.func33 rfl (args3 (H8.ev 17 rfl) (H8.ev 18 rfl) (H8.ev 19 rfl)) (maymake_any _ _ _ (decLT qb) q 2 W4 (HVd5 _ HSb6.below) (Nat.le_trans hNd5.2 (by decide)) hq) (fun _ w9 h9 => ⟨_, h9.1, by rw [hM], h9.2⟩)) fun W9 HS9 _ H9 => wl_ <| p_ H9 rfl rfl fun _ H10 => ln_ <| nx <| sq_ <| rl_ <| wl_ <| p_ H10 rfl rfl fun _ H11 => wl_ <| i_ H11 rfl (dd_cmp rfl (H11.ev 21 rfl) rfl (ne_f (by decide))) fun _ H12 => ln_ <| nx <| cf_ H12 rfl <| wp_skip <| nx <| sq_ <| rl_ <| q_ H12 2 rfl fun _ H13 => ?_
  clear H4 H7 H8 HSb6 H9 H10 H11 H12
  by_cases hc15 : takeE (usedV (volL (decLT qb))) 2 = 0
  ·
   refine wl_ <| d_ H13 rfl (R := fun v w9 => ∃ gt17 ct17 cbt17, v = .tuple #[.slice (some ⟨gt17, 0, none⟩) 2 ct17, .int .i64 0] ∧ (W9.heap.size ≤ gt17) ∧ (Row w9 gt17 3 cbt17) ∧ (OwnC cbt17 ct17 2 1 (intsV (takeT (decLT qb) 2))) ∧ Below W9.heap.size W9 w9) (dc_ Tryd.func34 rfl (args2 (H13.ev 25 rfl) (H13.ev 26 rfl)) (take_any 2 _ _ _ (volL (decLT qb)) W9 (HVd5 _ HS9.below) (Nat.le_trans hNd5.2 (by decide)) (vols_lenB (decLT_small qb)) (by decide)) (fun _ w9 ⟨v9, he, ho, hb⟩ => by rw [hc15] at he; rw [take_lenI (k := 2) hc15 (by decide) (by decide) rfl] at ho; obtain ⟨g9, c9, cb9, rfl, h1, h2, h3⟩ := ownc_pos ho (by decide); exact ⟨_, he, g9, c9, cb9, rfl, h1, h2, h3, hb⟩)) ?_
   rintro _ W16 ⟨gt17, ct17, cbt17, rfl, hg17, hr17, Ot17, hb16⟩ a16 H16
   have HS16 := HS9.same hb16
   clear H13
   have hT : (takeT (decLT qb) 2).length = 2 := take_lenI hc15 (by decide) (by decide) rfl
   have HS16j : St W4 noF [⟨gt17, 3, cbt17⟩] W16 := HS9.joins hb16 hr17 hg17
   clear HS16 hr17 hg17
   clear HS9 hb16
   refine wl_ <| p_ H16 rfl rfl fun _ H18 => wl_ <| i_ H18 rfl (v := .slice (some ⟨gt17, 0, none⟩) 2 ct17) (dd_ext rfl (H18.ev 24 rfl) rfl) fun _ H19 => wl_ <| i_ H19 rfl (v := .int .i64 0) (dd_ext rfl (H19.ev 24 rfl) rfl) fun _ H20 => q_ H20 2 rfl fun _ H21 => ln_ <| ?_
   clear H16 H18 H19 H20
   have H22 := H21.sel [1, 8, 10, 11] rfl
   refine nx <| sq_ <| sq_ <| rl_ <| wl_ <| p_ H22 rfl rfl fun _ H23 => wl_ <| i_ H23 rfl (dd_cmp rfl (H23.ev 30 rfl) rfl (ne_f (by decide))) fun _ H24 => ln_ <| nx <| cf_ H24 rfl <| wp_skip <| nx <| sq_ <| rl_ <| wl_ <| p_ H24 rfl rfl fun _ H25 => wl_ <| i_ H25 rfl (v := .int .i64 2) (dd_len rfl (H25.ev 33 rfl) Tryd.underlying45) fun _ H26 => wl_ <| n_ H26 rfl (A := fun g35 => .slice (some ⟨g35, 0, none⟩) 2 2) (fun _ h => dd_mk HS16j rfl (H26.ev 34 rfl) (H26.ev 34 rfl) (z := .agg (catA [[.int .i64 0], bytesV (zer 32)])) (sz := 33) (bytes := 40) (cs := catA [[.int .i64 0], bytesV (zer 32), [.int .i64 0], bytesV (zer 32)]) Tryd.underlying51 (by kernel_rfl) (by decide) (by decide) (by decide) (by kernel_rfl) h) fun g35 _ HS27 _ H27 => wl_ <| p_ H27 rfl rfl fun _ H28 => ln_ <| nx <| sq_ <| sq_ <| rl_ <| wl_ <| p_ H28 rfl rfl fun _ H29 => wl_ <| i_ H29 rfl (v := .int .i64 2) (dd_len rfl (H29.ev 36 rfl) Tryd.underlying45) fun _ H30 => ?_
   clear H21 H22 H23 H24 H25 HS16j H26 H27 H28
   refine wl_ <| p_ H30 rfl rfl fun _ H31 => ln_ <| nx <| wp_block <| wp_unr 3 <| unr_go <| sq_ <| rl_ <| wl_ <| i_ H31 rfl (dd_cmp rfl (H31.ev 38 rfl) (H31.ev 37 rfl) (lt_t (by decide))) fun _ H32 => ln_ <| nx <| sq_ <| ct_ H32 rfl <| wp_skip <| nx <| sq_ <| wp_block <| sq_ <| rl_ <| wl_ <| p_ H32 rfl rfl fun _ H33 => wl_ <| i_ H33 rfl (xS 1 0 rfl (H33.ev 36 rfl) (H33.ev 38 rfl)) fun _ H34 => wl_ <| i_ H34 rfl (dd_get HS27 0 0 rfl rfl (H34.ev 41 rfl) (own_getI Ot17 0 (by decide)) Tryd.underlying3 rfl) fun _ H35 => q_ H35 2 rfl fun _ H36 => ln_ <| nx <| rl_ <| q_ H36 3 rfl fun _ H37 => wl_ <| i_ H37 rfl (xS 33 0 rfl (H37.ev 43 rfl) (H37.ev 44 rfl)) fun _ H38 => ?_
   clear H29 H30 H31 H32 H33 H34 H35 H36
   refine wl_ <| i_ H38 rfl (xf 0 0 rfl (H38.ev 46 rfl)) fun _ H39 => wl_ <| t_ rfl (S := [⟨gt17, 3, cbt17⟩, ⟨g35, 70, catA [[.int .i64 ((takeT (decLT qb) 2).getD 0 0)], bytesV (zer 32), [.int .i64 0], bytesV (zer 32)]⟩]) (fun _ h => dd_put HS27 1 0 rfl rfl (H39.ev 47 rfl) (H39.ev 45 rfl) (by kernel_rfl) rfl rfl (by rw [(cat_size (lens_cons rfl (lens_cons (len_bv (length_zer 32)) (lens_cons rfl (lens_cons (len_bv (length_zer 32)) (lens_nil))))))]; rfl) (cat_put (lens_cons rfl (lens_cons (len_bv (length_zer 32)) (lens_cons rfl (lens_cons (len_bv (length_zer 32)) (lens_nil))))) 0 rfl rfl) h) fun _ HS40 => ln_ <| ?_
   clear H37 H38 HS27
   have H41 := H39.sel [1, 8, 10, 12, 36, 37, 38] rfl
   refine bn <| nx <| rl_ <| wl_ <| i_ H41 rfl (v := .int .i64 1) (dd_ari rfl (H41.ev 38 rfl) rfl rfl (by decide)) fun _ H42 => wl_ <| p_ H42 rfl rfl fun _ H43 => ln_ <| nx <| unr_go <| sq_ <| rl_ <| wl_ <| i_ H43 rfl (dd_cmp rfl (H43.ev 38 rfl) (H43.ev 37 rfl) (lt_t (by decide))) fun _ H44 => ln_ <| nx <| sq_ <| ct_ H44 rfl <| wp_skip <| nx <| sq_ <| wp_block <| sq_ <| rl_ <| wl_ <| p_ H44 rfl rfl fun _ H45 => wl_ <| i_ H45 rfl (xS 1 1 rfl (H45.ev 36 rfl) (H45.ev 38 rfl)) fun _ H46 => wl_ <| i_ H46 rfl (dd_get HS40 0 1 rfl rfl (H46.ev 41 rfl) (own_getI Ot17 1 (by decide)) Tryd.underlying3 rfl) fun _ H47 => q_ H47 2 rfl fun _ H48 => ln_ <| nx <| rl_ <| q_ H48 3 rfl fun _ H49 => ?_
   clear H39 H41 H42 H43 H44 H45 H46 H47
   refine wl_ <| i_ H49 rfl (xS 33 33 rfl (H49.ev 43 rfl) (H49.ev 44 rfl)) fun _ H50 => wl_ <| i_ H50 rfl (xf 0 33 rfl (H50.ev 46 rfl)) fun _ H51 => wl_ <| t_ rfl (S := [⟨gt17, 3, cbt17⟩, ⟨g35, 70, catA [[.int .i64 ((takeT (decLT qb) 2).getD 0 0)], bytesV (zer 32), [.int .i64 ((takeT (decLT qb) 2).getD 1 0)], bytesV (zer 32)]⟩]) (fun _ h => dd_put HS40 1 33 rfl rfl (H51.ev 47 rfl) (H51.ev 45 rfl) (by kernel_rfl) rfl rfl (by rw [(cat_size (lens_cons rfl (lens_cons (len_bv (length_zer 32)) (lens_cons rfl (lens_cons (len_bv (length_zer 32)) (lens_nil))))))]; rfl) (cat_put (lens_cons rfl (lens_cons (len_bv (length_zer 32)) (lens_cons rfl (lens_cons (len_bv (length_zer 32)) (lens_nil))))) 2 rfl rfl) h) fun _ HS52 => ln_ <| bn <| nx <| rl_ <| wl_ <| i_ H51 rfl (v := .int .i64 2) (dd_ari rfl (H51.ev 38 rfl) rfl rfl (by decide)) fun _ H53 => wl_ <| p_ H53 rfl rfl fun _ H54 => ln_ <| nx <| unr_go <| sq_ <| rl_ <| wl_ <| i_ H54 rfl (dd_cmp rfl (H54.ev 38 rfl) (H54.ev 37 rfl) (lt_f (by decide))) fun _ H55 => ln_ <| nx <| sq_ <| cf_ H55 rfl <| wp_exit <| tx <| tx <| bx <| nx <| sq_ <| rl_ <| q_ H55 3 rfl fun _ H56 => wl_ <| i_ H56 rfl (v := .agg #[.string (strB q), .slice (some ⟨gt17, 0, none⟩) 2 ct17]) (dd_bld rfl (ps := [(0, .string (strB q)), (1, .slice (some ⟨gt17, 0, none⟩) 2 ct17)]) (pr1 (H56.ev 50 rfl) (pr1 (H56.ev 51 rfl) (pr0))) (Lz := [[.string (⟨#[]⟩)], [.slice none 0 0]]) (by kernel_rfl) (lens_cons rfl (lens_cons rfl (lens_nil))) (fit_cons (i := 0) rfl rfl (fit_cons (i := 1) rfl rfl (fit_nil))) (cs := #[.string (strB q), .slice (some ⟨gt17, 0, none⟩) 2 ct17]) rfl) fun _ H57 => ?_
   clear H48 H49 H50 HS40 H51 H53 H54 H55
   refine wl_ <| n_ H57 rfl (fun _ h => dd_lits HS52 #[.string (strB q), .slice (some ⟨gt17, 0, none⟩) 2 ct17] rfl (ps := [(0, .agg #[.string (strB q), .slice (some ⟨gt17, 0, none⟩) 2 ct17])]) (pr1 (H57.ev 52 rfl) (pr0)) (z := .agg #[.string (⟨#[]⟩), .slice none 0 0]) (sz := 2) Tryd.underlying75 (by kernel_rfl) rfl rfl (by kernel_rfl) h) fun g53 _ HS58 _ H58 => ?_
   clear H56 HS52 H57
   have hzB : Bb5 ≤ g35 := Nat.le_trans hBb5.2 (st_fresh2 HS58 1 rfl)
   refine wl_ <| d_ H58 rfl (R := fun v9 w9 => ∃ Ax : Option Addr, ∃ Nx : Nat, ∃ Cx : Nat, v9 = .slice Ax Nx Cx ∧ ((volL (decLT qb) ++ [(strB q, takeT (decLT qb) 2)]).length = Nx) ∧ (OV Bb5 w9 (.slice Ax Nx Cx) (volL (makeL (decLT qb) q 2))) ∧ St w noF [⟨gt17, 3, cbt17⟩, ⟨g35, 70, catA [[.int .i64 ((takeT (decLT qb) 2).getD 0 0)], bytesV (zer 32), [.int .i64 ((takeT (decLT qb) 2).getD 1 0)], bytesV (zer 32)]⟩, ⟨g53, 81, #[.string (strB q), .slice (some ⟨gt17, 0, none⟩) 2 ct17]⟩] w9) (dd_appV (w0 := w) HBs6 (Nat.le_trans hS1.below.size hBb5.1) hBb5.2 HS58 hov5 rfl (H58.ev 49 rfl) (H58.ev 53 rfl) (vol_litM hT (HS58.row 2 rfl) (inV_own hT (ownc_to (HS58.row 0 rfl) Ot17 (Nat.le_trans hBb5.2 (st_fresh2 HS58 0 rfl))) (take_i64 _ _)) (by rw [strB_size]; exact hq)) (by rw [len_volL, hln5]; show _ + 1 ≤ _; omega) (fun v9 w9 h1 h2 => by obtain ⟨A9, n9, c9, rfl, h3, _⟩ := OV.form2 h1; exact ⟨A9, n9, c9, rfl, h3, by rw [vol_snoc] at h1; exact h1, h2⟩)) ?_
   rintro _ W59 ⟨Ax, Nx, Cx, rfl, hNx, hovx, HS59⟩ a59 H59
   clear H58 HS58
   refine wl_ <| p_ H59 rfl rfl fun _ H60 => ln_ <| ?_
   clear H59
   have H61 := H60.sel [12, 8] rfl
   refine nx <| sq_ <| rl_ <| q_ H61 2 rfl fun _ H62 => ?_
   clear H60 H61
   have hNx3 : Nx ≤ 4 := by rw [← hNx, List.length_append, len_volL]; exact Nat.succ_le_succ (decLT_len qb)
   refine wl_ <| d_ H62 rfl (R := fun v9 w9 => ∃ gp : Nat, ∃ cp : Nat, ∃ cbp : Array Value, v9 = .slice (some ⟨gp, 0, none⟩) 3 cp ∧ (OwnC cbp cp 3 33 ((((takeT (decLT qb) 2).map (fun b => (b, zer 32)) ++ [(0, encT (makeL (decLT qb) q 2))]).map pcell).flatten)) ∧ St w noF [⟨gp, 70, cbp⟩] w9) (dc_ Tryd.func35 rfl (args2 (H62.ev 55 rfl) (H62.ev 56 rfl)) (withtable_own _ _ _ _ 2 _ (makeL (decLT qb) q 2) ((takeT (decLT qb) 2).map fun b => (b, zer 32)) _ _ _ (ss HS59 [1]).frame (own_zeros2 hT) (fun W9 h9 => (ov_frame hovx (HS59.row 1 rfl) hzB (Nat.le_trans hzB (Nat.le_of_lt (HS59.row 1 rfl).lt)) h9).vols (by have h8 := hNx; rw [vol_snoc] at h8; rw [h8]; exact Nat.le_trans hNx3 (by decide))) (Nat.le_trans hNx3 (by decide)) (makeL_small _ _ _) (by decide)) (fun _ w9 ⟨g9, c9, cb9, he, hO, hS⟩ => ⟨_, he, g9, c9, cb9, rfl, hO, (ss HS59 [1]).unframe hS⟩)) ?_
   rintro _ W63 ⟨gp, cp, cbp, rfl, Op, HS63⟩ a63 H63
   clear H62 HS59
   refine q_ H63 2 rfl fun _ H64 => ln_ <| nx <| wp_ret <| ret_run H64.env0 (res_tt Tryd.results25 (H64.get 6 rfl) (H64.get 7 rfl)) <| ?_
   clear H63
   have h0 := make_E0 hM hc15
   exact ⟨_, by rw [h0], own_puts (by rw [make_P h0]) (by rw [make_P h0, List.length_append, List.length_map, hT]; rfl) (ownc_to (HS63.row 0 rfl) Op (st_fresh2 HS63 0 rfl)), HS63.below⟩
  refine wl_ <| d_ H13 rfl (R := fun v w9 => ∃ vt66, v = .tuple #[vt66, .int .i64 (takeE (usedV (volL (decLT qb))) 2)] ∧ Below W9.heap.size W9 w9) (dc_ Tryd.func34 rfl (args2 (H13.ev 25 rfl) (H13.ev 26 rfl)) (take_any 2 _ _ _ (volL (decLT qb)) W9 (HVd5 _ HS9.below) (Nat.le_trans hNd5.2 (by decide)) (vols_lenB (decLT_small qb)) (by decide)) (fun _ w9 ⟨v9, he, _, hb⟩ => ⟨_, he, v9, rfl, hb⟩)) ?_
  rintro _ W65 ⟨vt66, rfl, hb65⟩ a65 H65
  have HS65 := HS9.same hb65
  clear H13
  clear HS9 hb65
  refine wl_ <| p_ H65 rfl rfl fun _ H67 => wl_ <| i_ H67 rfl (v := vt66) (dd_ext rfl (H67.ev 24 rfl) rfl) fun _ H68 => wl_ <| i_ H68 rfl (v := .int .i64 (takeE (usedV (volL (decLT qb))) 2)) (dd_ext rfl (H68.ev 24 rfl) rfl) fun _ H69 => q_ H69 2 rfl fun _ H70 => ln_ <| ?_
  clear H65 H67 H68 H69
  have H71 := H70.sel [1, 8, 10, 11] rfl
  refine nx <| sq_ <| sq_ <| rl_ <| wl_ <| p_ H71 rfl rfl fun _ H72 => wl_ <| i_ H72 rfl (dd_cmp rfl (H72.ev 30 rfl) rfl (ne_t hc15)) fun _ H73 => ln_ <| nx <| ct_ H73 rfl <| sq_ <| rl_ <| q_ H73 3 rfl fun _ H74 => ln_ <| nx <| wp_ret <| tr <| ret_run H74.env0 (res_tt Tryd.results25 (H74.get 6 rfl) (H74.get 7 rfl)) <| ?_
  clear H70 H71 H72 H73
  exact ⟨_, by rw [make_E1 hM], by rw [make_P0 (make_ne hM hc15)]; exact World.ownsRow_nil _ _ _ _, (HBs6.trans (HS65.below.mono HBs6.size))⟩
set_option maxHeartbeats 1600000 in
theorem make_ok3 (qb q : List (BitVec 8)) (w : World) (hqb : qb.length = 32) (hq : q.length ≤ maxLen) (hM : mayE (decLT qb) q 3 = 0) : Calls Tryd.prog 25 #[.agg (bs qb), .string (strB q), .int .i64 3] w fun e w' => ∃ v, e = .returned (.tuple #[v, .int .i64 (makeE (decLT qb) q 3)]) ∧ w'.ownsRow w.heap.size 70 33 v (makeP (decLT qb) q 3).length ((makeP (decLT qb) q 3).map pcell).flatten ∧ Below w.heap.size w w' := by
  have HS := St.nil w noF
  refine enter_en Tryd.func25 rfl Tryd.ntmps25 (Nat.le_of_ble_eq_true rfl) fun a0 (HA0 : En 58 [(0, .agg (bs qb)), (1, .string (strB q)), (2, .int .i64 3)] a0) => ?_
  refine sq_ <| rl_ <| wl_ <| n_ HA0 rfl (fun _ h => dd_box HS rfl (HA0.ev 0 rfl) (cs := (bs qb)) rfl h) fun _ W1 HS1 _ H1 => q_ H1 2 rfl fun _ H2 => ln_ <| nx <| sq_ <| rl_ <| ?_
  clear HS HA0 H1
  have hS1 := HS1
  refine wl_ <| i_ H2 rfl (v := .agg (bs qb)) (dd_load HS1 0 0 rfl rfl (H2.ev 3 rfl) (slab_whole _) Tryd.underlying36 rfl (by rw [show (bs qb).size = 32 from ((size_bs _).trans hqb)]; kernel_rfl)) fun _ H3 => ?_
  clear H2
  refine wl_ <| d_ H3 rfl (R := fun v w9 => ∃ A5 N5 C5 Bb5, v = .slice A5 N5 C5 ∧ ((volL (decLT qb)).length = N5 ∧ N5 ≤ 3) ∧ (W1.heap.size ≤ Bb5 ∧ Bb5 ≤ w9.heap.size) ∧ (OV Bb5 w9 (.slice A5 N5 C5) (volL (decLT qb))) ∧ Below W1.heap.size W1 w9) (dc_ Tryd.func32 rfl (args1 (H3.ev 15 rfl)) (volumes_any qb W1 hqb) (fun _ w9 ⟨v9, B9, he, h4, h5, ho, hb⟩ => by obtain ⟨A9, n9, c9, rfl, h1, _⟩ := OV.form2 ho; exact ⟨_, he, A9, n9, c9, B9, rfl, ⟨h1, by rw [← h1, len_volL]; exact decLT_len _⟩, ⟨h4, h5⟩, ho, hb⟩)) ?_
  rintro _ W4 ⟨A5, N5, C5, Bb5, rfl, hNd5, hBb5, hov5, hb4⟩ a4 H4
  have HS4 := HS1.same hb4
  clear H3
  have hln5 : (decLT qb).length = N5 := by rw [← len_volL]; exact hNd5.1
  have HBs6 : Below w.heap.size w W4 := HS4.below
  have HR6_0 := fun (W9 : World) (hb9 : Below W4.heap.size W4 W9) => (HS4.row 0 rfl).call hb9
  have HSb6 := St.nil W4 noF
  clear HS4
  have HVd5 := fun (W9 : World) (hb9 : Below W4.heap.size W4 W9) => ((hov5.vols (Nat.le_trans (Nat.le_of_eq hNd5.1) (Nat.le_trans hNd5.2 (by decide)))).below hb9 (Nat.le_refl _))
  clear HS1 hb4
  refine wl_ <| p_ H4 rfl rfl fun _ H7 => ln_ <| nx <| sq_ <| sq_ <| rl_ <| q_ H7 3 rfl fun _ H8 => wl_ <| c_ H8 rfl HSb6 (v := .int .i64 0) (dc_ Tryd.func33 rfl (args3 (H8.ev 17 rfl) (H8.ev 18 rfl) (H8.ev 19 rfl)) (maymake_any _ _ _ (decLT qb) q 3 W4 (HVd5 _ HSb6.below) (Nat.le_trans hNd5.2 (by decide)) hq) (fun _ w9 h9 => ⟨_, h9.1, by rw [hM], h9.2⟩)) fun W9 HS9 _ H9 => wl_ <| p_ H9 rfl rfl fun _ H10 => ln_ <| nx <| sq_ <| rl_ <| wl_ <| p_ H10 rfl rfl fun _ H11 => wl_ <| i_ H11 rfl (dd_cmp rfl (H11.ev 21 rfl) rfl (ne_f (by decide))) fun _ H12 => ln_ <| nx <| cf_ H12 rfl <| wp_skip <| nx <| sq_ <| rl_ <| q_ H12 2 rfl fun _ H13 => ?_
  clear H4 H7 H8 HSb6 H9 H10 H11 H12
  by_cases hc15 : takeE (usedV (volL (decLT qb))) 3 = 0
  ·
   refine wl_ <| d_ H13 rfl (R := fun v w9 => ∃ gt17 ct17 cbt17, v = .tuple #[.slice (some ⟨gt17, 0, none⟩) 3 ct17, .int .i64 0] ∧ (W9.heap.size ≤ gt17) ∧ (Row w9 gt17 3 cbt17) ∧ (OwnC cbt17 ct17 3 1 (intsV (takeT (decLT qb) 3))) ∧ Below W9.heap.size W9 w9) (dc_ Tryd.func34 rfl (args2 (H13.ev 25 rfl) (H13.ev 26 rfl)) (take_any 3 _ _ _ (volL (decLT qb)) W9 (HVd5 _ HS9.below) (Nat.le_trans hNd5.2 (by decide)) (vols_lenB (decLT_small qb)) (by decide)) (fun _ w9 ⟨v9, he, ho, hb⟩ => by rw [hc15] at he; rw [take_lenI (k := 3) hc15 (by decide) (by decide) rfl] at ho; obtain ⟨g9, c9, cb9, rfl, h1, h2, h3⟩ := ownc_pos ho (by decide); exact ⟨_, he, g9, c9, cb9, rfl, h1, h2, h3, hb⟩)) ?_
   rintro _ W16 ⟨gt17, ct17, cbt17, rfl, hg17, hr17, Ot17, hb16⟩ a16 H16
   have HS16 := HS9.same hb16
   clear H13
   have hT : (takeT (decLT qb) 3).length = 3 := take_lenI hc15 (by decide) (by decide) rfl
   have HS16j : St W4 noF [⟨gt17, 3, cbt17⟩] W16 := HS9.joins hb16 hr17 hg17
   clear HS16 hr17 hg17
   clear HS9 hb16
   refine wl_ <| p_ H16 rfl rfl fun _ H18 => wl_ <| i_ H18 rfl (v := .slice (some ⟨gt17, 0, none⟩) 3 ct17) (dd_ext rfl (H18.ev 24 rfl) rfl) fun _ H19 => wl_ <| i_ H19 rfl (v := .int .i64 0) (dd_ext rfl (H19.ev 24 rfl) rfl) fun _ H20 => q_ H20 2 rfl fun _ H21 => ln_ <| ?_
   clear H16 H18 H19 H20
   have H22 := H21.sel [1, 8, 10, 11] rfl
   refine nx <| sq_ <| sq_ <| rl_ <| wl_ <| p_ H22 rfl rfl fun _ H23 => wl_ <| i_ H23 rfl (dd_cmp rfl (H23.ev 30 rfl) rfl (ne_f (by decide))) fun _ H24 => ln_ <| nx <| cf_ H24 rfl <| wp_skip <| nx <| sq_ <| rl_ <| wl_ <| p_ H24 rfl rfl fun _ H25 => wl_ <| i_ H25 rfl (v := .int .i64 3) (dd_len rfl (H25.ev 33 rfl) Tryd.underlying45) fun _ H26 => wl_ <| n_ H26 rfl (A := fun g35 => .slice (some ⟨g35, 0, none⟩) 3 3) (fun _ h => dd_mk HS16j rfl (H26.ev 34 rfl) (H26.ev 34 rfl) (z := .agg (catA [[.int .i64 0], bytesV (zer 32)])) (sz := 33) (bytes := 40) (cs := catA [[.int .i64 0], bytesV (zer 32), [.int .i64 0], bytesV (zer 32), [.int .i64 0], bytesV (zer 32)]) Tryd.underlying51 (by kernel_rfl) (by decide) (by decide) (by decide) (by kernel_rfl) h) fun g35 _ HS27 _ H27 => wl_ <| p_ H27 rfl rfl fun _ H28 => ln_ <| nx <| sq_ <| sq_ <| rl_ <| wl_ <| p_ H28 rfl rfl fun _ H29 => wl_ <| i_ H29 rfl (v := .int .i64 3) (dd_len rfl (H29.ev 36 rfl) Tryd.underlying45) fun _ H30 => ?_
   clear H21 H22 H23 H24 H25 HS16j H26 H27 H28
   refine wl_ <| p_ H30 rfl rfl fun _ H31 => ln_ <| nx <| wp_block <| wp_unr 4 <| unr_go <| sq_ <| rl_ <| wl_ <| i_ H31 rfl (dd_cmp rfl (H31.ev 38 rfl) (H31.ev 37 rfl) (lt_t (by decide))) fun _ H32 => ln_ <| nx <| sq_ <| ct_ H32 rfl <| wp_skip <| nx <| sq_ <| wp_block <| sq_ <| rl_ <| wl_ <| p_ H32 rfl rfl fun _ H33 => wl_ <| i_ H33 rfl (xS 1 0 rfl (H33.ev 36 rfl) (H33.ev 38 rfl)) fun _ H34 => wl_ <| i_ H34 rfl (dd_get HS27 0 0 rfl rfl (H34.ev 41 rfl) (own_getI Ot17 0 (by decide)) Tryd.underlying3 rfl) fun _ H35 => q_ H35 2 rfl fun _ H36 => ln_ <| nx <| rl_ <| q_ H36 3 rfl fun _ H37 => wl_ <| i_ H37 rfl (xS 33 0 rfl (H37.ev 43 rfl) (H37.ev 44 rfl)) fun _ H38 => ?_
   clear H29 H30 H31 H32 H33 H34 H35 H36
   refine wl_ <| i_ H38 rfl (xf 0 0 rfl (H38.ev 46 rfl)) fun _ H39 => wl_ <| t_ rfl (S := [⟨gt17, 3, cbt17⟩, ⟨g35, 70, catA [[.int .i64 ((takeT (decLT qb) 3).getD 0 0)], bytesV (zer 32), [.int .i64 0], bytesV (zer 32), [.int .i64 0], bytesV (zer 32)]⟩]) (fun _ h => dd_put HS27 1 0 rfl rfl (H39.ev 47 rfl) (H39.ev 45 rfl) (by kernel_rfl) rfl rfl (by rw [(cat_size (lens_cons rfl (lens_cons (len_bv (length_zer 32)) (lens_cons rfl (lens_cons (len_bv (length_zer 32)) (lens_cons rfl (lens_cons (len_bv (length_zer 32)) (lens_nil))))))))]; rfl) (cat_put (lens_cons rfl (lens_cons (len_bv (length_zer 32)) (lens_cons rfl (lens_cons (len_bv (length_zer 32)) (lens_cons rfl (lens_cons (len_bv (length_zer 32)) (lens_nil))))))) 0 rfl rfl) h) fun _ HS40 => ln_ <| ?_
   clear H37 H38 HS27
   have H41 := H39.sel [1, 8, 10, 12, 36, 37, 38] rfl
   refine bn <| nx <| rl_ <| wl_ <| i_ H41 rfl (v := .int .i64 1) (dd_ari rfl (H41.ev 38 rfl) rfl rfl (by decide)) fun _ H42 => wl_ <| p_ H42 rfl rfl fun _ H43 => ln_ <| nx <| unr_go <| sq_ <| rl_ <| wl_ <| i_ H43 rfl (dd_cmp rfl (H43.ev 38 rfl) (H43.ev 37 rfl) (lt_t (by decide))) fun _ H44 => ln_ <| nx <| sq_ <| ct_ H44 rfl <| wp_skip <| nx <| sq_ <| wp_block <| sq_ <| rl_ <| wl_ <| p_ H44 rfl rfl fun _ H45 => wl_ <| i_ H45 rfl (xS 1 1 rfl (H45.ev 36 rfl) (H45.ev 38 rfl)) fun _ H46 => wl_ <| i_ H46 rfl (dd_get HS40 0 1 rfl rfl (H46.ev 41 rfl) (own_getI Ot17 1 (by decide)) Tryd.underlying3 rfl) fun _ H47 => q_ H47 2 rfl fun _ H48 => ln_ <| nx <| rl_ <| q_ H48 3 rfl fun _ H49 => ?_
   clear H39 H41 H42 H43 H44 H45 H46 H47
   refine wl_ <| i_ H49 rfl (xS 33 33 rfl (H49.ev 43 rfl) (H49.ev 44 rfl)) fun _ H50 => wl_ <| i_ H50 rfl (xf 0 33 rfl (H50.ev 46 rfl)) fun _ H51 => wl_ <| t_ rfl (S := [⟨gt17, 3, cbt17⟩, ⟨g35, 70, catA [[.int .i64 ((takeT (decLT qb) 3).getD 0 0)], bytesV (zer 32), [.int .i64 ((takeT (decLT qb) 3).getD 1 0)], bytesV (zer 32), [.int .i64 0], bytesV (zer 32)]⟩]) (fun _ h => dd_put HS40 1 33 rfl rfl (H51.ev 47 rfl) (H51.ev 45 rfl) (by kernel_rfl) rfl rfl (by rw [(cat_size (lens_cons rfl (lens_cons (len_bv (length_zer 32)) (lens_cons rfl (lens_cons (len_bv (length_zer 32)) (lens_cons rfl (lens_cons (len_bv (length_zer 32)) (lens_nil))))))))]; rfl) (cat_put (lens_cons rfl (lens_cons (len_bv (length_zer 32)) (lens_cons rfl (lens_cons (len_bv (length_zer 32)) (lens_cons rfl (lens_cons (len_bv (length_zer 32)) (lens_nil))))))) 2 rfl rfl) h) fun _ HS52 => ln_ <| bn <| nx <| rl_ <| wl_ <| i_ H51 rfl (v := .int .i64 2) (dd_ari rfl (H51.ev 38 rfl) rfl rfl (by decide)) fun _ H53 => wl_ <| p_ H53 rfl rfl fun _ H54 => ln_ <| nx <| unr_go <| sq_ <| rl_ <| wl_ <| i_ H54 rfl (dd_cmp rfl (H54.ev 38 rfl) (H54.ev 37 rfl) (lt_t (by decide))) fun _ H55 => ln_ <| nx <| sq_ <| ct_ H55 rfl <| wp_skip <| nx <| sq_ <| wp_block <| sq_ <| rl_ <| wl_ <| p_ H55 rfl rfl fun _ H56 => wl_ <| i_ H56 rfl (xS 1 2 rfl (H56.ev 36 rfl) (H56.ev 38 rfl)) fun _ H57 => ?_
   clear H48 H49 H50 HS40 H51 H53 H54 H55
   refine wl_ <| i_ H57 rfl (dd_get HS52 0 2 rfl rfl (H57.ev 41 rfl) (own_getI Ot17 2 (by decide)) Tryd.underlying3 rfl) fun _ H58 => q_ H58 2 rfl fun _ H59 => ln_ <| nx <| rl_ <| q_ H59 3 rfl fun _ H60 => wl_ <| i_ H60 rfl (xS 33 66 rfl (H60.ev 43 rfl) (H60.ev 44 rfl)) fun _ H61 => wl_ <| i_ H61 rfl (xf 0 66 rfl (H61.ev 46 rfl)) fun _ H62 => wl_ <| t_ rfl (S := [⟨gt17, 3, cbt17⟩, ⟨g35, 70, catA [[.int .i64 ((takeT (decLT qb) 3).getD 0 0)], bytesV (zer 32), [.int .i64 ((takeT (decLT qb) 3).getD 1 0)], bytesV (zer 32), [.int .i64 ((takeT (decLT qb) 3).getD 2 0)], bytesV (zer 32)]⟩]) (fun _ h => dd_put HS52 1 66 rfl rfl (H62.ev 47 rfl) (H62.ev 45 rfl) (by kernel_rfl) rfl rfl (by rw [(cat_size (lens_cons rfl (lens_cons (len_bv (length_zer 32)) (lens_cons rfl (lens_cons (len_bv (length_zer 32)) (lens_cons rfl (lens_cons (len_bv (length_zer 32)) (lens_nil))))))))]; rfl) (cat_put (lens_cons rfl (lens_cons (len_bv (length_zer 32)) (lens_cons rfl (lens_cons (len_bv (length_zer 32)) (lens_cons rfl (lens_cons (len_bv (length_zer 32)) (lens_nil))))))) 4 rfl rfl) h) fun _ HS63 => ln_ <| bn <| nx <| rl_ <| wl_ <| i_ H62 rfl (v := .int .i64 3) (dd_ari rfl (H62.ev 38 rfl) rfl rfl (by decide)) fun _ H64 => wl_ <| p_ H64 rfl rfl fun _ H65 => ?_
   clear H56 H57 H58 H59 H60 H61 HS52 H62
   refine ln_ <| nx <| unr_go <| sq_ <| rl_ <| wl_ <| i_ H65 rfl (dd_cmp rfl (H65.ev 38 rfl) (H65.ev 37 rfl) (lt_f (by decide))) fun _ H66 => ln_ <| nx <| sq_ <| cf_ H66 rfl <| wp_exit <| tx <| tx <| bx <| nx <| sq_ <| rl_ <| q_ H66 3 rfl fun _ H67 => wl_ <| i_ H67 rfl (v := .agg #[.string (strB q), .slice (some ⟨gt17, 0, none⟩) 3 ct17]) (dd_bld rfl (ps := [(0, .string (strB q)), (1, .slice (some ⟨gt17, 0, none⟩) 3 ct17)]) (pr1 (H67.ev 50 rfl) (pr1 (H67.ev 51 rfl) (pr0))) (Lz := [[.string (⟨#[]⟩)], [.slice none 0 0]]) (by kernel_rfl) (lens_cons rfl (lens_cons rfl (lens_nil))) (fit_cons (i := 0) rfl rfl (fit_cons (i := 1) rfl rfl (fit_nil))) (cs := #[.string (strB q), .slice (some ⟨gt17, 0, none⟩) 3 ct17]) rfl) fun _ H68 => wl_ <| n_ H68 rfl (fun _ h => dd_lits HS63 #[.string (strB q), .slice (some ⟨gt17, 0, none⟩) 3 ct17] rfl (ps := [(0, .agg #[.string (strB q), .slice (some ⟨gt17, 0, none⟩) 3 ct17])]) (pr1 (H68.ev 52 rfl) (pr0)) (z := .agg #[.string (⟨#[]⟩), .slice none 0 0]) (sz := 2) Tryd.underlying75 (by kernel_rfl) rfl rfl (by kernel_rfl) h) fun g53 _ HS69 _ H69 => ?_
   clear H64 H65 H66 H67 HS63 H68
   have hzB : Bb5 ≤ g35 := Nat.le_trans hBb5.2 (st_fresh2 HS69 1 rfl)
   refine wl_ <| d_ H69 rfl (R := fun v9 w9 => ∃ Ax : Option Addr, ∃ Nx : Nat, ∃ Cx : Nat, v9 = .slice Ax Nx Cx ∧ ((volL (decLT qb) ++ [(strB q, takeT (decLT qb) 3)]).length = Nx) ∧ (OV Bb5 w9 (.slice Ax Nx Cx) (volL (makeL (decLT qb) q 3))) ∧ St w noF [⟨gt17, 3, cbt17⟩, ⟨g35, 70, catA [[.int .i64 ((takeT (decLT qb) 3).getD 0 0)], bytesV (zer 32), [.int .i64 ((takeT (decLT qb) 3).getD 1 0)], bytesV (zer 32), [.int .i64 ((takeT (decLT qb) 3).getD 2 0)], bytesV (zer 32)]⟩, ⟨g53, 81, #[.string (strB q), .slice (some ⟨gt17, 0, none⟩) 3 ct17]⟩] w9) (dd_appV (w0 := w) HBs6 (Nat.le_trans hS1.below.size hBb5.1) hBb5.2 HS69 hov5 rfl (H69.ev 49 rfl) (H69.ev 53 rfl) (vol_litM hT (HS69.row 2 rfl) (inV_own hT (ownc_to (HS69.row 0 rfl) Ot17 (Nat.le_trans hBb5.2 (st_fresh2 HS69 0 rfl))) (take_i64 _ _)) (by rw [strB_size]; exact hq)) (by rw [len_volL, hln5]; show _ + 1 ≤ _; omega) (fun v9 w9 h1 h2 => by obtain ⟨A9, n9, c9, rfl, h3, _⟩ := OV.form2 h1; exact ⟨A9, n9, c9, rfl, h3, by rw [vol_snoc] at h1; exact h1, h2⟩)) ?_
   rintro _ W70 ⟨Ax, Nx, Cx, rfl, hNx, hovx, HS70⟩ a70 H70
   clear H69 HS69
   refine wl_ <| p_ H70 rfl rfl fun _ H71 => ln_ <| ?_
   clear H70
   have H72 := H71.sel [12, 8] rfl
   refine nx <| sq_ <| rl_ <| q_ H72 2 rfl fun _ H73 => ?_
   clear H71 H72
   have hNx3 : Nx ≤ 4 := by rw [← hNx, List.length_append, len_volL]; exact Nat.succ_le_succ (decLT_len qb)
   refine wl_ <| d_ H73 rfl (R := fun v9 w9 => ∃ gp : Nat, ∃ cp : Nat, ∃ cbp : Array Value, v9 = .slice (some ⟨gp, 0, none⟩) 4 cp ∧ (OwnC cbp cp 4 33 ((((takeT (decLT qb) 3).map (fun b => (b, zer 32)) ++ [(0, encT (makeL (decLT qb) q 3))]).map pcell).flatten)) ∧ St w noF [⟨gp, 70, cbp⟩] w9) (dc_ Tryd.func35 rfl (args2 (H73.ev 55 rfl) (H73.ev 56 rfl)) (withtable_own _ _ _ _ 3 _ (makeL (decLT qb) q 3) ((takeT (decLT qb) 3).map fun b => (b, zer 32)) _ _ _ (ss HS70 [1]).frame (own_zeros3 hT) (fun W9 h9 => (ov_frame hovx (HS70.row 1 rfl) hzB (Nat.le_trans hzB (Nat.le_of_lt (HS70.row 1 rfl).lt)) h9).vols (by have h8 := hNx; rw [vol_snoc] at h8; rw [h8]; exact Nat.le_trans hNx3 (by decide))) (Nat.le_trans hNx3 (by decide)) (makeL_small _ _ _) (by decide)) (fun _ w9 ⟨g9, c9, cb9, he, hO, hS⟩ => ⟨_, he, g9, c9, cb9, rfl, hO, (ss HS70 [1]).unframe hS⟩)) ?_
   rintro _ W74 ⟨gp, cp, cbp, rfl, Op, HS74⟩ a74 H74
   clear H73 HS70
   refine q_ H74 2 rfl fun _ H75 => ln_ <| nx <| wp_ret <| ret_run H75.env0 (res_tt Tryd.results25 (H75.get 6 rfl) (H75.get 7 rfl)) <| ?_
   clear H74
   have h0 := make_E0 hM hc15
   exact ⟨_, by rw [h0], own_puts (by rw [make_P h0]) (by rw [make_P h0, List.length_append, List.length_map, hT]; rfl) (ownc_to (HS74.row 0 rfl) Op (st_fresh2 HS74 0 rfl)), HS74.below⟩
  refine wl_ <| d_ H13 rfl (R := fun v w9 => ∃ vt77, v = .tuple #[vt77, .int .i64 (takeE (usedV (volL (decLT qb))) 3)] ∧ Below W9.heap.size W9 w9) (dc_ Tryd.func34 rfl (args2 (H13.ev 25 rfl) (H13.ev 26 rfl)) (take_any 3 _ _ _ (volL (decLT qb)) W9 (HVd5 _ HS9.below) (Nat.le_trans hNd5.2 (by decide)) (vols_lenB (decLT_small qb)) (by decide)) (fun _ w9 ⟨v9, he, _, hb⟩ => ⟨_, he, v9, rfl, hb⟩)) ?_
  rintro _ W76 ⟨vt77, rfl, hb76⟩ a76 H76
  have HS76 := HS9.same hb76
  clear H13
  clear HS9 hb76
  refine wl_ <| p_ H76 rfl rfl fun _ H78 => wl_ <| i_ H78 rfl (v := vt77) (dd_ext rfl (H78.ev 24 rfl) rfl) fun _ H79 => wl_ <| i_ H79 rfl (v := .int .i64 (takeE (usedV (volL (decLT qb))) 3)) (dd_ext rfl (H79.ev 24 rfl) rfl) fun _ H80 => q_ H80 2 rfl fun _ H81 => ln_ <| ?_
  clear H76 H78 H79 H80
  have H82 := H81.sel [1, 8, 10, 11] rfl
  refine nx <| sq_ <| sq_ <| rl_ <| wl_ <| p_ H82 rfl rfl fun _ H83 => wl_ <| i_ H83 rfl (dd_cmp rfl (H83.ev 30 rfl) rfl (ne_t hc15)) fun _ H84 => ln_ <| nx <| ct_ H84 rfl <| sq_ <| rl_ <| q_ H84 3 rfl fun _ H85 => ln_ <| nx <| wp_ret <| tr <| ret_run H85.env0 (res_tt Tryd.results25 (H85.get 6 rfl) (H85.get 7 rfl)) <| ?_
  clear H81 H82 H83 H84
  exact ⟨_, by rw [make_E1 hM], by rw [make_P0 (make_ne hM hc15)]; exact World.ownsRow_nil _ _ _ _, (HBs6.trans (HS76.below.mono HBs6.size))⟩
set_option maxHeartbeats 1600000 in
theorem make_ok4 (qb q : List (BitVec 8)) (w : World) (hqb : qb.length = 32) (hq : q.length ≤ maxLen) (hM : mayE (decLT qb) q 4 = 0) : Calls Tryd.prog 25 #[.agg (bs qb), .string (strB q), .int .i64 4] w fun e w' => ∃ v, e = .returned (.tuple #[v, .int .i64 (makeE (decLT qb) q 4)]) ∧ w'.ownsRow w.heap.size 70 33 v (makeP (decLT qb) q 4).length ((makeP (decLT qb) q 4).map pcell).flatten ∧ Below w.heap.size w w' := by
  have HS := St.nil w noF
  refine enter_en Tryd.func25 rfl Tryd.ntmps25 (Nat.le_of_ble_eq_true rfl) fun a0 (HA0 : En 58 [(0, .agg (bs qb)), (1, .string (strB q)), (2, .int .i64 4)] a0) => ?_
  refine sq_ <| rl_ <| wl_ <| n_ HA0 rfl (fun _ h => dd_box HS rfl (HA0.ev 0 rfl) (cs := (bs qb)) rfl h) fun _ W1 HS1 _ H1 => q_ H1 2 rfl fun _ H2 => ln_ <| nx <| sq_ <| rl_ <| ?_
  clear HS HA0 H1
  have hS1 := HS1
  refine wl_ <| i_ H2 rfl (v := .agg (bs qb)) (dd_load HS1 0 0 rfl rfl (H2.ev 3 rfl) (slab_whole _) Tryd.underlying36 rfl (by rw [show (bs qb).size = 32 from ((size_bs _).trans hqb)]; kernel_rfl)) fun _ H3 => ?_
  clear H2
  refine wl_ <| d_ H3 rfl (R := fun v w9 => ∃ A5 N5 C5 Bb5, v = .slice A5 N5 C5 ∧ ((volL (decLT qb)).length = N5 ∧ N5 ≤ 3) ∧ (W1.heap.size ≤ Bb5 ∧ Bb5 ≤ w9.heap.size) ∧ (OV Bb5 w9 (.slice A5 N5 C5) (volL (decLT qb))) ∧ Below W1.heap.size W1 w9) (dc_ Tryd.func32 rfl (args1 (H3.ev 15 rfl)) (volumes_any qb W1 hqb) (fun _ w9 ⟨v9, B9, he, h4, h5, ho, hb⟩ => by obtain ⟨A9, n9, c9, rfl, h1, _⟩ := OV.form2 ho; exact ⟨_, he, A9, n9, c9, B9, rfl, ⟨h1, by rw [← h1, len_volL]; exact decLT_len _⟩, ⟨h4, h5⟩, ho, hb⟩)) ?_
  rintro _ W4 ⟨A5, N5, C5, Bb5, rfl, hNd5, hBb5, hov5, hb4⟩ a4 H4
  have HS4 := HS1.same hb4
  clear H3
  have hln5 : (decLT qb).length = N5 := by rw [← len_volL]; exact hNd5.1
  have HBs6 : Below w.heap.size w W4 := HS4.below
  have HR6_0 := fun (W9 : World) (hb9 : Below W4.heap.size W4 W9) => (HS4.row 0 rfl).call hb9
  have HSb6 := St.nil W4 noF
  clear HS4
  have HVd5 := fun (W9 : World) (hb9 : Below W4.heap.size W4 W9) => ((hov5.vols (Nat.le_trans (Nat.le_of_eq hNd5.1) (Nat.le_trans hNd5.2 (by decide)))).below hb9 (Nat.le_refl _))
  clear HS1 hb4
  refine wl_ <| p_ H4 rfl rfl fun _ H7 => ln_ <| nx <| sq_ <| sq_ <| rl_ <| q_ H7 3 rfl fun _ H8 => wl_ <| c_ H8 rfl HSb6 (v := .int .i64 0) (dc_ Tryd.func33 rfl (args3 (H8.ev 17 rfl) (H8.ev 18 rfl) (H8.ev 19 rfl)) (maymake_any _ _ _ (decLT qb) q 4 W4 (HVd5 _ HSb6.below) (Nat.le_trans hNd5.2 (by decide)) hq) (fun _ w9 h9 => ⟨_, h9.1, by rw [hM], h9.2⟩)) fun W9 HS9 _ H9 => wl_ <| p_ H9 rfl rfl fun _ H10 => ln_ <| nx <| sq_ <| rl_ <| wl_ <| p_ H10 rfl rfl fun _ H11 => wl_ <| i_ H11 rfl (dd_cmp rfl (H11.ev 21 rfl) rfl (ne_f (by decide))) fun _ H12 => ln_ <| nx <| cf_ H12 rfl <| wp_skip <| nx <| sq_ <| rl_ <| q_ H12 2 rfl fun _ H13 => ?_
  clear H4 H7 H8 HSb6 H9 H10 H11 H12
  by_cases hc15 : takeE (usedV (volL (decLT qb))) 4 = 0
  ·
   refine wl_ <| d_ H13 rfl (R := fun v w9 => ∃ gt17 ct17 cbt17, v = .tuple #[.slice (some ⟨gt17, 0, none⟩) 4 ct17, .int .i64 0] ∧ (W9.heap.size ≤ gt17) ∧ (Row w9 gt17 3 cbt17) ∧ (OwnC cbt17 ct17 4 1 (intsV (takeT (decLT qb) 4))) ∧ Below W9.heap.size W9 w9) (dc_ Tryd.func34 rfl (args2 (H13.ev 25 rfl) (H13.ev 26 rfl)) (take_any 4 _ _ _ (volL (decLT qb)) W9 (HVd5 _ HS9.below) (Nat.le_trans hNd5.2 (by decide)) (vols_lenB (decLT_small qb)) (by decide)) (fun _ w9 ⟨v9, he, ho, hb⟩ => by rw [hc15] at he; rw [take_lenI (k := 4) hc15 (by decide) (by decide) rfl] at ho; obtain ⟨g9, c9, cb9, rfl, h1, h2, h3⟩ := ownc_pos ho (by decide); exact ⟨_, he, g9, c9, cb9, rfl, h1, h2, h3, hb⟩)) ?_
   rintro _ W16 ⟨gt17, ct17, cbt17, rfl, hg17, hr17, Ot17, hb16⟩ a16 H16
   have HS16 := HS9.same hb16
   clear H13
   have hT : (takeT (decLT qb) 4).length = 4 := take_lenI hc15 (by decide) (by decide) rfl
   have HS16j : St W4 noF [⟨gt17, 3, cbt17⟩] W16 := HS9.joins hb16 hr17 hg17
   clear HS16 hr17 hg17
   clear HS9 hb16
   refine wl_ <| p_ H16 rfl rfl fun _ H18 => wl_ <| i_ H18 rfl (v := .slice (some ⟨gt17, 0, none⟩) 4 ct17) (dd_ext rfl (H18.ev 24 rfl) rfl) fun _ H19 => wl_ <| i_ H19 rfl (v := .int .i64 0) (dd_ext rfl (H19.ev 24 rfl) rfl) fun _ H20 => q_ H20 2 rfl fun _ H21 => ln_ <| ?_
   clear H16 H18 H19 H20
   have H22 := H21.sel [1, 8, 10, 11] rfl
   refine nx <| sq_ <| sq_ <| rl_ <| wl_ <| p_ H22 rfl rfl fun _ H23 => wl_ <| i_ H23 rfl (dd_cmp rfl (H23.ev 30 rfl) rfl (ne_f (by decide))) fun _ H24 => ln_ <| nx <| cf_ H24 rfl <| wp_skip <| nx <| sq_ <| rl_ <| wl_ <| p_ H24 rfl rfl fun _ H25 => wl_ <| i_ H25 rfl (v := .int .i64 4) (dd_len rfl (H25.ev 33 rfl) Tryd.underlying45) fun _ H26 => wl_ <| n_ H26 rfl (A := fun g35 => .slice (some ⟨g35, 0, none⟩) 4 4) (fun _ h => dd_mk HS16j rfl (H26.ev 34 rfl) (H26.ev 34 rfl) (z := .agg (catA [[.int .i64 0], bytesV (zer 32)])) (sz := 33) (bytes := 40) (cs := catA [[.int .i64 0], bytesV (zer 32), [.int .i64 0], bytesV (zer 32), [.int .i64 0], bytesV (zer 32), [.int .i64 0], bytesV (zer 32)]) Tryd.underlying51 (by kernel_rfl) (by decide) (by decide) (by decide) (by kernel_rfl) h) fun g35 _ HS27 _ H27 => wl_ <| p_ H27 rfl rfl fun _ H28 => ln_ <| nx <| sq_ <| sq_ <| rl_ <| wl_ <| p_ H28 rfl rfl fun _ H29 => wl_ <| i_ H29 rfl (v := .int .i64 4) (dd_len rfl (H29.ev 36 rfl) Tryd.underlying45) fun _ H30 => ?_
   clear H21 H22 H23 H24 H25 HS16j H26 H27 H28
   refine wl_ <| p_ H30 rfl rfl fun _ H31 => ln_ <| nx <| wp_block <| wp_unr 5 <| unr_go <| sq_ <| rl_ <| wl_ <| i_ H31 rfl (dd_cmp rfl (H31.ev 38 rfl) (H31.ev 37 rfl) (lt_t (by decide))) fun _ H32 => ln_ <| nx <| sq_ <| ct_ H32 rfl <| wp_skip <| nx <| sq_ <| wp_block <| sq_ <| rl_ <| wl_ <| p_ H32 rfl rfl fun _ H33 => wl_ <| i_ H33 rfl (xS 1 0 rfl (H33.ev 36 rfl) (H33.ev 38 rfl)) fun _ H34 => wl_ <| i_ H34 rfl (dd_get HS27 0 0 rfl rfl (H34.ev 41 rfl) (own_getI Ot17 0 (by decide)) Tryd.underlying3 rfl) fun _ H35 => q_ H35 2 rfl fun _ H36 => ln_ <| nx <| rl_ <| q_ H36 3 rfl fun _ H37 => wl_ <| i_ H37 rfl (xS 33 0 rfl (H37.ev 43 rfl) (H37.ev 44 rfl)) fun _ H38 => ?_
   clear H29 H30 H31 H32 H33 H34 H35 H36
   refine wl_ <| i_ H38 rfl (xf 0 0 rfl (H38.ev 46 rfl)) fun _ H39 => wl_ <| t_ rfl (S := [⟨gt17, 3, cbt17⟩, ⟨g35, 70, catA [[.int .i64 ((takeT (decLT qb) 4).getD 0 0)], bytesV (zer 32), [.int .i64 0], bytesV (zer 32), [.int .i64 0], bytesV (zer 32), [.int .i64 0], bytesV (zer 32)]⟩]) (fun _ h => dd_put HS27 1 0 rfl rfl (H39.ev 47 rfl) (H39.ev 45 rfl) (by kernel_rfl) rfl rfl (by rw [(cat_size (lens_cons rfl (lens_cons (len_bv (length_zer 32)) (lens_cons rfl (lens_cons (len_bv (length_zer 32)) (lens_cons rfl (lens_cons (len_bv (length_zer 32)) (lens_cons rfl (lens_cons (len_bv (length_zer 32)) (lens_nil))))))))))]; rfl) (cat_put (lens_cons rfl (lens_cons (len_bv (length_zer 32)) (lens_cons rfl (lens_cons (len_bv (length_zer 32)) (lens_cons rfl (lens_cons (len_bv (length_zer 32)) (lens_cons rfl (lens_cons (len_bv (length_zer 32)) (lens_nil))))))))) 0 rfl rfl) h) fun _ HS40 => ln_ <| ?_
   clear H37 H38 HS27
   have H41 := H39.sel [1, 8, 10, 12, 36, 37, 38] rfl
   refine bn <| nx <| rl_ <| wl_ <| i_ H41 rfl (v := .int .i64 1) (dd_ari rfl (H41.ev 38 rfl) rfl rfl (by decide)) fun _ H42 => wl_ <| p_ H42 rfl rfl fun _ H43 => ln_ <| nx <| unr_go <| sq_ <| rl_ <| wl_ <| i_ H43 rfl (dd_cmp rfl (H43.ev 38 rfl) (H43.ev 37 rfl) (lt_t (by decide))) fun _ H44 => ln_ <| nx <| sq_ <| ct_ H44 rfl <| wp_skip <| nx <| sq_ <| wp_block <| sq_ <| rl_ <| wl_ <| p_ H44 rfl rfl fun _ H45 => wl_ <| i_ H45 rfl (xS 1 1 rfl (H45.ev 36 rfl) (H45.ev 38 rfl)) fun _ H46 => wl_ <| i_ H46 rfl (dd_get HS40 0 1 rfl rfl (H46.ev 41 rfl) (own_getI Ot17 1 (by decide)) Tryd.underlying3 rfl) fun _ H47 => q_ H47 2 rfl fun _ H48 => ln_ <| nx <| rl_ <| q_ H48 3 rfl fun _ H49 => ?_
   clear H39 H41 H42 H43 H44 H45 H46 H47
   refine wl_ <| i_ H49 rfl (xS 33 33 rfl (H49.ev 43 rfl) (H49.ev 44 rfl)) fun _ H50 => wl_ <| i_ H50 rfl (xf 0 33 rfl (H50.ev 46 rfl)) fun _ H51 => wl_ <| t_ rfl (S := [⟨gt17, 3, cbt17⟩, ⟨g35, 70, catA [[.int .i64 ((takeT (decLT qb) 4).getD 0 0)], bytesV (zer 32), [.int .i64 ((takeT (decLT qb) 4).getD 1 0)], bytesV (zer 32), [.int .i64 0], bytesV (zer 32), [.int .i64 0], bytesV (zer 32)]⟩]) (fun _ h => dd_put HS40 1 33 rfl rfl (H51.ev 47 rfl) (H51.ev 45 rfl) (by kernel_rfl) rfl rfl (by rw [(cat_size (lens_cons rfl (lens_cons (len_bv (length_zer 32)) (lens_cons rfl (lens_cons (len_bv (length_zer 32)) (lens_cons rfl (lens_cons (len_bv (length_zer 32)) (lens_cons rfl (lens_cons (len_bv (length_zer 32)) (lens_nil))))))))))]; rfl) (cat_put (lens_cons rfl (lens_cons (len_bv (length_zer 32)) (lens_cons rfl (lens_cons (len_bv (length_zer 32)) (lens_cons rfl (lens_cons (len_bv (length_zer 32)) (lens_cons rfl (lens_cons (len_bv (length_zer 32)) (lens_nil))))))))) 2 rfl rfl) h) fun _ HS52 => ln_ <| bn <| nx <| rl_ <| wl_ <| i_ H51 rfl (v := .int .i64 2) (dd_ari rfl (H51.ev 38 rfl) rfl rfl (by decide)) fun _ H53 => wl_ <| p_ H53 rfl rfl fun _ H54 => ln_ <| nx <| unr_go <| sq_ <| rl_ <| wl_ <| i_ H54 rfl (dd_cmp rfl (H54.ev 38 rfl) (H54.ev 37 rfl) (lt_t (by decide))) fun _ H55 => ln_ <| nx <| sq_ <| ct_ H55 rfl <| wp_skip <| nx <| sq_ <| wp_block <| sq_ <| rl_ <| wl_ <| p_ H55 rfl rfl fun _ H56 => wl_ <| i_ H56 rfl (xS 1 2 rfl (H56.ev 36 rfl) (H56.ev 38 rfl)) fun _ H57 => ?_
   clear H48 H49 H50 HS40 H51 H53 H54 H55
   refine wl_ <| i_ H57 rfl (dd_get HS52 0 2 rfl rfl (H57.ev 41 rfl) (own_getI Ot17 2 (by decide)) Tryd.underlying3 rfl) fun _ H58 => q_ H58 2 rfl fun _ H59 => ln_ <| nx <| rl_ <| q_ H59 3 rfl fun _ H60 => wl_ <| i_ H60 rfl (xS 33 66 rfl (H60.ev 43 rfl) (H60.ev 44 rfl)) fun _ H61 => wl_ <| i_ H61 rfl (xf 0 66 rfl (H61.ev 46 rfl)) fun _ H62 => wl_ <| t_ rfl (S := [⟨gt17, 3, cbt17⟩, ⟨g35, 70, catA [[.int .i64 ((takeT (decLT qb) 4).getD 0 0)], bytesV (zer 32), [.int .i64 ((takeT (decLT qb) 4).getD 1 0)], bytesV (zer 32), [.int .i64 ((takeT (decLT qb) 4).getD 2 0)], bytesV (zer 32), [.int .i64 0], bytesV (zer 32)]⟩]) (fun _ h => dd_put HS52 1 66 rfl rfl (H62.ev 47 rfl) (H62.ev 45 rfl) (by kernel_rfl) rfl rfl (by rw [(cat_size (lens_cons rfl (lens_cons (len_bv (length_zer 32)) (lens_cons rfl (lens_cons (len_bv (length_zer 32)) (lens_cons rfl (lens_cons (len_bv (length_zer 32)) (lens_cons rfl (lens_cons (len_bv (length_zer 32)) (lens_nil))))))))))]; rfl) (cat_put (lens_cons rfl (lens_cons (len_bv (length_zer 32)) (lens_cons rfl (lens_cons (len_bv (length_zer 32)) (lens_cons rfl (lens_cons (len_bv (length_zer 32)) (lens_cons rfl (lens_cons (len_bv (length_zer 32)) (lens_nil))))))))) 4 rfl rfl) h) fun _ HS63 => ln_ <| bn <| nx <| rl_ <| wl_ <| i_ H62 rfl (v := .int .i64 3) (dd_ari rfl (H62.ev 38 rfl) rfl rfl (by decide)) fun _ H64 => wl_ <| p_ H64 rfl rfl fun _ H65 => ?_
   clear H56 H57 H58 H59 H60 H61 HS52 H62
   refine ln_ <| nx <| unr_go <| sq_ <| rl_ <| wl_ <| i_ H65 rfl (dd_cmp rfl (H65.ev 38 rfl) (H65.ev 37 rfl) (lt_t (by decide))) fun _ H66 => ln_ <| nx <| sq_ <| ct_ H66 rfl <| wp_skip <| nx <| sq_ <| wp_block <| sq_ <| rl_ <| wl_ <| p_ H66 rfl rfl fun _ H67 => wl_ <| i_ H67 rfl (xS 1 3 rfl (H67.ev 36 rfl) (H67.ev 38 rfl)) fun _ H68 => wl_ <| i_ H68 rfl (dd_get HS63 0 3 rfl rfl (H68.ev 41 rfl) (own_getI Ot17 3 (by decide)) Tryd.underlying3 rfl) fun _ H69 => q_ H69 2 rfl fun _ H70 => ln_ <| nx <| rl_ <| q_ H70 3 rfl fun _ H71 => wl_ <| i_ H71 rfl (xS 33 99 rfl (H71.ev 43 rfl) (H71.ev 44 rfl)) fun _ H72 => wl_ <| i_ H72 rfl (xf 0 99 rfl (H72.ev 46 rfl)) fun _ H73 => ?_
   clear H64 H65 H66 H67 H68 H69 H70 H71
   refine wl_ <| t_ rfl (S := [⟨gt17, 3, cbt17⟩, ⟨g35, 70, catA [[.int .i64 ((takeT (decLT qb) 4).getD 0 0)], bytesV (zer 32), [.int .i64 ((takeT (decLT qb) 4).getD 1 0)], bytesV (zer 32), [.int .i64 ((takeT (decLT qb) 4).getD 2 0)], bytesV (zer 32), [.int .i64 ((takeT (decLT qb) 4).getD 3 0)], bytesV (zer 32)]⟩]) (fun _ h => dd_put HS63 1 99 rfl rfl (H73.ev 47 rfl) (H73.ev 45 rfl) (by kernel_rfl) rfl rfl (by rw [(cat_size (lens_cons rfl (lens_cons (len_bv (length_zer 32)) (lens_cons rfl (lens_cons (len_bv (length_zer 32)) (lens_cons rfl (lens_cons (len_bv (length_zer 32)) (lens_cons rfl (lens_cons (len_bv (length_zer 32)) (lens_nil))))))))))]; rfl) (cat_put (lens_cons rfl (lens_cons (len_bv (length_zer 32)) (lens_cons rfl (lens_cons (len_bv (length_zer 32)) (lens_cons rfl (lens_cons (len_bv (length_zer 32)) (lens_cons rfl (lens_cons (len_bv (length_zer 32)) (lens_nil))))))))) 6 rfl rfl) h) fun _ HS74 => ln_ <| bn <| nx <| rl_ <| wl_ <| i_ H73 rfl (v := .int .i64 4) (dd_ari rfl (H73.ev 38 rfl) rfl rfl (by decide)) fun _ H75 => wl_ <| p_ H75 rfl rfl fun _ H76 => ln_ <| nx <| unr_go <| sq_ <| rl_ <| wl_ <| i_ H76 rfl (dd_cmp rfl (H76.ev 38 rfl) (H76.ev 37 rfl) (lt_f (by decide))) fun _ H77 => ln_ <| nx <| sq_ <| cf_ H77 rfl <| wp_exit <| tx <| tx <| bx <| nx <| sq_ <| rl_ <| q_ H77 3 rfl fun _ H78 => wl_ <| i_ H78 rfl (v := .agg #[.string (strB q), .slice (some ⟨gt17, 0, none⟩) 4 ct17]) (dd_bld rfl (ps := [(0, .string (strB q)), (1, .slice (some ⟨gt17, 0, none⟩) 4 ct17)]) (pr1 (H78.ev 50 rfl) (pr1 (H78.ev 51 rfl) (pr0))) (Lz := [[.string (⟨#[]⟩)], [.slice none 0 0]]) (by kernel_rfl) (lens_cons rfl (lens_cons rfl (lens_nil))) (fit_cons (i := 0) rfl rfl (fit_cons (i := 1) rfl rfl (fit_nil))) (cs := #[.string (strB q), .slice (some ⟨gt17, 0, none⟩) 4 ct17]) rfl) fun _ H79 => wl_ <| n_ H79 rfl (fun _ h => dd_lits HS74 #[.string (strB q), .slice (some ⟨gt17, 0, none⟩) 4 ct17] rfl (ps := [(0, .agg #[.string (strB q), .slice (some ⟨gt17, 0, none⟩) 4 ct17])]) (pr1 (H79.ev 52 rfl) (pr0)) (z := .agg #[.string (⟨#[]⟩), .slice none 0 0]) (sz := 2) Tryd.underlying75 (by kernel_rfl) rfl rfl (by kernel_rfl) h) fun g53 _ HS80 _ H80 => ?_
   clear H72 HS63 H73 H75 H76 H77 H78 HS74 H79
   have hzB : Bb5 ≤ g35 := Nat.le_trans hBb5.2 (st_fresh2 HS80 1 rfl)
   refine wl_ <| d_ H80 rfl (R := fun v9 w9 => ∃ Ax : Option Addr, ∃ Nx : Nat, ∃ Cx : Nat, v9 = .slice Ax Nx Cx ∧ ((volL (decLT qb) ++ [(strB q, takeT (decLT qb) 4)]).length = Nx) ∧ (OV Bb5 w9 (.slice Ax Nx Cx) (volL (makeL (decLT qb) q 4))) ∧ St w noF [⟨gt17, 3, cbt17⟩, ⟨g35, 70, catA [[.int .i64 ((takeT (decLT qb) 4).getD 0 0)], bytesV (zer 32), [.int .i64 ((takeT (decLT qb) 4).getD 1 0)], bytesV (zer 32), [.int .i64 ((takeT (decLT qb) 4).getD 2 0)], bytesV (zer 32), [.int .i64 ((takeT (decLT qb) 4).getD 3 0)], bytesV (zer 32)]⟩, ⟨g53, 81, #[.string (strB q), .slice (some ⟨gt17, 0, none⟩) 4 ct17]⟩] w9) (dd_appV (w0 := w) HBs6 (Nat.le_trans hS1.below.size hBb5.1) hBb5.2 HS80 hov5 rfl (H80.ev 49 rfl) (H80.ev 53 rfl) (vol_litM hT (HS80.row 2 rfl) (inV_own hT (ownc_to (HS80.row 0 rfl) Ot17 (Nat.le_trans hBb5.2 (st_fresh2 HS80 0 rfl))) (take_i64 _ _)) (by rw [strB_size]; exact hq)) (by rw [len_volL, hln5]; show _ + 1 ≤ _; omega) (fun v9 w9 h1 h2 => by obtain ⟨A9, n9, c9, rfl, h3, _⟩ := OV.form2 h1; exact ⟨A9, n9, c9, rfl, h3, by rw [vol_snoc] at h1; exact h1, h2⟩)) ?_
   rintro _ W81 ⟨Ax, Nx, Cx, rfl, hNx, hovx, HS81⟩ a81 H81
   clear H80 HS80
   refine wl_ <| p_ H81 rfl rfl fun _ H82 => ln_ <| ?_
   clear H81
   have H83 := H82.sel [12, 8] rfl
   refine nx <| sq_ <| rl_ <| q_ H83 2 rfl fun _ H84 => ?_
   clear H82 H83
   have hNx3 : Nx ≤ 4 := by rw [← hNx, List.length_append, len_volL]; exact Nat.succ_le_succ (decLT_len qb)
   refine wl_ <| d_ H84 rfl (R := fun v9 w9 => ∃ gp : Nat, ∃ cp : Nat, ∃ cbp : Array Value, v9 = .slice (some ⟨gp, 0, none⟩) 5 cp ∧ (OwnC cbp cp 5 33 ((((takeT (decLT qb) 4).map (fun b => (b, zer 32)) ++ [(0, encT (makeL (decLT qb) q 4))]).map pcell).flatten)) ∧ St w noF [⟨gp, 70, cbp⟩] w9) (dc_ Tryd.func35 rfl (args2 (H84.ev 55 rfl) (H84.ev 56 rfl)) (withtable_own _ _ _ _ 4 _ (makeL (decLT qb) q 4) ((takeT (decLT qb) 4).map fun b => (b, zer 32)) _ _ _ (ss HS81 [1]).frame (own_zeros4 hT) (fun W9 h9 => (ov_frame hovx (HS81.row 1 rfl) hzB (Nat.le_trans hzB (Nat.le_of_lt (HS81.row 1 rfl).lt)) h9).vols (by have h8 := hNx; rw [vol_snoc] at h8; rw [h8]; exact Nat.le_trans hNx3 (by decide))) (Nat.le_trans hNx3 (by decide)) (makeL_small _ _ _) (by decide)) (fun _ w9 ⟨g9, c9, cb9, he, hO, hS⟩ => ⟨_, he, g9, c9, cb9, rfl, hO, (ss HS81 [1]).unframe hS⟩)) ?_
   rintro _ W85 ⟨gp, cp, cbp, rfl, Op, HS85⟩ a85 H85
   clear H84 HS81
   refine q_ H85 2 rfl fun _ H86 => ln_ <| nx <| wp_ret <| ret_run H86.env0 (res_tt Tryd.results25 (H86.get 6 rfl) (H86.get 7 rfl)) <| ?_
   clear H85
   have h0 := make_E0 hM hc15
   exact ⟨_, by rw [h0], own_puts (by rw [make_P h0]) (by rw [make_P h0, List.length_append, List.length_map, hT]; rfl) (ownc_to (HS85.row 0 rfl) Op (st_fresh2 HS85 0 rfl)), HS85.below⟩
  refine wl_ <| d_ H13 rfl (R := fun v w9 => ∃ vt88, v = .tuple #[vt88, .int .i64 (takeE (usedV (volL (decLT qb))) 4)] ∧ Below W9.heap.size W9 w9) (dc_ Tryd.func34 rfl (args2 (H13.ev 25 rfl) (H13.ev 26 rfl)) (take_any 4 _ _ _ (volL (decLT qb)) W9 (HVd5 _ HS9.below) (Nat.le_trans hNd5.2 (by decide)) (vols_lenB (decLT_small qb)) (by decide)) (fun _ w9 ⟨v9, he, _, hb⟩ => ⟨_, he, v9, rfl, hb⟩)) ?_
  rintro _ W87 ⟨vt88, rfl, hb87⟩ a87 H87
  have HS87 := HS9.same hb87
  clear H13
  clear HS9 hb87
  refine wl_ <| p_ H87 rfl rfl fun _ H89 => wl_ <| i_ H89 rfl (v := vt88) (dd_ext rfl (H89.ev 24 rfl) rfl) fun _ H90 => wl_ <| i_ H90 rfl (v := .int .i64 (takeE (usedV (volL (decLT qb))) 4)) (dd_ext rfl (H90.ev 24 rfl) rfl) fun _ H91 => q_ H91 2 rfl fun _ H92 => ln_ <| ?_
  clear H87 H89 H90 H91
  have H93 := H92.sel [1, 8, 10, 11] rfl
  refine nx <| sq_ <| sq_ <| rl_ <| wl_ <| p_ H93 rfl rfl fun _ H94 => wl_ <| i_ H94 rfl (dd_cmp rfl (H94.ev 30 rfl) rfl (ne_t hc15)) fun _ H95 => ln_ <| nx <| ct_ H95 rfl <| sq_ <| rl_ <| q_ H95 3 rfl fun _ H96 => ln_ <| nx <| wp_ret <| tr <| ret_run H96.env0 (res_tt Tryd.results25 (H96.get 6 rfl) (H96.get 7 rfl)) <| ?_
  clear H92 H93 H94 H95
  exact ⟨_, by rw [make_E1 hM], by rw [make_P0 (make_ne hM hc15)]; exact World.ownsRow_nil _ _ _ _, (HBs6.trans (HS87.below.mono HBs6.size))⟩
theorem make_any (qb q : List (BitVec 8)) (n : Int) (w : World) (hqb : qb.length = 32) (hq : q.length ≤ maxLen) : Calls Tryd.prog 25 #[.agg (bs qb), .string (strB q), .int .i64 n] w fun e w' => ∃ v, e = .returned (.tuple #[v, .int .i64 (makeE (decLT qb) q n)]) ∧ w'.ownsRow w.heap.size 70 33 v (makeP (decLT qb) q n).length ((makeP (decLT qb) q n).map pcell).flatten ∧ Below w.heap.size w w' := by
  by_cases hM : mayE (decLT qb) q n = 0
  · obtain ⟨_, _, h1, h4, _⟩ := may_of0 hM
    rcases (by omega : n = 1 ∨ n = 2 ∨ n = 3 ∨ n = 4) with rfl | rfl | rfl | rfl
    · exact make_ok1 qb q w hqb hq hM
    · exact make_ok2 qb q w hqb hq hM
    · exact make_ok3 qb q w hqb hq hM
    · exact make_ok4 qb q w hqb hq hM
  have HS := St.nil w noF
  refine enter_en Tryd.func25 rfl Tryd.ntmps25 (Nat.le_of_ble_eq_true rfl) fun a0 (HA0 : En 58 [(0, .agg (bs qb)), (1, .string (strB q)), (2, .int .i64 n)] a0) => ?_
  refine sq_ <| rl_ <| wl_ <| n_ HA0 rfl (fun _ h => dd_box HS rfl (HA0.ev 0 rfl) (cs := (bs qb)) rfl h) fun _ W1 HS1 _ H1 => q_ H1 2 rfl fun _ H2 => ln_ <| nx <| sq_ <| rl_ <| wl_ <| i_ H2 rfl (v := .agg (bs qb)) (dd_load HS1 0 0 rfl rfl (H2.ev 3 rfl) (slab_whole _) Tryd.underlying36 rfl (by rw [show (bs qb).size = 32 from ((size_bs _).trans hqb)]; kernel_rfl)) fun _ H3 => ?_
  clear HS HA0 H1 H2
  refine wl_ <| d_ H3 rfl (R := fun v w9 => ∃ A5 N5 C5 Bb5, v = .slice A5 N5 C5 ∧ ((volL (decLT qb)).length = N5 ∧ N5 ≤ 3) ∧ (W1.heap.size ≤ Bb5 ∧ Bb5 ≤ w9.heap.size) ∧ (OV Bb5 w9 (.slice A5 N5 C5) (volL (decLT qb))) ∧ Below W1.heap.size W1 w9) (dc_ Tryd.func32 rfl (args1 (H3.ev 15 rfl)) (volumes_any qb W1 hqb) (fun _ w9 ⟨v9, B9, he, h4, h5, ho, hb⟩ => by obtain ⟨A9, n9, c9, rfl, h1, _⟩ := OV.form2 ho; exact ⟨_, he, A9, n9, c9, B9, rfl, ⟨h1, by rw [← h1, len_volL]; exact decLT_len _⟩, ⟨h4, h5⟩, ho, hb⟩)) ?_
  rintro _ W4 ⟨A5, N5, C5, Bb5, rfl, hNd5, hBb5, hov5, hb4⟩ a4 H4
  have HS4 := HS1.same hb4
  clear H3
  have hln5 : (decLT qb).length = N5 := by rw [← len_volL]; exact hNd5.1
  have HBs6 : Below w.heap.size w W4 := HS4.below
  have HR6_0 := fun (W9 : World) (hb9 : Below W4.heap.size W4 W9) => (HS4.row 0 rfl).call hb9
  have HSb6 := St.nil W4 noF
  clear HS4
  have HVd5 := fun (W9 : World) (hb9 : Below W4.heap.size W4 W9) => ((hov5.vols (Nat.le_trans (Nat.le_of_eq hNd5.1) (Nat.le_trans hNd5.2 (by decide)))).below hb9 (Nat.le_refl _))
  clear HS1 hb4
  refine wl_ <| p_ H4 rfl rfl fun _ H7 => ln_ <| nx <| sq_ <| sq_ <| rl_ <| q_ H7 3 rfl fun _ H8 => wl_ <| c_ H8 rfl HSb6 (dcs Tryd.func33 rfl (args3 (H8.ev 17 rfl) (H8.ev 18 rfl) (H8.ev 19 rfl)) (maymake_any _ _ _ (decLT qb) q n W4 (HVd5 _ HSb6.below) (Nat.le_trans hNd5.2 (by decide)) hq) (.int .i64 (mayE (decLT qb) q n))) fun W9 HS9 _ H9 => wl_ <| p_ H9 rfl rfl fun _ H10 => ln_ <| nx <| sq_ <| rl_ <| wl_ <| p_ H10 rfl rfl fun _ H11 => wl_ <| i_ H11 rfl (dd_cmp rfl (H11.ev 21 rfl) rfl (ne_t hM)) fun _ H12 => ln_ <| nx <| ct_ H12 rfl <| sq_ <| rl_ <| q_ H12 3 rfl fun _ H13 => ln_ <| nx <| wp_ret <| tr <| ret_run H13.env0 (res_tt Tryd.results25 (H13.get 6 rfl) (H13.get 7 rfl)) <| ?_
  clear H4 H7 H8 HSb6 H9 H10 H11 H12
  exact ⟨_, by rw [make_E2 hM], by rw [make_P0 (make_ne2 hM)]; exact World.ownsRow_nil _ _ _ _, (HBs6.trans (HS9.below.mono HBs6.size))⟩
end Go.Proofs.YtnmaplgodimohaaDoor

/- slices.Delete of one volume: what it needs. No function of the program is named here. -/
set_option maxRecDepth 4000
namespace Go.Proofs.YtnmaplgodimohaaDoor
open Go Go.RowKit
section
variable {P : Program} {o : Oper} {a : Act} {w w0 : World} {R : Value → World → Prop} {F : Nat → Prop} {S : List Blk}
theorem dd_sl3 {t : TypeId} {x lo hi mx : Operand} {g i n c sz j : Nat} {k k' k3 : IntKind} {l u m : Nat} (ho : o.op = .slice t x (some lo) (some hi) (some mx)) (hx : a.eval x = .slice (some ⟨g, i, none⟩) n c) (hl : a.eval lo = .int k (l : Int)) (hh : a.eval hi = .int k' (u : Int)) (hm : a.eval mx = .int k3 (m : Int)) (ht : slOf P t = some sz) (h1 : l ≤ u) (h2 : u ≤ m) (h4 : m ≤ c) (h3 : l < m) (hj : i + l * sz = j) {n' c' : Nat} (hn : u - l = n') (hc : m - l = c')
    : (execOp a.eval o).run P w = .ok (.value (.slice (some ⟨g, j, none⟩) n' c')) w := by
  subst hj hn hc
  unfold slOf at ht
  cases hu : P.underlying t with
  | none => rw [hu] at ht; cases ht
  | some d =>
    rw [hu] at ht
    cases d with
    | slice e =>
      simp only at ht
      cases hq : P.info? e with
      | none => rw [hq] at ht; cases ht
      | some inf =>
        rw [hq] at ht
        simp only [Option.map_some, Option.some.injEq] at ht
        subst ht
        have e3 : ¬ m = l := by omega
        simp [execOp, ho, hx, hl, hh, hm, Instr.sliceAt, run_underlying hu, Instr.slice, Instr.sliceBounds, Instr.sliceBound, asIntOf, sizeOf, typeInfo, hq, h1, h2, h4, e3, Addr.add_mid]
    | _ => simp only at ht; cases ht
theorem dd_slE {t : TypeId} {x lo : Operand} {g i n c sz : Nat} {k : IntKind} {l : Nat} (ho : o.op = .slice t x (some lo) none none) (hx : a.eval x = .slice (some ⟨g, i, none⟩) n c) (hl : a.eval lo = .int k (l : Int)) (ht : slOf P t = some sz) (h1 : l = n) (h3 : l = c)
    : (execOp a.eval o).run P w = .ok (.value (.slice (some ⟨g, i, none⟩) 0 0)) w := by
  subst h1
  unfold slOf at ht
  cases hu : P.underlying t with
  | none => rw [hu] at ht; cases ht
  | some d =>
    rw [hu] at ht
    cases d with
    | slice e =>
      simp only at ht
      cases hq : P.info? e with
      | none => rw [hq] at ht; cases ht
      | some inf =>
        rw [hq] at ht
        simp only [Option.map_some, Option.some.injEq] at ht
        subst ht h3
        simp [execOp, ho, hx, hl, Instr.sliceAt, run_underlying hu, Instr.slice, Instr.sliceBounds, Instr.sliceBound, asIntOf, sizeOf, typeInfo, hq]
    | _ => simp only at ht; cases ht
/- append where there is room -/
theorem dd_appS (HS : St w0 F S w) (k : Nat) {g c n sz bytes : Nat} {cb : Array Value} {e t : TypeId} {L : List Value} {z : Value} (hk : S[k]? = some ⟨g, e, cb⟩) (O : OwnC cb c n sz L) {s x : Operand} (ho : o.op = .call { callee := .builtin .append, args := #[s, x], argTypes := #[t, t] })
    (hs : a.eval s = .slice (some ⟨g, 0, none⟩) n c) (ht : P.underlying t = some (.slice e)) (hi : (P.info? e).map (fun i => (i.zero, i.size, i.bytes)) = some (some z, sz, bytes))
    {ad : Addr} {m c2 : Nat} (news : List Value) (hx : a.eval x = .slice (some ad) m c2) (hl : news.length = m * sz) (hnews : ∀ j u, news[j]? = some u → w.cell? (ad.add j) = some u) (h1 : ∀ u ∈ news, u.oneCell' = true) (hr : n + m ≤ c)
    (h : ∀ cb' w', OwnC cb' c (n + m) sz (L ++ news) → St w0 F (S.set k ⟨g, e, cb'⟩) w' → R (.slice (some ⟨g, 0, none⟩) (n + m) c) w') : Does P o a w R := fun _ _ hK => by
  obtain ⟨i, hi1, _, hz2, _⟩ := info_parts hi
  have hrow := HS.row k hk
  obtain ⟨w', hrun, h2, h3⟩ := run_append_own_spare (P := P) w 0 t o.type e i sz ht hi1 hz2 g n c L (ownc_to hrow O (Nat.zero_le g)) ad m c2 news hl hnews h1 hr
  obtain ⟨g', c', cb', ev, _, hrow', O'⟩ := ownc_of h2 (fun ev => by cases ev)
  injection ev with ev _ ev2
  injection ev with ev
  injection ev with ev
  subst ev ev2
  unfold Oper.wp execOp
  simp only [ho, resolve, invoke, builtin, Sem.run_bind, Sem.run_pure, Result.andThen_ok, List.map_toArray, List.map_cons, List.map_nil, hs, hx, hrun]
  exact hK _ _ (h cb' w' O' (HS.upd k hk hrow' h3))
end
theorem zeroV : (Tryd.prog.info? 81).bind (·.zero) = some (.agg #[.string ⟨#[]⟩, .slice none 0 0]) := by kernel_rfl
/- one volume cleared -/
theorem dd_clr {o : Oper} {a : Act} {w w0 : World} {R : Value → World → Prop} {F : Nat → Prop} {S : List Blk} (HS : St w0 F S w) (k : Nat) {g off c2 : Nat} {cb : Array Value} {x : Operand} (hk : S[k]? = some ⟨g, 81, cb⟩) (ho : o.op = .call { callee := .builtin .clear, args := #[x], argTypes := #[75] }) (hx : a.eval x = .slice (some ⟨g, off, none⟩) 1 c2) (hfit : off + 2 ≤ cb.size)
    (h : ∀ w', St w0 F (S.set k ⟨g, 81, (cb.toList.take off ++ [Value.string ⟨#[]⟩, .slice none 0 0] ++ cb.toList.drop (off + 2)).toArray⟩) w' → R (.tuple #[]) w') : Does Tryd.prog o a w R := fun _ _ hK => by
  have hrow : Row w g 81 cb := HS.row k hk
  have hst := run_storeCells_at (P := Tryd.prog) g off 81 [Value.string ⟨#[]⟩, .slice none 0 0] 0 cb w hrow (by simpa using hfit) (by decide)
  have hzv : (zeroValue 81).run Tryd.prog w = .ok (.agg #[.string ⟨#[]⟩, .slice none 0 0]) w := by
    obtain ⟨i, hi, hz⟩ := Option.bind_eq_some_iff.1 zeroV
    simp [zeroValue, typeInfo, hi, hz]
  have hzc : (Builtin.zeroCells (Value.agg #[.string ⟨#[]⟩, .slice none 0 0]).cells 1).toList = [Value.string ⟨#[]⟩, .slice none 0 0] := by kernel_rfl
  have hrun : (Builtin.clear_ #[75] o.type #[.slice (some ⟨g, off, none⟩) 1 c2]).run Tryd.prog w = .ok (.tuple #[]) (w.setRow g (cb.toList.take off ++ [Value.string ⟨#[]⟩, .slice none 0 0] ++ cb.toList.drop (off + 2)).toArray) := by
    have hst2 := hst
    simp only [Nat.add_zero, List.length_cons, List.length_nil, Nat.reduceAdd] at hst2
    simp [Builtin.clear_, run_underlying Tryd.underlying75, hzv, hzc, hst2]
  unfold Oper.wp execOp
  simp only [ho, resolve, invoke, builtin, Sem.run_bind, Sem.run_pure, Result.andThen_ok, List.map_toArray, List.map_cons, List.map_nil, hx, hrun]
  exact hK _ _ (h _ (HS.upd k hk (hrow.setRow _) (grown_setRow w g _)))
end Go.Proofs.YtnmaplgodimohaaDoor

/- slices.Delete of one volume. -/
set_option maxRecDepth 4000
namespace Go.Proofs.YtnmaplgodimohaaDoor
open Go Go.RowKit
theorem own_takeV {cb : Array Value} {c n i : Nat} {L : List Value} (O : OwnC cb c n 2 L) (h : i ≤ n) : OwnC cb c i 2 (L.take (i * 2)) :=
  ⟨Nat.le_trans h O.le, O.cap, O.size, by rw [List.length_take, O.len]; omega, by rw [← O.take, List.take_take, Nat.min_eq_left (by omega)]⟩
theorem del_cells {w : World} {g c n : Nat} {t : TypeId} {cb : Array Value} {L : List Value} (h : Row w g t cb) (O : OwnC cb c n 2 L) (k : Nat) : ∀ (j : Nat) (u : Value), (L.drop (k * 2))[j]? = some u → w.cell? ((⟨g, 0 + k * 2, none⟩ : Addr).add j) = some u := fun j u hu => by
  rw [List.getElem?_drop] at hu
  have hj : k * 2 + j < L.length := (List.getElem?_eq_some_iff.1 hu).1
  rw [Addr.add_mid, h.cell, Nat.zero_add, ← Array.getElem?_toList]
  rw [← O.take, List.getElem?_take_of_lt (by rw [← O.len]; exact hj)] at hu
  exact hu
theorem own_clr {cb : Array Value} {c n : Nat} {L : List Value} (O : OwnC cb c n 2 L) (h : n + 1 ≤ c) : OwnC (cb.toList.take (0 + n * 2) ++ [Value.string ⟨#[]⟩, .slice none 0 0] ++ cb.toList.drop (0 + n * 2 + 2)).toArray c n 2 L := by
  have hs := O.size
  have ht : (cb.toList.take (0 + n * 2)).length = n * 2 := by rw [List.length_take, Array.length_toList]; omega
  refine ⟨O.le, O.cap, ?_, O.len, ?_⟩
  · rw [List.size_toArray, List.length_append, List.length_append, ht, List.length_drop, Array.length_toList]
    show n * 2 + 2 + (cb.size - (0 + n * 2 + 2)) = c * 2
    omega
  · rw [List.append_assoc, List.take_append_of_le_length (by rw [ht]; exact Nat.le_refl _), List.take_of_length_le (by rw [ht]; exact Nat.le_refl _), Nat.zero_add, O.take]
theorem del_own {cb : Array Value} {c n m : Nat} {L M : List Value} (O : OwnC cb c n 2 L) (h : n = m) (e : L = M) : OwnC cb c m 2 M := by subst h e; exact O
set_option maxHeartbeats 800000 in
theorem delete_st (g M c i : Nat) (cb : Array Value) (L : List Value) (F : Nat → Prop) (w : World) (HS : St w F [⟨g, 81, cb⟩] w) (O : OwnC cb c (M + 1) 2 L) (h1 : ∀ u ∈ L, u.oneCell' = true) (hi : i < M + 1) :
    Calls Tryd.prog 37 #[.slice (some ⟨g, 0, none⟩) (M + 1) c, .int .i64 i, .int .i64 (i + 1)] w fun e w' => ∃ cb', e = .returned (.slice (some ⟨g, 0, none⟩) M c) ∧ OwnC cb' c M 2 (L.take (i * 2) ++ L.drop ((i + 1) * 2)) ∧ St w F [⟨g, 81, cb'⟩] w' := by
  have hNc := O.le
  have hcm := O.cap
  refine enter_en Tryd.func37 rfl Tryd.ntmps37 (Nat.le_of_ble_eq_true rfl) fun a0 (HA0 : En 33 [(0, .slice (some ⟨g, 0, none⟩) (M + 1) c), (1, .int .i64 i), (2, .int .i64 (i + 1))] a0) => ?_
  refine sq_ <| rl_ <| wl_ <| p_ HA0 rfl rfl fun _ H1 => ln_ <| nx <| sq_ <| rl_ <| q_ H1 4 rfl fun _ H2 => wl_ <| i_ H2 rfl (v := .int .i64 (M + 1)) (dd_len rfl (H2.ev 11 rfl) Tryd.underlying75) fun _ H3 => wl_ <| i_ H3 rfl (v := .slice (some ⟨g, 0 + i * 2, none⟩) (i + 1 - i) (M + 1 - i)) (dd_sl3 (l := i) (u := i + 1) (m := M + 1) (sz := 2) rfl (H3.ev 8 rfl) (H3.ev 9 rfl) (H3.ev 10 rfl) (H3.ev 12 rfl) (by kernel_rfl) (by omega) (by omega) (by omega) (by omega) rfl rfl rfl) fun _ H4 => ln_ <| nx <| sq_ <| sq_ <| rl_ <| q_ H4 2 rfl fun _ H5 => wl_ <| i_ H5 rfl (dd_cmp rfl (H5.ev 14 rfl) (H5.ev 15 rfl) (eq_f (show ¬ (i : Int) = i + 1 by omega))) fun _ H6 => ln_ <| nx <| cf_ H6 rfl <| wp_skip <| nx <| sq_ <| rl_ <| wl_ <| p_ H6 rfl rfl fun _ H7 => wl_ <| i_ H7 rfl (v := .int .i64 (M + 1)) (dd_len rfl (H7.ev 18 rfl) Tryd.underlying75) fun _ H8 => ?_
  clear HA0 H1 H2 H3 H4 H5 H6
  refine wl_ <| p_ H8 rfl rfl fun _ H9 => ln_ <| nx <| sq_ <| ?_
  clear H7 H8
  by_cases hc16 : (i + 1 : Int) < c
  ·
   refine wi_ HS [] rfl [0] rfl fun HSh17 hx17 => hp_ H9 0 hx17 rfl rfl rfl fun _ H18 => hp_ H18 1 hx17 rfl rfl rfl fun _ H19 => ht_ H19 2 hx17 rfl rfl (v := .slice (some ⟨g, 0, none⟩) i c) (fun _ _ _ => dd_slh (sz := 2) rfl (H19.ev 20 rfl) (H19.ev 21 rfl) (by kernel_rfl) (by omega) (by omega) rfl) fun _ H20 => hp_ H20 3 hx17 rfl rfl rfl fun _ H21 => hp_ H21 4 hx17 rfl rfl rfl fun _ H22 => ht_ H22 5 hx17 rfl rfl (v := .slice (some ⟨g, 0 + (i + 1) * 2, none⟩) (M + 1 - (i + 1)) (c - (i + 1))) (fun _ _ _ => dd_sll (l := i + 1) (sz := 2) rfl (H22.ev 23 rfl) (H22.ev 24 rfl) (by kernel_rfl) (by omega) (by omega) rfl rfl rfl) fun _ H23 => ?_
   clear HS H9 H18 H19 H20 H21 H22
   refine h1_ 6 rfl <| d_ H23 rfl (R := fun v9 w9 => ∃ cb2 : Array Value, v9 = .slice (some ⟨g, 0, none⟩) M c ∧ (OwnC cb2 c (M) 2 (L.take (i * 2) ++ L.drop ((i + 1) * 2))) ∧ St w F [⟨g, 81, cb2⟩] w9) (dd_appS HSh17 0 rfl (own_takeV O (by omega)) rfl (H23.ev 22 rfl) Tryd.underlying75 (z := .agg #[.string ⟨#[]⟩, .slice none 0 0]) (bytes := 40) (by kernel_rfl) (L.drop ((i + 1) * 2)) (H23.ev 25 rfl) (by rw [List.length_drop, O.len]; omega) (del_cells (HSh17.row 0 rfl) O (i + 1)) (fun u hu => h1 u (List.mem_of_mem_drop hu)) (by omega) (fun cb9 w9 h8 h9 => ⟨cb9, by rw [show i + (M + 1 - (i + 1)) = M by omega], (show i + (M + 1 - (i + 1)) = M by omega) ▸ h8, h9⟩)) ?_
   rintro _ W24 ⟨cb2, rfl, O2, HS24⟩ a24 H24
   clear H23 HSh17
   refine sx_ (sxi HS24 [0] rfl) fun hx25 => hp_ H24 7 hx25 rfl rfl rfl fun _ H26 => ?_
   clear hx17 H24
   refine wpAnyH_done (by kernel_rfl) ?_ _
   clear hx25
   refine nx <| sq_ <| rl_ <| q_ H26 2 rfl fun _ H27 => wl_ <| i_ H27 rfl (v := .int .i64 M) (dd_len rfl (H27.ev 28 rfl) Tryd.underlying75) fun _ H28 => wl_ <| p_ H28 rfl rfl fun _ H29 => wl_ <| i_ H29 rfl (v := .slice (some ⟨g, 0 + (M) * 2, none⟩) 1 (c - (M))) (dd_sllh (l := M) (u := M + 1) (sz := 2) rfl (H29.ev 27 rfl) (H29.ev 29 rfl) (H29.ev 30 rfl) (by kernel_rfl) (by omega) (by omega) (by omega) rfl (by omega) rfl) fun _ H30 => wl_ <| tq rfl (S := [⟨g, 81, (cb2.toList.take (0 + (M) * 2) ++ [Value.string ⟨#[]⟩, .slice none 0 0] ++ cb2.toList.drop (0 + (M) * 2 + 2)).toArray⟩]) (v := .tuple #[]) (fun _ h => dd_clr HS24 0 rfl rfl (H30.ev 31 rfl) (by rw [O2.size]; omega) h) fun _ HS31 => ln_ <| ?_
   clear H26 H27 H28 H29 HS24
   have H32 := H30.sel [0] rfl
   refine nx <| sq_ <| rl_ <| q_ H32 2 rfl fun _ H33 => ln_ <| nx <| wp_ret <| ret_run H33.env0 (res_t Tryd.results37 (H33.get 6 rfl)) <| ?_
   clear H30 H32
   exact ⟨_, rfl, del_own (own_clr O2 (by omega)) rfl (by first | rfl | rw [List.drop_of_length_le (by rw [O.len]; omega)]), HS31⟩
  refine wi_ HS [] rfl [0] rfl fun HSh34 hx34 => hp_ H9 0 hx34 rfl rfl rfl fun _ H35 => hp_ H35 1 hx34 rfl rfl rfl fun _ H36 => ht_ H36 2 hx34 rfl rfl (v := .slice (some ⟨g, 0, none⟩) i c) (fun _ _ _ => dd_slh (sz := 2) rfl (H36.ev 20 rfl) (H36.ev 21 rfl) (by kernel_rfl) (by omega) (by omega) rfl) fun _ H37 => hp_ H37 3 hx34 rfl rfl rfl fun _ H38 => hp_ H38 4 hx34 rfl rfl rfl fun _ H39 => ht_ H39 5 hx34 rfl rfl (v := .slice (some ⟨g, 0, none⟩) 0 0) (fun _ _ _ => dd_slE (l := i + 1) (sz := 2) rfl (H39.ev 23 rfl) (H39.ev 24 rfl) (by kernel_rfl) (by omega) (by omega)) fun _ H40 => ?_
  clear HS H9 H35 H36 H37 H38 H39
  refine h1_ 6 rfl <| d_ H40 rfl (R := fun v9 w9 => ∃ cb2 : Array Value, v9 = .slice (some ⟨g, 0, none⟩) M c ∧ (OwnC cb2 c (M) 2 (L.take (i * 2) ++ [])) ∧ St w F [⟨g, 81, cb2⟩] w9) (dd_appS HSh34 0 rfl (own_takeV O (by omega)) rfl (H40.ev 22 rfl) Tryd.underlying75 (z := .agg #[.string ⟨#[]⟩, .slice none 0 0]) (bytes := 40) (by kernel_rfl) [] (H40.ev 25 rfl) (by simp) (fun j u h9 => by simp at h9) (fun u h9 => by cases h9) (by omega) (fun cb9 w9 h8 h9 => ⟨cb9, by rw [show i + 0 = M by omega], (show i + 0 = M by omega) ▸ h8, h9⟩)) ?_
  rintro _ W41 ⟨cb2, rfl, O2, HS41⟩ a41 H41
  clear H40 HSh34
  refine sx_ (sxi HS41 [0] rfl) fun hx42 => hp_ H41 7 hx42 rfl rfl rfl fun _ H43 => ?_
  clear hx34 H41
  refine wpAnyH_done (by kernel_rfl) ?_ _
  clear hx42
  refine nx <| sq_ <| rl_ <| q_ H43 2 rfl fun _ H44 => wl_ <| i_ H44 rfl (v := .int .i64 M) (dd_len rfl (H44.ev 28 rfl) Tryd.underlying75) fun _ H45 => wl_ <| p_ H45 rfl rfl fun _ H46 => wl_ <| i_ H46 rfl (v := .slice (some ⟨g, 0 + (M) * 2, none⟩) 1 (c - (M))) (dd_sllh (l := M) (u := M + 1) (sz := 2) rfl (H46.ev 27 rfl) (H46.ev 29 rfl) (H46.ev 30 rfl) (by kernel_rfl) (by omega) (by omega) (by omega) rfl (by omega) rfl) fun _ H47 => wl_ <| tq rfl (S := [⟨g, 81, (cb2.toList.take (0 + (M) * 2) ++ [Value.string ⟨#[]⟩, .slice none 0 0] ++ cb2.toList.drop (0 + (M) * 2 + 2)).toArray⟩]) (v := .tuple #[]) (fun _ h => dd_clr HS41 0 rfl rfl (H47.ev 31 rfl) (by rw [O2.size]; omega) h) fun _ HS48 => ln_ <| ?_
  clear H43 H44 H45 H46 HS41
  have H49 := H47.sel [0] rfl
  refine nx <| sq_ <| rl_ <| q_ H49 2 rfl fun _ H50 => ln_ <| nx <| wp_ret <| ret_run H50.env0 (res_t Tryd.results37 (H50.get 6 rfl)) <| ?_
  clear H47 H49
  exact ⟨_, rfl, del_own (own_clr O2 (by omega)) rfl (by first | rfl | rw [List.drop_of_length_le (by rw [O.len]; omega)]), HS48⟩
end Go.Proofs.YtnmaplgodimohaaDoor

/- The program's Gone. -/
set_option maxRecDepth 4000
namespace Go.Proofs.YtnmaplgodimohaaDoor
open Go Go.RowKit
theorem ov_open {B : Nat} {W : World} {v : Value} {l : List Vl} (h : OV B W v l) (hl : 0 < l.length) : ∃ g c cb vs, v = .slice (some ⟨g, 0, none⟩) l.length c ∧ B ≤ g ∧ Row W g 81 cb ∧ OwnC cb c l.length 2 vs.flatten ∧ CellsV B W vs l := by
  obtain ⟨vs, h1, h2⟩ := h
  obtain ⟨g, c, cb, e, hb, hr, O⟩ := ownc_pos h1 hl
  exact ⟨g, c, cb, vs, e, hb, hr, O, h2⟩
theorem st_row {W : World} {g : Nat} {t : TypeId} {cs : Array Value} (h : Row W g t cs) : St W (inS [⟨g, t, cs⟩]) [⟨g, t, cs⟩] W :=
  ⟨Chg.refl _ _, fun k r hk => by
    match k, hk with
    | 0, hk => cases hk; exact h, fun i j r s hij hi hj => by
    match i, hi, j, hj with
    | 0, _, 0, _ => exact absurd rfl hij, fun k r hk => .inl ⟨r, List.mem_of_getElem? hk, rfl⟩⟩
theorem st_del {w W W2 : World} {g : Nat} {t : TypeId} {cs : Array Value} {S : List Blk} (h : St w noF [] W) (k : St W (inS [⟨g, t, cs⟩]) S W2) (hg : w.heap.size ≤ g) : St w noF [] W2 := by
  refine (St.nil w noF).same ⟨k.chg.os.trans h.chg.os, k.chg.tape.trans h.chg.tape, k.chg.output.trans h.chg.output, Nat.le_trans h.chg.size k.chg.size, fun j hj => ?_⟩
  refine (k.chg.block j (Nat.lt_of_lt_of_le hj h.chg.size) fun ⟨r, h1, h2⟩ => ?_).trans (h.chg.block j hj fun e => e)
  rw [List.mem_singleton] at h1
  subst h1
  have h2 : g = j := h2
  omega
theorem chg_noF {w w' : World} (h : Chg noF w w') : Below w.heap.size w w' := ⟨h.os, h.tape, h.output, h.size, fun k hk => h.block k hk fun e => e⟩
theorem flat_erase : ∀ (vs : List (List Value)) (i : Nat), (∀ c ∈ vs, c.length = 2) → i < vs.length → (vs.eraseIdx i).flatten = vs.flatten.take (i * 2) ++ vs.flatten.drop ((i + 1) * 2)
  | [], i, _, h => absurd h (Nat.not_lt_zero _)
  | v :: vs, 0, h, _ => by
    have hv := h v (List.mem_cons_self ..)
    simp only [List.eraseIdx_zero, List.tail_cons, List.flatten_cons, Nat.zero_mul, List.take_zero, List.nil_append]
    rw [List.drop_append_of_le_length (by omega), List.drop_of_length_le (by omega), List.nil_append]
  | v :: vs, i + 1, h, hi => by
    have hv := h v (List.mem_cons_self ..)
    have ih := flat_erase vs i (fun c hc => h c (List.mem_cons_of_mem _ hc)) (Nat.lt_of_succ_lt_succ hi)
    have t1 : (v ++ vs.flatten).take ((i + 1) * 2) = v ++ vs.flatten.take (i * 2) := by rw [show (i + 1) * 2 = v.length + i * 2 by omega, List.take_length_add_append]
    have t2 : (v ++ vs.flatten).drop ((i + 1 + 1) * 2) = vs.flatten.drop ((i + 1) * 2) := by rw [show (i + 1 + 1) * 2 = v.length + (i + 1) * 2 by omega, List.drop_length_add_append]
    rw [List.eraseIdx_cons_succ, List.flatten_cons, ih, List.flatten_cons, t1, t2, List.append_assoc]
theorem ov_del {B : Nat} {W W2 : World} {l : List Vl} {vs : List (List Value)} {g c M i : Nat} {cb cb2 : Array Value} (hcv : CellsV B W vs l) (hr : Row W g 81 cb) (hB : B ≤ g) (hBW : B ≤ W.heap.size) (k : St W (inS [⟨g, 81, cb⟩]) [⟨g, 81, cb2⟩] W2)
    (O : OwnC cb2 c M 2 (vs.flatten.take (i * 2) ++ vs.flatten.drop ((i + 1) * 2))) (hi : i < l.length) : OV B W2 (.slice (some ⟨g, 0, none⟩) M c) (l.eraseIdx i) := by
  have hin : ∀ j, inS [⟨g, 81, cb⟩] j → j = g := fun j ⟨r, h2, h3⟩ => by
    rw [List.mem_singleton] at h2
    subst h2; exact h3.symm
  have hbl : Below B W W2 := ⟨k.chg.os, k.chg.tape, k.chg.output, k.chg.size, fun j hj => k.chg.block j (Nat.lt_of_lt_of_le hj hBW) fun hF => by have := hin j hF; omega⟩
  have hf := flat_erase vs i hcv.2.1 (by rw [hcv.1]; exact hi)
  have hl : (vs.eraseIdx i).length = (l.eraseIdx i).length := by rw [List.length_eraseIdx, List.length_eraseIdx, hcv.1]
  have h2 : ∀ d ∈ vs.eraseIdx i, d.length = 2 := fun d hd => hcv.2.1 d (List.mem_of_mem_eraseIdx hd)
  have hM : (l.eraseIdx i).length = M := by
    have h3 := O.len
    rw [← hf, flat_length (sz := 2) _ h2, hl] at h3; omega
  refine ⟨vs.eraseIdx i, by rw [hM, hf]; exact ownc_to (k.row 0 rfl) O hB, hl, h2, fun j x hx => ?_⟩
  rw [List.getElem?_eraseIdx] at hx
  have key : ∀ j', l[j']? = some x → ∃ A cc, vs[j']? = some [Value.string x.1, Value.slice A x.2.length cc] ∧ InV B W2 A cc x.2 ∧ x.1.size ≤ maxLen := fun j' hx' => by
    obtain ⟨A, cc, h3, h4, h5⟩ := hcv.2.2 j' x hx'
    refine ⟨A, cc, h3, ?_, h5⟩
    rcases h4 with ⟨w1, k1, k2, k3⟩ | ⟨k1, k2⟩
    · exact .inl ⟨w1, k1, k2.trans hbl, k3⟩
    · refine .inr ⟨own_chg k1 k.chg fun b hb hF => ?_, k2⟩
      have e := hin b hF
      subst e
      obtain ⟨_, h6 | ⟨g2, cap, cur, e2, _, h7, _⟩⟩ := k1
      · rw [h6.1] at hb; cases hb
      · rw [e2] at hb
        injection hb with hb
        have hb : g2 = b := hb
        subst hb
        rw [hr] at h7
        injection h7 with h7
        injection h7 with _ h7 _
        exact absurd h7 (by decide)
  rw [List.getElem?_eraseIdx]
  by_cases hj : j < i
  · rw [if_pos hj] at hx ⊢; exact key j hx
  · rw [if_neg hj] at hx ⊢; exact key (j + 1) hx
theorem vol_erase (l : List Tv) (i : Nat) : (volL l).eraseIdx i = volL (l.eraseIdx i) := by
  refine List.ext_getElem? fun j => ?_
  unfold volL
  simp only [List.getElem?_map, List.getElem?_eraseIdx]
  split <;> rfl
theorem goneL_is {l : List Tv} {q : List (BitVec 8)} {i : Nat} (h : findI q l = (i : Int)) : goneL l q = l.eraseIdx i := by unfold goneL; rw [h]; rfl
theorem goneL_small (qb q : List (BitVec 8)) : ∀ x ∈ goneL (decLT qb) q, x.2.length ≤ 1000000 := fun x hx => decLT_small qb x (List.mem_of_mem_eraseIdx hx)
section
variable {l : List Tv} {q : List (BitVec 8)}
theorem gone_E1 (h : findI q l < 0) : goneE l q = 16 := if_pos h
theorem gone_E0 (h : ¬ findI q l < 0) : goneE l q = 0 := if_neg h
theorem gone_P1 (h : findI q l < 0) : goneP l q = [] := if_pos h
theorem gone_P0 (h : ¬ findI q l < 0) : goneP l q = [(0, encT (goneL l q))] := if_neg h
end
set_option maxHeartbeats 1600000 in
theorem gone_any (qb q : List (BitVec 8)) (w : World) (hqb : qb.length = 32) : Calls Tryd.prog 26 #[.agg (bs qb), .string (strB q)] w fun e w' => ∃ v, e = .returned (.tuple #[v, .int .i64 (goneE (decLT qb) q)]) ∧ w'.ownsRow w.heap.size 70 33 v (goneP (decLT qb) q).length ((goneP (decLT qb) q).map pcell).flatten ∧ Below w.heap.size w w' := by
  have HS := St.nil w noF
  refine enter_en Tryd.func26 rfl Tryd.ntmps26 (Nat.le_of_ble_eq_true rfl) fun a0 (HA0 : En 21 [(0, .agg (bs qb)), (1, .string (strB q))] a0) => ?_
  refine sq_ <| rl_ <| wl_ <| n_ HA0 rfl (fun _ h => dd_box HS rfl (HA0.ev 0 rfl) (cs := (bs qb)) rfl h) fun _ W1 HS1 _ H1 => q_ H1 2 rfl fun _ H2 => ln_ <| nx <| sq_ <| rl_ <| ?_
  clear HS HA0 H1
  have hS1 := HS1
  refine wl_ <| i_ H2 rfl (v := .agg (bs qb)) (dd_load HS1 0 0 rfl rfl (H2.ev 2 rfl) (slab_whole _) Tryd.underlying36 rfl (by rw [show (bs qb).size = 32 from ((size_bs _).trans hqb)]; kernel_rfl)) fun _ H3 => ?_
  clear H2
  refine wl_ <| d_ H3 rfl (R := fun v w9 => ∃ A5 N5 C5 Bb5, v = .slice A5 N5 C5 ∧ ((volL (decLT qb)).length = N5 ∧ N5 ≤ 3) ∧ (W1.heap.size ≤ Bb5 ∧ Bb5 ≤ w9.heap.size) ∧ (OV Bb5 w9 (.slice A5 N5 C5) (volL (decLT qb))) ∧ Below W1.heap.size W1 w9) (dc_ Tryd.func32 rfl (args1 (H3.ev 8 rfl)) (volumes_any qb W1 hqb) (fun _ w9 ⟨v9, B9, he, h4, h5, ho, hb⟩ => by obtain ⟨A9, n9, c9, rfl, h1, _⟩ := OV.form2 ho; exact ⟨_, he, A9, n9, c9, B9, rfl, ⟨h1, by rw [← h1, len_volL]; exact decLT_len _⟩, ⟨h4, h5⟩, ho, hb⟩)) ?_
  rintro _ W4 ⟨A5, N5, C5, Bb5, rfl, hNd5, hBb5, hov5, hb4⟩ a4 H4
  have HS4 := HS1.same hb4
  clear H3
  have hln5 : (decLT qb).length = N5 := by rw [← len_volL]; exact hNd5.1
  have HBs6 : Below w.heap.size w W4 := HS4.below
  have HR6_0 := fun (W9 : World) (hb9 : Below W4.heap.size W4 W9) => (HS4.row 0 rfl).call hb9
  have HSb6 := St.nil W4 noF
  clear HS4
  have HVd5 := fun (W9 : World) (hb9 : Below W4.heap.size W4 W9) => ((hov5.vols (Nat.le_trans (Nat.le_of_eq hNd5.1) (Nat.le_trans hNd5.2 (by decide)))).below hb9 (Nat.le_refl _))
  clear HS1 hb4
  refine wl_ <| p_ H4 rfl rfl fun _ H7 => ln_ <| nx <| sq_ <| rl_ <| q_ H7 2 rfl fun _ H8 => ?_
  clear H4 H7
  have hfi10 := findI_is q (decLT qb)
  refine wl_ <| c_ H8 rfl HSb6 (dcs Tryd.func36 rfl (args2 (H8.ev 10 rfl) (H8.ev 11 rfl)) (find_any _ _ _ q (decLT qb) W4 (HVd5 _ HSb6.below) (Nat.le_trans hNd5.2 (by decide))) (.int .i64 (findI q (decLT qb)))) fun W9 HS9 _ H9 => wl_ <| p_ H9 rfl rfl fun _ H11 => ln_ <| nx <| sq_ <| sq_ <| rl_ <| wl_ <| p_ H11 rfl rfl fun _ H12 => ?_
  clear H8 HSb6 H9 H11
  by_cases hc14 : (findI q (decLT qb) : Int) < 0
  ·
   refine wl_ <| i_ H12 rfl (dd_cmp rfl (H12.ev 13 rfl) rfl (lt_t hc14)) fun _ H15 => ln_ <| nx <| ct_ H15 rfl <| sq_ <| rl_ <| q_ H15 2 rfl fun _ H16 => ln_ <| nx <| wp_ret <| tr <| ret_run H16.env0 (res_tt Tryd.results26 (H16.get 4 rfl) (H16.get 5 rfl)) <| ?_
   clear H12 H15
   exact ⟨_, by rw [gone_E1 hc14], by rw [gone_P1 hc14]; exact World.ownsRow_nil _ _ _ _, (HBs6.trans (HS9.below.mono HBs6.size))⟩
  refine wl_ <| i_ H12 rfl (dd_cmp rfl (H12.ev 13 rfl) rfl (lt_f hc14)) fun _ H17 => ln_ <| nx <| cf_ H17 rfl <| wp_skip <| nx <| sq_ <| rl_ <| q_ H17 3 rfl fun _ H18 => wl_ <| i_ H18 rfl (v := .int .i64 ((findI q (decLT qb)) + 1)) (dd_ari rfl (H18.ev 17 rfl) rfl rfl (i64_of (by first | omega | (have := bd_lo; omega)) (by omega))) fun _ H19 => ?_
  clear H12 H17 H18
  obtain ⟨i, hi⟩ : ∃ i : Nat, findI q (decLT qb) = (i : Int) := ⟨(findI q (decLT qb)).toNat, by omega⟩
  obtain ⟨M, hM⟩ : ∃ M, N5 = M + 1 := ⟨N5 - 1, by omega⟩
  obtain ⟨gd, cd, cbd, vsd, hvd, hBd, hrd, Od, hcd⟩ := ov_open (hov5.call HS9.below hBb5.2) (show 0 < (volL (decLT qb)).length by rw [len_volL]; omega)
  rw [show (volL (decLT qb)).length = M + 1 by rw [len_volL]; omega] at hvd Od
  have hBW := Nat.le_trans hBb5.2 HS9.below.size
  have hfi := (HS9).first HBs6
  refine wl_ <| d_ H19 rfl (R := fun v9 w9 => v9 = .slice (some ⟨gd, 0, none⟩) M cd ∧ (OV Bb5 w9 (.slice (some ⟨gd, 0, none⟩) M cd) ((volL (decLT qb)).eraseIdx i)) ∧ St w noF [] w9) (dc_ Tryd.func37 rfl (args3 (((H19.ev 15 rfl)).trans hvd) (((H19.ev 16 rfl)).trans (by rw [hi])) (((H19.ev 18 rfl)).trans (by rw [hi]))) (delete_st gd M cd i cbd vsd.flatten _ W9 (st_row hrd) Od (one_volV hcd) (by omega)) (fun _ w9 ⟨cb9, he, hO, hS⟩ => ⟨_, he, rfl, (ov_del hcd hrd hBd hBW hS hO (show i < (volL (decLT qb)).length by rw [len_volL]; omega) : OV Bb5 w9 (.slice (some ⟨gd, 0, none⟩) M cd) ((volL (decLT qb)).eraseIdx i)), st_del hfi hS (Nat.le_trans hS1.below.size (Nat.le_trans hBb5.1 hBd))⟩)) ?_
  rintro _ W20 ⟨rfl, hovd, HS20⟩ a20 H20
  clear H19 HS9
  have hvg : VolsAt W20 (.slice (some ⟨gd, 0, none⟩) M cd) (volL (goneL (decLT qb) q)) := by rw [goneL_is hi]; rw [vol_erase] at hovd; exact hovd.vols (by rw [len_volL, List.length_eraseIdx, if_pos (by omega)]; exact Nat.le_trans (Nat.le_trans (Nat.sub_le _ _) (decLT_len qb)) (by decide))
  have hng := HS20.below
  refine wl_ <| d_ H20 rfl (R := fun v9 w9 => ∃ gp : Nat, ∃ cp : Nat, ∃ cbp : Array Value, v9 = .slice (some ⟨gp, 0, none⟩) 1 cp ∧ (OwnC cbp cp 1 33 ((([(0, encT (goneL (decLT qb) q))] : List Pt).map pcell).flatten)) ∧ St w noF [⟨gp, 70, cbp⟩] w9) (dc_ Tryd.func35 rfl (args2 (H20.ev 19 rfl) rfl) (withtable_nil _ _ _ (goneL (decLT qb) q) noF W20 (fun W9 h9 => hvg.below (chg_noF h9) (Nat.le_refl _)) (by omega) (goneL_small _ _)) (fun _ w9 ⟨g9, c9, cb9, he, hO, hS⟩ => ⟨_, he, g9, c9, cb9, rfl, hO, hS.first hng⟩)) ?_
  rintro _ W21 ⟨gp, cp, cbp, rfl, Op, HS21⟩ a21 H21
  clear H20 HS20
  refine q_ H21 2 rfl fun _ H22 => ln_ <| ?_
  clear H21
  have H23 := H22.sel [4, 5] rfl
  refine nx <| wp_ret <| ret_run H23.env0 (res_tt Tryd.results26 (H23.get 4 rfl) (H23.get 5 rfl)) <| ?_
  clear H22
  exact ⟨_, by rw [gone_E0 hc14], own_puts (gone_P0 hc14) (by rw [gone_P0 hc14]; rfl) (ownc_to (HS21.row 0 rfl) Op (st_fresh2 HS21 0 rfl)), HS21.below⟩
end Go.Proofs.YtnmaplgodimohaaDoor

/- Volumes of one's own, cell by cell. -/
set_option maxRecDepth 4000
namespace Go.Proofs.YtnmaplgodimohaaDoor
open Go Go.RowKit
theorem del_take {w : World} {g c n : Nat} {t : TypeId} {cb : Array Value} {L : List Value} (h : Row w g t cb) (O : OwnC cb c n 2 L) (k : Nat) : ∀ (j : Nat) (u : Value), (L.take k)[j]? = some u → w.cell? ((⟨g, 0, none⟩ : Addr).add j) = some u := fun j u hu => by
  have hj : j < (L.take k).length := (List.getElem?_eq_some_iff.1 hu).1
  rw [List.length_take] at hj
  rw [List.getElem?_take_of_lt (by omega)] at hu
  rw [Addr.add_mid, h.cell, Nat.zero_add, ← Array.getElem?_toList]
  rw [← O.take, List.getElem?_take_of_lt (by rw [← O.len]; omega)] at hu
  exact hu
theorem dd_appN {P : Program} {o : Oper} {a : Act} {w w0 : World} {F : Nat → Prop} {S : List Blk} (HS : St w0 F S w) (k : Nat) {g c n sz bytes : Nat} {cb : Array Value} {e t : TypeId} {L : List Value} {z : Value} (hk : S[k]? = some ⟨g, e, cb⟩) (O : OwnC cb c n sz L) {s x : Operand} (ho : o.op = .call { callee := .builtin .append, args := #[s, x], argTypes := #[t, t] })
    (hs : a.eval s = .slice (some ⟨g, 0, none⟩) n c) (hx : a.eval x = .slice none 0 0) (ht : P.underlying t = some (.slice e)) (hi : (P.info? e).map (fun i => (i.zero, i.size, i.bytes)) = some (some z, sz, bytes)) : (execOp a.eval o).run P w = .ok (.value (.slice (some ⟨g, 0, none⟩) n c)) w := by
  obtain ⟨i0, hi0, _, hz1, _⟩ := info_parts hi
  have hrun := run_append_owned_none (P := P) (w := w) 0 t o.type e i0 sz ht hi0 _ n _ (ownc_to (HS.row k hk) O (Nat.zero_le g))
  simp [execOp, ho, resolve, invoke, builtin, hs, hx, hrun, Result.andThen]
theorem cells_erase {B : Nat} {W : World} {l : List Vl} {vs : List (List Value)} (h : CellsV B W vs l) (i : Nat) : CellsV B W (vs.eraseIdx i) (l.eraseIdx i) := by
  refine ⟨by rw [List.length_eraseIdx, List.length_eraseIdx, h.1], fun d hd => h.2.1 d (List.mem_of_mem_eraseIdx hd), fun j x hx => ?_⟩
  rw [List.getElem?_eraseIdx] at hx ⊢
  by_cases hj : j < i
  · rw [if_pos hj] at hx ⊢; exact h.2.2 j x hx
  · rw [if_neg hj] at hx ⊢; exact h.2.2 (j + 1) x hx
theorem gone_volsR {B : Nat} {W W1 : World} {l : List Vl} {vs : List (List Value)} {g c n i : Nat} {cb : Array Value} (hr : Row W g 81 cb) (O : OwnC cb c n 2 (vs.flatten.take (i * 2) ++ vs.flatten.drop ((i + 1) * 2))) (hcv : CellsV B W1 vs l) (hb : Below W1.heap.size W1 W) (hB : B ≤ W1.heap.size) (hg : W1.heap.size ≤ g) (hi : i < l.length) (hm : l.length ≤ 1000) : VolsAt W (.slice (some ⟨g, 0, none⟩) n c) (l.eraseIdx i) := by
  have hf := flat_erase vs i hcv.2.1 (by rw [hcv.1]; exact hi)
  have hc := cells_erase (hcv.call hb hB) i
  have hn : (l.eraseIdx i).length = n := by
    have h3 := O.len
    rw [← hf, flat_length (sz := 2) _ hc.2.1, hc.1] at h3; omega
  have h := OV.vols (base := B) (W := W) (v := .slice (some ⟨g, 0, none⟩) n c) (l := l.eraseIdx i) ⟨vs.eraseIdx i, by rw [hn, hf]; exact ownc_to hr O (Nat.le_trans hB hg), hc⟩ (by rw [List.length_eraseIdx]; split <;> (unfold maxLen; omega))
  exact h
theorem make_volsR {B : Nat} {W W1 : World} {l : List Vl} {vs : List (List Value)} {g c n m gt ct : Nat} {cb : Array Value} {s : ByteArray} {T : List Int} (hr : Row W g 81 cb) (O : OwnC cb c n 2 (vs.flatten ++ [.string s, .slice (some ⟨gt, 0, none⟩) m ct])) (hcv : CellsV B W1 vs l) (hb : Below W1.heap.size W1 W) (hB : B ≤ W1.heap.size) (hg : W1.heap.size ≤ g)
    (hT : T.length = m) (hi : InV B W (some ⟨gt, 0, none⟩) ct T) (hs : s.size ≤ maxLen) (hm : l.length ≤ 1000) : VolsAt W (.slice (some ⟨g, 0, none⟩) n c) (l ++ [(s, T)]) := by
  subst hT
  have hc : CellsV B W (vs ++ [[.string s, .slice (some ⟨gt, 0, none⟩) T.length ct]]) (l ++ [(s, T)]) := (hcv.call hb hB).append ⟨rfl, fun d hd => by rw [List.mem_singleton] at hd; subst hd; rfl, fun j x hx => by
    match j, hx with
    | 0, hx => cases hx; exact ⟨_, _, rfl, hi, hs⟩⟩
  have hf : (vs ++ [[Value.string s, .slice (some ⟨gt, 0, none⟩) T.length ct]]).flatten = vs.flatten ++ [.string s, .slice (some ⟨gt, 0, none⟩) T.length ct] := by simp
  have hn : (l ++ [(s, T)]).length = n := by
    have h3 := O.len
    rw [← hf, flat_length (sz := 2) _ hc.2.1, hc.1] at h3; omega
  exact OV.vols (base := B) ⟨_, by rw [hn, hf]; exact ownc_to hr O (Nat.le_trans hB hg), hc⟩ (by rw [List.length_append]; show _ + 1 ≤ _; unfold maxLen; omega)
end Go.Proofs.YtnmaplgodimohaaDoor

/- The document's Gone. -/
set_option maxRecDepth 4000
namespace Go.Proofs.YtnmaplgodimohaaDoor
open Go Go.RowKit
set_option maxHeartbeats 1600000 in
theorem rgone_any (qb q : List (BitVec 8)) (w : World) (hqb : qb.length = 32) : Calls Tryd.prog 29 #[.agg (bs qb), .string (strB q)] w fun e w' => ∃ v, e = .returned (.tuple #[v, .int .i64 (goneE (decLT qb) q)]) ∧ w'.ownsRow w.heap.size 70 33 v (goneP (decLT qb) q).length ((goneP (decLT qb) q).map pcell).flatten ∧ Below w.heap.size w w' := by
  have HS := St.nil w noF
  refine enter_en Tryd.func29 rfl Tryd.ntmps29 (Nat.le_of_ble_eq_true rfl) fun a0 (HA0 : En 34 [(0, .agg (bs qb)), (1, .string (strB q))] a0) => ?_
  refine sq_ <| rl_ <| wl_ <| n_ HA0 rfl (fun _ h => dd_box HS rfl (HA0.ev 0 rfl) (cs := (bs qb)) rfl h) fun _ W1 HS1 _ H1 => q_ H1 2 rfl fun _ H2 => ln_ <| nx <| sq_ <| rl_ <| wl_ <| i_ H2 rfl (v := .agg (bs qb)) (dd_load HS1 0 0 rfl rfl (H2.ev 2 rfl) (slab_whole _) Tryd.underlying36 rfl (by rw [show (bs qb).size = 32 from ((size_bs _).trans hqb)]; kernel_rfl)) fun _ H3 => ?_
  clear HS HA0 H1 H2
  refine wl_ <| d_ H3 rfl (R := fun v w9 => ∃ A5 N5 C5 Bb5, v = .slice A5 N5 C5 ∧ ((volL (decLT qb)).length = N5 ∧ N5 ≤ 3) ∧ (W1.heap.size ≤ Bb5 ∧ Bb5 ≤ w9.heap.size) ∧ (OV Bb5 w9 (.slice A5 N5 C5) (volL (decLT qb))) ∧ Below W1.heap.size W1 w9) (dc_ Tryd.func39 rfl (args1 (H3.ev 10 rfl)) (rvolumes_any qb W1 hqb) (fun _ w9 ⟨v9, B9, he, h4, h5, ho, hb⟩ => by obtain ⟨A9, n9, c9, rfl, h1, _⟩ := OV.form2 ho; exact ⟨_, he, A9, n9, c9, B9, rfl, ⟨h1, by rw [← h1, len_volL]; exact decLT_len _⟩, ⟨h4, h5⟩, ho, hb⟩)) ?_
  rintro _ W4 ⟨A5, N5, C5, Bb5, rfl, hNd5, hBb5, hov5, hb4⟩ a4 H4
  have HS4 := HS1.same hb4
  clear H3
  have hln5 : (decLT qb).length = N5 := by rw [← len_volL]; exact hNd5.1
  have HBs6 : Below w.heap.size w W4 := HS4.below
  have HR6_0 := fun (W9 : World) (hb9 : Below W4.heap.size W4 W9) => (HS4.row 0 rfl).call hb9
  have HSb6 := St.nil W4 noF
  clear HS4
  have HVd5 := fun (W9 : World) (hb9 : Below W4.heap.size W4 W9) => ((hov5.vols (Nat.le_trans (Nat.le_of_eq hNd5.1) (Nat.le_trans hNd5.2 (by decide)))).below hb9 (Nat.le_refl _))
  clear HS1 hb4
  refine wl_ <| p_ H4 rfl rfl fun _ H7 => ln_ <| nx <| sq_ <| rl_ <| q_ H7 2 rfl fun _ H8 => ?_
  clear H4 H7
  have hfi10 := findI_is q (decLT qb)
  refine wl_ <| c_ H8 rfl HSb6 (dcs Tryd.func41 rfl (args2 (H8.ev 12 rfl) (H8.ev 13 rfl)) (rfind_any _ _ _ q (decLT qb) W4 (HVd5 _ HSb6.below) (Nat.le_trans hNd5.2 (by decide))) (.int .i64 (findI q (decLT qb)))) fun W9 HS9 a9 H9 => wl_ <| p_ H9 rfl rfl fun _ H11 => ln_ <| nx <| sq_ <| sq_ <| rl_ <| wl_ <| p_ H11 rfl rfl fun _ H12 => ?_
  clear H8 HSb6 H9 H11
  by_cases hc14 : (findI q (decLT qb) : Int) < 0
  ·
   refine wl_ <| i_ H12 rfl (dd_cmp rfl (H12.ev 15 rfl) rfl (lt_t hc14)) fun _ H15 => ln_ <| nx <| ct_ H15 rfl <| sq_ <| rl_ <| q_ H15 2 rfl fun _ H16 => ln_ <| nx <| wp_ret <| tr <| ret_run H16.env0 (res_tt Tryd.results29 (H16.get 4 rfl) (H16.get 5 rfl)) <| ?_
   clear H12 H15
   exact ⟨_, by rw [gone_E1 hc14], by rw [gone_P1 hc14]; exact World.ownsRow_nil _ _ _ _, (HBs6.trans (HS9.below.mono HBs6.size))⟩
  refine wl_ <| i_ H12 rfl (dd_cmp rfl (H12.ev 15 rfl) rfl (lt_f hc14)) fun _ H17 => ln_ <| nx <| cf_ H17 rfl <| wp_skip <| nx <| sq_ <| ?_
  clear H12
  obtain ⟨i, hi⟩ : ∃ i : Nat, findI q (decLT qb) = (i : Int) := ⟨(findI q (decLT qb)).toNat, by omega⟩
  obtain ⟨M, hMN⟩ : ∃ M, N5 = M + 1 := ⟨N5 - 1, by omega⟩
  obtain ⟨gd, cd, cbd, vsd, hvd, hBd, hrd, Od, hcd⟩ := ov_open hov5 (show 0 < (volL (decLT qb)).length by rw [len_volL]; omega)
  rw [show (volL (decLT qb)).length = M + 1 by rw [len_volL]; omega] at hvd Od
  have hNC := Od.le
  by_cases hc26 : (i + 1 : Int) < cd
  ·
   refine wp_cut (fun a9 w9 => ∃ g8 : Nat, ∃ g27_42 : Nat, ∃ cb27_42 : Array Value, ∃ c27_42 : Nat, OwnC cb27_42 c27_42 (0 + i + (M + 1 - (i + 1))) 2 ((vsd.flatten.take (i * 2)) ++ vsd.flatten.drop ((i + 1) * 2)) ∧ En 34 [(8, .pointer (some ⟨g8, 0, none⟩))] a9 ∧ St W4 noF [⟨g27_42, 81, cb27_42⟩, ⟨g8, 36, bs (encT (goneL (decLT qb) q))⟩] w9) ?_ ?_
   ·
    refine wi_ HS9 [] rfl [] rfl fun HSh28 hx28 => hp_ H17 1 hx28 rfl rfl rfl fun _ H29 => hp_ H29 2 hx28 rfl rfl rfl fun _ H30 => ht_ H30 3 hx28 rfl rfl (v := .slice (some ⟨gd, 0, none⟩) i cd) (fun _ _ _ => dd_slh (sz := 2) rfl ((H30.ev 19 rfl).trans hvd) ((H30.ev 20 rfl).trans (by rw [hi])) (by kernel_rfl) (by omega) (by omega) rfl) fun _ H31 => hp_ H31 5 hx28 rfl rfl rfl fun _ H32 => hp_ H32 6 hx28 rfl rfl rfl fun _ H33 => ht_ H33 7 hx28 rfl rfl (v := .int .i64 ((findI q (decLT qb)) + 1)) (fun _ _ _ => dd_ari rfl (H33.ev 24 rfl) rfl rfl (i64_of (by first | omega | (have := bd_lo; omega)) (by omega))) fun _ H34 => ht_ H34 8 hx28 rfl rfl (v := .slice (some ⟨gd, 0 + (i + 1) * 2, none⟩) (M + 1 - (i + 1)) (cd - (i + 1))) (fun _ _ _ => dd_sll (l := i + 1) (sz := 2) rfl ((H34.ev 23 rfl).trans hvd) (((H34.ev 25 rfl)).trans (by rw [hi]; rfl)) (by kernel_rfl) (by omega) (by omega) rfl rfl rfl) fun _ H35 => ?_
    clear HS9 H17 H29 H30 H31 H32 H33
    clear H34
    refine wpAnyH_all (rs := [0, 14]) (by kernel_rfl) (by decide) (hm_cons ?_ (hm_cons ?_ hm_nil))
    ·
     refine ho_ rfl <| n_ H35 rfl (A := fun g18 => .slice (some ⟨g18, 0, none⟩) 0 0) (fun _ h => dd_lit0 HSh28 rfl rfl Tryd.underlying75 (sz := 2) (by kernel_rfl) h) fun g18 _ HS36 _ H36 => sx_ (sxi HS36 [0] rfl) fun _ => ?_
     clear HSh28 H35
     refine wpAnyH_all (rs := [4, 14]) (by kernel_rfl) (by decide) (hm_cons ?_ (hm_cons ?_ hm_nil))
     ·
      refine ho_ rfl <| a_ H36 rfl (fun g22_39 c22_39 => .slice (some ⟨g22_39, 0, none⟩) (0 + i) c22_39) (T := fun _ c22_39 cb22_39 => OwnC cb22_39 c22_39 (0 + i) 2 (vsd.flatten.take (i * 2))) (fun _ h => dd_app HS36 0 rfl (ownc_nil0 2) rfl (H36.ev 18 rfl) (z := .agg #[.string (⟨#[]⟩), .slice none 0 0]) (bytes := 40) Tryd.underlying75 (by kernel_rfl) rfl (by decide) (vsd.flatten.take (i * 2)) (H36.ev 21 rfl) (by rw [List.length_take, Od.len]; omega) (del_take (hrd.call HS36.below) Od _) (fun u hu => one_volV hcd u (List.mem_of_mem_take hu)) (by unfold maxLen; omega) (by omega) h) fun g22_39 c22_39 cb22_39 _ O22_39 HS38 _ H38 => sx_ (sxi HS38 [0] rfl) fun _ => ?_
      clear HS36 H36
      refine wpAnyH_all (rs := [9, 14]) (by kernel_rfl) (by decide) (hm_cons ?_ (hm_cons ?_ hm_nil))
      ·
       refine ho_ rfl <| a_ H38 rfl (S := fun g27_42 cb27_42 => [⟨g27_42, 81, cb27_42⟩]) (fun g27_42 c27_42 => .slice (some ⟨g27_42, 0, none⟩) (0 + i + (M + 1 - (i + 1))) c27_42) (T := fun _ c27_42 cb27_42 => OwnC cb27_42 c27_42 (0 + i + (M + 1 - (i + 1))) 2 ((vsd.flatten.take (i * 2)) ++ vsd.flatten.drop ((i + 1) * 2))) (fun _ h => dd_app HS38 0 rfl O22_39 rfl (H38.ev 22 rfl) (z := .agg #[.string (⟨#[]⟩), .slice none 0 0]) (bytes := 40) Tryd.underlying75 (by kernel_rfl) rfl (by decide) (vsd.flatten.drop ((i + 1) * 2)) (H38.ev 26 rfl) (by rw [List.length_drop, Od.len]; omega) (del_cells (hrd.call HS38.below) Od (i + 1)) (fun u hu => one_volV hcd u (List.mem_of_mem_drop hu)) (by unfold maxLen; omega) (by omega) h) fun g27_42 c27_42 cb27_42 W41 O27_42 HS41 _ H41 => sx_ (sxi HS41 [0] rfl) fun _ => ?_
       clear HS38 H38
       refine wpAnyH_all (rs := [10, 14]) (by kernel_rfl) (by decide) (hm_cons ?_ (hm_cons ?_ hm_nil))
       ·
        refine ho_ rfl <| c_ H41 rfl HS41 (dcs Tryd.func43 rfl (args1 (H41.ev 27 rfl)) (renct_any _ _ _ (goneL (decLT qb) q) W41 (by rw [goneL_is hi, ← vol_erase]; exact gone_volsR (HS41.row 0 rfl) O27_42 hcd HS41.below hBb5.2 (st_fresh2 HS41 0 rfl) (show i < (volL (decLT qb)).length by rw [len_volL]; omega) (by rw [len_volL]; omega)) (by omega)) (.tuple #[.agg (bs (encT (goneL (decLT qb) q))), .int .i64 (encE (goneL (decLT qb) q))])) fun _ HS44 _ H44 => sx_ (sxi HS44 [0] rfl) fun hx45 => hp_ H44 11 hx45 rfl rfl rfl fun _ H46 => ht_ H46 12 hx45 rfl rfl (v := .agg (bs (encT (goneL (decLT qb) q)))) (fun _ _ _ => dd_ext rfl (H46.ev 17 rfl) rfl) fun _ H47 => ht_ H47 13 hx45 rfl rfl (v := .int .i64 (encE (goneL (decLT qb) q))) (fun _ _ _ => dd_ext rfl (H47.ev 17 rfl) rfl) fun _ H48 => h1_ 14 rfl <| n_ H48 rfl (fun _ h => dd_new HS44 (bs (zer 32)) rfl (z := .agg (bs (zer 32))) (by kernel_rfl) rfl h) fun g8 _ HS49 _ H49 => sx_ (sxi HS49 [0, 1] rfl) fun hx50 => h1_ 15 rfl <| t_ rfl (fun _ h => dd_setrow HS49 1 rfl rfl (H49.ev 8 rfl) (H49.ev 29 rfl) (by kernel_rfl) (((size_bs _).trans (length_encT _)) : (bs (encT (goneL (decLT qb) q))).size = 32) (((size_bs _).trans (length_zer 32)) : (bs (zer 32)).size = 32) (one_bs _) h) fun _ HS51 => ?_
        clear H41 HS41 H44 H46 H47 HS44 H48 hx45
        refine sx_ (sxi HS51 [0, 1] rfl) fun hx52 => hp_ H49 16 hx52 rfl rfl rfl fun _ H53 => ?_
        clear HS49 hx50 H49
        refine wpAnyH_done (by kernel_rfl) ?_ _
        clear hx52
        exact nx ⟨g8, _, cb27_42, c27_42, O27_42, H53.sel [8] rfl, ss HS51 [0, 1]⟩
       refine ho_ rfl <| n_ H41 rfl (fun _ h => dd_new HS41 (bs (zer 32)) rfl (z := .agg (bs (zer 32))) (by kernel_rfl) rfl h) fun g8 W54 HS54 _ H54 => sx_ (sxi HS54 [0, 1] rfl) fun hx55 => h1_ 10 rfl <| c_ H54 rfl HS54 (dcs Tryd.func43 rfl (args1 (H54.ev 27 rfl)) (renct_any _ _ _ (goneL (decLT qb) q) W54 (by rw [goneL_is hi, ← vol_erase]; exact gone_volsR (HS54.row 0 rfl) O27_42 hcd HS54.below hBb5.2 (st_fresh2 HS54 0 rfl) (show i < (volL (decLT qb)).length by rw [len_volL]; omega) (by rw [len_volL]; omega)) (by omega)) (.tuple #[.agg (bs (encT (goneL (decLT qb) q))), .int .i64 (encE (goneL (decLT qb) q))])) fun _ HS56 _ H56 => sx_ (sxi HS56 [0, 1] rfl) fun hx57 => hp_ H56 11 hx57 rfl rfl rfl fun _ H58 => ht_ H58 12 hx57 rfl rfl (v := .agg (bs (encT (goneL (decLT qb) q)))) (fun _ _ _ => dd_ext rfl (H58.ev 17 rfl) rfl) fun _ H59 => ht_ H59 13 hx57 rfl rfl (v := .int .i64 (encE (goneL (decLT qb) q))) (fun _ _ _ => dd_ext rfl (H59.ev 17 rfl) rfl) fun _ H60 => h1_ 15 rfl <| t_ rfl (fun _ h => dd_setrow HS56 1 rfl rfl (H60.ev 8 rfl) (H60.ev 29 rfl) (by kernel_rfl) (((size_bs _).trans (length_encT _)) : (bs (encT (goneL (decLT qb) q))).size = 32) (((size_bs _).trans (length_zer 32)) : (bs (zer 32)).size = 32) (one_bs _) h) fun _ HS61 => ?_
       clear HS41 H41 H54 HS54 hx55 H56 H58 H59
       refine sx_ (sxi HS61 [0, 1] rfl) fun hx62 => hp_ H60 16 hx62 rfl rfl rfl fun _ H63 => ?_
       clear HS56 hx57 H60
       refine wpAnyH_done (by kernel_rfl) ?_ _
       clear hx62
       exact nx ⟨g8, _, cb27_42, c27_42, O27_42, H63.sel [8] rfl, ss HS61 [0, 1]⟩
      refine ho_ rfl <| n_ H38 rfl (S := fun g8 => [⟨g22_39, 81, cb22_39⟩, ⟨g8, 36, bs (zer 32)⟩]) (fun _ h => dd_new HS38 (bs (zer 32)) rfl (z := .agg (bs (zer 32))) (by kernel_rfl) rfl h) fun g8 _ HS64 _ H64 => sx_ (sxi HS64 [0, 1] rfl) fun hx65 => h1_ 9 rfl <| a_ H64 rfl (fun g27_67 c27_67 => .slice (some ⟨g27_67, 0, none⟩) (0 + i + (M + 1 - (i + 1))) c27_67) (T := fun _ c27_67 cb27_67 => OwnC cb27_67 c27_67 (0 + i + (M + 1 - (i + 1))) 2 ((vsd.flatten.take (i * 2)) ++ vsd.flatten.drop ((i + 1) * 2))) (fun _ h => dd_app HS64 0 rfl O22_39 rfl (H64.ev 22 rfl) (z := .agg #[.string (⟨#[]⟩), .slice none 0 0]) (bytes := 40) Tryd.underlying75 (by kernel_rfl) rfl (by decide) (vsd.flatten.drop ((i + 1) * 2)) (H64.ev 26 rfl) (by rw [List.length_drop, Od.len]; omega) (del_cells (hrd.call HS64.below) Od (i + 1)) (fun u hu => one_volV hcd u (List.mem_of_mem_drop hu)) (by unfold maxLen; omega) (by omega) h) fun g27_67 c27_67 cb27_67 W66 O27_67 HS66 _ H66 => sx_ (sxi HS66 [0, 1] rfl) fun hx68 => h1_ 10 rfl <| c_ H66 rfl HS66 (dcs Tryd.func43 rfl (args1 (H66.ev 27 rfl)) (renct_any _ _ _ (goneL (decLT qb) q) W66 (by rw [goneL_is hi, ← vol_erase]; exact gone_volsR (HS66.row 1 rfl) O27_67 hcd HS66.below hBb5.2 (st_fresh2 HS66 1 rfl) (show i < (volL (decLT qb)).length by rw [len_volL]; omega) (by rw [len_volL]; omega)) (by omega)) (.tuple #[.agg (bs (encT (goneL (decLT qb) q))), .int .i64 (encE (goneL (decLT qb) q))])) fun _ HS69 _ H69 => sx_ (sxi HS69 [0, 1] rfl) fun hx70 => hp_ H69 11 hx70 rfl rfl rfl fun _ H71 => ht_ H71 12 hx70 rfl rfl (v := .agg (bs (encT (goneL (decLT qb) q)))) (fun _ _ _ => dd_ext rfl (H71.ev 17 rfl) rfl) fun _ H72 => ?_
      clear HS38 H38 HS64 H64 hx65 H66 HS66 hx68 H69
      refine ht_ H72 13 hx70 rfl rfl (v := .int .i64 (encE (goneL (decLT qb) q))) (fun _ _ _ => dd_ext rfl (H72.ev 17 rfl) rfl) fun _ H73 => h1_ 15 rfl <| t_ rfl (fun _ h => dd_setrow HS69 0 rfl rfl (H73.ev 8 rfl) (H73.ev 29 rfl) (by kernel_rfl) (((size_bs _).trans (length_encT _)) : (bs (encT (goneL (decLT qb) q))).size = 32) (((size_bs _).trans (length_zer 32)) : (bs (zer 32)).size = 32) (one_bs _) h) fun _ HS74 => sx_ (sxi HS74 [0, 1] rfl) fun hx75 => hp_ H73 16 hx75 rfl rfl rfl fun _ H76 => ?_
      clear H71 H72 HS69 hx70 H73
      refine wpAnyH_done (by kernel_rfl) ?_ _
      clear hx75
      exact nx ⟨g8, g27_67, cb27_67, c27_67, O27_67, H76.sel [8] rfl, ss HS74 [1, 0]⟩
     refine ho_ rfl <| n_ H36 rfl (fun _ h => dd_new HS36 (bs (zer 32)) rfl (z := .agg (bs (zer 32))) (by kernel_rfl) rfl h) fun g8 _ HS77 _ H77 => sx_ (sxi HS77 [0, 1] rfl) fun hx78 => h1_ 4 rfl <| a_ H77 rfl (S := fun g22_80 cb22_80 => [⟨g8, 36, bs (zer 32)⟩, ⟨g22_80, 81, cb22_80⟩]) (fun g22_80 c22_80 => .slice (some ⟨g22_80, 0, none⟩) (0 + i) c22_80) (T := fun _ c22_80 cb22_80 => OwnC cb22_80 c22_80 (0 + i) 2 (vsd.flatten.take (i * 2))) (fun _ h => dd_app HS77 0 rfl (ownc_nil0 2) rfl (H77.ev 18 rfl) (z := .agg #[.string (⟨#[]⟩), .slice none 0 0]) (bytes := 40) Tryd.underlying75 (by kernel_rfl) rfl (by decide) (vsd.flatten.take (i * 2)) (H77.ev 21 rfl) (by rw [List.length_take, Od.len]; omega) (del_take (hrd.call HS77.below) Od _) (fun u hu => one_volV hcd u (List.mem_of_mem_take hu)) (by unfold maxLen; omega) (by omega) h) fun g22_80 c22_80 cb22_80 _ O22_80 HS79 _ H79 => sx_ (sxi HS79 [0, 1] rfl) fun hx81 => h1_ 9 rfl <| a_ H79 rfl (fun g27_83 c27_83 => .slice (some ⟨g27_83, 0, none⟩) (0 + i + (M + 1 - (i + 1))) c27_83) (T := fun _ c27_83 cb27_83 => OwnC cb27_83 c27_83 (0 + i + (M + 1 - (i + 1))) 2 ((vsd.flatten.take (i * 2)) ++ vsd.flatten.drop ((i + 1) * 2))) (fun _ h => dd_app HS79 1 rfl O22_80 rfl (H79.ev 22 rfl) (z := .agg #[.string (⟨#[]⟩), .slice none 0 0]) (bytes := 40) Tryd.underlying75 (by kernel_rfl) rfl (by decide) (vsd.flatten.drop ((i + 1) * 2)) (H79.ev 26 rfl) (by rw [List.length_drop, Od.len]; omega) (del_cells (hrd.call HS79.below) Od (i + 1)) (fun u hu => one_volV hcd u (List.mem_of_mem_drop hu)) (by unfold maxLen; omega) (by omega) h) fun g27_83 c27_83 cb27_83 W82 O27_83 HS82 _ H82 => sx_ (sxi HS82 [0, 1] rfl) fun hx84 => h1_ 10 rfl <| c_ H82 rfl HS82 (dcs Tryd.func43 rfl (args1 (H82.ev 27 rfl)) (renct_any _ _ _ (goneL (decLT qb) q) W82 (by rw [goneL_is hi, ← vol_erase]; exact gone_volsR (HS82.row 1 rfl) O27_83 hcd HS82.below hBb5.2 (st_fresh2 HS82 1 rfl) (show i < (volL (decLT qb)).length by rw [len_volL]; omega) (by rw [len_volL]; omega)) (by omega)) (.tuple #[.agg (bs (encT (goneL (decLT qb) q))), .int .i64 (encE (goneL (decLT qb) q))])) fun _ HS85 _ H85 => sx_ (sxi HS85 [0, 1] rfl) fun hx86 => ?_
     clear HS36 H36 HS77 H77 hx78 HS79 H79 hx81 H82 HS82
     refine hp_ H85 11 hx86 rfl rfl rfl fun _ H87 => ht_ H87 12 hx86 rfl rfl (v := .agg (bs (encT (goneL (decLT qb) q)))) (fun _ _ _ => dd_ext rfl (H87.ev 17 rfl) rfl) fun _ H88 => ht_ H88 13 hx86 rfl rfl (v := .int .i64 (encE (goneL (decLT qb) q))) (fun _ _ _ => dd_ext rfl (H88.ev 17 rfl) rfl) fun _ H89 => h1_ 15 rfl <| t_ rfl (fun _ h => dd_setrow HS85 0 rfl rfl (H89.ev 8 rfl) (H89.ev 29 rfl) (by kernel_rfl) (((size_bs _).trans (length_encT _)) : (bs (encT (goneL (decLT qb) q))).size = 32) (((size_bs _).trans (length_zer 32)) : (bs (zer 32)).size = 32) (one_bs _) h) fun _ HS90 => sx_ (sxi HS90 [0, 1] rfl) fun hx91 => hp_ H89 16 hx91 rfl rfl rfl fun _ H92 => ?_
     clear hx84 H85 H87 H88 HS85 hx86 H89
     refine wpAnyH_done (by kernel_rfl) ?_ _
     clear hx91
     exact nx ⟨g8, g27_83, cb27_83, c27_83, O27_83, H92.sel [8] rfl, ss HS90 [1, 0]⟩
    refine ho_ rfl <| n_ H35 rfl (fun _ h => dd_new HSh28 (bs (zer 32)) rfl (z := .agg (bs (zer 32))) (by kernel_rfl) rfl h) fun g8 _ HS93 _ H93 => sx_ (sxi HS93 [0] rfl) fun hx94 => h1_ 0 rfl <| n_ H93 rfl (A := fun g18 => .slice (some ⟨g18, 0, none⟩) 0 0) (fun _ h => dd_lit0 HS93 rfl rfl Tryd.underlying75 (sz := 2) (by kernel_rfl) h) fun g18 _ HS95 _ H95 => sx_ (sxi HS95 [0, 1] rfl) fun hx96 => h1_ 4 rfl <| a_ H95 rfl (S := fun g22_98 cb22_98 => [⟨g8, 36, bs (zer 32)⟩, ⟨g22_98, 81, cb22_98⟩]) (fun g22_98 c22_98 => .slice (some ⟨g22_98, 0, none⟩) (0 + i) c22_98) (T := fun _ c22_98 cb22_98 => OwnC cb22_98 c22_98 (0 + i) 2 (vsd.flatten.take (i * 2))) (fun _ h => dd_app HS95 1 rfl (ownc_nil0 2) rfl (H95.ev 18 rfl) (z := .agg #[.string (⟨#[]⟩), .slice none 0 0]) (bytes := 40) Tryd.underlying75 (by kernel_rfl) rfl (by decide) (vsd.flatten.take (i * 2)) (H95.ev 21 rfl) (by rw [List.length_take, Od.len]; omega) (del_take (hrd.call HS95.below) Od _) (fun u hu => one_volV hcd u (List.mem_of_mem_take hu)) (by unfold maxLen; omega) (by omega) h) fun g22_98 c22_98 cb22_98 _ O22_98 HS97 _ H97 => sx_ (sxi HS97 [0, 1] rfl) fun hx99 => h1_ 9 rfl <| a_ H97 rfl (fun g27_101 c27_101 => .slice (some ⟨g27_101, 0, none⟩) (0 + i + (M + 1 - (i + 1))) c27_101) (T := fun _ c27_101 cb27_101 => OwnC cb27_101 c27_101 (0 + i + (M + 1 - (i + 1))) 2 ((vsd.flatten.take (i * 2)) ++ vsd.flatten.drop ((i + 1) * 2))) (fun _ h => dd_app HS97 1 rfl O22_98 rfl (H97.ev 22 rfl) (z := .agg #[.string (⟨#[]⟩), .slice none 0 0]) (bytes := 40) Tryd.underlying75 (by kernel_rfl) rfl (by decide) (vsd.flatten.drop ((i + 1) * 2)) (H97.ev 26 rfl) (by rw [List.length_drop, Od.len]; omega) (del_cells (hrd.call HS97.below) Od (i + 1)) (fun u hu => one_volV hcd u (List.mem_of_mem_drop hu)) (by unfold maxLen; omega) (by omega) h) fun g27_101 c27_101 cb27_101 W100 O27_101 HS100 _ H100 => sx_ (sxi HS100 [0, 1] rfl) fun hx102 => ?_
    clear HSh28 H35 HS93 H93 hx94 HS95 H95 hx96 HS97 H97
    refine h1_ 10 rfl <| c_ H100 rfl HS100 (dcs Tryd.func43 rfl (args1 (H100.ev 27 rfl)) (renct_any _ _ _ (goneL (decLT qb) q) W100 (by rw [goneL_is hi, ← vol_erase]; exact gone_volsR (HS100.row 1 rfl) O27_101 hcd HS100.below hBb5.2 (st_fresh2 HS100 1 rfl) (show i < (volL (decLT qb)).length by rw [len_volL]; omega) (by rw [len_volL]; omega)) (by omega)) (.tuple #[.agg (bs (encT (goneL (decLT qb) q))), .int .i64 (encE (goneL (decLT qb) q))])) fun _ HS103 _ H103 => sx_ (sxi HS103 [0, 1] rfl) fun hx104 => hp_ H103 11 hx104 rfl rfl rfl fun _ H105 => ht_ H105 12 hx104 rfl rfl (v := .agg (bs (encT (goneL (decLT qb) q)))) (fun _ _ _ => dd_ext rfl (H105.ev 17 rfl) rfl) fun _ H106 => ht_ H106 13 hx104 rfl rfl (v := .int .i64 (encE (goneL (decLT qb) q))) (fun _ _ _ => dd_ext rfl (H106.ev 17 rfl) rfl) fun _ H107 => h1_ 15 rfl <| t_ rfl (fun _ h => dd_setrow HS103 0 rfl rfl (H107.ev 8 rfl) (H107.ev 29 rfl) (by kernel_rfl) (((size_bs _).trans (length_encT _)) : (bs (encT (goneL (decLT qb) q))).size = 32) (((size_bs _).trans (length_zer 32)) : (bs (zer 32)).size = 32) (one_bs _) h) fun _ HS108 => sx_ (sxi HS108 [0, 1] rfl) fun hx109 => hp_ H107 16 hx109 rfl rfl rfl fun _ H110 => ?_
    clear hx99 H100 HS100 hx102 H103 H105 H106 HS103 hx104
    clear H107
    refine wpAnyH_done (by kernel_rfl) ?_ _
    clear hx109
    exact nx ⟨g8, g27_101, cb27_101, c27_101, O27_101, H110.sel [8] rfl, ss HS108 [1, 0]⟩
   rintro aj28 wj28 ⟨g8, g27_42, cb27_42, c27_42, O27_42, Hj28, HSj28⟩
   refine nx <| sq_ <| rl_ <| wl_ <| i_ Hj28 rfl (v := .agg (bs (encT (goneL (decLT qb) q)))) (dd_load HSj28 1 0 rfl rfl (Hj28.ev 8 rfl) (slab_whole _) Tryd.underlying36 rfl (by rw [show (bs (encT (goneL (decLT qb) q))).size = 32 from ((size_bs _).trans (length_encT _))]; kernel_rfl)) fun _ H112 => wl_ <| i_ H112 rfl (v := .agg (catA [[.int .i64 0], bytesV (encT (goneL (decLT qb) q))])) (dd_bld rfl (ps := [(1, .agg (bs (encT (goneL (decLT qb) q))))]) (pr1 (H112.ev 31 rfl) (pr0)) (Lz := [[.int .i64 0], bytesV (zer 32)]) (by kernel_rfl) (lens_cons rfl (lens_cons (len_bv (length_zer 32)) (lens_nil))) (fit_cons (i := 1) rfl ((size_bs _).trans (length_encT _)) (fit_nil)) (cs := catA [[.int .i64 0], bytesV (encT (goneL (decLT qb) q))]) rfl) fun _ H113 => wl_ <| n_ H113 rfl (fun _ h => dd_lit1 HSj28 (z := .agg (catA [[.int .i64 0], bytesV (zer 32)])) (sz := 33) rfl (H113.ev 32 rfl) Tryd.underlying51 (by kernel_rfl) (cat_size (lens_cons rfl (lens_cons (len_bv (length_encT _)) (lens_nil)))) rfl rfl h) fun g33 _ HS114 _ H114 => q_ H114 2 rfl fun _ H115 => ln_ <| nx <| wp_ret <| ret_run H115.env0 (res_tt Tryd.results29 (H115.get 4 rfl) (H115.get 5 rfl)) <| ?_
   clear Hj28 H112 HSj28 H113 H114
   exact ⟨_, by rw [gone_E0 hc14], own_puts (gone_P0 hc14) (by rw [gone_P0 hc14]) (own_put1 (HS114.row 2 rfl) (length_encT _) (Nat.le_trans (HBs6).size (st_fresh2 HS114 2 rfl))), (HBs6.trans (HS114.below.mono HBs6.size))⟩
  refine wp_cut (fun a9 w9 => ∃ g8 : Nat, ∃ g27_131 : Nat, ∃ cb27_131 : Array Value, ∃ c27_131 : Nat, OwnC cb27_131 c27_131 (0 + i + 0) 2 ((vsd.flatten.take (i * 2)) ++ ([] : List Value)) ∧ En 34 [(8, .pointer (some ⟨g8, 0, none⟩))] a9 ∧ St W4 noF [⟨g27_131, 81, cb27_131⟩, ⟨g8, 36, bs (encT (goneL (decLT qb) q))⟩] w9) ?_ ?_
  ·
   refine wi_ HS9 [] rfl [] rfl fun HSh117 hx117 => hp_ H17 1 hx117 rfl rfl rfl fun _ H118 => hp_ H118 2 hx117 rfl rfl rfl fun _ H119 => ht_ H119 3 hx117 rfl rfl (v := .slice (some ⟨gd, 0, none⟩) i cd) (fun _ _ _ => dd_slh (sz := 2) rfl ((H119.ev 19 rfl).trans hvd) ((H119.ev 20 rfl).trans (by rw [hi])) (by kernel_rfl) (by omega) (by omega) rfl) fun _ H120 => hp_ H120 5 hx117 rfl rfl rfl fun _ H121 => hp_ H121 6 hx117 rfl rfl rfl fun _ H122 => ht_ H122 7 hx117 rfl rfl (v := .int .i64 ((findI q (decLT qb)) + 1)) (fun _ _ _ => dd_ari rfl (H122.ev 24 rfl) rfl rfl (i64_of (by first | omega | (have := bd_lo; omega)) (by omega))) fun _ H123 => ht_ H123 8 hx117 rfl rfl (v := .slice (some ⟨gd, 0, none⟩) 0 0) (fun _ _ _ => dd_slE (l := i + 1) (sz := 2) rfl ((H123.ev 23 rfl).trans hvd) (((H123.ev 25 rfl)).trans (by rw [hi]; rfl)) (by kernel_rfl) (by omega) (by omega)) fun _ H124 => ?_
   clear HS9 H17 H118 H119 H120 H121 H122
   clear H123
   refine wpAnyH_all (rs := [0, 14]) (by kernel_rfl) (by decide) (hm_cons ?_ (hm_cons ?_ hm_nil))
   ·
    refine ho_ rfl <| n_ H124 rfl (A := fun g18 => .slice (some ⟨g18, 0, none⟩) 0 0) (fun _ h => dd_lit0 HSh117 rfl rfl Tryd.underlying75 (sz := 2) (by kernel_rfl) h) fun g18 _ HS125 _ H125 => sx_ (sxi HS125 [0] rfl) fun _ => ?_
    clear HSh117 H124
    refine wpAnyH_all (rs := [4, 14]) (by kernel_rfl) (by decide) (hm_cons ?_ (hm_cons ?_ hm_nil))
    ·
     refine ho_ rfl <| a_ H125 rfl (fun g22_128 c22_128 => .slice (some ⟨g22_128, 0, none⟩) (0 + i) c22_128) (T := fun _ c22_128 cb22_128 => OwnC cb22_128 c22_128 (0 + i) 2 (vsd.flatten.take (i * 2))) (fun _ h => dd_app HS125 0 rfl (ownc_nil0 2) rfl (H125.ev 18 rfl) (z := .agg #[.string (⟨#[]⟩), .slice none 0 0]) (bytes := 40) Tryd.underlying75 (by kernel_rfl) rfl (by decide) (vsd.flatten.take (i * 2)) (H125.ev 21 rfl) (by rw [List.length_take, Od.len]; omega) (del_take (hrd.call HS125.below) Od _) (fun u hu => one_volV hcd u (List.mem_of_mem_take hu)) (by unfold maxLen; omega) (by omega) h) fun g22_128 c22_128 cb22_128 _ O22_128 HS127 _ H127 => sx_ (sxi HS127 [0] rfl) fun _ => ?_
     clear HS125 H125
     refine wpAnyH_all (rs := [9, 14]) (by kernel_rfl) (by decide) (hm_cons ?_ (hm_cons ?_ hm_nil))
     ·
      refine ho_ rfl <| a_ H127 rfl (S := fun g27_131 cb27_131 => [⟨g27_131, 81, cb27_131⟩]) (fun g27_131 c27_131 => .slice (some ⟨g27_131, 0, none⟩) (0 + i + 0) c27_131) (T := fun _ c27_131 cb27_131 => OwnC cb27_131 c27_131 (0 + i + 0) 2 ((vsd.flatten.take (i * 2)) ++ ([] : List Value))) (fun _ h => dd_app HS127 0 rfl O22_128 rfl (H127.ev 22 rfl) (z := .agg #[.string (⟨#[]⟩), .slice none 0 0]) (bytes := 40) Tryd.underlying75 (by kernel_rfl) rfl (by decide) (([] : List Value)) (H127.ev 26 rfl) rfl (fun j u h9 => by simp at h9) (fun u h9 => by cases h9) (by unfold maxLen; omega) (by omega) h) fun g27_131 c27_131 cb27_131 W130 O27_131 HS130 _ H130 => sx_ (sxi HS130 [0] rfl) fun _ => ?_
      clear HS127 H127
      refine wpAnyH_all (rs := [10, 14]) (by kernel_rfl) (by decide) (hm_cons ?_ (hm_cons ?_ hm_nil))
      ·
       refine ho_ rfl <| c_ H130 rfl HS130 (dcs Tryd.func43 rfl (args1 (H130.ev 27 rfl)) (renct_any _ _ _ (goneL (decLT qb) q) W130 (by rw [goneL_is hi, ← vol_erase]; exact gone_volsR (HS130.row 0 rfl) (del_own O27_131 rfl (by rw [List.drop_of_length_le (show vsd.flatten.length ≤ _ by rw [Od.len]; omega)])) hcd HS130.below hBb5.2 (st_fresh2 HS130 0 rfl) (show i < (volL (decLT qb)).length by rw [len_volL]; omega) (by rw [len_volL]; omega)) (by omega)) (.tuple #[.agg (bs (encT (goneL (decLT qb) q))), .int .i64 (encE (goneL (decLT qb) q))])) fun _ HS133 _ H133 => sx_ (sxi HS133 [0] rfl) fun hx134 => hp_ H133 11 hx134 rfl rfl rfl fun _ H135 => ht_ H135 12 hx134 rfl rfl (v := .agg (bs (encT (goneL (decLT qb) q)))) (fun _ _ _ => dd_ext rfl (H135.ev 17 rfl) rfl) fun _ H136 => ht_ H136 13 hx134 rfl rfl (v := .int .i64 (encE (goneL (decLT qb) q))) (fun _ _ _ => dd_ext rfl (H136.ev 17 rfl) rfl) fun _ H137 => h1_ 14 rfl <| n_ H137 rfl (fun _ h => dd_new HS133 (bs (zer 32)) rfl (z := .agg (bs (zer 32))) (by kernel_rfl) rfl h) fun g8 _ HS138 _ H138 => sx_ (sxi HS138 [0, 1] rfl) fun hx139 => h1_ 15 rfl <| t_ rfl (fun _ h => dd_setrow HS138 1 rfl rfl (H138.ev 8 rfl) (H138.ev 29 rfl) (by kernel_rfl) (((size_bs _).trans (length_encT _)) : (bs (encT (goneL (decLT qb) q))).size = 32) (((size_bs _).trans (length_zer 32)) : (bs (zer 32)).size = 32) (one_bs _) h) fun _ HS140 => ?_
       clear H130 HS130 H133 H135 H136 HS133 H137 hx134
       refine sx_ (sxi HS140 [0, 1] rfl) fun hx141 => hp_ H138 16 hx141 rfl rfl rfl fun _ H142 => ?_
       clear HS138 hx139 H138
       refine wpAnyH_done (by kernel_rfl) ?_ _
       clear hx141
       exact nx ⟨g8, _, cb27_131, c27_131, O27_131, H142.sel [8] rfl, ss HS140 [0, 1]⟩
      refine ho_ rfl <| n_ H130 rfl (fun _ h => dd_new HS130 (bs (zer 32)) rfl (z := .agg (bs (zer 32))) (by kernel_rfl) rfl h) fun g8 W143 HS143 _ H143 => sx_ (sxi HS143 [0, 1] rfl) fun hx144 => h1_ 10 rfl <| c_ H143 rfl HS143 (dcs Tryd.func43 rfl (args1 (H143.ev 27 rfl)) (renct_any _ _ _ (goneL (decLT qb) q) W143 (by rw [goneL_is hi, ← vol_erase]; exact gone_volsR (HS143.row 0 rfl) (del_own O27_131 rfl (by rw [List.drop_of_length_le (show vsd.flatten.length ≤ _ by rw [Od.len]; omega)])) hcd HS143.below hBb5.2 (st_fresh2 HS143 0 rfl) (show i < (volL (decLT qb)).length by rw [len_volL]; omega) (by rw [len_volL]; omega)) (by omega)) (.tuple #[.agg (bs (encT (goneL (decLT qb) q))), .int .i64 (encE (goneL (decLT qb) q))])) fun _ HS145 _ H145 => sx_ (sxi HS145 [0, 1] rfl) fun hx146 => hp_ H145 11 hx146 rfl rfl rfl fun _ H147 => ht_ H147 12 hx146 rfl rfl (v := .agg (bs (encT (goneL (decLT qb) q)))) (fun _ _ _ => dd_ext rfl (H147.ev 17 rfl) rfl) fun _ H148 => ht_ H148 13 hx146 rfl rfl (v := .int .i64 (encE (goneL (decLT qb) q))) (fun _ _ _ => dd_ext rfl (H148.ev 17 rfl) rfl) fun _ H149 => h1_ 15 rfl <| t_ rfl (fun _ h => dd_setrow HS145 1 rfl rfl (H149.ev 8 rfl) (H149.ev 29 rfl) (by kernel_rfl) (((size_bs _).trans (length_encT _)) : (bs (encT (goneL (decLT qb) q))).size = 32) (((size_bs _).trans (length_zer 32)) : (bs (zer 32)).size = 32) (one_bs _) h) fun _ HS150 => ?_
      clear HS130 H130 H143 HS143 hx144 H145 H147 H148
      refine sx_ (sxi HS150 [0, 1] rfl) fun hx151 => hp_ H149 16 hx151 rfl rfl rfl fun _ H152 => ?_
      clear HS145 hx146 H149
      refine wpAnyH_done (by kernel_rfl) ?_ _
      clear hx151
      exact nx ⟨g8, _, cb27_131, c27_131, O27_131, H152.sel [8] rfl, ss HS150 [0, 1]⟩
     refine ho_ rfl <| n_ H127 rfl (S := fun g8 => [⟨g22_128, 81, cb22_128⟩, ⟨g8, 36, bs (zer 32)⟩]) (fun _ h => dd_new HS127 (bs (zer 32)) rfl (z := .agg (bs (zer 32))) (by kernel_rfl) rfl h) fun g8 _ HS153 _ H153 => sx_ (sxi HS153 [0, 1] rfl) fun hx154 => h1_ 9 rfl <| a_ H153 rfl (fun g27_156 c27_156 => .slice (some ⟨g27_156, 0, none⟩) (0 + i + 0) c27_156) (T := fun _ c27_156 cb27_156 => OwnC cb27_156 c27_156 (0 + i + 0) 2 ((vsd.flatten.take (i * 2)) ++ ([] : List Value))) (fun _ h => dd_app HS153 0 rfl O22_128 rfl (H153.ev 22 rfl) (z := .agg #[.string (⟨#[]⟩), .slice none 0 0]) (bytes := 40) Tryd.underlying75 (by kernel_rfl) rfl (by decide) (([] : List Value)) (H153.ev 26 rfl) rfl (fun j u h9 => by simp at h9) (fun u h9 => by cases h9) (by unfold maxLen; omega) (by omega) h) fun g27_156 c27_156 cb27_156 W155 O27_156 HS155 _ H155 => sx_ (sxi HS155 [0, 1] rfl) fun hx157 => h1_ 10 rfl <| c_ H155 rfl HS155 (dcs Tryd.func43 rfl (args1 (H155.ev 27 rfl)) (renct_any _ _ _ (goneL (decLT qb) q) W155 (by rw [goneL_is hi, ← vol_erase]; exact gone_volsR (HS155.row 1 rfl) (del_own O27_156 rfl (by rw [List.drop_of_length_le (show vsd.flatten.length ≤ _ by rw [Od.len]; omega)])) hcd HS155.below hBb5.2 (st_fresh2 HS155 1 rfl) (show i < (volL (decLT qb)).length by rw [len_volL]; omega) (by rw [len_volL]; omega)) (by omega)) (.tuple #[.agg (bs (encT (goneL (decLT qb) q))), .int .i64 (encE (goneL (decLT qb) q))])) fun _ HS158 _ H158 => sx_ (sxi HS158 [0, 1] rfl) fun hx159 => hp_ H158 11 hx159 rfl rfl rfl fun _ H160 => ht_ H160 12 hx159 rfl rfl (v := .agg (bs (encT (goneL (decLT qb) q)))) (fun _ _ _ => dd_ext rfl (H160.ev 17 rfl) rfl) fun _ H161 => ?_
     clear HS127 H127 HS153 H153 hx154 H155 HS155 hx157 H158
     refine ht_ H161 13 hx159 rfl rfl (v := .int .i64 (encE (goneL (decLT qb) q))) (fun _ _ _ => dd_ext rfl (H161.ev 17 rfl) rfl) fun _ H162 => h1_ 15 rfl <| t_ rfl (fun _ h => dd_setrow HS158 0 rfl rfl (H162.ev 8 rfl) (H162.ev 29 rfl) (by kernel_rfl) (((size_bs _).trans (length_encT _)) : (bs (encT (goneL (decLT qb) q))).size = 32) (((size_bs _).trans (length_zer 32)) : (bs (zer 32)).size = 32) (one_bs _) h) fun _ HS163 => sx_ (sxi HS163 [0, 1] rfl) fun hx164 => hp_ H162 16 hx164 rfl rfl rfl fun _ H165 => ?_
     clear H160 H161 HS158 hx159 H162
     refine wpAnyH_done (by kernel_rfl) ?_ _
     clear hx164
     exact nx ⟨g8, g27_156, cb27_156, c27_156, O27_156, H165.sel [8] rfl, ss HS163 [1, 0]⟩
    refine ho_ rfl <| n_ H125 rfl (fun _ h => dd_new HS125 (bs (zer 32)) rfl (z := .agg (bs (zer 32))) (by kernel_rfl) rfl h) fun g8 _ HS166 _ H166 => sx_ (sxi HS166 [0, 1] rfl) fun hx167 => h1_ 4 rfl <| a_ H166 rfl (S := fun g22_169 cb22_169 => [⟨g8, 36, bs (zer 32)⟩, ⟨g22_169, 81, cb22_169⟩]) (fun g22_169 c22_169 => .slice (some ⟨g22_169, 0, none⟩) (0 + i) c22_169) (T := fun _ c22_169 cb22_169 => OwnC cb22_169 c22_169 (0 + i) 2 (vsd.flatten.take (i * 2))) (fun _ h => dd_app HS166 0 rfl (ownc_nil0 2) rfl (H166.ev 18 rfl) (z := .agg #[.string (⟨#[]⟩), .slice none 0 0]) (bytes := 40) Tryd.underlying75 (by kernel_rfl) rfl (by decide) (vsd.flatten.take (i * 2)) (H166.ev 21 rfl) (by rw [List.length_take, Od.len]; omega) (del_take (hrd.call HS166.below) Od _) (fun u hu => one_volV hcd u (List.mem_of_mem_take hu)) (by unfold maxLen; omega) (by omega) h) fun g22_169 c22_169 cb22_169 _ O22_169 HS168 _ H168 => sx_ (sxi HS168 [0, 1] rfl) fun hx170 => h1_ 9 rfl <| a_ H168 rfl (fun g27_172 c27_172 => .slice (some ⟨g27_172, 0, none⟩) (0 + i + 0) c27_172) (T := fun _ c27_172 cb27_172 => OwnC cb27_172 c27_172 (0 + i + 0) 2 ((vsd.flatten.take (i * 2)) ++ ([] : List Value))) (fun _ h => dd_app HS168 1 rfl O22_169 rfl (H168.ev 22 rfl) (z := .agg #[.string (⟨#[]⟩), .slice none 0 0]) (bytes := 40) Tryd.underlying75 (by kernel_rfl) rfl (by decide) (([] : List Value)) (H168.ev 26 rfl) rfl (fun j u h9 => by simp at h9) (fun u h9 => by cases h9) (by unfold maxLen; omega) (by omega) h) fun g27_172 c27_172 cb27_172 W171 O27_172 HS171 _ H171 => sx_ (sxi HS171 [0, 1] rfl) fun hx173 => h1_ 10 rfl <| c_ H171 rfl HS171 (dcs Tryd.func43 rfl (args1 (H171.ev 27 rfl)) (renct_any _ _ _ (goneL (decLT qb) q) W171 (by rw [goneL_is hi, ← vol_erase]; exact gone_volsR (HS171.row 1 rfl) (del_own O27_172 rfl (by rw [List.drop_of_length_le (show vsd.flatten.length ≤ _ by rw [Od.len]; omega)])) hcd HS171.below hBb5.2 (st_fresh2 HS171 1 rfl) (show i < (volL (decLT qb)).length by rw [len_volL]; omega) (by rw [len_volL]; omega)) (by omega)) (.tuple #[.agg (bs (encT (goneL (decLT qb) q))), .int .i64 (encE (goneL (decLT qb) q))])) fun _ HS174 _ H174 => sx_ (sxi HS174 [0, 1] rfl) fun hx175 => ?_
    clear HS125 H125 HS166 H166 hx167 HS168 H168 hx170 H171 HS171
    refine hp_ H174 11 hx175 rfl rfl rfl fun _ H176 => ht_ H176 12 hx175 rfl rfl (v := .agg (bs (encT (goneL (decLT qb) q)))) (fun _ _ _ => dd_ext rfl (H176.ev 17 rfl) rfl) fun _ H177 => ht_ H177 13 hx175 rfl rfl (v := .int .i64 (encE (goneL (decLT qb) q))) (fun _ _ _ => dd_ext rfl (H177.ev 17 rfl) rfl) fun _ H178 => h1_ 15 rfl <| t_ rfl (fun _ h => dd_setrow HS174 0 rfl rfl (H178.ev 8 rfl) (H178.ev 29 rfl) (by kernel_rfl) (((size_bs _).trans (length_encT _)) : (bs (encT (goneL (decLT qb) q))).size = 32) (((size_bs _).trans (length_zer 32)) : (bs (zer 32)).size = 32) (one_bs _) h) fun _ HS179 => sx_ (sxi HS179 [0, 1] rfl) fun hx180 => hp_ H178 16 hx180 rfl rfl rfl fun _ H181 => ?_
    clear hx173 H174 H176 H177 HS174 hx175 H178
    refine wpAnyH_done (by kernel_rfl) ?_ _
    clear hx180
    exact nx ⟨g8, g27_172, cb27_172, c27_172, O27_172, H181.sel [8] rfl, ss HS179 [1, 0]⟩
   refine ho_ rfl <| n_ H124 rfl (fun _ h => dd_new HSh117 (bs (zer 32)) rfl (z := .agg (bs (zer 32))) (by kernel_rfl) rfl h) fun g8 _ HS182 _ H182 => sx_ (sxi HS182 [0] rfl) fun hx183 => h1_ 0 rfl <| n_ H182 rfl (A := fun g18 => .slice (some ⟨g18, 0, none⟩) 0 0) (fun _ h => dd_lit0 HS182 rfl rfl Tryd.underlying75 (sz := 2) (by kernel_rfl) h) fun g18 _ HS184 _ H184 => sx_ (sxi HS184 [0, 1] rfl) fun hx185 => h1_ 4 rfl <| a_ H184 rfl (S := fun g22_187 cb22_187 => [⟨g8, 36, bs (zer 32)⟩, ⟨g22_187, 81, cb22_187⟩]) (fun g22_187 c22_187 => .slice (some ⟨g22_187, 0, none⟩) (0 + i) c22_187) (T := fun _ c22_187 cb22_187 => OwnC cb22_187 c22_187 (0 + i) 2 (vsd.flatten.take (i * 2))) (fun _ h => dd_app HS184 1 rfl (ownc_nil0 2) rfl (H184.ev 18 rfl) (z := .agg #[.string (⟨#[]⟩), .slice none 0 0]) (bytes := 40) Tryd.underlying75 (by kernel_rfl) rfl (by decide) (vsd.flatten.take (i * 2)) (H184.ev 21 rfl) (by rw [List.length_take, Od.len]; omega) (del_take (hrd.call HS184.below) Od _) (fun u hu => one_volV hcd u (List.mem_of_mem_take hu)) (by unfold maxLen; omega) (by omega) h) fun g22_187 c22_187 cb22_187 _ O22_187 HS186 _ H186 => sx_ (sxi HS186 [0, 1] rfl) fun hx188 => h1_ 9 rfl <| a_ H186 rfl (fun g27_190 c27_190 => .slice (some ⟨g27_190, 0, none⟩) (0 + i + 0) c27_190) (T := fun _ c27_190 cb27_190 => OwnC cb27_190 c27_190 (0 + i + 0) 2 ((vsd.flatten.take (i * 2)) ++ ([] : List Value))) (fun _ h => dd_app HS186 1 rfl O22_187 rfl (H186.ev 22 rfl) (z := .agg #[.string (⟨#[]⟩), .slice none 0 0]) (bytes := 40) Tryd.underlying75 (by kernel_rfl) rfl (by decide) (([] : List Value)) (H186.ev 26 rfl) rfl (fun j u h9 => by simp at h9) (fun u h9 => by cases h9) (by unfold maxLen; omega) (by omega) h) fun g27_190 c27_190 cb27_190 W189 O27_190 HS189 _ H189 => sx_ (sxi HS189 [0, 1] rfl) fun hx191 => ?_
   clear HSh117 H124 HS182 H182 hx183 HS184 H184 hx185 HS186 H186
   refine h1_ 10 rfl <| c_ H189 rfl HS189 (dcs Tryd.func43 rfl (args1 (H189.ev 27 rfl)) (renct_any _ _ _ (goneL (decLT qb) q) W189 (by rw [goneL_is hi, ← vol_erase]; exact gone_volsR (HS189.row 1 rfl) (del_own O27_190 rfl (by rw [List.drop_of_length_le (show vsd.flatten.length ≤ _ by rw [Od.len]; omega)])) hcd HS189.below hBb5.2 (st_fresh2 HS189 1 rfl) (show i < (volL (decLT qb)).length by rw [len_volL]; omega) (by rw [len_volL]; omega)) (by omega)) (.tuple #[.agg (bs (encT (goneL (decLT qb) q))), .int .i64 (encE (goneL (decLT qb) q))])) fun _ HS192 _ H192 => sx_ (sxi HS192 [0, 1] rfl) fun hx193 => hp_ H192 11 hx193 rfl rfl rfl fun _ H194 => ht_ H194 12 hx193 rfl rfl (v := .agg (bs (encT (goneL (decLT qb) q)))) (fun _ _ _ => dd_ext rfl (H194.ev 17 rfl) rfl) fun _ H195 => ht_ H195 13 hx193 rfl rfl (v := .int .i64 (encE (goneL (decLT qb) q))) (fun _ _ _ => dd_ext rfl (H195.ev 17 rfl) rfl) fun _ H196 => h1_ 15 rfl <| t_ rfl (fun _ h => dd_setrow HS192 0 rfl rfl (H196.ev 8 rfl) (H196.ev 29 rfl) (by kernel_rfl) (((size_bs _).trans (length_encT _)) : (bs (encT (goneL (decLT qb) q))).size = 32) (((size_bs _).trans (length_zer 32)) : (bs (zer 32)).size = 32) (one_bs _) h) fun _ HS197 => sx_ (sxi HS197 [0, 1] rfl) fun hx198 => hp_ H196 16 hx198 rfl rfl rfl fun _ H199 => ?_
   clear hx188 H189 HS189 hx191 H192 H194 H195 HS192 hx193
   clear H196
   refine wpAnyH_done (by kernel_rfl) ?_ _
   clear hx198
   exact nx ⟨g8, g27_190, cb27_190, c27_190, O27_190, H199.sel [8] rfl, ss HS197 [1, 0]⟩
  rintro aj117 wj117 ⟨g8, g27_131, cb27_131, c27_131, O27_131, Hj117, HSj117⟩
  refine nx <| sq_ <| rl_ <| wl_ <| i_ Hj117 rfl (v := .agg (bs (encT (goneL (decLT qb) q)))) (dd_load HSj117 1 0 rfl rfl (Hj117.ev 8 rfl) (slab_whole _) Tryd.underlying36 rfl (by rw [show (bs (encT (goneL (decLT qb) q))).size = 32 from ((size_bs _).trans (length_encT _))]; kernel_rfl)) fun _ H201 => wl_ <| i_ H201 rfl (v := .agg (catA [[.int .i64 0], bytesV (encT (goneL (decLT qb) q))])) (dd_bld rfl (ps := [(1, .agg (bs (encT (goneL (decLT qb) q))))]) (pr1 (H201.ev 31 rfl) (pr0)) (Lz := [[.int .i64 0], bytesV (zer 32)]) (by kernel_rfl) (lens_cons rfl (lens_cons (len_bv (length_zer 32)) (lens_nil))) (fit_cons (i := 1) rfl ((size_bs _).trans (length_encT _)) (fit_nil)) (cs := catA [[.int .i64 0], bytesV (encT (goneL (decLT qb) q))]) rfl) fun _ H202 => wl_ <| n_ H202 rfl (fun _ h => dd_lit1 HSj117 (z := .agg (catA [[.int .i64 0], bytesV (zer 32)])) (sz := 33) rfl (H202.ev 32 rfl) Tryd.underlying51 (by kernel_rfl) (cat_size (lens_cons rfl (lens_cons (len_bv (length_encT _)) (lens_nil)))) rfl rfl h) fun g33 _ HS203 _ H203 => q_ H203 2 rfl fun _ H204 => ln_ <| nx <| wp_ret <| ret_run H204.env0 (res_tt Tryd.results29 (H204.get 4 rfl) (H204.get 5 rfl)) <| ?_
  clear Hj117 H201 HSj117 H202 H203
  exact ⟨_, by rw [gone_E0 hc14], own_puts (gone_P0 hc14) (by rw [gone_P0 hc14]) (own_put1 (HS203.row 2 rfl) (length_encT _) (Nat.le_trans (HBs6).size (st_fresh2 HS203 2 rfl))), (HBs6.trans (HS203.below.mono HBs6.size))⟩
end Go.Proofs.YtnmaplgodimohaaDoor
