/- TablePlaces, as its tied card: for every slice of volumes and byte the call returns true and changes nothing that it was handed. Conditions: those of the row (the tables of runes lie as the program's text lays them, which the card ties to the pruned copy). -/
import Derived.Test.YtpmedgibnnonkaaDoorMGen2
import Derived.Test.YtpmedgibnnonkaaDoorMNode0
import Derived.Test.YtpmedgibnnonkaaDoorMGen0
/- The statement TablePlaces: its walk. -/
set_option maxRecDepth 4000
namespace Go.Proofs.YtpmedgibnnonkaaDoor
open Go Go.RowKit
theorem rgoodt_big (A : Option Addr) (n c : Nat) (l : List Tv) (w : World) (hln : l.length = n) (h3 : (3 : Int) < n) :
    Calls Tryd.prog 15 #[.slice A n c] w fun e w' => e = .returned (.bool (goodT l)) ∧ Below w.heap.size w w' := by
  have HS := St.nil w noF
  refine enter_en Tryd.func15 rfl Tryd.ntmps15 (Nat.le_of_ble_eq_true rfl) fun a0 (HA0 : En 71 [(0, .slice A n c)] a0) => ?_
  refine sq_ <| rl_ <| wl_ <| p_ HA0 rfl rfl fun a1 H1 => ln_ <| nx <| sq_ <| sq_ <| rl_ <| wl_ <| p_ H1 rfl rfl fun a2 H2 => wl_ <| i_ H2 rfl (v := .int .i64 n) (dd_len rfl (H2.ev 8 rfl) Tryd.underlying22) fun a3 H3 => wl_ <| i_ H3 rfl (dd_cmp rfl (H3.ev 9 rfl) rfl (gt_t h3)) fun a4 H4 => ln_ <| nx <| ct_ H4 rfl <| sq_ <| rl_ <| wl_ <| p_ H4 rfl rfl fun a5 H5 => ln_ <| nx <| wp_ret <| tr <| ret_run H5.env0 (res_t Tryd.results15 (H5.get 2 rfl)) <| ?_
  clear HA0 a0 H1 a1 H2 a2 H3 a3 H4 a4
  exact ⟨by rw [goodT_long (by omega)], HS.below⟩
theorem rgoodt_all (A : Option Addr) (n c : Nat) (l : List Tv) (w : World) (hv : VolsAt w (.slice A n c) (volL l)) :
    Calls Tryd.prog 15 #[.slice A n c] w fun e w' => e = .returned (.bool (goodT l)) ∧ Below w.heap.size w w' := by
  by_cases h3 : (3 : Int) < n
  · exact rgoodt_big A n c l w (by rw [← len_volL]; exact vols_len hv) h3
  · exact rgoodt_any A n c l w hv (by omega)
set_option maxHeartbeats 1600000 in
theorem tabplaces_no (A : Option Addr) (n c : Nat) (l : List Tv) (z : BitVec 8) (w : World) (h0 : VolsAt w (.slice A n c) (volL l)) (hG : goodT l = false) :
    Calls Tryd.prog 5 #[.slice A n c, .int .u8 (bd z)] w fun e w' => e = .returned (.bool true) ∧ Below w.heap.size w w' := by
  have HS := St.nil w noF
  have HVl : ∀ W, Below w.heap.size w W → VolsAt W (.slice A n c) (volL l) := fun W hb => h0.below hb (Nat.le_refl _)
  have hln : l.length = n := by rw [← len_volL]; exact vols_len h0
  refine enter_en Tryd.func5 rfl Tryd.ntmps5 (Nat.le_of_ble_eq_true rfl) fun a0 (HA0 : En 150 [(0, .slice A n c), (1, .int .u8 (bd z))] a0) => ?_
  refine sq_ <| rl_ <| wl_ <| p_ HA0 rfl rfl fun a1 H1 => ln_ <| nx <| sq_ <| sq_ <| rl_ <| wl_ <| p_ H1 rfl rfl fun a2 H2 => wl_ <| c_ H2 rfl HS (v := .bool false) (dc_ Tryd.func15 rfl (args1 (H2.ev 15 rfl)) (rgoodt_all _ _ _ l w (HVl _ HS.below)) (fun _ w9 h9 => ⟨_, h9.1, by rw [hG], h9.2⟩)) fun W3 HS3 a3 H3 => wl_ <| i_ H3 rfl (v := .bool true) (dd_nt rfl (H3.ev 16 rfl) rfl) fun a4 H4 => ln_ <| nx <| ct_ H4 rfl <| sq_ <| rl_ <| wl_ <| c_ H4 rfl HS3 (dcs Tryd.func8 rfl (args0 ) (tabwakes_any W3) (.bool true)) fun W5 HS5 a5 H5 => wl_ <| p_ H5 rfl rfl fun a6 H6 => ln_ <| nx <| wp_ret <| tr <| ret_run H6.env0 (res_t Tryd.results5 (H6.get 4 rfl)) <| ?_
  clear HA0 a0 H1 a1 H2 a2 HS H3 a3 H4 a4 HS3 H5 a5
  exact ⟨rfl, HS5.below⟩
set_option maxHeartbeats 3200000 in
theorem tabplaces0 (c : Nat) (A : Option Addr) (l : List Tv) (z : BitVec 8) (w : World) (h0 : VolsAt w (.slice A 0 c) (volL l)) (hG : goodT l = true) :
    Calls Tryd.prog 5 #[.slice A 0 c, .int .u8 (bd z)] w fun e w' => e = .returned (.bool true) ∧ Below w.heap.size w w' := by
  have HS := St.nil w noF
  have HVl : ∀ W, Below w.heap.size w W → VolsAt W (.slice A 0 c) (volL l) := fun W hb => h0.below hb (Nat.le_refl _)
  have hln : l.length = 0 := by rw [← len_volL]; exact vols_len h0
  have hm1 : ∀ x ∈ l, x.2.length ≤ 1000000 := fun x hx => by
    have := (good_vals hG hx).2.2.1
    omega
  refine enter_en Tryd.func5 rfl Tryd.ntmps5 (Nat.le_of_ble_eq_true rfl) fun a0 (HA0 : En 150 [(0, .slice A 0 c), (1, .int .u8 (bd z))] a0) => ?_
  refine sq_ <| rl_ <| wl_ <| p_ HA0 rfl rfl fun a1 H1 => ln_ <| nx <| sq_ <| sq_ <| rl_ <| wl_ <| p_ H1 rfl rfl fun a2 H2 => wl_ <| c_ H2 rfl HS (v := .bool true) (dc_ Tryd.func15 rfl (args1 (H2.ev 15 rfl)) (rgoodt_all _ _ _ l w (HVl _ HS.below)) (fun _ w9 h9 => ⟨_, h9.1, by rw [hG], h9.2⟩)) fun W3 HS3 a3 H3 => wl_ <| i_ H3 rfl (v := .bool false) (dd_nt rfl (H3.ev 16 rfl) rfl) fun a4 H4 => ln_ <| nx <| cf_ H4 rfl <| wp_skip <| nx <| sq_ <| rl_ <| wl_ <| p_ H4 rfl rfl fun a5 H5 => wl_ <| c_ H5 rfl HS3 (v := .tuple #[.agg (bs (encT l)), .int .i64 0]) (dc_ Tryd.func10 rfl (args1 (H5.ev 20 rfl)) (enct_any _ _ _ l W3 (HVl _ HS3.below) (by decide) hm1) (fun _ w9 h9 => ⟨_, by rw [encE_z.2 hG] at h9; exact h9.1, rfl, h9.2⟩)) fun W6 HS6 a6 H6 => wl_ <| p_ H6 rfl rfl fun a7 H7 => wl_ <| i_ H7 rfl (dd_ext rfl (H7.ev 19 rfl) rfl) fun a8 H8 => ?_
  clear HA0 a0 H1 a1 H2 a2 HS H3 a3 H4 a4 H5 a5 HS3 H6 a6
  refine wl_ <| i_ H8 rfl (dd_ext rfl (H8.ev 19 rfl) rfl) fun a9 H9 => wl_ <| n_ H9 rfl (fun _ h => dd_new HS6 (bs (zer 32)) rfl (z := .agg (bs (zer 32))) (by kernel_rfl) rfl h) fun g5 W10 HS10 a10 H10 => wl_ <| t_ rfl (fun _ h => dd_setrow HS10 0 rfl rfl (H10.ev 5 rfl) (H10.ev 22 rfl) (by kernel_rfl) (((size_bs _).trans (length_encT _)) : (bs (encT l)).size = 32) (((size_bs _).trans (length_zer 32)) : (bs (zer 32)).size = 32) (one_bs _) h) fun W11 HS11 => wl_ <| p_ H10 rfl rfl fun a12 H12 => ln_ <| nx <| sq_ <| sq_ <| rl_ <| wl_ <| p_ H12 rfl rfl fun a13 H13 => wl_ <| i_ H13 rfl (dd_cmp rfl (H13.ev 24 rfl) rfl (ne_f (by decide))) fun a14 H14 => wl_ <| p_ H14 rfl rfl fun a15 H15 => wl_ <| ig H15 (wg_ H15 rfl rfl rfl rfl) rfl (xA 32 1 0 rfl (H15.ev 5 rfl) rfl) fun a16 H16 => ?_
  clear H7 a7 H8 a8 HS6 H9 a9 HS10 H10 a10 H12 a12 H13 a13 H14 a14
  refine wl_ <| ig H16 (wg_ H16 rfl rfl rfl rfl) rfl (dd_get HS11 0 0 rfl rfl (H16.ev 27 rfl) (bs_get (length_encT _) 0 (by decide)) Tryd.underlying5 rfl) fun a17 H17 => wl_ <| ig H17 (wg_ H17 rfl rfl rfl rfl) rfl (v := .int .i64 (bd ((encT l).getD 0 0#8))) (dd_conv (k := .i64) rfl (H17.ev 28 rfl) Tryd.underlying5 (by kernel_rfl) (i64_bdA _)) fun a18 H18 => wl_ <| ig H18 (wg_ H18 rfl rfl rfl rfl) rfl (dd_mv rfl (H18.ev 0 rfl)) fun a19 H19 => wl_ <| ig H19 (wg_ H19 rfl rfl rfl rfl) rfl (v := .int .i64 0) (dd_len rfl (H19.ev 30 rfl) Tryd.underlying22) fun a20 H20 => wl_ <| ig H20 (wg_ H20 rfl rfl rfl rfl) rfl (dd_cmp rfl (H20.ev 29 rfl) (H20.ev 31 rfl) (ne_f (pl_0 hG hln))) fun a21 H21 => wl_ <| p_ H21 rfl rfl fun a22 H22 => ln_ <| ?_
  clear H15 a15 H16 a16 H17 a17 H18 a18 H19 a19 H20 a20 H21 a21
  have H23 := H22.sel [1, 0, 5, 33] rfl
  refine nx <| cf_ H23 rfl <| wp_skip <| nx <| sq_ <| sq_ <| rl_ <| wl_ <| p_ H23 rfl rfl fun a24 H24 => ln_ <| nx <| wp_block <| wp_unr 4 <| unr_go <| sq_ <| sq_ <| rl_ <| wl_ <| p_ H24 rfl rfl fun a25 H25 => wl_ <| i_ H25 rfl (dd_cmp rfl (H25.ev 34 rfl) rfl (lt_t (by decide))) fun a26 H26 => ln_ <| nx <| ct_ H26 rfl <| wp_skip <| nx <| sq_ <| wp_block <| sq_ <| rl_ <| wl_ <| p_ H26 rfl rfl fun a27 H27 => wl_ <| i_ H27 rfl (v := .int .i64 0) (dd_ari rfl rfl (H27.ev 38 rfl) rfl (by decide)) fun a28 H28 => wl_ <| i_ H28 rfl (v := .int .i64 1) (dd_ari rfl rfl (H28.ev 39 rfl) rfl (by decide)) fun a29 H29 => wl_ <| p_ H29 rfl rfl fun a30 H30 => ln_ <| nx <| sq_ <| sq_ <| rl_ <| q_ H30 2 rfl fun a31 H31 => ?_
  clear H22 H23 a22 H24 a24 H25 a25 H26 a26 H27 a27 H28 a28 H29 a29
  refine wl_ <| i_ H31 rfl (v := .int .i64 0) (dd_len rfl (H31.ev 42 rfl) Tryd.underlying22) fun a32 H32 => wl_ <| i_ H32 rfl (dd_cmp rfl (H32.ev 41 rfl) (H32.ev 43 rfl) (ge_t (by decide))) fun a33 H33 => ln_ <| nx <| ct_ H33 rfl <| sq_ <| sq_ <| rl_ <| wl_ <| p_ H33 rfl rfl fun a34 H34 => ln_ <| nx <| wp_block <| ?_
  clear H30 a30 H31 a31 H32 a32 H33 a33
  refine wp_loopG (ι := Nat) (fun j a9 w9 => (j ≤ 9) ∧ En 150 [(9, .int .i64 j), (8, .int .i64 1), (7, .int .i64 0), (5, .pointer (some ⟨g5, 0, none⟩)), (0, .slice A 0 c), (1, .int .u8 (bd z))] a9 ∧ St w noF [⟨g5, 24, bs (encT l)⟩] w9) (fun j => 9 - j) (0) ⟨Nat.zero_le _, H34.sel [1, 0, 5, 7, 8, 9] rfl, ss HS11 [0]⟩ ?_
  clear H34 a34 HS11
  rintro j aL35 wL35 ⟨hj, HL35, HSL35⟩
  refine sq_ <| sq_ <| rl_ <| wl_ <| p_ HL35 rfl rfl fun a36 H36 => ?_
  clear HL35 aL35
  by_cases hc38 : (j : Int) < 9
  ·
   refine wl_ <| i_ H36 rfl (dd_cmp rfl (H36.ev 45 rfl) rfl (lt_t hc38)) fun a39 H39 => ln_ <| nx <| ct_ H39 rfl <| wp_skip <| nx <| sq_ <| wp_block <| sq_ <| rl_ <| q_ H39 2 rfl fun a40 H40 => wl_ <| i_ H40 rfl (v := .int .i64 (1 + j)) (dd_ari rfl (H40.ev 49 rfl) (H40.ev 50 rfl) rfl (i64_of (by first | omega | (have := bd_lo; omega)) (by omega))) fun a41 H41 => wl_ <| i_ H41 rfl (xAo 32 1 (1 + j) rfl (H41.ev 5 rfl) (H41.ev 51 rfl)) fun a42 H42 => wl_ <| i_ H42 rfl (dd_get HSL35 0 (1 + j) rfl rfl (H42.ev 52 rfl) (bs_get (length_encT _) (1 + j) (by omega)) Tryd.underlying5 rfl) fun a43 H43 => wl_ <| i_ H43 rfl (dd_cmp rfl (H43.ev 53 rfl) rfl (ne_f (show bd ((encT l).getD (1 + j) 0#8) = 0 by rw [pl_zero hG hln (by omega)]; rfl))) fun a44 H44 => ln_ <| nx <| cf_ H44 rfl <| wp_skip <| bn <| nx <| rl_ <| wl_ <| p_ H44 rfl rfl fun a45 H45 => wl_ <| i_ H45 rfl (v := .int .i64 (j + 1)) (dd_ari rfl (H45.ev 47 rfl) rfl rfl (i64_of (by first | omega | (have := bd_lo; omega)) (by omega))) fun a46 H46 => ?_
   clear H36 a36 H39 a39 H40 a40 H41 a41 H42 a42 H43 a43 H44 a44
   refine wl_ <| p_ H46 rfl rfl fun a47 H47 => ln_ <| ?_
   clear H45 a45 H46 a46
   refine nx ⟨j + 1, ⟨(by omega), H47.sel [1, 0, 5, 7, 8, 9] rfl, ss HSL35 [0]⟩, (by omega)⟩
  ·
   refine wl_ <| i_ H36 rfl (dd_cmp rfl (H36.ev 45 rfl) rfl (lt_f hc38)) fun a48 H48 => ln_ <| nx <| cf_ H48 rfl <| wp_exit <| tx <| tx <| bx <| nx <| wp_exit <| tx <| bx <| nx <| rl_ <| wl_ <| p_ H48 rfl rfl fun a49 H49 => wl_ <| i_ H49 rfl (v := .int .i64 1) (dd_ari rfl (H49.ev 36 rfl) rfl rfl (by decide)) fun a50 H50 => wl_ <| p_ H50 rfl rfl fun a51 H51 => ln_ <| nx <| unr_go <| sq_ <| sq_ <| rl_ <| wl_ <| p_ H51 rfl rfl fun a52 H52 => wl_ <| i_ H52 rfl (dd_cmp rfl (H52.ev 34 rfl) rfl (lt_t (by decide))) fun a53 H53 => ln_ <| nx <| ct_ H53 rfl <| wp_skip <| nx <| sq_ <| wp_block <| sq_ <| rl_ <| wl_ <| p_ H53 rfl rfl fun a54 H54 => wl_ <| i_ H54 rfl (v := .int .i64 9) (dd_ari rfl rfl (H54.ev 38 rfl) rfl (by decide)) fun a55 H55 => ?_
   clear H36 a36 H48 a48 H49 a49 H50 a50 H51 a51 H52 a52 H53 a53
   refine wl_ <| i_ H55 rfl (v := .int .i64 10) (dd_ari rfl rfl (H55.ev 39 rfl) rfl (by decide)) fun a56 H56 => wl_ <| p_ H56 rfl rfl fun a57 H57 => ln_ <| nx <| sq_ <| sq_ <| rl_ <| q_ H57 2 rfl fun a58 H58 => wl_ <| i_ H58 rfl (v := .int .i64 0) (dd_len rfl (H58.ev 42 rfl) Tryd.underlying22) fun a59 H59 => wl_ <| i_ H59 rfl (dd_cmp rfl (H59.ev 41 rfl) (H59.ev 43 rfl) (ge_t (by decide))) fun a60 H60 => ln_ <| nx <| ct_ H60 rfl <| sq_ <| sq_ <| rl_ <| wl_ <| p_ H60 rfl rfl fun a61 H61 => ln_ <| nx <| wp_block <| ?_
   clear H54 a54 H55 a55 H56 a56 H57 a57 H58 a58 H59 a59 H60 a60
   refine wp_loopG (ι := Nat) (fun j a9 w9 => (j ≤ 9) ∧ En 150 [(9, .int .i64 j), (8, .int .i64 10), (7, .int .i64 1), (5, .pointer (some ⟨g5, 0, none⟩)), (0, .slice A 0 c), (1, .int .u8 (bd z))] a9 ∧ St w noF [⟨g5, 24, bs (encT l)⟩] w9) (fun j => 9 - j) (0) ⟨Nat.zero_le _, H61.sel [1, 0, 5, 7, 8, 9] rfl, ss HSL35 [0]⟩ ?_
   clear H61 a61 HSL35
   rintro j aL62 wL62 ⟨hj, HL62, HSL62⟩
   refine sq_ <| sq_ <| rl_ <| wl_ <| p_ HL62 rfl rfl fun a63 H63 => ?_
   clear HL62 aL62
   by_cases hc65 : (j : Int) < 9
   ·
    refine wl_ <| i_ H63 rfl (dd_cmp rfl (H63.ev 45 rfl) rfl (lt_t hc65)) fun a66 H66 => ln_ <| nx <| ct_ H66 rfl <| wp_skip <| nx <| sq_ <| wp_block <| sq_ <| rl_ <| q_ H66 2 rfl fun a67 H67 => wl_ <| i_ H67 rfl (v := .int .i64 (10 + j)) (dd_ari rfl (H67.ev 49 rfl) (H67.ev 50 rfl) rfl (i64_of (by first | omega | (have := bd_lo; omega)) (by omega))) fun a68 H68 => wl_ <| i_ H68 rfl (xAo 32 1 (10 + j) rfl (H68.ev 5 rfl) (H68.ev 51 rfl)) fun a69 H69 => wl_ <| i_ H69 rfl (dd_get HSL62 0 (10 + j) rfl rfl (H69.ev 52 rfl) (bs_get (length_encT _) (10 + j) (by omega)) Tryd.underlying5 rfl) fun a70 H70 => wl_ <| i_ H70 rfl (dd_cmp rfl (H70.ev 53 rfl) rfl (ne_f (show bd ((encT l).getD (10 + j) 0#8) = 0 by rw [pl_zero hG hln (by omega)]; rfl))) fun a71 H71 => ln_ <| nx <| cf_ H71 rfl <| wp_skip <| bn <| nx <| rl_ <| wl_ <| p_ H71 rfl rfl fun a72 H72 => wl_ <| i_ H72 rfl (v := .int .i64 (j + 1)) (dd_ari rfl (H72.ev 47 rfl) rfl rfl (i64_of (by first | omega | (have := bd_lo; omega)) (by omega))) fun a73 H73 => ?_
    clear H63 a63 H66 a66 H67 a67 H68 a68 H69 a69 H70 a70 H71 a71
    refine wl_ <| p_ H73 rfl rfl fun a74 H74 => ln_ <| ?_
    clear H72 a72 H73 a73
    refine nx ⟨j + 1, ⟨(by omega), H74.sel [1, 0, 5, 7, 8, 9] rfl, ss HSL62 [0]⟩, (by omega)⟩
   ·
    refine wl_ <| i_ H63 rfl (dd_cmp rfl (H63.ev 45 rfl) rfl (lt_f hc65)) fun a75 H75 => ln_ <| nx <| cf_ H75 rfl <| wp_exit <| tx <| tx <| bx <| nx <| wp_exit <| tx <| bx <| nx <| rl_ <| wl_ <| p_ H75 rfl rfl fun a76 H76 => wl_ <| i_ H76 rfl (v := .int .i64 2) (dd_ari rfl (H76.ev 36 rfl) rfl rfl (by decide)) fun a77 H77 => wl_ <| p_ H77 rfl rfl fun a78 H78 => ln_ <| nx <| unr_go <| sq_ <| sq_ <| rl_ <| wl_ <| p_ H78 rfl rfl fun a79 H79 => wl_ <| i_ H79 rfl (dd_cmp rfl (H79.ev 34 rfl) rfl (lt_t (by decide))) fun a80 H80 => ln_ <| nx <| ct_ H80 rfl <| wp_skip <| nx <| sq_ <| wp_block <| sq_ <| rl_ <| wl_ <| p_ H80 rfl rfl fun a81 H81 => wl_ <| i_ H81 rfl (v := .int .i64 18) (dd_ari rfl rfl (H81.ev 38 rfl) rfl (by decide)) fun a82 H82 => ?_
    clear H63 a63 H75 a75 H76 a76 H77 a77 H78 a78 H79 a79 H80 a80
    refine wl_ <| i_ H82 rfl (v := .int .i64 19) (dd_ari rfl rfl (H82.ev 39 rfl) rfl (by decide)) fun a83 H83 => wl_ <| p_ H83 rfl rfl fun a84 H84 => ln_ <| nx <| sq_ <| sq_ <| rl_ <| q_ H84 2 rfl fun a85 H85 => wl_ <| i_ H85 rfl (v := .int .i64 0) (dd_len rfl (H85.ev 42 rfl) Tryd.underlying22) fun a86 H86 => wl_ <| i_ H86 rfl (dd_cmp rfl (H86.ev 41 rfl) (H86.ev 43 rfl) (ge_t (by decide))) fun a87 H87 => ln_ <| nx <| ct_ H87 rfl <| sq_ <| sq_ <| rl_ <| wl_ <| p_ H87 rfl rfl fun a88 H88 => ln_ <| nx <| wp_block <| ?_
    clear H81 a81 H82 a82 H83 a83 H84 a84 H85 a85 H86 a86 H87 a87
    refine wp_loopG (ι := Nat) (fun j a9 w9 => (j ≤ 9) ∧ En 150 [(9, .int .i64 j), (8, .int .i64 19), (7, .int .i64 2), (5, .pointer (some ⟨g5, 0, none⟩)), (0, .slice A 0 c), (1, .int .u8 (bd z))] a9 ∧ St w noF [⟨g5, 24, bs (encT l)⟩] w9) (fun j => 9 - j) (0) ⟨Nat.zero_le _, H88.sel [1, 0, 5, 7, 8, 9] rfl, ss HSL62 [0]⟩ ?_
    clear H88 a88 HSL62
    rintro j aL89 wL89 ⟨hj, HL89, HSL89⟩
    refine sq_ <| sq_ <| rl_ <| wl_ <| p_ HL89 rfl rfl fun a90 H90 => ?_
    clear HL89 aL89
    by_cases hc92 : (j : Int) < 9
    ·
     refine wl_ <| i_ H90 rfl (dd_cmp rfl (H90.ev 45 rfl) rfl (lt_t hc92)) fun a93 H93 => ln_ <| nx <| ct_ H93 rfl <| wp_skip <| nx <| sq_ <| wp_block <| sq_ <| rl_ <| q_ H93 2 rfl fun a94 H94 => wl_ <| i_ H94 rfl (v := .int .i64 (19 + j)) (dd_ari rfl (H94.ev 49 rfl) (H94.ev 50 rfl) rfl (i64_of (by first | omega | (have := bd_lo; omega)) (by omega))) fun a95 H95 => wl_ <| i_ H95 rfl (xAo 32 1 (19 + j) rfl (H95.ev 5 rfl) (H95.ev 51 rfl)) fun a96 H96 => wl_ <| i_ H96 rfl (dd_get HSL89 0 (19 + j) rfl rfl (H96.ev 52 rfl) (bs_get (length_encT _) (19 + j) (by omega)) Tryd.underlying5 rfl) fun a97 H97 => wl_ <| i_ H97 rfl (dd_cmp rfl (H97.ev 53 rfl) rfl (ne_f (show bd ((encT l).getD (19 + j) 0#8) = 0 by rw [pl_zero hG hln (by omega)]; rfl))) fun a98 H98 => ln_ <| nx <| cf_ H98 rfl <| wp_skip <| bn <| nx <| rl_ <| wl_ <| p_ H98 rfl rfl fun a99 H99 => wl_ <| i_ H99 rfl (v := .int .i64 (j + 1)) (dd_ari rfl (H99.ev 47 rfl) rfl rfl (i64_of (by first | omega | (have := bd_lo; omega)) (by omega))) fun a100 H100 => ?_
     clear H90 a90 H93 a93 H94 a94 H95 a95 H96 a96 H97 a97 H98 a98
     refine wl_ <| p_ H100 rfl rfl fun a101 H101 => ln_ <| ?_
     clear H99 a99 H100 a100
     refine nx ⟨j + 1, ⟨(by omega), H101.sel [1, 0, 5, 7, 8, 9] rfl, ss HSL89 [0]⟩, (by omega)⟩
    ·
     refine wl_ <| i_ H90 rfl (dd_cmp rfl (H90.ev 45 rfl) rfl (lt_f hc92)) fun a102 H102 => ln_ <| nx <| cf_ H102 rfl <| wp_exit <| tx <| tx <| bx <| nx <| wp_exit <| tx <| bx <| nx <| rl_ <| wl_ <| p_ H102 rfl rfl fun a103 H103 => wl_ <| i_ H103 rfl (v := .int .i64 3) (dd_ari rfl (H103.ev 36 rfl) rfl rfl (by decide)) fun a104 H104 => wl_ <| p_ H104 rfl rfl fun a105 H105 => ln_ <| nx <| unr_go <| sq_ <| sq_ <| rl_ <| wl_ <| p_ H105 rfl rfl fun a106 H106 => wl_ <| i_ H106 rfl (dd_cmp rfl (H106.ev 34 rfl) rfl (lt_f (by decide))) fun a107 H107 => ln_ <| nx <| cf_ H107 rfl <| wp_exit <| tx <| tx <| bx <| nx <| sq_ <| rl_ <| wl_ <| p_ H107 rfl rfl fun a108 H108 => ?_
     clear H90 a90 H102 a102 H103 a103 H104 a104 H105 a105 H106 a106 H107 a107
     obtain ⟨r, hr, hr4⟩ := mod_nat (bd z) 4 (bd_lo _) (by decide)
     refine wl_ <| i_ H108 rfl (v := .int .u8 r) (dd_rem rfl (H108.ev 131 rfl) rfl (by decide) hr) fun a109 H109 => wl_ <| i_ H109 rfl (v := .int .u8 (28 + r)) (dd_ari rfl rfl (H109.ev 132 rfl) rfl (u8_of (by omega) (by omega))) fun a110 H110 => wl_ <| i_ H110 rfl (xAo 32 1 (28 + r) rfl (H110.ev 5 rfl) (H110.ev 133 rfl)) fun a111 H111 => wl_ <| t_ rfl (S := [⟨g5, 24, bs ((encT l).set (28 + r) (1#8))⟩]) (fun _ h => dd_put HSL89 0 (28 + r) rfl rfl (H111.ev 134 rfl) rfl (by kernel_rfl) rfl rfl (blt_fit ((size_bs _).trans (length_encT _)) (by omega)) (set_bs _ _ (1#8)) h) fun W112 HS112 => ln_ <| nx <| sq_ <| rl_ <| wl_ <| i_ H111 rfl (v := .agg (bs ((encT l).set (28 + r) (1#8)))) (dd_load HS112 0 0 rfl rfl (H111.ev 5 rfl) (slab_whole _) Tryd.underlying24 rfl (by rw [show (bs ((encT l).set (28 + r) (1#8))).size = 32 from ((size_bs _).trans (len_set (length_encT _)))]; kernel_rfl)) fun a113 H113 => ?_
     clear H108 a108 H109 a109 H110 a110 HSL89 H111 a111
     refine wl_ <| d_ H113 rfl (R := fun v w9 => ∃ A115 C115, v = .tuple #[.slice A115 0 C115, .int .i64 11] ∧ ((volL ([])).length = 0 ∧ 0 ≤ 3) ∧ (OV W112.heap.size w9 (.slice A115 0 C115) (volL ([]))) ∧ Below W112.heap.size W112 w9) (dc_ Tryd.func12 rfl (args1 (H113.ev 136 rfl)) (dect_any ((encT l).set (28 + r) (1#8)) W112 (len_set (length_encT _))) (fun _ w9 ⟨v9, he, ho, hb⟩ => by rw [(dec_bad (pl_bad hr4)).2] at he; rw [(dec_bad (pl_bad hr4)).1] at ho; obtain ⟨A9, n9, c9, rfl, h1, _⟩ := OV.form2 ho; obtain rfl : n9 = 0 := h1.symm; exact ⟨_, he, A9, c9, rfl, ⟨h1, (by decide)⟩, ho, hb⟩)) ?_
     rintro _ W114 ⟨A115, C115, rfl, hNd115, hov115, hb114⟩ a114 H114
     have HS114 := HS112.same hb114
     clear H113 a113
     have HBs116 : Below w.heap.size w W114 := HS114.below
     have HVlr := fun (W9 : World) (hb9 : Below W114.heap.size W114 W9) => HVl W9 (HBs116.trans (hb9.mono HBs116.size))
     clear HVl
     have HVl := HVlr
     clear HVlr
     have HR116_0 := fun (W9 : World) (hb9 : Below W114.heap.size W114 W9) => (HS114.row 0 rfl).call hb9
     have HSb116 := St.nil W114 noF
     clear HS114
     have HVd115 := fun (W9 : World) (hb9 : Below W114.heap.size W114 W9) => ((hov115.vols (Nat.le_trans (Nat.le_of_eq hNd115.1) (Nat.le_trans hNd115.2 (by decide)))).below hb9 (Nat.le_refl _))
     have hMd115 := (show ∀ x ∈ ([] : List Tv), x.2.length ≤ 1000000 from fun x h => by cases h)
     clear HS112 hb114
     refine wl_ <| p_ H114 rfl rfl fun a117 H117 => wl_ <| i_ H117 rfl (dd_ext rfl (H117.ev 135 rfl) rfl) fun a118 H118 => wl_ <| i_ H118 rfl (dd_ext rfl (H118.ev 135 rfl) rfl) fun a119 H119 => q_ H119 2 rfl fun a120 H120 => ln_ <| ?_
     clear H114 a114 H117 a117 H118 a118 H119 a119
     have H121 := H120.sel [13, 14] rfl
     refine nx <| sq_ <| rl_ <| wl_ <| p_ H121 rfl rfl fun a122 H122 => wl_ <| i_ H122 rfl (v := .int .i64 0) (dd_len rfl (H122.ev 140 rfl) Tryd.underlying22) fun a123 H123 => wl_ <| i_ H123 rfl (dd_cmp rfl (H123.ev 141 rfl) rfl (eq_t (by decide))) fun a124 H124 => wl_ <| p_ H124 rfl rfl fun a125 H125 => wl_ <| ig H125 (wg_ H125 rfl rfl rfl rfl) rfl (dd_mv rfl (H125.ev 14 rfl)) fun a126 H126 => wl_ <| ig H126 (wg_ H126 rfl rfl rfl rfl) rfl (dd_cmp rfl (H126.ev 144 rfl) rfl (eq_t (by decide))) fun a127 H127 => q_ H127 2 rfl fun a128 H128 => wl_ <| cg H128 (wg_ H128 rfl rfl rfl rfl) rfl HSb116 (dcs Tryd.func8 rfl (args0 ) (tabwakes_any W114) (.bool true)) fun W129 HS129 a129 H129 => ?_
     clear H120 H121 a120 H122 a122 H123 a123 H124 a124 H125 a125 H126 a126 H127 a127
     refine q_ H129 2 rfl fun a130 H130 => ln_ <| nx <| wp_ret <| ret_run H130.env0 (res_t Tryd.results5 (H130.get 4 rfl)) <| ?_
     clear H128 a128 HSb116 H129 a129
     exact ⟨rfl, (HBs116.trans (HS129.below.mono HBs116.size))⟩
set_option maxHeartbeats 3200000 in
theorem tabplaces1 (b o c : Nat) (l : List Tv) (z : BitVec 8) (w : World) (h0 : VolsAt w (.slice (some ⟨b, o, none⟩) 1 c) (volL l)) (hG : goodT l = true) :
    Calls Tryd.prog 5 #[.slice (some ⟨b, o, none⟩) 1 c, .int .u8 (bd z)] w fun e w' => e = .returned (.bool true) ∧ Below w.heap.size w w' := by
  have HS := St.nil w noF
  have HVl : ∀ W, Below w.heap.size w W → VolsAt W (.slice (some ⟨b, o, none⟩) 1 c) (volL l) := fun W hb => h0.below hb (Nat.le_refl _)
  have hln : l.length = 1 := by rw [← len_volL]; exact vols_len h0
  have hm1 : ∀ x ∈ l, x.2.length ≤ 1000000 := fun x hx => by
    have := (good_vals hG hx).2.2.1
    omega
  refine enter_en Tryd.func5 rfl Tryd.ntmps5 (Nat.le_of_ble_eq_true rfl) fun a0 (HA0 : En 150 [(0, .slice (some ⟨b, o, none⟩) 1 c), (1, .int .u8 (bd z))] a0) => ?_
  refine sq_ <| rl_ <| wl_ <| p_ HA0 rfl rfl fun a1 H1 => ln_ <| nx <| sq_ <| sq_ <| rl_ <| wl_ <| p_ H1 rfl rfl fun a2 H2 => wl_ <| c_ H2 rfl HS (v := .bool true) (dc_ Tryd.func15 rfl (args1 (H2.ev 15 rfl)) (rgoodt_all _ _ _ l w (HVl _ HS.below)) (fun _ w9 h9 => ⟨_, h9.1, by rw [hG], h9.2⟩)) fun W3 HS3 a3 H3 => wl_ <| i_ H3 rfl (v := .bool false) (dd_nt rfl (H3.ev 16 rfl) rfl) fun a4 H4 => ln_ <| nx <| cf_ H4 rfl <| wp_skip <| nx <| sq_ <| rl_ <| wl_ <| p_ H4 rfl rfl fun a5 H5 => wl_ <| c_ H5 rfl HS3 (v := .tuple #[.agg (bs (encT l)), .int .i64 0]) (dc_ Tryd.func10 rfl (args1 (H5.ev 20 rfl)) (enct_any _ _ _ l W3 (HVl _ HS3.below) (by decide) hm1) (fun _ w9 h9 => ⟨_, by rw [encE_z.2 hG] at h9; exact h9.1, rfl, h9.2⟩)) fun W6 HS6 a6 H6 => wl_ <| p_ H6 rfl rfl fun a7 H7 => wl_ <| i_ H7 rfl (dd_ext rfl (H7.ev 19 rfl) rfl) fun a8 H8 => ?_
  clear HA0 a0 H1 a1 H2 a2 HS H3 a3 H4 a4 H5 a5 HS3 H6 a6
  refine wl_ <| i_ H8 rfl (dd_ext rfl (H8.ev 19 rfl) rfl) fun a9 H9 => wl_ <| n_ H9 rfl (fun _ h => dd_new HS6 (bs (zer 32)) rfl (z := .agg (bs (zer 32))) (by kernel_rfl) rfl h) fun g5 W10 HS10 a10 H10 => wl_ <| t_ rfl (fun _ h => dd_setrow HS10 0 rfl rfl (H10.ev 5 rfl) (H10.ev 22 rfl) (by kernel_rfl) (((size_bs _).trans (length_encT _)) : (bs (encT l)).size = 32) (((size_bs _).trans (length_zer 32)) : (bs (zer 32)).size = 32) (one_bs _) h) fun W11 HS11 => wl_ <| p_ H10 rfl rfl fun a12 H12 => ln_ <| nx <| sq_ <| sq_ <| rl_ <| wl_ <| p_ H12 rfl rfl fun a13 H13 => wl_ <| i_ H13 rfl (dd_cmp rfl (H13.ev 24 rfl) rfl (ne_f (by decide))) fun a14 H14 => wl_ <| p_ H14 rfl rfl fun a15 H15 => wl_ <| ig H15 (wg_ H15 rfl rfl rfl rfl) rfl (xA 32 1 0 rfl (H15.ev 5 rfl) rfl) fun a16 H16 => ?_
  clear H7 a7 H8 a8 HS6 H9 a9 HS10 H10 a10 H12 a12 H13 a13 H14 a14
  refine wl_ <| ig H16 (wg_ H16 rfl rfl rfl rfl) rfl (dd_get HS11 0 0 rfl rfl (H16.ev 27 rfl) (bs_get (length_encT _) 0 (by decide)) Tryd.underlying5 rfl) fun a17 H17 => wl_ <| ig H17 (wg_ H17 rfl rfl rfl rfl) rfl (v := .int .i64 (bd ((encT l).getD 0 0#8))) (dd_conv (k := .i64) rfl (H17.ev 28 rfl) Tryd.underlying5 (by kernel_rfl) (i64_bdA _)) fun a18 H18 => wl_ <| ig H18 (wg_ H18 rfl rfl rfl rfl) rfl (dd_mv rfl (H18.ev 0 rfl)) fun a19 H19 => wl_ <| ig H19 (wg_ H19 rfl rfl rfl rfl) rfl (v := .int .i64 1) (dd_len rfl (H19.ev 30 rfl) Tryd.underlying22) fun a20 H20 => wl_ <| ig H20 (wg_ H20 rfl rfl rfl rfl) rfl (dd_cmp rfl (H20.ev 29 rfl) (H20.ev 31 rfl) (ne_f (pl_0 hG hln))) fun a21 H21 => wl_ <| p_ H21 rfl rfl fun a22 H22 => ln_ <| ?_
  clear H15 a15 H16 a16 H17 a17 H18 a18 H19 a19 H20 a20 H21 a21
  have H23 := H22.sel [1, 0, 5, 33] rfl
  refine nx <| cf_ H23 rfl <| wp_skip <| nx <| sq_ <| sq_ <| rl_ <| wl_ <| p_ H23 rfl rfl fun a24 H24 => ln_ <| nx <| wp_block <| wp_unr 4 <| unr_go <| sq_ <| sq_ <| rl_ <| wl_ <| p_ H24 rfl rfl fun a25 H25 => wl_ <| i_ H25 rfl (dd_cmp rfl (H25.ev 34 rfl) rfl (lt_t (by decide))) fun a26 H26 => ln_ <| nx <| ct_ H26 rfl <| wp_skip <| nx <| sq_ <| wp_block <| sq_ <| rl_ <| wl_ <| p_ H26 rfl rfl fun a27 H27 => wl_ <| i_ H27 rfl (v := .int .i64 0) (dd_ari rfl rfl (H27.ev 38 rfl) rfl (by decide)) fun a28 H28 => wl_ <| i_ H28 rfl (v := .int .i64 1) (dd_ari rfl rfl (H28.ev 39 rfl) rfl (by decide)) fun a29 H29 => wl_ <| p_ H29 rfl rfl fun a30 H30 => ln_ <| nx <| sq_ <| sq_ <| rl_ <| q_ H30 2 rfl fun a31 H31 => ?_
  clear H22 H23 a22 H24 a24 H25 a25 H26 a26 H27 a27 H28 a28 H29 a29
  refine wl_ <| i_ H31 rfl (v := .int .i64 1) (dd_len rfl (H31.ev 42 rfl) Tryd.underlying22) fun a32 H32 => wl_ <| i_ H32 rfl (dd_cmp rfl (H32.ev 41 rfl) (H32.ev 43 rfl) (ge_f (by decide))) fun a33 H33 => ln_ <| nx <| cf_ H33 rfl <| wp_skip <| nx <| sq_ <| sq_ <| rl_ <| ?_
  clear H30 a30 H31 a31 H32 a32
  obtain ⟨p35, L35, B35, m35, c35, hg35, hr35, hm35, hp35⟩ := vols_getC (HVl _ (Below.refl _ _)) (k := 0) (by omega)
  refine wl_ <| p_ H33 rfl rfl fun a34 H34 => ln_ <| nx <| wp_block <| ?_
  clear H33 a33
  refine wp_loopG (ι := Nat) (fun j a9 w9 => (j ≤ 4) ∧ En 150 [(10, .int .i64 j), (8, .int .i64 1), (7, .int .i64 0), (5, .pointer (some ⟨g5, 0, none⟩)), (0, .slice (some ⟨b, o, none⟩) 1 c), (1, .int .u8 (bd z))] a9 ∧ St w noF [⟨g5, 24, bs (encT l)⟩] w9) (fun j => 4 - j) (0) ⟨Nat.zero_le _, H34.sel [1, 0, 5, 7, 8, 10] rfl, ss HS11 [0]⟩ ?_
  clear H34 a34 HS11
  rintro j aL36 wL36 ⟨hj, HL36, HSL36⟩
  refine sq_ <| sq_ <| rl_ <| wl_ <| p_ HL36 rfl rfl fun a37 H37 => ?_
  clear HL36 aL36
  by_cases hc39 : (j : Int) < 4
  ·
   refine wl_ <| i_ H37 rfl (dd_cmp rfl (H37.ev 55 rfl) rfl (lt_t hc39)) fun a40 H40 => ln_ <| nx <| ct_ H40 rfl <| wp_skip <| nx <| sq_ <| wp_block <| sq_ <| rl_ <| q_ H40 2 rfl fun a41 H41 => ln_ <| nx <| sq_ <| sq_ <| rl_ <| q_ H41 3 rfl fun a42 H42 => wl_ <| i_ H42 rfl (xS 2 (o + 0) rfl (H42.ev 60 rfl) (H42.ev 61 rfl)) fun a43 H43 => wl_ <| i_ H43 rfl (xf 0 (o + 0) rfl (H43.ev 62 rfl)) fun a44 H44 => wl_ <| i_ H44 rfl (dd_at rfl (H44.ev 63 rfl) ((hr35 _ HSL36.below).1 0 _ rfl) Tryd.underlying9 rfl) fun a45 H45 => wl_ <| i_ H45 rfl (v := .int .i64 p35.length) (dd_lens rfl (H45.ev 64 rfl) Tryd.underlying9 (by rw [strB_size])) fun a46 H46 => ?_
   clear H37 a37 H40 a40 H41 a41 H42 a42 H43 a43 H44 a44 H45 a45
   by_cases hc48 : (j : Int) < p35.length
   ·
    refine wl_ <| i_ H46 rfl (dd_cmp rfl (H46.ev 59 rfl) (H46.ev 65 rfl) (lt_t hc48)) fun a49 H49 => ln_ <| nx <| ct_ H49 rfl <| rl_ <| q_ H49 2 rfl fun a50 H50 => wl_ <| i_ H50 rfl (xS 2 (o + 0) rfl (H50.ev 67 rfl) (H50.ev 68 rfl)) fun a51 H51 => wl_ <| i_ H51 rfl (xf 0 (o + 0) rfl (H51.ev 69 rfl)) fun a52 H52 => wl_ <| i_ H52 rfl (dd_at rfl (H52.ev 70 rfl) ((hr35 _ HSL36.below).1 0 _ rfl) Tryd.underlying9 rfl) fun a53 H53 => wl_ <| p_ H53 rfl rfl fun a54 H54 => wl_ <| i_ H54 rfl (v := .int .u8 (bd (p35.getD j 0#8))) (dd_ixs rfl (H54.ev 71 rfl) (H54.ev 72 rfl) Tryd.underlying9 (by omega)) fun a55 H55 => wl_ <| p_ H55 rfl rfl fun a56 H56 => ?_
    clear H46 a46 H49 a49 H50 a50 H51 a51 H52 a52 H53 a53 H54 a54
    refine ln_ <| ?_
    clear H55 a55
    have H57 := H56.sel [1, 0, 5, 7, 8, 10, 12, 11] rfl
    refine nx <| sq_ <| sq_ <| rl_ <| q_ H57 3 rfl fun a58 H58 => wl_ <| i_ H58 rfl (xS 2 (o + 0) rfl (H58.ev 75 rfl) (H58.ev 76 rfl)) fun a59 H59 => wl_ <| i_ H59 rfl (xf 1 (o + 0 + 1) rfl (H59.ev 77 rfl)) fun a60 H60 => wl_ <| i_ H60 rfl (dd_at rfl (H60.ev 78 rfl) ((hr35 _ HSL36.below).1 1 _ rfl) Tryd.underlying43 rfl) fun a61 H61 => wl_ <| i_ H61 rfl (v := .int .i64 m35) (dd_len rfl (H61.ev 79 rfl) Tryd.underlying43) fun a62 H62 => ?_
    clear H56 H57 a56 H58 a58 H59 a59 H60 a60 H61 a61
    by_cases hc64 : (j : Int) < m35
    ·
     refine wl_ <| i_ H62 rfl (dd_cmp rfl (H62.ev 74 rfl) (H62.ev 80 rfl) (lt_t hc64)) fun a65 H65 => ln_ <| nx <| ct_ H65 rfl <| rl_ <| q_ H65 2 rfl fun a66 H66 => wl_ <| i_ H66 rfl (xS 2 (o + 0) rfl (H66.ev 82 rfl) (H66.ev 83 rfl)) fun a67 H67 => wl_ <| i_ H67 rfl (xf 1 (o + 0 + 1) rfl (H67.ev 84 rfl)) fun a68 H68 => wl_ <| i_ H68 rfl (dd_at rfl (H68.ev 85 rfl) ((hr35 _ HSL36.below).1 1 _ rfl) Tryd.underlying43 rfl) fun a69 H69 => wl_ <| p_ H69 rfl rfl fun a70 H70 => ?_
     clear H62 a62 H65 a65 H66 a66 H67 a67 H68 a68 H69 a69
     obtain ⟨bi35, oi35, hB35⟩ := ints_addr (hr35 _ (Below.refl _ _)).2 (by omega)
     refine wl_ <| i_ H70 rfl (dd_idxS (sz := 1) (j := oi35 + j) rfl (sl_at (H70.ev 86 rfl) hB35) (H70.ev 87 rfl) (by kernel_rfl) (by omega) (by omega) (by omega)) fun a71 H71 => wl_ <| i_ H71 rfl (dd_at rfl (H71.ev 88 rfl) (ints_atB (hr35 _ HSL36.below).2 hB35 j (by omega)) Tryd.underlying3 rfl) fun a72 H72 => wl_ <| i_ H72 rfl (v := .int .u8 (bd (byteI (L35.getD j 0)))) (dd_conv (k := .u8) rfl (H72.ev 89 rfl) Tryd.underlying3 (by kernel_rfl) (wrap_u8_bd _)) fun a73 H73 => wl_ <| p_ H73 rfl rfl fun a74 H74 => ln_ <| ?_
     clear H70 a70 H71 a71 H72 a72 H73 a73
     have H75 := H74.sel [1, 0, 5, 7, 8, 10, 11, 12] rfl
     refine nx <| sq_ <| rl_ <| q_ H75 2 rfl fun a76 H76 => wl_ <| i_ H76 rfl (v := .int .i64 (1 + j)) (dd_ari rfl (H76.ev 91 rfl) (H76.ev 92 rfl) rfl (i64_of (by first | omega | (have := bd_lo; omega)) (by omega))) fun a77 H77 => wl_ <| i_ H77 rfl (xAo 32 1 (1 + j) rfl (H77.ev 5 rfl) (H77.ev 93 rfl)) fun a78 H78 => wl_ <| i_ H78 rfl (dd_get HSL36 0 (1 + j) rfl rfl (H78.ev 94 rfl) (bs_get (length_encT _) (1 + j) (by omega)) Tryd.underlying5 rfl) fun a79 H79 => wl_ <| p_ H79 rfl rfl fun a80 H80 => wl_ <| i_ H80 rfl (dd_cmp rfl (H80.ev 95 rfl) (H80.ev 96 rfl) (ne_f (pl_name hG hg35 (show 1 + 9 * 0 = 1 from rfl) (by omega)))) fun a81 H81 => wl_ <| p_ H81 rfl rfl fun a82 H82 => wl_ <| ig H82 (wg_ H82 rfl rfl rfl rfl) rfl (dd_mv rfl (H82.ev 8 rfl)) fun a83 H83 => ?_
     clear H74 H75 a74 H76 a76 H77 a77 H78 a78 H79 a79 H80 a80 H81 a81
     refine wl_ <| ig H83 (wg_ H83 rfl rfl rfl rfl) rfl (v := .int .i64 6) (dd_ari rfl (H83.ev 99 rfl) rfl rfl (by decide)) fun a84 H84 => wl_ <| ig H84 (wg_ H84 rfl rfl rfl rfl) rfl (dd_mv rfl (H84.ev 10 rfl)) fun a85 H85 => wl_ <| ig H85 (wg_ H85 rfl rfl rfl rfl) rfl (v := .int .i64 (6 + j)) (dd_ari rfl (H85.ev 100 rfl) (H85.ev 101 rfl) rfl (i64_of (by first | omega | (have := bd_lo; omega)) (by omega))) fun a86 H86 => wl_ <| ig H86 (wg_ H86 rfl rfl rfl rfl) rfl (xAo 32 1 (6 + j) rfl (H86.ev 5 rfl) (H86.ev 102 rfl)) fun a87 H87 => wl_ <| ig H87 (wg_ H87 rfl rfl rfl rfl) rfl (dd_get HSL36 0 (6 + j) rfl rfl (H87.ev 103 rfl) (bs_get (length_encT _) (6 + j) (by omega)) Tryd.underlying5 rfl) fun a88 H88 => wl_ <| ig H88 (wg_ H88 rfl rfl rfl rfl) rfl (dd_mv rfl (H88.ev 12 rfl)) fun a89 H89 => wl_ <| ig H89 (wg_ H89 rfl rfl rfl rfl) rfl (dd_cmp rfl (H89.ev 104 rfl) (H89.ev 105 rfl) (ne_f (pl_blk hG hg35 (show 1 + 9 * 0 = 1 from rfl) (by omega)))) fun a90 H90 => wl_ <| p_ H90 rfl rfl fun a91 H91 => ?_
     clear H82 a82 H83 a83 H84 a84 H85 a85 H86 a86 H87 a87 H88 a88 H89 a89
     refine ln_ <| ?_
     clear H90 a90
     have H92 := H91.sel [1, 0, 5, 7, 8, 10, 107] rfl
     refine nx <| cf_ H92 rfl <| wp_skip <| bn <| nx <| rl_ <| wl_ <| p_ H92 rfl rfl fun a93 H93 => wl_ <| i_ H93 rfl (v := .int .i64 (j + 1)) (dd_ari rfl (H93.ev 57 rfl) rfl rfl (i64_of (by first | omega | (have := bd_lo; omega)) (by omega))) fun a94 H94 => wl_ <| p_ H94 rfl rfl fun a95 H95 => ln_ <| ?_
     clear H91 H92 a91 H93 a93 H94 a94
     refine nx ⟨j + 1, ⟨(by omega), H95.sel [1, 0, 5, 7, 8, 10] rfl, ss HSL36 [0]⟩, (by omega)⟩
    ·
     refine wl_ <| i_ H62 rfl (dd_cmp rfl (H62.ev 74 rfl) (H62.ev 80 rfl) (lt_f hc64)) fun a96 H96 => ln_ <| nx <| cf_ H96 rfl <| wp_skip <| nx <| sq_ <| rl_ <| q_ H96 2 rfl fun a97 H97 => wl_ <| i_ H97 rfl (v := .int .i64 (1 + j)) (dd_ari rfl (H97.ev 91 rfl) (H97.ev 92 rfl) rfl (i64_of (by first | omega | (have := bd_lo; omega)) (by omega))) fun a98 H98 => wl_ <| i_ H98 rfl (xAo 32 1 (1 + j) rfl (H98.ev 5 rfl) (H98.ev 93 rfl)) fun a99 H99 => wl_ <| i_ H99 rfl (dd_get HSL36 0 (1 + j) rfl rfl (H99.ev 94 rfl) (bs_get (length_encT _) (1 + j) (by omega)) Tryd.underlying5 rfl) fun a100 H100 => wl_ <| p_ H100 rfl rfl fun a101 H101 => wl_ <| i_ H101 rfl (dd_cmp rfl (H101.ev 95 rfl) (H101.ev 96 rfl) (ne_f (pl_name hG hg35 (show 1 + 9 * 0 = 1 from rfl) (by omega)))) fun a102 H102 => wl_ <| p_ H102 rfl rfl fun a103 H103 => ?_
     clear H62 a62 H96 a96 H97 a97 H98 a98 H99 a99 H100 a100 H101 a101
     refine wl_ <| ig H103 (wg_ H103 rfl rfl rfl rfl) rfl (dd_mv rfl (H103.ev 8 rfl)) fun a104 H104 => wl_ <| ig H104 (wg_ H104 rfl rfl rfl rfl) rfl (v := .int .i64 6) (dd_ari rfl (H104.ev 99 rfl) rfl rfl (by decide)) fun a105 H105 => wl_ <| ig H105 (wg_ H105 rfl rfl rfl rfl) rfl (dd_mv rfl (H105.ev 10 rfl)) fun a106 H106 => wl_ <| ig H106 (wg_ H106 rfl rfl rfl rfl) rfl (v := .int .i64 (6 + j)) (dd_ari rfl (H106.ev 100 rfl) (H106.ev 101 rfl) rfl (i64_of (by first | omega | (have := bd_lo; omega)) (by omega))) fun a107 H107 => wl_ <| ig H107 (wg_ H107 rfl rfl rfl rfl) rfl (xAo 32 1 (6 + j) rfl (H107.ev 5 rfl) (H107.ev 102 rfl)) fun a108 H108 => wl_ <| ig H108 (wg_ H108 rfl rfl rfl rfl) rfl (dd_get HSL36 0 (6 + j) rfl rfl (H108.ev 103 rfl) (bs_get (length_encT _) (6 + j) (by omega)) Tryd.underlying5 rfl) fun a109 H109 => wl_ <| ig H109 (wg_ H109 rfl rfl rfl rfl) rfl (dd_mv rfl (H109.ev 12 rfl)) fun a110 H110 => wl_ <| ig H110 (wg_ H110 rfl rfl rfl rfl) rfl (dd_cmp rfl (H110.ev 104 rfl) (H110.ev 105 rfl) (ne_f (pl_blk0 hG hg35 (show 1 + 9 * 0 = 1 from rfl) (by omega) (by omega)))) fun a111 H111 => ?_
     clear H102 a102 H103 a103 H104 a104 H105 a105 H106 a106 H107 a107 H108 a108 H109 a109
     refine wl_ <| p_ H111 rfl rfl fun a112 H112 => ln_ <| ?_
     clear H110 a110 H111 a111
     have H113 := H112.sel [1, 0, 5, 7, 8, 10, 107] rfl
     refine nx <| cf_ H113 rfl <| wp_skip <| bn <| nx <| rl_ <| wl_ <| p_ H113 rfl rfl fun a114 H114 => wl_ <| i_ H114 rfl (v := .int .i64 (j + 1)) (dd_ari rfl (H114.ev 57 rfl) rfl rfl (i64_of (by first | omega | (have := bd_lo; omega)) (by omega))) fun a115 H115 => wl_ <| p_ H115 rfl rfl fun a116 H116 => ln_ <| ?_
     clear H112 H113 a112 H114 a114 H115 a115
     refine nx ⟨j + 1, ⟨(by omega), H116.sel [1, 0, 5, 7, 8, 10] rfl, ss HSL36 [0]⟩, (by omega)⟩
   ·
    refine wl_ <| i_ H46 rfl (dd_cmp rfl (H46.ev 59 rfl) (H46.ev 65 rfl) (lt_f hc48)) fun a117 H117 => ln_ <| nx <| cf_ H117 rfl <| wp_skip <| nx <| sq_ <| sq_ <| rl_ <| q_ H117 3 rfl fun a118 H118 => wl_ <| i_ H118 rfl (xS 2 (o + 0) rfl (H118.ev 75 rfl) (H118.ev 76 rfl)) fun a119 H119 => wl_ <| i_ H119 rfl (xf 1 (o + 0 + 1) rfl (H119.ev 77 rfl)) fun a120 H120 => wl_ <| i_ H120 rfl (dd_at rfl (H120.ev 78 rfl) ((hr35 _ HSL36.below).1 1 _ rfl) Tryd.underlying43 rfl) fun a121 H121 => wl_ <| i_ H121 rfl (v := .int .i64 m35) (dd_len rfl (H121.ev 79 rfl) Tryd.underlying43) fun a122 H122 => ?_
    clear H46 a46 H117 a117 H118 a118 H119 a119 H120 a120 H121 a121
    by_cases hc124 : (j : Int) < m35
    ·
     refine wl_ <| i_ H122 rfl (dd_cmp rfl (H122.ev 74 rfl) (H122.ev 80 rfl) (lt_t hc124)) fun a125 H125 => ln_ <| ?_
     clear H122 a122
     have H126 := H125.sel [1, 0, 5, 7, 8, 10, 11, 12, 81] rfl
     refine nx <| ct_ H126 rfl <| rl_ <| q_ H126 2 rfl fun a127 H127 => wl_ <| i_ H127 rfl (xS 2 (o + 0) rfl (H127.ev 82 rfl) (H127.ev 83 rfl)) fun a128 H128 => wl_ <| i_ H128 rfl (xf 1 (o + 0 + 1) rfl (H128.ev 84 rfl)) fun a129 H129 => wl_ <| i_ H129 rfl (dd_at rfl (H129.ev 85 rfl) ((hr35 _ HSL36.below).1 1 _ rfl) Tryd.underlying43 rfl) fun a130 H130 => wl_ <| p_ H130 rfl rfl fun a131 H131 => ?_
     clear H125 H126 a125 H127 a127 H128 a128 H129 a129 H130 a130
     obtain ⟨bi35, oi35, hB35⟩ := ints_addr (hr35 _ (Below.refl _ _)).2 (by omega)
     refine wl_ <| i_ H131 rfl (dd_idxS (sz := 1) (j := oi35 + j) rfl (sl_at (H131.ev 86 rfl) hB35) (H131.ev 87 rfl) (by kernel_rfl) (by omega) (by omega) (by omega)) fun a132 H132 => wl_ <| i_ H132 rfl (dd_at rfl (H132.ev 88 rfl) (ints_atB (hr35 _ HSL36.below).2 hB35 j (by omega)) Tryd.underlying3 rfl) fun a133 H133 => wl_ <| i_ H133 rfl (v := .int .u8 (bd (byteI (L35.getD j 0)))) (dd_conv (k := .u8) rfl (H133.ev 89 rfl) Tryd.underlying3 (by kernel_rfl) (wrap_u8_bd _)) fun a134 H134 => wl_ <| p_ H134 rfl rfl fun a135 H135 => ln_ <| nx <| sq_ <| rl_ <| q_ H135 2 rfl fun a136 H136 => wl_ <| i_ H136 rfl (v := .int .i64 (1 + j)) (dd_ari rfl (H136.ev 91 rfl) (H136.ev 92 rfl) rfl (i64_of (by first | omega | (have := bd_lo; omega)) (by omega))) fun a137 H137 => wl_ <| i_ H137 rfl (xAo 32 1 (1 + j) rfl (H137.ev 5 rfl) (H137.ev 93 rfl)) fun a138 H138 => wl_ <| i_ H138 rfl (dd_get HSL36 0 (1 + j) rfl rfl (H138.ev 94 rfl) (bs_get (length_encT _) (1 + j) (by omega)) Tryd.underlying5 rfl) fun a139 H139 => ?_
     clear H131 a131 H132 a132 H133 a133 H134 a134 H135 a135 H136 a136 H137 a137
     refine wl_ <| p_ H139 rfl rfl fun a140 H140 => wl_ <| i_ H140 rfl (dd_cmp rfl (H140.ev 95 rfl) (H140.ev 96 rfl) (ne_f (pl_name0 hG hg35 (show 1 + 9 * 0 = 1 from rfl) (by omega) (by omega)))) fun a141 H141 => wl_ <| p_ H141 rfl rfl fun a142 H142 => wl_ <| ig H142 (wg_ H142 rfl rfl rfl rfl) rfl (dd_mv rfl (H142.ev 8 rfl)) fun a143 H143 => wl_ <| ig H143 (wg_ H143 rfl rfl rfl rfl) rfl (v := .int .i64 6) (dd_ari rfl (H143.ev 99 rfl) rfl rfl (by decide)) fun a144 H144 => wl_ <| ig H144 (wg_ H144 rfl rfl rfl rfl) rfl (dd_mv rfl (H144.ev 10 rfl)) fun a145 H145 => wl_ <| ig H145 (wg_ H145 rfl rfl rfl rfl) rfl (v := .int .i64 (6 + j)) (dd_ari rfl (H145.ev 100 rfl) (H145.ev 101 rfl) rfl (i64_of (by first | omega | (have := bd_lo; omega)) (by omega))) fun a146 H146 => wl_ <| ig H146 (wg_ H146 rfl rfl rfl rfl) rfl (xAo 32 1 (6 + j) rfl (H146.ev 5 rfl) (H146.ev 102 rfl)) fun a147 H147 => ?_
     clear H138 a138 H139 a139 H140 a140 H141 a141 H142 a142 H143 a143 H144 a144 H145 a145
     refine wl_ <| ig H147 (wg_ H147 rfl rfl rfl rfl) rfl (dd_get HSL36 0 (6 + j) rfl rfl (H147.ev 103 rfl) (bs_get (length_encT _) (6 + j) (by omega)) Tryd.underlying5 rfl) fun a148 H148 => wl_ <| ig H148 (wg_ H148 rfl rfl rfl rfl) rfl (dd_mv rfl (H148.ev 12 rfl)) fun a149 H149 => wl_ <| ig H149 (wg_ H149 rfl rfl rfl rfl) rfl (dd_cmp rfl (H149.ev 104 rfl) (H149.ev 105 rfl) (ne_f (pl_blk hG hg35 (show 1 + 9 * 0 = 1 from rfl) (by omega)))) fun a150 H150 => wl_ <| p_ H150 rfl rfl fun a151 H151 => ln_ <| ?_
     clear H146 a146 H147 a147 H148 a148 H149 a149 H150 a150
     have H152 := H151.sel [1, 0, 5, 7, 8, 10, 107] rfl
     refine nx <| cf_ H152 rfl <| wp_skip <| bn <| nx <| rl_ <| wl_ <| p_ H152 rfl rfl fun a153 H153 => wl_ <| i_ H153 rfl (v := .int .i64 (j + 1)) (dd_ari rfl (H153.ev 57 rfl) rfl rfl (i64_of (by first | omega | (have := bd_lo; omega)) (by omega))) fun a154 H154 => wl_ <| p_ H154 rfl rfl fun a155 H155 => ln_ <| ?_
     clear H151 H152 a151 H153 a153 H154 a154
     refine nx ⟨j + 1, ⟨(by omega), H155.sel [1, 0, 5, 7, 8, 10] rfl, ss HSL36 [0]⟩, (by omega)⟩
    ·
     refine wl_ <| i_ H122 rfl (dd_cmp rfl (H122.ev 74 rfl) (H122.ev 80 rfl) (lt_f hc124)) fun a156 H156 => ln_ <| ?_
     clear H122 a122
     have H157 := H156.sel [1, 0, 5, 7, 8, 10, 11, 12, 81] rfl
     refine nx <| cf_ H157 rfl <| wp_skip <| nx <| sq_ <| rl_ <| q_ H157 2 rfl fun a158 H158 => wl_ <| i_ H158 rfl (v := .int .i64 (1 + j)) (dd_ari rfl (H158.ev 91 rfl) (H158.ev 92 rfl) rfl (i64_of (by first | omega | (have := bd_lo; omega)) (by omega))) fun a159 H159 => wl_ <| i_ H159 rfl (xAo 32 1 (1 + j) rfl (H159.ev 5 rfl) (H159.ev 93 rfl)) fun a160 H160 => wl_ <| i_ H160 rfl (dd_get HSL36 0 (1 + j) rfl rfl (H160.ev 94 rfl) (bs_get (length_encT _) (1 + j) (by omega)) Tryd.underlying5 rfl) fun a161 H161 => wl_ <| p_ H161 rfl rfl fun a162 H162 => wl_ <| i_ H162 rfl (dd_cmp rfl (H162.ev 95 rfl) (H162.ev 96 rfl) (ne_f (pl_name0 hG hg35 (show 1 + 9 * 0 = 1 from rfl) (by omega) (by omega)))) fun a163 H163 => wl_ <| p_ H163 rfl rfl fun a164 H164 => wl_ <| ig H164 (wg_ H164 rfl rfl rfl rfl) rfl (dd_mv rfl (H164.ev 8 rfl)) fun a165 H165 => ?_
     clear H156 H157 a156 H158 a158 H159 a159 H160 a160 H161 a161 H162 a162 H163 a163
     refine wl_ <| ig H165 (wg_ H165 rfl rfl rfl rfl) rfl (v := .int .i64 6) (dd_ari rfl (H165.ev 99 rfl) rfl rfl (by decide)) fun a166 H166 => wl_ <| ig H166 (wg_ H166 rfl rfl rfl rfl) rfl (dd_mv rfl (H166.ev 10 rfl)) fun a167 H167 => wl_ <| ig H167 (wg_ H167 rfl rfl rfl rfl) rfl (v := .int .i64 (6 + j)) (dd_ari rfl (H167.ev 100 rfl) (H167.ev 101 rfl) rfl (i64_of (by first | omega | (have := bd_lo; omega)) (by omega))) fun a168 H168 => wl_ <| ig H168 (wg_ H168 rfl rfl rfl rfl) rfl (xAo 32 1 (6 + j) rfl (H168.ev 5 rfl) (H168.ev 102 rfl)) fun a169 H169 => wl_ <| ig H169 (wg_ H169 rfl rfl rfl rfl) rfl (dd_get HSL36 0 (6 + j) rfl rfl (H169.ev 103 rfl) (bs_get (length_encT _) (6 + j) (by omega)) Tryd.underlying5 rfl) fun a170 H170 => wl_ <| ig H170 (wg_ H170 rfl rfl rfl rfl) rfl (dd_mv rfl (H170.ev 12 rfl)) fun a171 H171 => wl_ <| ig H171 (wg_ H171 rfl rfl rfl rfl) rfl (dd_cmp rfl (H171.ev 104 rfl) (H171.ev 105 rfl) (ne_f (pl_blk0 hG hg35 (show 1 + 9 * 0 = 1 from rfl) (by omega) (by omega)))) fun a172 H172 => wl_ <| p_ H172 rfl rfl fun a173 H173 => ?_
     clear H164 a164 H165 a165 H166 a166 H167 a167 H168 a168 H169 a169 H170 a170 H171 a171
     refine ln_ <| ?_
     clear H172 a172
     have H174 := H173.sel [1, 0, 5, 7, 8, 10, 107] rfl
     refine nx <| cf_ H174 rfl <| wp_skip <| bn <| nx <| rl_ <| wl_ <| p_ H174 rfl rfl fun a175 H175 => wl_ <| i_ H175 rfl (v := .int .i64 (j + 1)) (dd_ari rfl (H175.ev 57 rfl) rfl rfl (i64_of (by first | omega | (have := bd_lo; omega)) (by omega))) fun a176 H176 => wl_ <| p_ H176 rfl rfl fun a177 H177 => ln_ <| ?_
     clear H173 H174 a173 H175 a175 H176 a176
     refine nx ⟨j + 1, ⟨(by omega), H177.sel [1, 0, 5, 7, 8, 10] rfl, ss HSL36 [0]⟩, (by omega)⟩
  ·
   refine wl_ <| i_ H37 rfl (dd_cmp rfl (H37.ev 55 rfl) rfl (lt_f hc39)) fun a178 H178 => ln_ <| nx <| cf_ H178 rfl <| wp_exit <| tx <| tx <| bx <| nx <| sq_ <| ?_
   clear H37 a37
   refine wi_ HSL36 [0] rfl [0] rfl fun HSh179 hx179 => hp_ H178 0 hx179 rfl rfl rfl fun a180 H180 => ht_ H180 1 hx179 rfl rfl (v := .int .i64 5) (fun _ _ _ => dd_ari rfl (H180.ev 108 rfl) rfl rfl (by decide)) fun a181 H181 => ht_ H181 2 hx179 rfl rfl (fun _ _ _ => xA 32 1 5 rfl (H181.ev 5 rfl) (H181.ev 109 rfl)) fun a182 H182 => ht_ H182 3 hx179 rfl rfl (fun _ _ HS9 => dd_get HS9 0 5 rfl rfl (H182.ev 110 rfl) (bs_get (length_encT _) 5 (by decide)) Tryd.underlying5 rfl) fun a183 H183 => ht_ H183 4 hx179 rfl rfl (v := .int .i64 (bd ((encT l).getD 5 0#8))) (fun _ _ _ => dd_conv (k := .i64) rfl (H183.ev 111 rfl) Tryd.underlying5 (by kernel_rfl) (i64_bdA _)) fun a184 H184 => hp_ H184 5 hx179 rfl rfl rfl fun a185 H185 => hp_ H185 6 hx179 rfl rfl rfl fun a186 H186 => ?_
   clear HSL36 H178 a178 H180 a180 H181 a181 H182 a182 H183 a183 H184 a184
   refine ht_ H186 7 hx179 rfl rfl (fun _ _ _ => xS 2 (o + 0) rfl (H186.ev 113 rfl) (H186.ev 114 rfl)) fun a187 H187 => ht_ H187 8 hx179 rfl rfl (fun _ _ _ => xf 1 (o + 0 + 1) rfl (H187.ev 115 rfl)) fun a188 H188 => ht_ H188 9 hx179 rfl rfl (fun _ _ HS9 => dd_at rfl (H188.ev 116 rfl) ((hr35 _ HS9.below).1 1 _ rfl) Tryd.underlying43 rfl) fun a189 H189 => ht_ H189 10 hx179 rfl rfl (v := .int .i64 m35) (fun _ _ _ => dd_len rfl (H189.ev 117 rfl) Tryd.underlying43) fun a190 H190 => ht_ H190 11 hx179 rfl rfl (v := .bool false) (fun _ _ _ => dd_cmp rfl (H190.ev 112 rfl) (H190.ev 118 rfl) (ne_f ((pl_num hG hg35 (show 1 + 9 * 0 = 1 from rfl)).trans (by rw [hm35])))) fun a191 H191 => hp_ H191 12 hx179 rfl rfl rfl fun a192 H192 => htg H192 13 hx179 rfl (wg_ H192 rfl rfl rfl rfl) rfl (fun _ _ _ => dd_mv rfl (H192.ev 0 rfl)) fun a193 H193 => htg H193 14 hx179 rfl (wg_ H193 rfl rfl rfl rfl) rfl (fun _ _ _ => dd_mv rfl (H193.ev 7 rfl)) fun a194 H194 => ?_
   clear H185 a185 H186 a186 H187 a187 H188 a188 H189 a189 H190 a190 H191 a191 H192 a192
   refine htg H194 15 hx179 rfl (wg_ H194 rfl rfl rfl rfl) rfl (fun _ _ _ => xS 2 (o + 0) rfl (H194.ev 121 rfl) (H194.ev 122 rfl)) fun a195 H195 => htg H195 16 hx179 rfl (wg_ H195 rfl rfl rfl rfl) rfl (fun _ _ _ => xf 0 (o + 0) rfl (H195.ev 123 rfl)) fun a196 H196 => htg H196 17 hx179 rfl (wg_ H196 rfl rfl rfl rfl) rfl (fun _ _ HS9 => dd_at rfl (H196.ev 124 rfl) ((hr35 _ HS9.below).1 0 _ rfl) Tryd.underlying9 rfl) fun a197 H197 => htg H197 18 hx179 rfl (wg_ H197 rfl rfl rfl rfl) rfl (fun _ _ _ => dd_mv rfl (H197.ev 0 rfl)) fun a198 H198 => htg H198 20 hx179 rfl (wg_ H198 rfl rfl rfl rfl) rfl (fun _ _ _ => dd_mv rfl (H198.ev 7 rfl)) fun a199 H199 => h1_ 19 rfl <| cg H199 (wg_ H199 rfl rfl rfl rfl) rfl HSh179 (v := .int .i64 0) (dc_ Tryd.func17 rfl (args2 (H199.ev 125 rfl) (H199.ev 126 rfl)) (find_any _ _ _ p35 l wL36.drew (HVl _ HSh179.below) (by decide)) (fun _ w9 h9 => ⟨_, h9.1, by rw [show findI p35 l = (0 : Int) from find_good hG hg35], h9.2⟩)) fun W200 HS200 a200 H200 => sx_ (sxi HS200 [0] rfl) fun hx201 => htg H200 21 hx201 rfl (wg_ H200 rfl rfl rfl rfl) rfl (fun _ _ _ => dd_cmp rfl (H200.ev 127 rfl) (H200.ev 128 rfl) (ne_f (by decide))) fun a202 H202 => ?_
   clear H193 a193 H194 a194 H195 a195 H196 a196 H197 a197 H198 a198 H199 a199 HSh179 hx179
   refine hp_ H202 22 hx201 rfl rfl rfl fun a203 H203 => ?_
   clear H200 a200 H202 a202
   refine wpAnyH_done (by kernel_rfl) ?_ _
   clear hx201
   refine nx <| cf_ H203 rfl <| wp_skip <| bn <| nx <| rl_ <| wl_ <| p_ H203 rfl rfl fun a204 H204 => wl_ <| i_ H204 rfl (v := .int .i64 1) (dd_ari rfl (H204.ev 36 rfl) rfl rfl (by decide)) fun a205 H205 => wl_ <| p_ H205 rfl rfl fun a206 H206 => ln_ <| ?_
   clear H203 a203 H204 a204 H205 a205
   have H207 := H206.sel [1, 0, 5, 7] rfl
   refine nx <| unr_go <| sq_ <| sq_ <| rl_ <| wl_ <| p_ H207 rfl rfl fun a208 H208 => wl_ <| i_ H208 rfl (dd_cmp rfl (H208.ev 34 rfl) rfl (lt_t (by decide))) fun a209 H209 => ln_ <| nx <| ct_ H209 rfl <| wp_skip <| nx <| sq_ <| wp_block <| sq_ <| rl_ <| wl_ <| p_ H209 rfl rfl fun a210 H210 => wl_ <| i_ H210 rfl (v := .int .i64 9) (dd_ari rfl rfl (H210.ev 38 rfl) rfl (by decide)) fun a211 H211 => wl_ <| i_ H211 rfl (v := .int .i64 10) (dd_ari rfl rfl (H211.ev 39 rfl) rfl (by decide)) fun a212 H212 => wl_ <| p_ H212 rfl rfl fun a213 H213 => ln_ <| nx <| sq_ <| sq_ <| rl_ <| q_ H213 2 rfl fun a214 H214 => wl_ <| i_ H214 rfl (v := .int .i64 1) (dd_len rfl (H214.ev 42 rfl) Tryd.underlying22) fun a215 H215 => ?_
   clear H206 H207 a206 H208 a208 H209 a209 H210 a210 H211 a211 H212 a212 H213 a213
   refine wl_ <| i_ H215 rfl (dd_cmp rfl (H215.ev 41 rfl) (H215.ev 43 rfl) (ge_t (by decide))) fun a216 H216 => ln_ <| nx <| ct_ H216 rfl <| sq_ <| sq_ <| rl_ <| wl_ <| p_ H216 rfl rfl fun a217 H217 => ln_ <| nx <| wp_block <| ?_
   clear H214 a214 H215 a215 H216 a216
   refine wp_loopG (ι := Nat) (fun j a9 w9 => (j ≤ 9) ∧ En 150 [(9, .int .i64 j), (8, .int .i64 10), (7, .int .i64 1), (5, .pointer (some ⟨g5, 0, none⟩)), (0, .slice (some ⟨b, o, none⟩) 1 c), (1, .int .u8 (bd z))] a9 ∧ St w noF [⟨g5, 24, bs (encT l)⟩] w9) (fun j => 9 - j) (0) ⟨Nat.zero_le _, H217.sel [1, 0, 5, 7, 8, 9] rfl, ss HS200 [0]⟩ ?_
   clear H217 a217 HS200
   rintro j aL218 wL218 ⟨hj, HL218, HSL218⟩
   refine sq_ <| sq_ <| rl_ <| wl_ <| p_ HL218 rfl rfl fun a219 H219 => ?_
   clear HL218 aL218
   by_cases hc221 : (j : Int) < 9
   ·
    refine wl_ <| i_ H219 rfl (dd_cmp rfl (H219.ev 45 rfl) rfl (lt_t hc221)) fun a222 H222 => ln_ <| nx <| ct_ H222 rfl <| wp_skip <| nx <| sq_ <| wp_block <| sq_ <| rl_ <| q_ H222 2 rfl fun a223 H223 => wl_ <| i_ H223 rfl (v := .int .i64 (10 + j)) (dd_ari rfl (H223.ev 49 rfl) (H223.ev 50 rfl) rfl (i64_of (by first | omega | (have := bd_lo; omega)) (by omega))) fun a224 H224 => wl_ <| i_ H224 rfl (xAo 32 1 (10 + j) rfl (H224.ev 5 rfl) (H224.ev 51 rfl)) fun a225 H225 => wl_ <| i_ H225 rfl (dd_get HSL218 0 (10 + j) rfl rfl (H225.ev 52 rfl) (bs_get (length_encT _) (10 + j) (by omega)) Tryd.underlying5 rfl) fun a226 H226 => wl_ <| i_ H226 rfl (dd_cmp rfl (H226.ev 53 rfl) rfl (ne_f (show bd ((encT l).getD (10 + j) 0#8) = 0 by rw [pl_zero hG hln (by omega)]; rfl))) fun a227 H227 => ln_ <| nx <| cf_ H227 rfl <| wp_skip <| bn <| nx <| rl_ <| wl_ <| p_ H227 rfl rfl fun a228 H228 => wl_ <| i_ H228 rfl (v := .int .i64 (j + 1)) (dd_ari rfl (H228.ev 47 rfl) rfl rfl (i64_of (by first | omega | (have := bd_lo; omega)) (by omega))) fun a229 H229 => ?_
    clear H219 a219 H222 a222 H223 a223 H224 a224 H225 a225 H226 a226 H227 a227
    refine wl_ <| p_ H229 rfl rfl fun a230 H230 => ln_ <| ?_
    clear H228 a228 H229 a229
    refine nx ⟨j + 1, ⟨(by omega), H230.sel [1, 0, 5, 7, 8, 9] rfl, ss HSL218 [0]⟩, (by omega)⟩
   ·
    refine wl_ <| i_ H219 rfl (dd_cmp rfl (H219.ev 45 rfl) rfl (lt_f hc221)) fun a231 H231 => ln_ <| nx <| cf_ H231 rfl <| wp_exit <| tx <| tx <| bx <| nx <| wp_exit <| tx <| bx <| nx <| rl_ <| wl_ <| p_ H231 rfl rfl fun a232 H232 => wl_ <| i_ H232 rfl (v := .int .i64 2) (dd_ari rfl (H232.ev 36 rfl) rfl rfl (by decide)) fun a233 H233 => wl_ <| p_ H233 rfl rfl fun a234 H234 => ln_ <| nx <| unr_go <| sq_ <| sq_ <| rl_ <| wl_ <| p_ H234 rfl rfl fun a235 H235 => wl_ <| i_ H235 rfl (dd_cmp rfl (H235.ev 34 rfl) rfl (lt_t (by decide))) fun a236 H236 => ln_ <| nx <| ct_ H236 rfl <| wp_skip <| nx <| sq_ <| wp_block <| sq_ <| rl_ <| wl_ <| p_ H236 rfl rfl fun a237 H237 => wl_ <| i_ H237 rfl (v := .int .i64 18) (dd_ari rfl rfl (H237.ev 38 rfl) rfl (by decide)) fun a238 H238 => ?_
    clear H219 a219 H231 a231 H232 a232 H233 a233 H234 a234 H235 a235 H236 a236
    refine wl_ <| i_ H238 rfl (v := .int .i64 19) (dd_ari rfl rfl (H238.ev 39 rfl) rfl (by decide)) fun a239 H239 => wl_ <| p_ H239 rfl rfl fun a240 H240 => ln_ <| nx <| sq_ <| sq_ <| rl_ <| q_ H240 2 rfl fun a241 H241 => wl_ <| i_ H241 rfl (v := .int .i64 1) (dd_len rfl (H241.ev 42 rfl) Tryd.underlying22) fun a242 H242 => wl_ <| i_ H242 rfl (dd_cmp rfl (H242.ev 41 rfl) (H242.ev 43 rfl) (ge_t (by decide))) fun a243 H243 => ln_ <| nx <| ct_ H243 rfl <| sq_ <| sq_ <| rl_ <| wl_ <| p_ H243 rfl rfl fun a244 H244 => ln_ <| nx <| wp_block <| ?_
    clear H237 a237 H238 a238 H239 a239 H240 a240 H241 a241 H242 a242 H243 a243
    refine wp_loopG (ι := Nat) (fun j a9 w9 => (j ≤ 9) ∧ En 150 [(9, .int .i64 j), (8, .int .i64 19), (7, .int .i64 2), (5, .pointer (some ⟨g5, 0, none⟩)), (0, .slice (some ⟨b, o, none⟩) 1 c), (1, .int .u8 (bd z))] a9 ∧ St w noF [⟨g5, 24, bs (encT l)⟩] w9) (fun j => 9 - j) (0) ⟨Nat.zero_le _, H244.sel [1, 0, 5, 7, 8, 9] rfl, ss HSL218 [0]⟩ ?_
    clear H244 a244 HSL218
    rintro j aL245 wL245 ⟨hj, HL245, HSL245⟩
    refine sq_ <| sq_ <| rl_ <| wl_ <| p_ HL245 rfl rfl fun a246 H246 => ?_
    clear HL245 aL245
    by_cases hc248 : (j : Int) < 9
    ·
     refine wl_ <| i_ H246 rfl (dd_cmp rfl (H246.ev 45 rfl) rfl (lt_t hc248)) fun a249 H249 => ln_ <| nx <| ct_ H249 rfl <| wp_skip <| nx <| sq_ <| wp_block <| sq_ <| rl_ <| q_ H249 2 rfl fun a250 H250 => wl_ <| i_ H250 rfl (v := .int .i64 (19 + j)) (dd_ari rfl (H250.ev 49 rfl) (H250.ev 50 rfl) rfl (i64_of (by first | omega | (have := bd_lo; omega)) (by omega))) fun a251 H251 => wl_ <| i_ H251 rfl (xAo 32 1 (19 + j) rfl (H251.ev 5 rfl) (H251.ev 51 rfl)) fun a252 H252 => wl_ <| i_ H252 rfl (dd_get HSL245 0 (19 + j) rfl rfl (H252.ev 52 rfl) (bs_get (length_encT _) (19 + j) (by omega)) Tryd.underlying5 rfl) fun a253 H253 => wl_ <| i_ H253 rfl (dd_cmp rfl (H253.ev 53 rfl) rfl (ne_f (show bd ((encT l).getD (19 + j) 0#8) = 0 by rw [pl_zero hG hln (by omega)]; rfl))) fun a254 H254 => ln_ <| nx <| cf_ H254 rfl <| wp_skip <| bn <| nx <| rl_ <| wl_ <| p_ H254 rfl rfl fun a255 H255 => wl_ <| i_ H255 rfl (v := .int .i64 (j + 1)) (dd_ari rfl (H255.ev 47 rfl) rfl rfl (i64_of (by first | omega | (have := bd_lo; omega)) (by omega))) fun a256 H256 => ?_
     clear H246 a246 H249 a249 H250 a250 H251 a251 H252 a252 H253 a253 H254 a254
     refine wl_ <| p_ H256 rfl rfl fun a257 H257 => ln_ <| ?_
     clear H255 a255 H256 a256
     refine nx ⟨j + 1, ⟨(by omega), H257.sel [1, 0, 5, 7, 8, 9] rfl, ss HSL245 [0]⟩, (by omega)⟩
    ·
     refine wl_ <| i_ H246 rfl (dd_cmp rfl (H246.ev 45 rfl) rfl (lt_f hc248)) fun a258 H258 => ln_ <| nx <| cf_ H258 rfl <| wp_exit <| tx <| tx <| bx <| nx <| wp_exit <| tx <| bx <| nx <| rl_ <| wl_ <| p_ H258 rfl rfl fun a259 H259 => wl_ <| i_ H259 rfl (v := .int .i64 3) (dd_ari rfl (H259.ev 36 rfl) rfl rfl (by decide)) fun a260 H260 => wl_ <| p_ H260 rfl rfl fun a261 H261 => ln_ <| nx <| unr_go <| sq_ <| sq_ <| rl_ <| wl_ <| p_ H261 rfl rfl fun a262 H262 => wl_ <| i_ H262 rfl (dd_cmp rfl (H262.ev 34 rfl) rfl (lt_f (by decide))) fun a263 H263 => ln_ <| nx <| cf_ H263 rfl <| wp_exit <| tx <| tx <| bx <| nx <| sq_ <| rl_ <| wl_ <| p_ H263 rfl rfl fun a264 H264 => ?_
     clear H246 a246 H258 a258 H259 a259 H260 a260 H261 a261 H262 a262 H263 a263
     obtain ⟨r, hr, hr4⟩ := mod_nat (bd z) 4 (bd_lo _) (by decide)
     refine wl_ <| i_ H264 rfl (v := .int .u8 r) (dd_rem rfl (H264.ev 131 rfl) rfl (by decide) hr) fun a265 H265 => wl_ <| i_ H265 rfl (v := .int .u8 (28 + r)) (dd_ari rfl rfl (H265.ev 132 rfl) rfl (u8_of (by omega) (by omega))) fun a266 H266 => wl_ <| i_ H266 rfl (xAo 32 1 (28 + r) rfl (H266.ev 5 rfl) (H266.ev 133 rfl)) fun a267 H267 => wl_ <| t_ rfl (S := [⟨g5, 24, bs ((encT l).set (28 + r) (1#8))⟩]) (fun _ h => dd_put HSL245 0 (28 + r) rfl rfl (H267.ev 134 rfl) rfl (by kernel_rfl) rfl rfl (blt_fit ((size_bs _).trans (length_encT _)) (by omega)) (set_bs _ _ (1#8)) h) fun W268 HS268 => ln_ <| nx <| sq_ <| rl_ <| wl_ <| i_ H267 rfl (v := .agg (bs ((encT l).set (28 + r) (1#8)))) (dd_load HS268 0 0 rfl rfl (H267.ev 5 rfl) (slab_whole _) Tryd.underlying24 rfl (by rw [show (bs ((encT l).set (28 + r) (1#8))).size = 32 from ((size_bs _).trans (len_set (length_encT _)))]; kernel_rfl)) fun a269 H269 => ?_
     clear H264 a264 H265 a265 H266 a266 HSL245 H267 a267
     refine wl_ <| d_ H269 rfl (R := fun v w9 => ∃ A271 C271, v = .tuple #[.slice A271 0 C271, .int .i64 11] ∧ ((volL ([])).length = 0 ∧ 0 ≤ 3) ∧ (OV W268.heap.size w9 (.slice A271 0 C271) (volL ([]))) ∧ Below W268.heap.size W268 w9) (dc_ Tryd.func12 rfl (args1 (H269.ev 136 rfl)) (dect_any ((encT l).set (28 + r) (1#8)) W268 (len_set (length_encT _))) (fun _ w9 ⟨v9, he, ho, hb⟩ => by rw [(dec_bad (pl_bad hr4)).2] at he; rw [(dec_bad (pl_bad hr4)).1] at ho; obtain ⟨A9, n9, c9, rfl, h1, _⟩ := OV.form2 ho; obtain rfl : n9 = 0 := h1.symm; exact ⟨_, he, A9, c9, rfl, ⟨h1, (by decide)⟩, ho, hb⟩)) ?_
     rintro _ W270 ⟨A271, C271, rfl, hNd271, hov271, hb270⟩ a270 H270
     have HS270 := HS268.same hb270
     clear H269 a269
     have HBs272 : Below w.heap.size w W270 := HS270.below
     have HVlr := fun (W9 : World) (hb9 : Below W270.heap.size W270 W9) => HVl W9 (HBs272.trans (hb9.mono HBs272.size))
     clear HVl
     have HVl := HVlr
     clear HVlr
     have hr35r := fun (W9 : World) (hb9 : Below W270.heap.size W270 W9) => hr35 W9 (HBs272.trans (hb9.mono HBs272.size))
     clear hr35
     have hr35 := hr35r
     clear hr35r
     have HR272_0 := fun (W9 : World) (hb9 : Below W270.heap.size W270 W9) => (HS270.row 0 rfl).call hb9
     have HSb272 := St.nil W270 noF
     clear HS270
     have HVd271 := fun (W9 : World) (hb9 : Below W270.heap.size W270 W9) => ((hov271.vols (Nat.le_trans (Nat.le_of_eq hNd271.1) (Nat.le_trans hNd271.2 (by decide)))).below hb9 (Nat.le_refl _))
     have hMd271 := (show ∀ x ∈ ([] : List Tv), x.2.length ≤ 1000000 from fun x h => by cases h)
     clear HS268 hb270
     refine wl_ <| p_ H270 rfl rfl fun a273 H273 => wl_ <| i_ H273 rfl (dd_ext rfl (H273.ev 135 rfl) rfl) fun a274 H274 => wl_ <| i_ H274 rfl (dd_ext rfl (H274.ev 135 rfl) rfl) fun a275 H275 => q_ H275 2 rfl fun a276 H276 => ln_ <| ?_
     clear H270 a270 H273 a273 H274 a274 H275 a275
     have H277 := H276.sel [13, 14] rfl
     refine nx <| sq_ <| rl_ <| wl_ <| p_ H277 rfl rfl fun a278 H278 => wl_ <| i_ H278 rfl (v := .int .i64 0) (dd_len rfl (H278.ev 140 rfl) Tryd.underlying22) fun a279 H279 => wl_ <| i_ H279 rfl (dd_cmp rfl (H279.ev 141 rfl) rfl (eq_t (by decide))) fun a280 H280 => wl_ <| p_ H280 rfl rfl fun a281 H281 => wl_ <| ig H281 (wg_ H281 rfl rfl rfl rfl) rfl (dd_mv rfl (H281.ev 14 rfl)) fun a282 H282 => wl_ <| ig H282 (wg_ H282 rfl rfl rfl rfl) rfl (dd_cmp rfl (H282.ev 144 rfl) rfl (eq_t (by decide))) fun a283 H283 => q_ H283 2 rfl fun a284 H284 => wl_ <| cg H284 (wg_ H284 rfl rfl rfl rfl) rfl HSb272 (dcs Tryd.func8 rfl (args0 ) (tabwakes_any W270) (.bool true)) fun W285 HS285 a285 H285 => ?_
     clear H276 H277 a276 H278 a278 H279 a279 H280 a280 H281 a281 H282 a282 H283 a283
     refine q_ H285 2 rfl fun a286 H286 => ln_ <| nx <| wp_ret <| ret_run H286.env0 (res_t Tryd.results5 (H286.get 4 rfl)) <| ?_
     clear H284 a284 HSb272 H285 a285
     exact ⟨rfl, (HBs272.trans (HS285.below.mono HBs272.size))⟩
set_option maxHeartbeats 3200000 in
theorem tabplaces2 (b o c : Nat) (l : List Tv) (z : BitVec 8) (w : World) (h0 : VolsAt w (.slice (some ⟨b, o, none⟩) 2 c) (volL l)) (hG : goodT l = true) :
    Calls Tryd.prog 5 #[.slice (some ⟨b, o, none⟩) 2 c, .int .u8 (bd z)] w fun e w' => e = .returned (.bool true) ∧ Below w.heap.size w w' := by
  have HS := St.nil w noF
  have HVl : ∀ W, Below w.heap.size w W → VolsAt W (.slice (some ⟨b, o, none⟩) 2 c) (volL l) := fun W hb => h0.below hb (Nat.le_refl _)
  have hln : l.length = 2 := by rw [← len_volL]; exact vols_len h0
  have hm1 : ∀ x ∈ l, x.2.length ≤ 1000000 := fun x hx => by
    have := (good_vals hG hx).2.2.1
    omega
  refine enter_en Tryd.func5 rfl Tryd.ntmps5 (Nat.le_of_ble_eq_true rfl) fun a0 (HA0 : En 150 [(0, .slice (some ⟨b, o, none⟩) 2 c), (1, .int .u8 (bd z))] a0) => ?_
  refine sq_ <| rl_ <| wl_ <| p_ HA0 rfl rfl fun a1 H1 => ln_ <| nx <| sq_ <| sq_ <| rl_ <| wl_ <| p_ H1 rfl rfl fun a2 H2 => wl_ <| c_ H2 rfl HS (v := .bool true) (dc_ Tryd.func15 rfl (args1 (H2.ev 15 rfl)) (rgoodt_all _ _ _ l w (HVl _ HS.below)) (fun _ w9 h9 => ⟨_, h9.1, by rw [hG], h9.2⟩)) fun W3 HS3 a3 H3 => wl_ <| i_ H3 rfl (v := .bool false) (dd_nt rfl (H3.ev 16 rfl) rfl) fun a4 H4 => ln_ <| nx <| cf_ H4 rfl <| wp_skip <| nx <| sq_ <| rl_ <| wl_ <| p_ H4 rfl rfl fun a5 H5 => wl_ <| c_ H5 rfl HS3 (v := .tuple #[.agg (bs (encT l)), .int .i64 0]) (dc_ Tryd.func10 rfl (args1 (H5.ev 20 rfl)) (enct_any _ _ _ l W3 (HVl _ HS3.below) (by decide) hm1) (fun _ w9 h9 => ⟨_, by rw [encE_z.2 hG] at h9; exact h9.1, rfl, h9.2⟩)) fun W6 HS6 a6 H6 => wl_ <| p_ H6 rfl rfl fun a7 H7 => wl_ <| i_ H7 rfl (dd_ext rfl (H7.ev 19 rfl) rfl) fun a8 H8 => ?_
  clear HA0 a0 H1 a1 H2 a2 HS H3 a3 H4 a4 H5 a5 HS3 H6 a6
  refine wl_ <| i_ H8 rfl (dd_ext rfl (H8.ev 19 rfl) rfl) fun a9 H9 => wl_ <| n_ H9 rfl (fun _ h => dd_new HS6 (bs (zer 32)) rfl (z := .agg (bs (zer 32))) (by kernel_rfl) rfl h) fun g5 W10 HS10 a10 H10 => wl_ <| t_ rfl (fun _ h => dd_setrow HS10 0 rfl rfl (H10.ev 5 rfl) (H10.ev 22 rfl) (by kernel_rfl) (((size_bs _).trans (length_encT _)) : (bs (encT l)).size = 32) (((size_bs _).trans (length_zer 32)) : (bs (zer 32)).size = 32) (one_bs _) h) fun W11 HS11 => wl_ <| p_ H10 rfl rfl fun a12 H12 => ln_ <| nx <| sq_ <| sq_ <| rl_ <| wl_ <| p_ H12 rfl rfl fun a13 H13 => wl_ <| i_ H13 rfl (dd_cmp rfl (H13.ev 24 rfl) rfl (ne_f (by decide))) fun a14 H14 => wl_ <| p_ H14 rfl rfl fun a15 H15 => wl_ <| ig H15 (wg_ H15 rfl rfl rfl rfl) rfl (xA 32 1 0 rfl (H15.ev 5 rfl) rfl) fun a16 H16 => ?_
  clear H7 a7 H8 a8 HS6 H9 a9 HS10 H10 a10 H12 a12 H13 a13 H14 a14
  refine wl_ <| ig H16 (wg_ H16 rfl rfl rfl rfl) rfl (dd_get HS11 0 0 rfl rfl (H16.ev 27 rfl) (bs_get (length_encT _) 0 (by decide)) Tryd.underlying5 rfl) fun a17 H17 => wl_ <| ig H17 (wg_ H17 rfl rfl rfl rfl) rfl (v := .int .i64 (bd ((encT l).getD 0 0#8))) (dd_conv (k := .i64) rfl (H17.ev 28 rfl) Tryd.underlying5 (by kernel_rfl) (i64_bdA _)) fun a18 H18 => wl_ <| ig H18 (wg_ H18 rfl rfl rfl rfl) rfl (dd_mv rfl (H18.ev 0 rfl)) fun a19 H19 => wl_ <| ig H19 (wg_ H19 rfl rfl rfl rfl) rfl (v := .int .i64 2) (dd_len rfl (H19.ev 30 rfl) Tryd.underlying22) fun a20 H20 => wl_ <| ig H20 (wg_ H20 rfl rfl rfl rfl) rfl (dd_cmp rfl (H20.ev 29 rfl) (H20.ev 31 rfl) (ne_f (pl_0 hG hln))) fun a21 H21 => wl_ <| p_ H21 rfl rfl fun a22 H22 => ln_ <| ?_
  clear H15 a15 H16 a16 H17 a17 H18 a18 H19 a19 H20 a20 H21 a21
  have H23 := H22.sel [1, 0, 5, 33] rfl
  refine nx <| cf_ H23 rfl <| wp_skip <| nx <| sq_ <| sq_ <| rl_ <| wl_ <| p_ H23 rfl rfl fun a24 H24 => ln_ <| nx <| wp_block <| wp_unr 4 <| unr_go <| sq_ <| sq_ <| rl_ <| wl_ <| p_ H24 rfl rfl fun a25 H25 => wl_ <| i_ H25 rfl (dd_cmp rfl (H25.ev 34 rfl) rfl (lt_t (by decide))) fun a26 H26 => ln_ <| nx <| ct_ H26 rfl <| wp_skip <| nx <| sq_ <| wp_block <| sq_ <| rl_ <| wl_ <| p_ H26 rfl rfl fun a27 H27 => wl_ <| i_ H27 rfl (v := .int .i64 0) (dd_ari rfl rfl (H27.ev 38 rfl) rfl (by decide)) fun a28 H28 => wl_ <| i_ H28 rfl (v := .int .i64 1) (dd_ari rfl rfl (H28.ev 39 rfl) rfl (by decide)) fun a29 H29 => wl_ <| p_ H29 rfl rfl fun a30 H30 => ln_ <| nx <| sq_ <| sq_ <| rl_ <| q_ H30 2 rfl fun a31 H31 => ?_
  clear H22 H23 a22 H24 a24 H25 a25 H26 a26 H27 a27 H28 a28 H29 a29
  refine wl_ <| i_ H31 rfl (v := .int .i64 2) (dd_len rfl (H31.ev 42 rfl) Tryd.underlying22) fun a32 H32 => wl_ <| i_ H32 rfl (dd_cmp rfl (H32.ev 41 rfl) (H32.ev 43 rfl) (ge_f (by decide))) fun a33 H33 => ln_ <| nx <| cf_ H33 rfl <| wp_skip <| nx <| sq_ <| sq_ <| rl_ <| ?_
  clear H30 a30 H31 a31 H32 a32
  obtain ⟨p35, L35, B35, m35, c35, hg35, hr35, hm35, hp35⟩ := vols_getC (HVl _ (Below.refl _ _)) (k := 0) (by omega)
  refine wl_ <| p_ H33 rfl rfl fun a34 H34 => ln_ <| nx <| wp_block <| ?_
  clear H33 a33
  refine wp_loopG (ι := Nat) (fun j a9 w9 => (j ≤ 4) ∧ En 150 [(10, .int .i64 j), (8, .int .i64 1), (7, .int .i64 0), (5, .pointer (some ⟨g5, 0, none⟩)), (0, .slice (some ⟨b, o, none⟩) 2 c), (1, .int .u8 (bd z))] a9 ∧ St w noF [⟨g5, 24, bs (encT l)⟩] w9) (fun j => 4 - j) (0) ⟨Nat.zero_le _, H34.sel [1, 0, 5, 7, 8, 10] rfl, ss HS11 [0]⟩ ?_
  clear H34 a34 HS11
  rintro j aL36 wL36 ⟨hj, HL36, HSL36⟩
  refine sq_ <| sq_ <| rl_ <| wl_ <| p_ HL36 rfl rfl fun a37 H37 => ?_
  clear HL36 aL36
  by_cases hc39 : (j : Int) < 4
  ·
   refine wl_ <| i_ H37 rfl (dd_cmp rfl (H37.ev 55 rfl) rfl (lt_t hc39)) fun a40 H40 => ln_ <| nx <| ct_ H40 rfl <| wp_skip <| nx <| sq_ <| wp_block <| sq_ <| rl_ <| q_ H40 2 rfl fun a41 H41 => ln_ <| nx <| sq_ <| sq_ <| rl_ <| q_ H41 3 rfl fun a42 H42 => wl_ <| i_ H42 rfl (xS 2 (o + 0) rfl (H42.ev 60 rfl) (H42.ev 61 rfl)) fun a43 H43 => wl_ <| i_ H43 rfl (xf 0 (o + 0) rfl (H43.ev 62 rfl)) fun a44 H44 => wl_ <| i_ H44 rfl (dd_at rfl (H44.ev 63 rfl) ((hr35 _ HSL36.below).1 0 _ rfl) Tryd.underlying9 rfl) fun a45 H45 => wl_ <| i_ H45 rfl (v := .int .i64 p35.length) (dd_lens rfl (H45.ev 64 rfl) Tryd.underlying9 (by rw [strB_size])) fun a46 H46 => ?_
   clear H37 a37 H40 a40 H41 a41 H42 a42 H43 a43 H44 a44 H45 a45
   by_cases hc48 : (j : Int) < p35.length
   ·
    refine wl_ <| i_ H46 rfl (dd_cmp rfl (H46.ev 59 rfl) (H46.ev 65 rfl) (lt_t hc48)) fun a49 H49 => ln_ <| nx <| ct_ H49 rfl <| rl_ <| q_ H49 2 rfl fun a50 H50 => wl_ <| i_ H50 rfl (xS 2 (o + 0) rfl (H50.ev 67 rfl) (H50.ev 68 rfl)) fun a51 H51 => wl_ <| i_ H51 rfl (xf 0 (o + 0) rfl (H51.ev 69 rfl)) fun a52 H52 => wl_ <| i_ H52 rfl (dd_at rfl (H52.ev 70 rfl) ((hr35 _ HSL36.below).1 0 _ rfl) Tryd.underlying9 rfl) fun a53 H53 => wl_ <| p_ H53 rfl rfl fun a54 H54 => wl_ <| i_ H54 rfl (v := .int .u8 (bd (p35.getD j 0#8))) (dd_ixs rfl (H54.ev 71 rfl) (H54.ev 72 rfl) Tryd.underlying9 (by omega)) fun a55 H55 => wl_ <| p_ H55 rfl rfl fun a56 H56 => ?_
    clear H46 a46 H49 a49 H50 a50 H51 a51 H52 a52 H53 a53 H54 a54
    refine ln_ <| ?_
    clear H55 a55
    have H57 := H56.sel [1, 0, 5, 7, 8, 10, 12, 11] rfl
    refine nx <| sq_ <| sq_ <| rl_ <| q_ H57 3 rfl fun a58 H58 => wl_ <| i_ H58 rfl (xS 2 (o + 0) rfl (H58.ev 75 rfl) (H58.ev 76 rfl)) fun a59 H59 => wl_ <| i_ H59 rfl (xf 1 (o + 0 + 1) rfl (H59.ev 77 rfl)) fun a60 H60 => wl_ <| i_ H60 rfl (dd_at rfl (H60.ev 78 rfl) ((hr35 _ HSL36.below).1 1 _ rfl) Tryd.underlying43 rfl) fun a61 H61 => wl_ <| i_ H61 rfl (v := .int .i64 m35) (dd_len rfl (H61.ev 79 rfl) Tryd.underlying43) fun a62 H62 => ?_
    clear H56 H57 a56 H58 a58 H59 a59 H60 a60 H61 a61
    by_cases hc64 : (j : Int) < m35
    ·
     refine wl_ <| i_ H62 rfl (dd_cmp rfl (H62.ev 74 rfl) (H62.ev 80 rfl) (lt_t hc64)) fun a65 H65 => ln_ <| nx <| ct_ H65 rfl <| rl_ <| q_ H65 2 rfl fun a66 H66 => wl_ <| i_ H66 rfl (xS 2 (o + 0) rfl (H66.ev 82 rfl) (H66.ev 83 rfl)) fun a67 H67 => wl_ <| i_ H67 rfl (xf 1 (o + 0 + 1) rfl (H67.ev 84 rfl)) fun a68 H68 => wl_ <| i_ H68 rfl (dd_at rfl (H68.ev 85 rfl) ((hr35 _ HSL36.below).1 1 _ rfl) Tryd.underlying43 rfl) fun a69 H69 => wl_ <| p_ H69 rfl rfl fun a70 H70 => ?_
     clear H62 a62 H65 a65 H66 a66 H67 a67 H68 a68 H69 a69
     obtain ⟨bi35, oi35, hB35⟩ := ints_addr (hr35 _ (Below.refl _ _)).2 (by omega)
     refine wl_ <| i_ H70 rfl (dd_idxS (sz := 1) (j := oi35 + j) rfl (sl_at (H70.ev 86 rfl) hB35) (H70.ev 87 rfl) (by kernel_rfl) (by omega) (by omega) (by omega)) fun a71 H71 => wl_ <| i_ H71 rfl (dd_at rfl (H71.ev 88 rfl) (ints_atB (hr35 _ HSL36.below).2 hB35 j (by omega)) Tryd.underlying3 rfl) fun a72 H72 => wl_ <| i_ H72 rfl (v := .int .u8 (bd (byteI (L35.getD j 0)))) (dd_conv (k := .u8) rfl (H72.ev 89 rfl) Tryd.underlying3 (by kernel_rfl) (wrap_u8_bd _)) fun a73 H73 => wl_ <| p_ H73 rfl rfl fun a74 H74 => ln_ <| ?_
     clear H70 a70 H71 a71 H72 a72 H73 a73
     have H75 := H74.sel [1, 0, 5, 7, 8, 10, 11, 12] rfl
     refine nx <| sq_ <| rl_ <| q_ H75 2 rfl fun a76 H76 => wl_ <| i_ H76 rfl (v := .int .i64 (1 + j)) (dd_ari rfl (H76.ev 91 rfl) (H76.ev 92 rfl) rfl (i64_of (by first | omega | (have := bd_lo; omega)) (by omega))) fun a77 H77 => wl_ <| i_ H77 rfl (xAo 32 1 (1 + j) rfl (H77.ev 5 rfl) (H77.ev 93 rfl)) fun a78 H78 => wl_ <| i_ H78 rfl (dd_get HSL36 0 (1 + j) rfl rfl (H78.ev 94 rfl) (bs_get (length_encT _) (1 + j) (by omega)) Tryd.underlying5 rfl) fun a79 H79 => wl_ <| p_ H79 rfl rfl fun a80 H80 => wl_ <| i_ H80 rfl (dd_cmp rfl (H80.ev 95 rfl) (H80.ev 96 rfl) (ne_f (pl_name hG hg35 (show 1 + 9 * 0 = 1 from rfl) (by omega)))) fun a81 H81 => wl_ <| p_ H81 rfl rfl fun a82 H82 => wl_ <| ig H82 (wg_ H82 rfl rfl rfl rfl) rfl (dd_mv rfl (H82.ev 8 rfl)) fun a83 H83 => ?_
     clear H74 H75 a74 H76 a76 H77 a77 H78 a78 H79 a79 H80 a80 H81 a81
     refine wl_ <| ig H83 (wg_ H83 rfl rfl rfl rfl) rfl (v := .int .i64 6) (dd_ari rfl (H83.ev 99 rfl) rfl rfl (by decide)) fun a84 H84 => wl_ <| ig H84 (wg_ H84 rfl rfl rfl rfl) rfl (dd_mv rfl (H84.ev 10 rfl)) fun a85 H85 => wl_ <| ig H85 (wg_ H85 rfl rfl rfl rfl) rfl (v := .int .i64 (6 + j)) (dd_ari rfl (H85.ev 100 rfl) (H85.ev 101 rfl) rfl (i64_of (by first | omega | (have := bd_lo; omega)) (by omega))) fun a86 H86 => wl_ <| ig H86 (wg_ H86 rfl rfl rfl rfl) rfl (xAo 32 1 (6 + j) rfl (H86.ev 5 rfl) (H86.ev 102 rfl)) fun a87 H87 => wl_ <| ig H87 (wg_ H87 rfl rfl rfl rfl) rfl (dd_get HSL36 0 (6 + j) rfl rfl (H87.ev 103 rfl) (bs_get (length_encT _) (6 + j) (by omega)) Tryd.underlying5 rfl) fun a88 H88 => wl_ <| ig H88 (wg_ H88 rfl rfl rfl rfl) rfl (dd_mv rfl (H88.ev 12 rfl)) fun a89 H89 => wl_ <| ig H89 (wg_ H89 rfl rfl rfl rfl) rfl (dd_cmp rfl (H89.ev 104 rfl) (H89.ev 105 rfl) (ne_f (pl_blk hG hg35 (show 1 + 9 * 0 = 1 from rfl) (by omega)))) fun a90 H90 => wl_ <| p_ H90 rfl rfl fun a91 H91 => ?_
     clear H82 a82 H83 a83 H84 a84 H85 a85 H86 a86 H87 a87 H88 a88 H89 a89
     refine ln_ <| ?_
     clear H90 a90
     have H92 := H91.sel [1, 0, 5, 7, 8, 10, 107] rfl
     refine nx <| cf_ H92 rfl <| wp_skip <| bn <| nx <| rl_ <| wl_ <| p_ H92 rfl rfl fun a93 H93 => wl_ <| i_ H93 rfl (v := .int .i64 (j + 1)) (dd_ari rfl (H93.ev 57 rfl) rfl rfl (i64_of (by first | omega | (have := bd_lo; omega)) (by omega))) fun a94 H94 => wl_ <| p_ H94 rfl rfl fun a95 H95 => ln_ <| ?_
     clear H91 H92 a91 H93 a93 H94 a94
     refine nx ⟨j + 1, ⟨(by omega), H95.sel [1, 0, 5, 7, 8, 10] rfl, ss HSL36 [0]⟩, (by omega)⟩
    ·
     refine wl_ <| i_ H62 rfl (dd_cmp rfl (H62.ev 74 rfl) (H62.ev 80 rfl) (lt_f hc64)) fun a96 H96 => ln_ <| nx <| cf_ H96 rfl <| wp_skip <| nx <| sq_ <| rl_ <| q_ H96 2 rfl fun a97 H97 => wl_ <| i_ H97 rfl (v := .int .i64 (1 + j)) (dd_ari rfl (H97.ev 91 rfl) (H97.ev 92 rfl) rfl (i64_of (by first | omega | (have := bd_lo; omega)) (by omega))) fun a98 H98 => wl_ <| i_ H98 rfl (xAo 32 1 (1 + j) rfl (H98.ev 5 rfl) (H98.ev 93 rfl)) fun a99 H99 => wl_ <| i_ H99 rfl (dd_get HSL36 0 (1 + j) rfl rfl (H99.ev 94 rfl) (bs_get (length_encT _) (1 + j) (by omega)) Tryd.underlying5 rfl) fun a100 H100 => wl_ <| p_ H100 rfl rfl fun a101 H101 => wl_ <| i_ H101 rfl (dd_cmp rfl (H101.ev 95 rfl) (H101.ev 96 rfl) (ne_f (pl_name hG hg35 (show 1 + 9 * 0 = 1 from rfl) (by omega)))) fun a102 H102 => wl_ <| p_ H102 rfl rfl fun a103 H103 => ?_
     clear H62 a62 H96 a96 H97 a97 H98 a98 H99 a99 H100 a100 H101 a101
     refine wl_ <| ig H103 (wg_ H103 rfl rfl rfl rfl) rfl (dd_mv rfl (H103.ev 8 rfl)) fun a104 H104 => wl_ <| ig H104 (wg_ H104 rfl rfl rfl rfl) rfl (v := .int .i64 6) (dd_ari rfl (H104.ev 99 rfl) rfl rfl (by decide)) fun a105 H105 => wl_ <| ig H105 (wg_ H105 rfl rfl rfl rfl) rfl (dd_mv rfl (H105.ev 10 rfl)) fun a106 H106 => wl_ <| ig H106 (wg_ H106 rfl rfl rfl rfl) rfl (v := .int .i64 (6 + j)) (dd_ari rfl (H106.ev 100 rfl) (H106.ev 101 rfl) rfl (i64_of (by first | omega | (have := bd_lo; omega)) (by omega))) fun a107 H107 => wl_ <| ig H107 (wg_ H107 rfl rfl rfl rfl) rfl (xAo 32 1 (6 + j) rfl (H107.ev 5 rfl) (H107.ev 102 rfl)) fun a108 H108 => wl_ <| ig H108 (wg_ H108 rfl rfl rfl rfl) rfl (dd_get HSL36 0 (6 + j) rfl rfl (H108.ev 103 rfl) (bs_get (length_encT _) (6 + j) (by omega)) Tryd.underlying5 rfl) fun a109 H109 => wl_ <| ig H109 (wg_ H109 rfl rfl rfl rfl) rfl (dd_mv rfl (H109.ev 12 rfl)) fun a110 H110 => wl_ <| ig H110 (wg_ H110 rfl rfl rfl rfl) rfl (dd_cmp rfl (H110.ev 104 rfl) (H110.ev 105 rfl) (ne_f (pl_blk0 hG hg35 (show 1 + 9 * 0 = 1 from rfl) (by omega) (by omega)))) fun a111 H111 => ?_
     clear H102 a102 H103 a103 H104 a104 H105 a105 H106 a106 H107 a107 H108 a108 H109 a109
     refine wl_ <| p_ H111 rfl rfl fun a112 H112 => ln_ <| ?_
     clear H110 a110 H111 a111
     have H113 := H112.sel [1, 0, 5, 7, 8, 10, 107] rfl
     refine nx <| cf_ H113 rfl <| wp_skip <| bn <| nx <| rl_ <| wl_ <| p_ H113 rfl rfl fun a114 H114 => wl_ <| i_ H114 rfl (v := .int .i64 (j + 1)) (dd_ari rfl (H114.ev 57 rfl) rfl rfl (i64_of (by first | omega | (have := bd_lo; omega)) (by omega))) fun a115 H115 => wl_ <| p_ H115 rfl rfl fun a116 H116 => ln_ <| ?_
     clear H112 H113 a112 H114 a114 H115 a115
     refine nx ⟨j + 1, ⟨(by omega), H116.sel [1, 0, 5, 7, 8, 10] rfl, ss HSL36 [0]⟩, (by omega)⟩
   ·
    refine wl_ <| i_ H46 rfl (dd_cmp rfl (H46.ev 59 rfl) (H46.ev 65 rfl) (lt_f hc48)) fun a117 H117 => ln_ <| nx <| cf_ H117 rfl <| wp_skip <| nx <| sq_ <| sq_ <| rl_ <| q_ H117 3 rfl fun a118 H118 => wl_ <| i_ H118 rfl (xS 2 (o + 0) rfl (H118.ev 75 rfl) (H118.ev 76 rfl)) fun a119 H119 => wl_ <| i_ H119 rfl (xf 1 (o + 0 + 1) rfl (H119.ev 77 rfl)) fun a120 H120 => wl_ <| i_ H120 rfl (dd_at rfl (H120.ev 78 rfl) ((hr35 _ HSL36.below).1 1 _ rfl) Tryd.underlying43 rfl) fun a121 H121 => wl_ <| i_ H121 rfl (v := .int .i64 m35) (dd_len rfl (H121.ev 79 rfl) Tryd.underlying43) fun a122 H122 => ?_
    clear H46 a46 H117 a117 H118 a118 H119 a119 H120 a120 H121 a121
    by_cases hc124 : (j : Int) < m35
    ·
     refine wl_ <| i_ H122 rfl (dd_cmp rfl (H122.ev 74 rfl) (H122.ev 80 rfl) (lt_t hc124)) fun a125 H125 => ln_ <| ?_
     clear H122 a122
     have H126 := H125.sel [1, 0, 5, 7, 8, 10, 11, 12, 81] rfl
     refine nx <| ct_ H126 rfl <| rl_ <| q_ H126 2 rfl fun a127 H127 => wl_ <| i_ H127 rfl (xS 2 (o + 0) rfl (H127.ev 82 rfl) (H127.ev 83 rfl)) fun a128 H128 => wl_ <| i_ H128 rfl (xf 1 (o + 0 + 1) rfl (H128.ev 84 rfl)) fun a129 H129 => wl_ <| i_ H129 rfl (dd_at rfl (H129.ev 85 rfl) ((hr35 _ HSL36.below).1 1 _ rfl) Tryd.underlying43 rfl) fun a130 H130 => wl_ <| p_ H130 rfl rfl fun a131 H131 => ?_
     clear H125 H126 a125 H127 a127 H128 a128 H129 a129 H130 a130
     obtain ⟨bi35, oi35, hB35⟩ := ints_addr (hr35 _ (Below.refl _ _)).2 (by omega)
     refine wl_ <| i_ H131 rfl (dd_idxS (sz := 1) (j := oi35 + j) rfl (sl_at (H131.ev 86 rfl) hB35) (H131.ev 87 rfl) (by kernel_rfl) (by omega) (by omega) (by omega)) fun a132 H132 => wl_ <| i_ H132 rfl (dd_at rfl (H132.ev 88 rfl) (ints_atB (hr35 _ HSL36.below).2 hB35 j (by omega)) Tryd.underlying3 rfl) fun a133 H133 => wl_ <| i_ H133 rfl (v := .int .u8 (bd (byteI (L35.getD j 0)))) (dd_conv (k := .u8) rfl (H133.ev 89 rfl) Tryd.underlying3 (by kernel_rfl) (wrap_u8_bd _)) fun a134 H134 => wl_ <| p_ H134 rfl rfl fun a135 H135 => ln_ <| nx <| sq_ <| rl_ <| q_ H135 2 rfl fun a136 H136 => wl_ <| i_ H136 rfl (v := .int .i64 (1 + j)) (dd_ari rfl (H136.ev 91 rfl) (H136.ev 92 rfl) rfl (i64_of (by first | omega | (have := bd_lo; omega)) (by omega))) fun a137 H137 => wl_ <| i_ H137 rfl (xAo 32 1 (1 + j) rfl (H137.ev 5 rfl) (H137.ev 93 rfl)) fun a138 H138 => wl_ <| i_ H138 rfl (dd_get HSL36 0 (1 + j) rfl rfl (H138.ev 94 rfl) (bs_get (length_encT _) (1 + j) (by omega)) Tryd.underlying5 rfl) fun a139 H139 => ?_
     clear H131 a131 H132 a132 H133 a133 H134 a134 H135 a135 H136 a136 H137 a137
     refine wl_ <| p_ H139 rfl rfl fun a140 H140 => wl_ <| i_ H140 rfl (dd_cmp rfl (H140.ev 95 rfl) (H140.ev 96 rfl) (ne_f (pl_name0 hG hg35 (show 1 + 9 * 0 = 1 from rfl) (by omega) (by omega)))) fun a141 H141 => wl_ <| p_ H141 rfl rfl fun a142 H142 => wl_ <| ig H142 (wg_ H142 rfl rfl rfl rfl) rfl (dd_mv rfl (H142.ev 8 rfl)) fun a143 H143 => wl_ <| ig H143 (wg_ H143 rfl rfl rfl rfl) rfl (v := .int .i64 6) (dd_ari rfl (H143.ev 99 rfl) rfl rfl (by decide)) fun a144 H144 => wl_ <| ig H144 (wg_ H144 rfl rfl rfl rfl) rfl (dd_mv rfl (H144.ev 10 rfl)) fun a145 H145 => wl_ <| ig H145 (wg_ H145 rfl rfl rfl rfl) rfl (v := .int .i64 (6 + j)) (dd_ari rfl (H145.ev 100 rfl) (H145.ev 101 rfl) rfl (i64_of (by first | omega | (have := bd_lo; omega)) (by omega))) fun a146 H146 => wl_ <| ig H146 (wg_ H146 rfl rfl rfl rfl) rfl (xAo 32 1 (6 + j) rfl (H146.ev 5 rfl) (H146.ev 102 rfl)) fun a147 H147 => ?_
     clear H138 a138 H139 a139 H140 a140 H141 a141 H142 a142 H143 a143 H144 a144 H145 a145
     refine wl_ <| ig H147 (wg_ H147 rfl rfl rfl rfl) rfl (dd_get HSL36 0 (6 + j) rfl rfl (H147.ev 103 rfl) (bs_get (length_encT _) (6 + j) (by omega)) Tryd.underlying5 rfl) fun a148 H148 => wl_ <| ig H148 (wg_ H148 rfl rfl rfl rfl) rfl (dd_mv rfl (H148.ev 12 rfl)) fun a149 H149 => wl_ <| ig H149 (wg_ H149 rfl rfl rfl rfl) rfl (dd_cmp rfl (H149.ev 104 rfl) (H149.ev 105 rfl) (ne_f (pl_blk hG hg35 (show 1 + 9 * 0 = 1 from rfl) (by omega)))) fun a150 H150 => wl_ <| p_ H150 rfl rfl fun a151 H151 => ln_ <| ?_
     clear H146 a146 H147 a147 H148 a148 H149 a149 H150 a150
     have H152 := H151.sel [1, 0, 5, 7, 8, 10, 107] rfl
     refine nx <| cf_ H152 rfl <| wp_skip <| bn <| nx <| rl_ <| wl_ <| p_ H152 rfl rfl fun a153 H153 => wl_ <| i_ H153 rfl (v := .int .i64 (j + 1)) (dd_ari rfl (H153.ev 57 rfl) rfl rfl (i64_of (by first | omega | (have := bd_lo; omega)) (by omega))) fun a154 H154 => wl_ <| p_ H154 rfl rfl fun a155 H155 => ln_ <| ?_
     clear H151 H152 a151 H153 a153 H154 a154
     refine nx ⟨j + 1, ⟨(by omega), H155.sel [1, 0, 5, 7, 8, 10] rfl, ss HSL36 [0]⟩, (by omega)⟩
    ·
     refine wl_ <| i_ H122 rfl (dd_cmp rfl (H122.ev 74 rfl) (H122.ev 80 rfl) (lt_f hc124)) fun a156 H156 => ln_ <| ?_
     clear H122 a122
     have H157 := H156.sel [1, 0, 5, 7, 8, 10, 11, 12, 81] rfl
     refine nx <| cf_ H157 rfl <| wp_skip <| nx <| sq_ <| rl_ <| q_ H157 2 rfl fun a158 H158 => wl_ <| i_ H158 rfl (v := .int .i64 (1 + j)) (dd_ari rfl (H158.ev 91 rfl) (H158.ev 92 rfl) rfl (i64_of (by first | omega | (have := bd_lo; omega)) (by omega))) fun a159 H159 => wl_ <| i_ H159 rfl (xAo 32 1 (1 + j) rfl (H159.ev 5 rfl) (H159.ev 93 rfl)) fun a160 H160 => wl_ <| i_ H160 rfl (dd_get HSL36 0 (1 + j) rfl rfl (H160.ev 94 rfl) (bs_get (length_encT _) (1 + j) (by omega)) Tryd.underlying5 rfl) fun a161 H161 => wl_ <| p_ H161 rfl rfl fun a162 H162 => wl_ <| i_ H162 rfl (dd_cmp rfl (H162.ev 95 rfl) (H162.ev 96 rfl) (ne_f (pl_name0 hG hg35 (show 1 + 9 * 0 = 1 from rfl) (by omega) (by omega)))) fun a163 H163 => wl_ <| p_ H163 rfl rfl fun a164 H164 => wl_ <| ig H164 (wg_ H164 rfl rfl rfl rfl) rfl (dd_mv rfl (H164.ev 8 rfl)) fun a165 H165 => ?_
     clear H156 H157 a156 H158 a158 H159 a159 H160 a160 H161 a161 H162 a162 H163 a163
     refine wl_ <| ig H165 (wg_ H165 rfl rfl rfl rfl) rfl (v := .int .i64 6) (dd_ari rfl (H165.ev 99 rfl) rfl rfl (by decide)) fun a166 H166 => wl_ <| ig H166 (wg_ H166 rfl rfl rfl rfl) rfl (dd_mv rfl (H166.ev 10 rfl)) fun a167 H167 => wl_ <| ig H167 (wg_ H167 rfl rfl rfl rfl) rfl (v := .int .i64 (6 + j)) (dd_ari rfl (H167.ev 100 rfl) (H167.ev 101 rfl) rfl (i64_of (by first | omega | (have := bd_lo; omega)) (by omega))) fun a168 H168 => wl_ <| ig H168 (wg_ H168 rfl rfl rfl rfl) rfl (xAo 32 1 (6 + j) rfl (H168.ev 5 rfl) (H168.ev 102 rfl)) fun a169 H169 => wl_ <| ig H169 (wg_ H169 rfl rfl rfl rfl) rfl (dd_get HSL36 0 (6 + j) rfl rfl (H169.ev 103 rfl) (bs_get (length_encT _) (6 + j) (by omega)) Tryd.underlying5 rfl) fun a170 H170 => wl_ <| ig H170 (wg_ H170 rfl rfl rfl rfl) rfl (dd_mv rfl (H170.ev 12 rfl)) fun a171 H171 => wl_ <| ig H171 (wg_ H171 rfl rfl rfl rfl) rfl (dd_cmp rfl (H171.ev 104 rfl) (H171.ev 105 rfl) (ne_f (pl_blk0 hG hg35 (show 1 + 9 * 0 = 1 from rfl) (by omega) (by omega)))) fun a172 H172 => wl_ <| p_ H172 rfl rfl fun a173 H173 => ?_
     clear H164 a164 H165 a165 H166 a166 H167 a167 H168 a168 H169 a169 H170 a170 H171 a171
     refine ln_ <| ?_
     clear H172 a172
     have H174 := H173.sel [1, 0, 5, 7, 8, 10, 107] rfl
     refine nx <| cf_ H174 rfl <| wp_skip <| bn <| nx <| rl_ <| wl_ <| p_ H174 rfl rfl fun a175 H175 => wl_ <| i_ H175 rfl (v := .int .i64 (j + 1)) (dd_ari rfl (H175.ev 57 rfl) rfl rfl (i64_of (by first | omega | (have := bd_lo; omega)) (by omega))) fun a176 H176 => wl_ <| p_ H176 rfl rfl fun a177 H177 => ln_ <| ?_
     clear H173 H174 a173 H175 a175 H176 a176
     refine nx ⟨j + 1, ⟨(by omega), H177.sel [1, 0, 5, 7, 8, 10] rfl, ss HSL36 [0]⟩, (by omega)⟩
  ·
   refine wl_ <| i_ H37 rfl (dd_cmp rfl (H37.ev 55 rfl) rfl (lt_f hc39)) fun a178 H178 => ln_ <| nx <| cf_ H178 rfl <| wp_exit <| tx <| tx <| bx <| nx <| sq_ <| ?_
   clear H37 a37
   refine wi_ HSL36 [0] rfl [0] rfl fun HSh179 hx179 => hp_ H178 0 hx179 rfl rfl rfl fun a180 H180 => ht_ H180 1 hx179 rfl rfl (v := .int .i64 5) (fun _ _ _ => dd_ari rfl (H180.ev 108 rfl) rfl rfl (by decide)) fun a181 H181 => ht_ H181 2 hx179 rfl rfl (fun _ _ _ => xA 32 1 5 rfl (H181.ev 5 rfl) (H181.ev 109 rfl)) fun a182 H182 => ht_ H182 3 hx179 rfl rfl (fun _ _ HS9 => dd_get HS9 0 5 rfl rfl (H182.ev 110 rfl) (bs_get (length_encT _) 5 (by decide)) Tryd.underlying5 rfl) fun a183 H183 => ht_ H183 4 hx179 rfl rfl (v := .int .i64 (bd ((encT l).getD 5 0#8))) (fun _ _ _ => dd_conv (k := .i64) rfl (H183.ev 111 rfl) Tryd.underlying5 (by kernel_rfl) (i64_bdA _)) fun a184 H184 => hp_ H184 5 hx179 rfl rfl rfl fun a185 H185 => hp_ H185 6 hx179 rfl rfl rfl fun a186 H186 => ?_
   clear HSL36 H178 a178 H180 a180 H181 a181 H182 a182 H183 a183 H184 a184
   refine ht_ H186 7 hx179 rfl rfl (fun _ _ _ => xS 2 (o + 0) rfl (H186.ev 113 rfl) (H186.ev 114 rfl)) fun a187 H187 => ht_ H187 8 hx179 rfl rfl (fun _ _ _ => xf 1 (o + 0 + 1) rfl (H187.ev 115 rfl)) fun a188 H188 => ht_ H188 9 hx179 rfl rfl (fun _ _ HS9 => dd_at rfl (H188.ev 116 rfl) ((hr35 _ HS9.below).1 1 _ rfl) Tryd.underlying43 rfl) fun a189 H189 => ht_ H189 10 hx179 rfl rfl (v := .int .i64 m35) (fun _ _ _ => dd_len rfl (H189.ev 117 rfl) Tryd.underlying43) fun a190 H190 => ht_ H190 11 hx179 rfl rfl (v := .bool false) (fun _ _ _ => dd_cmp rfl (H190.ev 112 rfl) (H190.ev 118 rfl) (ne_f ((pl_num hG hg35 (show 1 + 9 * 0 = 1 from rfl)).trans (by rw [hm35])))) fun a191 H191 => hp_ H191 12 hx179 rfl rfl rfl fun a192 H192 => htg H192 13 hx179 rfl (wg_ H192 rfl rfl rfl rfl) rfl (fun _ _ _ => dd_mv rfl (H192.ev 0 rfl)) fun a193 H193 => htg H193 14 hx179 rfl (wg_ H193 rfl rfl rfl rfl) rfl (fun _ _ _ => dd_mv rfl (H193.ev 7 rfl)) fun a194 H194 => ?_
   clear H185 a185 H186 a186 H187 a187 H188 a188 H189 a189 H190 a190 H191 a191 H192 a192
   refine htg H194 15 hx179 rfl (wg_ H194 rfl rfl rfl rfl) rfl (fun _ _ _ => xS 2 (o + 0) rfl (H194.ev 121 rfl) (H194.ev 122 rfl)) fun a195 H195 => htg H195 16 hx179 rfl (wg_ H195 rfl rfl rfl rfl) rfl (fun _ _ _ => xf 0 (o + 0) rfl (H195.ev 123 rfl)) fun a196 H196 => htg H196 17 hx179 rfl (wg_ H196 rfl rfl rfl rfl) rfl (fun _ _ HS9 => dd_at rfl (H196.ev 124 rfl) ((hr35 _ HS9.below).1 0 _ rfl) Tryd.underlying9 rfl) fun a197 H197 => htg H197 18 hx179 rfl (wg_ H197 rfl rfl rfl rfl) rfl (fun _ _ _ => dd_mv rfl (H197.ev 0 rfl)) fun a198 H198 => htg H198 20 hx179 rfl (wg_ H198 rfl rfl rfl rfl) rfl (fun _ _ _ => dd_mv rfl (H198.ev 7 rfl)) fun a199 H199 => h1_ 19 rfl <| cg H199 (wg_ H199 rfl rfl rfl rfl) rfl HSh179 (v := .int .i64 0) (dc_ Tryd.func17 rfl (args2 (H199.ev 125 rfl) (H199.ev 126 rfl)) (find_any _ _ _ p35 l wL36.drew (HVl _ HSh179.below) (by decide)) (fun _ w9 h9 => ⟨_, h9.1, by rw [show findI p35 l = (0 : Int) from find_good hG hg35], h9.2⟩)) fun W200 HS200 a200 H200 => sx_ (sxi HS200 [0] rfl) fun hx201 => htg H200 21 hx201 rfl (wg_ H200 rfl rfl rfl rfl) rfl (fun _ _ _ => dd_cmp rfl (H200.ev 127 rfl) (H200.ev 128 rfl) (ne_f (by decide))) fun a202 H202 => ?_
   clear H193 a193 H194 a194 H195 a195 H196 a196 H197 a197 H198 a198 H199 a199 HSh179 hx179
   refine hp_ H202 22 hx201 rfl rfl rfl fun a203 H203 => ?_
   clear H200 a200 H202 a202
   refine wpAnyH_done (by kernel_rfl) ?_ _
   clear hx201
   refine nx <| cf_ H203 rfl <| wp_skip <| bn <| nx <| rl_ <| wl_ <| p_ H203 rfl rfl fun a204 H204 => wl_ <| i_ H204 rfl (v := .int .i64 1) (dd_ari rfl (H204.ev 36 rfl) rfl rfl (by decide)) fun a205 H205 => wl_ <| p_ H205 rfl rfl fun a206 H206 => ln_ <| ?_
   clear H203 a203 H204 a204 H205 a205
   have H207 := H206.sel [1, 0, 5, 7] rfl
   refine nx <| unr_go <| sq_ <| sq_ <| rl_ <| wl_ <| p_ H207 rfl rfl fun a208 H208 => wl_ <| i_ H208 rfl (dd_cmp rfl (H208.ev 34 rfl) rfl (lt_t (by decide))) fun a209 H209 => ln_ <| nx <| ct_ H209 rfl <| wp_skip <| nx <| sq_ <| wp_block <| sq_ <| rl_ <| wl_ <| p_ H209 rfl rfl fun a210 H210 => wl_ <| i_ H210 rfl (v := .int .i64 9) (dd_ari rfl rfl (H210.ev 38 rfl) rfl (by decide)) fun a211 H211 => wl_ <| i_ H211 rfl (v := .int .i64 10) (dd_ari rfl rfl (H211.ev 39 rfl) rfl (by decide)) fun a212 H212 => wl_ <| p_ H212 rfl rfl fun a213 H213 => ln_ <| nx <| sq_ <| sq_ <| rl_ <| q_ H213 2 rfl fun a214 H214 => wl_ <| i_ H214 rfl (v := .int .i64 2) (dd_len rfl (H214.ev 42 rfl) Tryd.underlying22) fun a215 H215 => ?_
   clear H206 H207 a206 H208 a208 H209 a209 H210 a210 H211 a211 H212 a212 H213 a213
   refine wl_ <| i_ H215 rfl (dd_cmp rfl (H215.ev 41 rfl) (H215.ev 43 rfl) (ge_f (by decide))) fun a216 H216 => ln_ <| nx <| cf_ H216 rfl <| wp_skip <| nx <| sq_ <| sq_ <| rl_ <| ?_
   clear H214 a214 H215 a215
   obtain ⟨p218, L218, B218, m218, c218, hg218, hr218, hm218, hp218⟩ := vols_getC (HVl _ (Below.refl _ _)) (k := 1) (by omega)
   refine wl_ <| p_ H216 rfl rfl fun a217 H217 => ln_ <| nx <| wp_block <| ?_
   clear H216 a216
   refine wp_loopG (ι := Nat) (fun j a9 w9 => (j ≤ 4) ∧ En 150 [(10, .int .i64 j), (8, .int .i64 10), (7, .int .i64 1), (5, .pointer (some ⟨g5, 0, none⟩)), (0, .slice (some ⟨b, o, none⟩) 2 c), (1, .int .u8 (bd z))] a9 ∧ St w noF [⟨g5, 24, bs (encT l)⟩] w9) (fun j => 4 - j) (0) ⟨Nat.zero_le _, H217.sel [1, 0, 5, 7, 8, 10] rfl, ss HS200 [0]⟩ ?_
   clear H217 a217 HS200
   rintro j aL219 wL219 ⟨hj, HL219, HSL219⟩
   refine sq_ <| sq_ <| rl_ <| wl_ <| p_ HL219 rfl rfl fun a220 H220 => ?_
   clear HL219 aL219
   by_cases hc222 : (j : Int) < 4
   ·
    refine wl_ <| i_ H220 rfl (dd_cmp rfl (H220.ev 55 rfl) rfl (lt_t hc222)) fun a223 H223 => ln_ <| nx <| ct_ H223 rfl <| wp_skip <| nx <| sq_ <| wp_block <| sq_ <| rl_ <| q_ H223 2 rfl fun a224 H224 => ln_ <| nx <| sq_ <| sq_ <| rl_ <| q_ H224 3 rfl fun a225 H225 => wl_ <| i_ H225 rfl (xS 2 (o + 2) rfl (H225.ev 60 rfl) (H225.ev 61 rfl)) fun a226 H226 => wl_ <| i_ H226 rfl (xf 0 (o + 2) rfl (H226.ev 62 rfl)) fun a227 H227 => wl_ <| i_ H227 rfl (dd_at rfl (H227.ev 63 rfl) ((hr218 _ HSL219.below).1 0 _ rfl) Tryd.underlying9 rfl) fun a228 H228 => wl_ <| i_ H228 rfl (v := .int .i64 p218.length) (dd_lens rfl (H228.ev 64 rfl) Tryd.underlying9 (by rw [strB_size])) fun a229 H229 => ?_
    clear H220 a220 H223 a223 H224 a224 H225 a225 H226 a226 H227 a227 H228 a228
    by_cases hc231 : (j : Int) < p218.length
    ·
     refine wl_ <| i_ H229 rfl (dd_cmp rfl (H229.ev 59 rfl) (H229.ev 65 rfl) (lt_t hc231)) fun a232 H232 => ln_ <| nx <| ct_ H232 rfl <| rl_ <| q_ H232 2 rfl fun a233 H233 => wl_ <| i_ H233 rfl (xS 2 (o + 2) rfl (H233.ev 67 rfl) (H233.ev 68 rfl)) fun a234 H234 => wl_ <| i_ H234 rfl (xf 0 (o + 2) rfl (H234.ev 69 rfl)) fun a235 H235 => wl_ <| i_ H235 rfl (dd_at rfl (H235.ev 70 rfl) ((hr218 _ HSL219.below).1 0 _ rfl) Tryd.underlying9 rfl) fun a236 H236 => wl_ <| p_ H236 rfl rfl fun a237 H237 => wl_ <| i_ H237 rfl (v := .int .u8 (bd (p218.getD j 0#8))) (dd_ixs rfl (H237.ev 71 rfl) (H237.ev 72 rfl) Tryd.underlying9 (by omega)) fun a238 H238 => wl_ <| p_ H238 rfl rfl fun a239 H239 => ?_
     clear H229 a229 H232 a232 H233 a233 H234 a234 H235 a235 H236 a236 H237 a237
     refine ln_ <| ?_
     clear H238 a238
     have H240 := H239.sel [1, 0, 5, 7, 8, 10, 12, 11] rfl
     refine nx <| sq_ <| sq_ <| rl_ <| q_ H240 3 rfl fun a241 H241 => wl_ <| i_ H241 rfl (xS 2 (o + 2) rfl (H241.ev 75 rfl) (H241.ev 76 rfl)) fun a242 H242 => wl_ <| i_ H242 rfl (xf 1 (o + 2 + 1) rfl (H242.ev 77 rfl)) fun a243 H243 => wl_ <| i_ H243 rfl (dd_at rfl (H243.ev 78 rfl) ((hr218 _ HSL219.below).1 1 _ rfl) Tryd.underlying43 rfl) fun a244 H244 => wl_ <| i_ H244 rfl (v := .int .i64 m218) (dd_len rfl (H244.ev 79 rfl) Tryd.underlying43) fun a245 H245 => ?_
     clear H239 H240 a239 H241 a241 H242 a242 H243 a243 H244 a244
     by_cases hc247 : (j : Int) < m218
     ·
      refine wl_ <| i_ H245 rfl (dd_cmp rfl (H245.ev 74 rfl) (H245.ev 80 rfl) (lt_t hc247)) fun a248 H248 => ln_ <| nx <| ct_ H248 rfl <| rl_ <| q_ H248 2 rfl fun a249 H249 => wl_ <| i_ H249 rfl (xS 2 (o + 2) rfl (H249.ev 82 rfl) (H249.ev 83 rfl)) fun a250 H250 => wl_ <| i_ H250 rfl (xf 1 (o + 2 + 1) rfl (H250.ev 84 rfl)) fun a251 H251 => wl_ <| i_ H251 rfl (dd_at rfl (H251.ev 85 rfl) ((hr218 _ HSL219.below).1 1 _ rfl) Tryd.underlying43 rfl) fun a252 H252 => wl_ <| p_ H252 rfl rfl fun a253 H253 => ?_
      clear H245 a245 H248 a248 H249 a249 H250 a250 H251 a251 H252 a252
      obtain ⟨bi218, oi218, hB218⟩ := ints_addr (hr218 _ (Below.refl _ _)).2 (by omega)
      refine wl_ <| i_ H253 rfl (dd_idxS (sz := 1) (j := oi218 + j) rfl (sl_at (H253.ev 86 rfl) hB218) (H253.ev 87 rfl) (by kernel_rfl) (by omega) (by omega) (by omega)) fun a254 H254 => wl_ <| i_ H254 rfl (dd_at rfl (H254.ev 88 rfl) (ints_atB (hr218 _ HSL219.below).2 hB218 j (by omega)) Tryd.underlying3 rfl) fun a255 H255 => wl_ <| i_ H255 rfl (v := .int .u8 (bd (byteI (L218.getD j 0)))) (dd_conv (k := .u8) rfl (H255.ev 89 rfl) Tryd.underlying3 (by kernel_rfl) (wrap_u8_bd _)) fun a256 H256 => wl_ <| p_ H256 rfl rfl fun a257 H257 => ln_ <| ?_
      clear H253 a253 H254 a254 H255 a255 H256 a256
      have H258 := H257.sel [1, 0, 5, 7, 8, 10, 11, 12] rfl
      refine nx <| sq_ <| rl_ <| q_ H258 2 rfl fun a259 H259 => wl_ <| i_ H259 rfl (v := .int .i64 (10 + j)) (dd_ari rfl (H259.ev 91 rfl) (H259.ev 92 rfl) rfl (i64_of (by first | omega | (have := bd_lo; omega)) (by omega))) fun a260 H260 => wl_ <| i_ H260 rfl (xAo 32 1 (10 + j) rfl (H260.ev 5 rfl) (H260.ev 93 rfl)) fun a261 H261 => wl_ <| i_ H261 rfl (dd_get HSL219 0 (10 + j) rfl rfl (H261.ev 94 rfl) (bs_get (length_encT _) (10 + j) (by omega)) Tryd.underlying5 rfl) fun a262 H262 => wl_ <| p_ H262 rfl rfl fun a263 H263 => wl_ <| i_ H263 rfl (dd_cmp rfl (H263.ev 95 rfl) (H263.ev 96 rfl) (ne_f (pl_name hG hg218 (show 1 + 9 * 1 = 10 from rfl) (by omega)))) fun a264 H264 => wl_ <| p_ H264 rfl rfl fun a265 H265 => wl_ <| ig H265 (wg_ H265 rfl rfl rfl rfl) rfl (dd_mv rfl (H265.ev 8 rfl)) fun a266 H266 => ?_
      clear H257 H258 a257 H259 a259 H260 a260 H261 a261 H262 a262 H263 a263 H264 a264
      refine wl_ <| ig H266 (wg_ H266 rfl rfl rfl rfl) rfl (v := .int .i64 15) (dd_ari rfl (H266.ev 99 rfl) rfl rfl (by decide)) fun a267 H267 => wl_ <| ig H267 (wg_ H267 rfl rfl rfl rfl) rfl (dd_mv rfl (H267.ev 10 rfl)) fun a268 H268 => wl_ <| ig H268 (wg_ H268 rfl rfl rfl rfl) rfl (v := .int .i64 (15 + j)) (dd_ari rfl (H268.ev 100 rfl) (H268.ev 101 rfl) rfl (i64_of (by first | omega | (have := bd_lo; omega)) (by omega))) fun a269 H269 => wl_ <| ig H269 (wg_ H269 rfl rfl rfl rfl) rfl (xAo 32 1 (15 + j) rfl (H269.ev 5 rfl) (H269.ev 102 rfl)) fun a270 H270 => wl_ <| ig H270 (wg_ H270 rfl rfl rfl rfl) rfl (dd_get HSL219 0 (15 + j) rfl rfl (H270.ev 103 rfl) (bs_get (length_encT _) (15 + j) (by omega)) Tryd.underlying5 rfl) fun a271 H271 => wl_ <| ig H271 (wg_ H271 rfl rfl rfl rfl) rfl (dd_mv rfl (H271.ev 12 rfl)) fun a272 H272 => wl_ <| ig H272 (wg_ H272 rfl rfl rfl rfl) rfl (dd_cmp rfl (H272.ev 104 rfl) (H272.ev 105 rfl) (ne_f (pl_blk hG hg218 (show 1 + 9 * 1 = 10 from rfl) (by omega)))) fun a273 H273 => wl_ <| p_ H273 rfl rfl fun a274 H274 => ?_
      clear H265 a265 H266 a266 H267 a267 H268 a268 H269 a269 H270 a270 H271 a271 H272 a272
      refine ln_ <| ?_
      clear H273 a273
      have H275 := H274.sel [1, 0, 5, 7, 8, 10, 107] rfl
      refine nx <| cf_ H275 rfl <| wp_skip <| bn <| nx <| rl_ <| wl_ <| p_ H275 rfl rfl fun a276 H276 => wl_ <| i_ H276 rfl (v := .int .i64 (j + 1)) (dd_ari rfl (H276.ev 57 rfl) rfl rfl (i64_of (by first | omega | (have := bd_lo; omega)) (by omega))) fun a277 H277 => wl_ <| p_ H277 rfl rfl fun a278 H278 => ln_ <| ?_
      clear H274 H275 a274 H276 a276 H277 a277
      refine nx ⟨j + 1, ⟨(by omega), H278.sel [1, 0, 5, 7, 8, 10] rfl, ss HSL219 [0]⟩, (by omega)⟩
     ·
      refine wl_ <| i_ H245 rfl (dd_cmp rfl (H245.ev 74 rfl) (H245.ev 80 rfl) (lt_f hc247)) fun a279 H279 => ln_ <| nx <| cf_ H279 rfl <| wp_skip <| nx <| sq_ <| rl_ <| q_ H279 2 rfl fun a280 H280 => wl_ <| i_ H280 rfl (v := .int .i64 (10 + j)) (dd_ari rfl (H280.ev 91 rfl) (H280.ev 92 rfl) rfl (i64_of (by first | omega | (have := bd_lo; omega)) (by omega))) fun a281 H281 => wl_ <| i_ H281 rfl (xAo 32 1 (10 + j) rfl (H281.ev 5 rfl) (H281.ev 93 rfl)) fun a282 H282 => wl_ <| i_ H282 rfl (dd_get HSL219 0 (10 + j) rfl rfl (H282.ev 94 rfl) (bs_get (length_encT _) (10 + j) (by omega)) Tryd.underlying5 rfl) fun a283 H283 => wl_ <| p_ H283 rfl rfl fun a284 H284 => wl_ <| i_ H284 rfl (dd_cmp rfl (H284.ev 95 rfl) (H284.ev 96 rfl) (ne_f (pl_name hG hg218 (show 1 + 9 * 1 = 10 from rfl) (by omega)))) fun a285 H285 => wl_ <| p_ H285 rfl rfl fun a286 H286 => ?_
      clear H245 a245 H279 a279 H280 a280 H281 a281 H282 a282 H283 a283 H284 a284
      refine wl_ <| ig H286 (wg_ H286 rfl rfl rfl rfl) rfl (dd_mv rfl (H286.ev 8 rfl)) fun a287 H287 => wl_ <| ig H287 (wg_ H287 rfl rfl rfl rfl) rfl (v := .int .i64 15) (dd_ari rfl (H287.ev 99 rfl) rfl rfl (by decide)) fun a288 H288 => wl_ <| ig H288 (wg_ H288 rfl rfl rfl rfl) rfl (dd_mv rfl (H288.ev 10 rfl)) fun a289 H289 => wl_ <| ig H289 (wg_ H289 rfl rfl rfl rfl) rfl (v := .int .i64 (15 + j)) (dd_ari rfl (H289.ev 100 rfl) (H289.ev 101 rfl) rfl (i64_of (by first | omega | (have := bd_lo; omega)) (by omega))) fun a290 H290 => wl_ <| ig H290 (wg_ H290 rfl rfl rfl rfl) rfl (xAo 32 1 (15 + j) rfl (H290.ev 5 rfl) (H290.ev 102 rfl)) fun a291 H291 => wl_ <| ig H291 (wg_ H291 rfl rfl rfl rfl) rfl (dd_get HSL219 0 (15 + j) rfl rfl (H291.ev 103 rfl) (bs_get (length_encT _) (15 + j) (by omega)) Tryd.underlying5 rfl) fun a292 H292 => wl_ <| ig H292 (wg_ H292 rfl rfl rfl rfl) rfl (dd_mv rfl (H292.ev 12 rfl)) fun a293 H293 => wl_ <| ig H293 (wg_ H293 rfl rfl rfl rfl) rfl (dd_cmp rfl (H293.ev 104 rfl) (H293.ev 105 rfl) (ne_f (pl_blk0 hG hg218 (show 1 + 9 * 1 = 10 from rfl) (by omega) (by omega)))) fun a294 H294 => ?_
      clear H285 a285 H286 a286 H287 a287 H288 a288 H289 a289 H290 a290 H291 a291 H292 a292
      refine wl_ <| p_ H294 rfl rfl fun a295 H295 => ln_ <| ?_
      clear H293 a293 H294 a294
      have H296 := H295.sel [1, 0, 5, 7, 8, 10, 107] rfl
      refine nx <| cf_ H296 rfl <| wp_skip <| bn <| nx <| rl_ <| wl_ <| p_ H296 rfl rfl fun a297 H297 => wl_ <| i_ H297 rfl (v := .int .i64 (j + 1)) (dd_ari rfl (H297.ev 57 rfl) rfl rfl (i64_of (by first | omega | (have := bd_lo; omega)) (by omega))) fun a298 H298 => wl_ <| p_ H298 rfl rfl fun a299 H299 => ln_ <| ?_
      clear H295 H296 a295 H297 a297 H298 a298
      refine nx ⟨j + 1, ⟨(by omega), H299.sel [1, 0, 5, 7, 8, 10] rfl, ss HSL219 [0]⟩, (by omega)⟩
    ·
     refine wl_ <| i_ H229 rfl (dd_cmp rfl (H229.ev 59 rfl) (H229.ev 65 rfl) (lt_f hc231)) fun a300 H300 => ln_ <| nx <| cf_ H300 rfl <| wp_skip <| nx <| sq_ <| sq_ <| rl_ <| q_ H300 3 rfl fun a301 H301 => wl_ <| i_ H301 rfl (xS 2 (o + 2) rfl (H301.ev 75 rfl) (H301.ev 76 rfl)) fun a302 H302 => wl_ <| i_ H302 rfl (xf 1 (o + 2 + 1) rfl (H302.ev 77 rfl)) fun a303 H303 => wl_ <| i_ H303 rfl (dd_at rfl (H303.ev 78 rfl) ((hr218 _ HSL219.below).1 1 _ rfl) Tryd.underlying43 rfl) fun a304 H304 => wl_ <| i_ H304 rfl (v := .int .i64 m218) (dd_len rfl (H304.ev 79 rfl) Tryd.underlying43) fun a305 H305 => ?_
     clear H229 a229 H300 a300 H301 a301 H302 a302 H303 a303 H304 a304
     by_cases hc307 : (j : Int) < m218
     ·
      refine wl_ <| i_ H305 rfl (dd_cmp rfl (H305.ev 74 rfl) (H305.ev 80 rfl) (lt_t hc307)) fun a308 H308 => ln_ <| ?_
      clear H305 a305
      have H309 := H308.sel [1, 0, 5, 7, 8, 10, 11, 12, 81] rfl
      refine nx <| ct_ H309 rfl <| rl_ <| q_ H309 2 rfl fun a310 H310 => wl_ <| i_ H310 rfl (xS 2 (o + 2) rfl (H310.ev 82 rfl) (H310.ev 83 rfl)) fun a311 H311 => wl_ <| i_ H311 rfl (xf 1 (o + 2 + 1) rfl (H311.ev 84 rfl)) fun a312 H312 => wl_ <| i_ H312 rfl (dd_at rfl (H312.ev 85 rfl) ((hr218 _ HSL219.below).1 1 _ rfl) Tryd.underlying43 rfl) fun a313 H313 => wl_ <| p_ H313 rfl rfl fun a314 H314 => ?_
      clear H308 H309 a308 H310 a310 H311 a311 H312 a312 H313 a313
      obtain ⟨bi218, oi218, hB218⟩ := ints_addr (hr218 _ (Below.refl _ _)).2 (by omega)
      refine wl_ <| i_ H314 rfl (dd_idxS (sz := 1) (j := oi218 + j) rfl (sl_at (H314.ev 86 rfl) hB218) (H314.ev 87 rfl) (by kernel_rfl) (by omega) (by omega) (by omega)) fun a315 H315 => wl_ <| i_ H315 rfl (dd_at rfl (H315.ev 88 rfl) (ints_atB (hr218 _ HSL219.below).2 hB218 j (by omega)) Tryd.underlying3 rfl) fun a316 H316 => wl_ <| i_ H316 rfl (v := .int .u8 (bd (byteI (L218.getD j 0)))) (dd_conv (k := .u8) rfl (H316.ev 89 rfl) Tryd.underlying3 (by kernel_rfl) (wrap_u8_bd _)) fun a317 H317 => wl_ <| p_ H317 rfl rfl fun a318 H318 => ln_ <| nx <| sq_ <| rl_ <| q_ H318 2 rfl fun a319 H319 => wl_ <| i_ H319 rfl (v := .int .i64 (10 + j)) (dd_ari rfl (H319.ev 91 rfl) (H319.ev 92 rfl) rfl (i64_of (by first | omega | (have := bd_lo; omega)) (by omega))) fun a320 H320 => wl_ <| i_ H320 rfl (xAo 32 1 (10 + j) rfl (H320.ev 5 rfl) (H320.ev 93 rfl)) fun a321 H321 => wl_ <| i_ H321 rfl (dd_get HSL219 0 (10 + j) rfl rfl (H321.ev 94 rfl) (bs_get (length_encT _) (10 + j) (by omega)) Tryd.underlying5 rfl) fun a322 H322 => ?_
      clear H314 a314 H315 a315 H316 a316 H317 a317 H318 a318 H319 a319 H320 a320
      refine wl_ <| p_ H322 rfl rfl fun a323 H323 => wl_ <| i_ H323 rfl (dd_cmp rfl (H323.ev 95 rfl) (H323.ev 96 rfl) (ne_f (pl_name0 hG hg218 (show 1 + 9 * 1 = 10 from rfl) (by omega) (by omega)))) fun a324 H324 => wl_ <| p_ H324 rfl rfl fun a325 H325 => wl_ <| ig H325 (wg_ H325 rfl rfl rfl rfl) rfl (dd_mv rfl (H325.ev 8 rfl)) fun a326 H326 => wl_ <| ig H326 (wg_ H326 rfl rfl rfl rfl) rfl (v := .int .i64 15) (dd_ari rfl (H326.ev 99 rfl) rfl rfl (by decide)) fun a327 H327 => wl_ <| ig H327 (wg_ H327 rfl rfl rfl rfl) rfl (dd_mv rfl (H327.ev 10 rfl)) fun a328 H328 => wl_ <| ig H328 (wg_ H328 rfl rfl rfl rfl) rfl (v := .int .i64 (15 + j)) (dd_ari rfl (H328.ev 100 rfl) (H328.ev 101 rfl) rfl (i64_of (by first | omega | (have := bd_lo; omega)) (by omega))) fun a329 H329 => wl_ <| ig H329 (wg_ H329 rfl rfl rfl rfl) rfl (xAo 32 1 (15 + j) rfl (H329.ev 5 rfl) (H329.ev 102 rfl)) fun a330 H330 => ?_
      clear H321 a321 H322 a322 H323 a323 H324 a324 H325 a325 H326 a326 H327 a327 H328 a328
      refine wl_ <| ig H330 (wg_ H330 rfl rfl rfl rfl) rfl (dd_get HSL219 0 (15 + j) rfl rfl (H330.ev 103 rfl) (bs_get (length_encT _) (15 + j) (by omega)) Tryd.underlying5 rfl) fun a331 H331 => wl_ <| ig H331 (wg_ H331 rfl rfl rfl rfl) rfl (dd_mv rfl (H331.ev 12 rfl)) fun a332 H332 => wl_ <| ig H332 (wg_ H332 rfl rfl rfl rfl) rfl (dd_cmp rfl (H332.ev 104 rfl) (H332.ev 105 rfl) (ne_f (pl_blk hG hg218 (show 1 + 9 * 1 = 10 from rfl) (by omega)))) fun a333 H333 => wl_ <| p_ H333 rfl rfl fun a334 H334 => ln_ <| ?_
      clear H329 a329 H330 a330 H331 a331 H332 a332 H333 a333
      have H335 := H334.sel [1, 0, 5, 7, 8, 10, 107] rfl
      refine nx <| cf_ H335 rfl <| wp_skip <| bn <| nx <| rl_ <| wl_ <| p_ H335 rfl rfl fun a336 H336 => wl_ <| i_ H336 rfl (v := .int .i64 (j + 1)) (dd_ari rfl (H336.ev 57 rfl) rfl rfl (i64_of (by first | omega | (have := bd_lo; omega)) (by omega))) fun a337 H337 => wl_ <| p_ H337 rfl rfl fun a338 H338 => ln_ <| ?_
      clear H334 H335 a334 H336 a336 H337 a337
      refine nx ⟨j + 1, ⟨(by omega), H338.sel [1, 0, 5, 7, 8, 10] rfl, ss HSL219 [0]⟩, (by omega)⟩
     ·
      refine wl_ <| i_ H305 rfl (dd_cmp rfl (H305.ev 74 rfl) (H305.ev 80 rfl) (lt_f hc307)) fun a339 H339 => ln_ <| ?_
      clear H305 a305
      have H340 := H339.sel [1, 0, 5, 7, 8, 10, 11, 12, 81] rfl
      refine nx <| cf_ H340 rfl <| wp_skip <| nx <| sq_ <| rl_ <| q_ H340 2 rfl fun a341 H341 => wl_ <| i_ H341 rfl (v := .int .i64 (10 + j)) (dd_ari rfl (H341.ev 91 rfl) (H341.ev 92 rfl) rfl (i64_of (by first | omega | (have := bd_lo; omega)) (by omega))) fun a342 H342 => wl_ <| i_ H342 rfl (xAo 32 1 (10 + j) rfl (H342.ev 5 rfl) (H342.ev 93 rfl)) fun a343 H343 => wl_ <| i_ H343 rfl (dd_get HSL219 0 (10 + j) rfl rfl (H343.ev 94 rfl) (bs_get (length_encT _) (10 + j) (by omega)) Tryd.underlying5 rfl) fun a344 H344 => wl_ <| p_ H344 rfl rfl fun a345 H345 => wl_ <| i_ H345 rfl (dd_cmp rfl (H345.ev 95 rfl) (H345.ev 96 rfl) (ne_f (pl_name0 hG hg218 (show 1 + 9 * 1 = 10 from rfl) (by omega) (by omega)))) fun a346 H346 => wl_ <| p_ H346 rfl rfl fun a347 H347 => wl_ <| ig H347 (wg_ H347 rfl rfl rfl rfl) rfl (dd_mv rfl (H347.ev 8 rfl)) fun a348 H348 => ?_
      clear H339 H340 a339 H341 a341 H342 a342 H343 a343 H344 a344 H345 a345 H346 a346
      refine wl_ <| ig H348 (wg_ H348 rfl rfl rfl rfl) rfl (v := .int .i64 15) (dd_ari rfl (H348.ev 99 rfl) rfl rfl (by decide)) fun a349 H349 => wl_ <| ig H349 (wg_ H349 rfl rfl rfl rfl) rfl (dd_mv rfl (H349.ev 10 rfl)) fun a350 H350 => wl_ <| ig H350 (wg_ H350 rfl rfl rfl rfl) rfl (v := .int .i64 (15 + j)) (dd_ari rfl (H350.ev 100 rfl) (H350.ev 101 rfl) rfl (i64_of (by first | omega | (have := bd_lo; omega)) (by omega))) fun a351 H351 => wl_ <| ig H351 (wg_ H351 rfl rfl rfl rfl) rfl (xAo 32 1 (15 + j) rfl (H351.ev 5 rfl) (H351.ev 102 rfl)) fun a352 H352 => wl_ <| ig H352 (wg_ H352 rfl rfl rfl rfl) rfl (dd_get HSL219 0 (15 + j) rfl rfl (H352.ev 103 rfl) (bs_get (length_encT _) (15 + j) (by omega)) Tryd.underlying5 rfl) fun a353 H353 => wl_ <| ig H353 (wg_ H353 rfl rfl rfl rfl) rfl (dd_mv rfl (H353.ev 12 rfl)) fun a354 H354 => wl_ <| ig H354 (wg_ H354 rfl rfl rfl rfl) rfl (dd_cmp rfl (H354.ev 104 rfl) (H354.ev 105 rfl) (ne_f (pl_blk0 hG hg218 (show 1 + 9 * 1 = 10 from rfl) (by omega) (by omega)))) fun a355 H355 => wl_ <| p_ H355 rfl rfl fun a356 H356 => ?_
      clear H347 a347 H348 a348 H349 a349 H350 a350 H351 a351 H352 a352 H353 a353 H354 a354
      refine ln_ <| ?_
      clear H355 a355
      have H357 := H356.sel [1, 0, 5, 7, 8, 10, 107] rfl
      refine nx <| cf_ H357 rfl <| wp_skip <| bn <| nx <| rl_ <| wl_ <| p_ H357 rfl rfl fun a358 H358 => wl_ <| i_ H358 rfl (v := .int .i64 (j + 1)) (dd_ari rfl (H358.ev 57 rfl) rfl rfl (i64_of (by first | omega | (have := bd_lo; omega)) (by omega))) fun a359 H359 => wl_ <| p_ H359 rfl rfl fun a360 H360 => ln_ <| ?_
      clear H356 H357 a356 H358 a358 H359 a359
      refine nx ⟨j + 1, ⟨(by omega), H360.sel [1, 0, 5, 7, 8, 10] rfl, ss HSL219 [0]⟩, (by omega)⟩
   ·
    refine wl_ <| i_ H220 rfl (dd_cmp rfl (H220.ev 55 rfl) rfl (lt_f hc222)) fun a361 H361 => ln_ <| nx <| cf_ H361 rfl <| wp_exit <| tx <| tx <| bx <| nx <| sq_ <| ?_
    clear H220 a220
    refine wi_ HSL219 [0] rfl [0] rfl fun HSh362 hx362 => hp_ H361 0 hx362 rfl rfl rfl fun a363 H363 => ht_ H363 1 hx362 rfl rfl (v := .int .i64 14) (fun _ _ _ => dd_ari rfl (H363.ev 108 rfl) rfl rfl (by decide)) fun a364 H364 => ht_ H364 2 hx362 rfl rfl (fun _ _ _ => xA 32 1 14 rfl (H364.ev 5 rfl) (H364.ev 109 rfl)) fun a365 H365 => ht_ H365 3 hx362 rfl rfl (fun _ _ HS9 => dd_get HS9 0 14 rfl rfl (H365.ev 110 rfl) (bs_get (length_encT _) 14 (by decide)) Tryd.underlying5 rfl) fun a366 H366 => ht_ H366 4 hx362 rfl rfl (v := .int .i64 (bd ((encT l).getD 14 0#8))) (fun _ _ _ => dd_conv (k := .i64) rfl (H366.ev 111 rfl) Tryd.underlying5 (by kernel_rfl) (i64_bdA _)) fun a367 H367 => hp_ H367 5 hx362 rfl rfl rfl fun a368 H368 => hp_ H368 6 hx362 rfl rfl rfl fun a369 H369 => ?_
    clear HSL219 H361 a361 H363 a363 H364 a364 H365 a365 H366 a366 H367 a367
    refine ht_ H369 7 hx362 rfl rfl (fun _ _ _ => xS 2 (o + 2) rfl (H369.ev 113 rfl) (H369.ev 114 rfl)) fun a370 H370 => ht_ H370 8 hx362 rfl rfl (fun _ _ _ => xf 1 (o + 2 + 1) rfl (H370.ev 115 rfl)) fun a371 H371 => ht_ H371 9 hx362 rfl rfl (fun _ _ HS9 => dd_at rfl (H371.ev 116 rfl) ((hr218 _ HS9.below).1 1 _ rfl) Tryd.underlying43 rfl) fun a372 H372 => ht_ H372 10 hx362 rfl rfl (v := .int .i64 m218) (fun _ _ _ => dd_len rfl (H372.ev 117 rfl) Tryd.underlying43) fun a373 H373 => ht_ H373 11 hx362 rfl rfl (v := .bool false) (fun _ _ _ => dd_cmp rfl (H373.ev 112 rfl) (H373.ev 118 rfl) (ne_f ((pl_num hG hg218 (show 1 + 9 * 1 = 10 from rfl)).trans (by rw [hm218])))) fun a374 H374 => hp_ H374 12 hx362 rfl rfl rfl fun a375 H375 => htg H375 13 hx362 rfl (wg_ H375 rfl rfl rfl rfl) rfl (fun _ _ _ => dd_mv rfl (H375.ev 0 rfl)) fun a376 H376 => htg H376 14 hx362 rfl (wg_ H376 rfl rfl rfl rfl) rfl (fun _ _ _ => dd_mv rfl (H376.ev 7 rfl)) fun a377 H377 => ?_
    clear H368 a368 H369 a369 H370 a370 H371 a371 H372 a372 H373 a373 H374 a374 H375 a375
    refine htg H377 15 hx362 rfl (wg_ H377 rfl rfl rfl rfl) rfl (fun _ _ _ => xS 2 (o + 2) rfl (H377.ev 121 rfl) (H377.ev 122 rfl)) fun a378 H378 => htg H378 16 hx362 rfl (wg_ H378 rfl rfl rfl rfl) rfl (fun _ _ _ => xf 0 (o + 2) rfl (H378.ev 123 rfl)) fun a379 H379 => htg H379 17 hx362 rfl (wg_ H379 rfl rfl rfl rfl) rfl (fun _ _ HS9 => dd_at rfl (H379.ev 124 rfl) ((hr218 _ HS9.below).1 0 _ rfl) Tryd.underlying9 rfl) fun a380 H380 => htg H380 18 hx362 rfl (wg_ H380 rfl rfl rfl rfl) rfl (fun _ _ _ => dd_mv rfl (H380.ev 0 rfl)) fun a381 H381 => htg H381 20 hx362 rfl (wg_ H381 rfl rfl rfl rfl) rfl (fun _ _ _ => dd_mv rfl (H381.ev 7 rfl)) fun a382 H382 => h1_ 19 rfl <| cg H382 (wg_ H382 rfl rfl rfl rfl) rfl HSh362 (v := .int .i64 1) (dc_ Tryd.func17 rfl (args2 (H382.ev 125 rfl) (H382.ev 126 rfl)) (find_any _ _ _ p218 l wL219.drew (HVl _ HSh362.below) (by decide)) (fun _ w9 h9 => ⟨_, h9.1, by rw [show findI p218 l = (1 : Int) from find_good hG hg218], h9.2⟩)) fun W383 HS383 a383 H383 => sx_ (sxi HS383 [0] rfl) fun hx384 => htg H383 21 hx384 rfl (wg_ H383 rfl rfl rfl rfl) rfl (fun _ _ _ => dd_cmp rfl (H383.ev 127 rfl) (H383.ev 128 rfl) (ne_f (by decide))) fun a385 H385 => ?_
    clear H376 a376 H377 a377 H378 a378 H379 a379 H380 a380 H381 a381 H382 a382 HSh362 hx362
    refine hp_ H385 22 hx384 rfl rfl rfl fun a386 H386 => ?_
    clear H383 a383 H385 a385
    refine wpAnyH_done (by kernel_rfl) ?_ _
    clear hx384
    refine nx <| cf_ H386 rfl <| wp_skip <| bn <| nx <| rl_ <| wl_ <| p_ H386 rfl rfl fun a387 H387 => wl_ <| i_ H387 rfl (v := .int .i64 2) (dd_ari rfl (H387.ev 36 rfl) rfl rfl (by decide)) fun a388 H388 => wl_ <| p_ H388 rfl rfl fun a389 H389 => ln_ <| ?_
    clear H386 a386 H387 a387 H388 a388
    have H390 := H389.sel [1, 0, 5, 7] rfl
    refine nx <| unr_go <| sq_ <| sq_ <| rl_ <| wl_ <| p_ H390 rfl rfl fun a391 H391 => wl_ <| i_ H391 rfl (dd_cmp rfl (H391.ev 34 rfl) rfl (lt_t (by decide))) fun a392 H392 => ln_ <| nx <| ct_ H392 rfl <| wp_skip <| nx <| sq_ <| wp_block <| sq_ <| rl_ <| wl_ <| p_ H392 rfl rfl fun a393 H393 => wl_ <| i_ H393 rfl (v := .int .i64 18) (dd_ari rfl rfl (H393.ev 38 rfl) rfl (by decide)) fun a394 H394 => wl_ <| i_ H394 rfl (v := .int .i64 19) (dd_ari rfl rfl (H394.ev 39 rfl) rfl (by decide)) fun a395 H395 => wl_ <| p_ H395 rfl rfl fun a396 H396 => ln_ <| nx <| sq_ <| sq_ <| rl_ <| q_ H396 2 rfl fun a397 H397 => wl_ <| i_ H397 rfl (v := .int .i64 2) (dd_len rfl (H397.ev 42 rfl) Tryd.underlying22) fun a398 H398 => ?_
    clear H389 H390 a389 H391 a391 H392 a392 H393 a393 H394 a394 H395 a395 H396 a396
    refine wl_ <| i_ H398 rfl (dd_cmp rfl (H398.ev 41 rfl) (H398.ev 43 rfl) (ge_t (by decide))) fun a399 H399 => ln_ <| nx <| ct_ H399 rfl <| sq_ <| sq_ <| rl_ <| wl_ <| p_ H399 rfl rfl fun a400 H400 => ln_ <| nx <| wp_block <| ?_
    clear H397 a397 H398 a398 H399 a399
    refine wp_loopG (ι := Nat) (fun j a9 w9 => (j ≤ 9) ∧ En 150 [(9, .int .i64 j), (8, .int .i64 19), (7, .int .i64 2), (5, .pointer (some ⟨g5, 0, none⟩)), (0, .slice (some ⟨b, o, none⟩) 2 c), (1, .int .u8 (bd z))] a9 ∧ St w noF [⟨g5, 24, bs (encT l)⟩] w9) (fun j => 9 - j) (0) ⟨Nat.zero_le _, H400.sel [1, 0, 5, 7, 8, 9] rfl, ss HS383 [0]⟩ ?_
    clear H400 a400 HS383
    rintro j aL401 wL401 ⟨hj, HL401, HSL401⟩
    refine sq_ <| sq_ <| rl_ <| wl_ <| p_ HL401 rfl rfl fun a402 H402 => ?_
    clear HL401 aL401
    by_cases hc404 : (j : Int) < 9
    ·
     refine wl_ <| i_ H402 rfl (dd_cmp rfl (H402.ev 45 rfl) rfl (lt_t hc404)) fun a405 H405 => ln_ <| nx <| ct_ H405 rfl <| wp_skip <| nx <| sq_ <| wp_block <| sq_ <| rl_ <| q_ H405 2 rfl fun a406 H406 => wl_ <| i_ H406 rfl (v := .int .i64 (19 + j)) (dd_ari rfl (H406.ev 49 rfl) (H406.ev 50 rfl) rfl (i64_of (by first | omega | (have := bd_lo; omega)) (by omega))) fun a407 H407 => wl_ <| i_ H407 rfl (xAo 32 1 (19 + j) rfl (H407.ev 5 rfl) (H407.ev 51 rfl)) fun a408 H408 => wl_ <| i_ H408 rfl (dd_get HSL401 0 (19 + j) rfl rfl (H408.ev 52 rfl) (bs_get (length_encT _) (19 + j) (by omega)) Tryd.underlying5 rfl) fun a409 H409 => wl_ <| i_ H409 rfl (dd_cmp rfl (H409.ev 53 rfl) rfl (ne_f (show bd ((encT l).getD (19 + j) 0#8) = 0 by rw [pl_zero hG hln (by omega)]; rfl))) fun a410 H410 => ln_ <| nx <| cf_ H410 rfl <| wp_skip <| bn <| nx <| rl_ <| wl_ <| p_ H410 rfl rfl fun a411 H411 => wl_ <| i_ H411 rfl (v := .int .i64 (j + 1)) (dd_ari rfl (H411.ev 47 rfl) rfl rfl (i64_of (by first | omega | (have := bd_lo; omega)) (by omega))) fun a412 H412 => ?_
     clear H402 a402 H405 a405 H406 a406 H407 a407 H408 a408 H409 a409 H410 a410
     refine wl_ <| p_ H412 rfl rfl fun a413 H413 => ln_ <| ?_
     clear H411 a411 H412 a412
     refine nx ⟨j + 1, ⟨(by omega), H413.sel [1, 0, 5, 7, 8, 9] rfl, ss HSL401 [0]⟩, (by omega)⟩
    ·
     refine wl_ <| i_ H402 rfl (dd_cmp rfl (H402.ev 45 rfl) rfl (lt_f hc404)) fun a414 H414 => ln_ <| nx <| cf_ H414 rfl <| wp_exit <| tx <| tx <| bx <| nx <| wp_exit <| tx <| bx <| nx <| rl_ <| wl_ <| p_ H414 rfl rfl fun a415 H415 => wl_ <| i_ H415 rfl (v := .int .i64 3) (dd_ari rfl (H415.ev 36 rfl) rfl rfl (by decide)) fun a416 H416 => wl_ <| p_ H416 rfl rfl fun a417 H417 => ln_ <| nx <| unr_go <| sq_ <| sq_ <| rl_ <| wl_ <| p_ H417 rfl rfl fun a418 H418 => wl_ <| i_ H418 rfl (dd_cmp rfl (H418.ev 34 rfl) rfl (lt_f (by decide))) fun a419 H419 => ln_ <| nx <| cf_ H419 rfl <| wp_exit <| tx <| tx <| bx <| nx <| sq_ <| rl_ <| wl_ <| p_ H419 rfl rfl fun a420 H420 => ?_
     clear H402 a402 H414 a414 H415 a415 H416 a416 H417 a417 H418 a418 H419 a419
     obtain ⟨r, hr, hr4⟩ := mod_nat (bd z) 4 (bd_lo _) (by decide)
     refine wl_ <| i_ H420 rfl (v := .int .u8 r) (dd_rem rfl (H420.ev 131 rfl) rfl (by decide) hr) fun a421 H421 => wl_ <| i_ H421 rfl (v := .int .u8 (28 + r)) (dd_ari rfl rfl (H421.ev 132 rfl) rfl (u8_of (by omega) (by omega))) fun a422 H422 => wl_ <| i_ H422 rfl (xAo 32 1 (28 + r) rfl (H422.ev 5 rfl) (H422.ev 133 rfl)) fun a423 H423 => wl_ <| t_ rfl (S := [⟨g5, 24, bs ((encT l).set (28 + r) (1#8))⟩]) (fun _ h => dd_put HSL401 0 (28 + r) rfl rfl (H423.ev 134 rfl) rfl (by kernel_rfl) rfl rfl (blt_fit ((size_bs _).trans (length_encT _)) (by omega)) (set_bs _ _ (1#8)) h) fun W424 HS424 => ln_ <| nx <| sq_ <| rl_ <| wl_ <| i_ H423 rfl (v := .agg (bs ((encT l).set (28 + r) (1#8)))) (dd_load HS424 0 0 rfl rfl (H423.ev 5 rfl) (slab_whole _) Tryd.underlying24 rfl (by rw [show (bs ((encT l).set (28 + r) (1#8))).size = 32 from ((size_bs _).trans (len_set (length_encT _)))]; kernel_rfl)) fun a425 H425 => ?_
     clear H420 a420 H421 a421 H422 a422 HSL401 H423 a423
     refine wl_ <| d_ H425 rfl (R := fun v w9 => ∃ A427 C427, v = .tuple #[.slice A427 0 C427, .int .i64 11] ∧ ((volL ([])).length = 0 ∧ 0 ≤ 3) ∧ (OV W424.heap.size w9 (.slice A427 0 C427) (volL ([]))) ∧ Below W424.heap.size W424 w9) (dc_ Tryd.func12 rfl (args1 (H425.ev 136 rfl)) (dect_any ((encT l).set (28 + r) (1#8)) W424 (len_set (length_encT _))) (fun _ w9 ⟨v9, he, ho, hb⟩ => by rw [(dec_bad (pl_bad hr4)).2] at he; rw [(dec_bad (pl_bad hr4)).1] at ho; obtain ⟨A9, n9, c9, rfl, h1, _⟩ := OV.form2 ho; obtain rfl : n9 = 0 := h1.symm; exact ⟨_, he, A9, c9, rfl, ⟨h1, (by decide)⟩, ho, hb⟩)) ?_
     rintro _ W426 ⟨A427, C427, rfl, hNd427, hov427, hb426⟩ a426 H426
     have HS426 := HS424.same hb426
     clear H425 a425
     have HBs428 : Below w.heap.size w W426 := HS426.below
     have HVlr := fun (W9 : World) (hb9 : Below W426.heap.size W426 W9) => HVl W9 (HBs428.trans (hb9.mono HBs428.size))
     clear HVl
     have HVl := HVlr
     clear HVlr
     have hr35r := fun (W9 : World) (hb9 : Below W426.heap.size W426 W9) => hr35 W9 (HBs428.trans (hb9.mono HBs428.size))
     clear hr35
     have hr35 := hr35r
     clear hr35r
     have hr218r := fun (W9 : World) (hb9 : Below W426.heap.size W426 W9) => hr218 W9 (HBs428.trans (hb9.mono HBs428.size))
     clear hr218
     have hr218 := hr218r
     clear hr218r
     have HR428_0 := fun (W9 : World) (hb9 : Below W426.heap.size W426 W9) => (HS426.row 0 rfl).call hb9
     have HSb428 := St.nil W426 noF
     clear HS426
     have HVd427 := fun (W9 : World) (hb9 : Below W426.heap.size W426 W9) => ((hov427.vols (Nat.le_trans (Nat.le_of_eq hNd427.1) (Nat.le_trans hNd427.2 (by decide)))).below hb9 (Nat.le_refl _))
     have hMd427 := (show ∀ x ∈ ([] : List Tv), x.2.length ≤ 1000000 from fun x h => by cases h)
     clear HS424 hb426
     refine wl_ <| p_ H426 rfl rfl fun a429 H429 => wl_ <| i_ H429 rfl (dd_ext rfl (H429.ev 135 rfl) rfl) fun a430 H430 => wl_ <| i_ H430 rfl (dd_ext rfl (H430.ev 135 rfl) rfl) fun a431 H431 => q_ H431 2 rfl fun a432 H432 => ln_ <| ?_
     clear H426 a426 H429 a429 H430 a430 H431 a431
     have H433 := H432.sel [13, 14] rfl
     refine nx <| sq_ <| rl_ <| wl_ <| p_ H433 rfl rfl fun a434 H434 => wl_ <| i_ H434 rfl (v := .int .i64 0) (dd_len rfl (H434.ev 140 rfl) Tryd.underlying22) fun a435 H435 => wl_ <| i_ H435 rfl (dd_cmp rfl (H435.ev 141 rfl) rfl (eq_t (by decide))) fun a436 H436 => wl_ <| p_ H436 rfl rfl fun a437 H437 => wl_ <| ig H437 (wg_ H437 rfl rfl rfl rfl) rfl (dd_mv rfl (H437.ev 14 rfl)) fun a438 H438 => wl_ <| ig H438 (wg_ H438 rfl rfl rfl rfl) rfl (dd_cmp rfl (H438.ev 144 rfl) rfl (eq_t (by decide))) fun a439 H439 => q_ H439 2 rfl fun a440 H440 => wl_ <| cg H440 (wg_ H440 rfl rfl rfl rfl) rfl HSb428 (dcs Tryd.func8 rfl (args0 ) (tabwakes_any W426) (.bool true)) fun W441 HS441 a441 H441 => ?_
     clear H432 H433 a432 H434 a434 H435 a435 H436 a436 H437 a437 H438 a438 H439 a439
     refine q_ H441 2 rfl fun a442 H442 => ln_ <| nx <| wp_ret <| ret_run H442.env0 (res_t Tryd.results5 (H442.get 4 rfl)) <| ?_
     clear H440 a440 HSb428 H441 a441
     exact ⟨rfl, (HBs428.trans (HS441.below.mono HBs428.size))⟩
set_option maxHeartbeats 3200000 in
theorem tabplaces3 (b o c : Nat) (l : List Tv) (z : BitVec 8) (w : World) (h0 : VolsAt w (.slice (some ⟨b, o, none⟩) 3 c) (volL l)) (hG : goodT l = true) :
    Calls Tryd.prog 5 #[.slice (some ⟨b, o, none⟩) 3 c, .int .u8 (bd z)] w fun e w' => e = .returned (.bool true) ∧ Below w.heap.size w w' := by
  have HS := St.nil w noF
  have HVl : ∀ W, Below w.heap.size w W → VolsAt W (.slice (some ⟨b, o, none⟩) 3 c) (volL l) := fun W hb => h0.below hb (Nat.le_refl _)
  have hln : l.length = 3 := by rw [← len_volL]; exact vols_len h0
  have hm1 : ∀ x ∈ l, x.2.length ≤ 1000000 := fun x hx => by
    have := (good_vals hG hx).2.2.1
    omega
  refine enter_en Tryd.func5 rfl Tryd.ntmps5 (Nat.le_of_ble_eq_true rfl) fun a0 (HA0 : En 150 [(0, .slice (some ⟨b, o, none⟩) 3 c), (1, .int .u8 (bd z))] a0) => ?_
  refine sq_ <| rl_ <| wl_ <| p_ HA0 rfl rfl fun a1 H1 => ln_ <| nx <| sq_ <| sq_ <| rl_ <| wl_ <| p_ H1 rfl rfl fun a2 H2 => wl_ <| c_ H2 rfl HS (v := .bool true) (dc_ Tryd.func15 rfl (args1 (H2.ev 15 rfl)) (rgoodt_all _ _ _ l w (HVl _ HS.below)) (fun _ w9 h9 => ⟨_, h9.1, by rw [hG], h9.2⟩)) fun W3 HS3 a3 H3 => wl_ <| i_ H3 rfl (v := .bool false) (dd_nt rfl (H3.ev 16 rfl) rfl) fun a4 H4 => ln_ <| nx <| cf_ H4 rfl <| wp_skip <| nx <| sq_ <| rl_ <| wl_ <| p_ H4 rfl rfl fun a5 H5 => wl_ <| c_ H5 rfl HS3 (v := .tuple #[.agg (bs (encT l)), .int .i64 0]) (dc_ Tryd.func10 rfl (args1 (H5.ev 20 rfl)) (enct_any _ _ _ l W3 (HVl _ HS3.below) (by decide) hm1) (fun _ w9 h9 => ⟨_, by rw [encE_z.2 hG] at h9; exact h9.1, rfl, h9.2⟩)) fun W6 HS6 a6 H6 => wl_ <| p_ H6 rfl rfl fun a7 H7 => wl_ <| i_ H7 rfl (dd_ext rfl (H7.ev 19 rfl) rfl) fun a8 H8 => ?_
  clear HA0 a0 H1 a1 H2 a2 HS H3 a3 H4 a4 H5 a5 HS3 H6 a6
  refine wl_ <| i_ H8 rfl (dd_ext rfl (H8.ev 19 rfl) rfl) fun a9 H9 => wl_ <| n_ H9 rfl (fun _ h => dd_new HS6 (bs (zer 32)) rfl (z := .agg (bs (zer 32))) (by kernel_rfl) rfl h) fun g5 W10 HS10 a10 H10 => wl_ <| t_ rfl (fun _ h => dd_setrow HS10 0 rfl rfl (H10.ev 5 rfl) (H10.ev 22 rfl) (by kernel_rfl) (((size_bs _).trans (length_encT _)) : (bs (encT l)).size = 32) (((size_bs _).trans (length_zer 32)) : (bs (zer 32)).size = 32) (one_bs _) h) fun W11 HS11 => wl_ <| p_ H10 rfl rfl fun a12 H12 => ln_ <| nx <| sq_ <| sq_ <| rl_ <| wl_ <| p_ H12 rfl rfl fun a13 H13 => wl_ <| i_ H13 rfl (dd_cmp rfl (H13.ev 24 rfl) rfl (ne_f (by decide))) fun a14 H14 => wl_ <| p_ H14 rfl rfl fun a15 H15 => wl_ <| ig H15 (wg_ H15 rfl rfl rfl rfl) rfl (xA 32 1 0 rfl (H15.ev 5 rfl) rfl) fun a16 H16 => ?_
  clear H7 a7 H8 a8 HS6 H9 a9 HS10 H10 a10 H12 a12 H13 a13 H14 a14
  refine wl_ <| ig H16 (wg_ H16 rfl rfl rfl rfl) rfl (dd_get HS11 0 0 rfl rfl (H16.ev 27 rfl) (bs_get (length_encT _) 0 (by decide)) Tryd.underlying5 rfl) fun a17 H17 => wl_ <| ig H17 (wg_ H17 rfl rfl rfl rfl) rfl (v := .int .i64 (bd ((encT l).getD 0 0#8))) (dd_conv (k := .i64) rfl (H17.ev 28 rfl) Tryd.underlying5 (by kernel_rfl) (i64_bdA _)) fun a18 H18 => wl_ <| ig H18 (wg_ H18 rfl rfl rfl rfl) rfl (dd_mv rfl (H18.ev 0 rfl)) fun a19 H19 => wl_ <| ig H19 (wg_ H19 rfl rfl rfl rfl) rfl (v := .int .i64 3) (dd_len rfl (H19.ev 30 rfl) Tryd.underlying22) fun a20 H20 => wl_ <| ig H20 (wg_ H20 rfl rfl rfl rfl) rfl (dd_cmp rfl (H20.ev 29 rfl) (H20.ev 31 rfl) (ne_f (pl_0 hG hln))) fun a21 H21 => wl_ <| p_ H21 rfl rfl fun a22 H22 => ln_ <| ?_
  clear H15 a15 H16 a16 H17 a17 H18 a18 H19 a19 H20 a20 H21 a21
  have H23 := H22.sel [1, 0, 5, 33] rfl
  refine nx <| cf_ H23 rfl <| wp_skip <| nx <| sq_ <| sq_ <| rl_ <| wl_ <| p_ H23 rfl rfl fun a24 H24 => ln_ <| nx <| wp_block <| wp_unr 4 <| unr_go <| sq_ <| sq_ <| rl_ <| wl_ <| p_ H24 rfl rfl fun a25 H25 => wl_ <| i_ H25 rfl (dd_cmp rfl (H25.ev 34 rfl) rfl (lt_t (by decide))) fun a26 H26 => ln_ <| nx <| ct_ H26 rfl <| wp_skip <| nx <| sq_ <| wp_block <| sq_ <| rl_ <| wl_ <| p_ H26 rfl rfl fun a27 H27 => wl_ <| i_ H27 rfl (v := .int .i64 0) (dd_ari rfl rfl (H27.ev 38 rfl) rfl (by decide)) fun a28 H28 => wl_ <| i_ H28 rfl (v := .int .i64 1) (dd_ari rfl rfl (H28.ev 39 rfl) rfl (by decide)) fun a29 H29 => wl_ <| p_ H29 rfl rfl fun a30 H30 => ln_ <| nx <| sq_ <| sq_ <| rl_ <| q_ H30 2 rfl fun a31 H31 => ?_
  clear H22 H23 a22 H24 a24 H25 a25 H26 a26 H27 a27 H28 a28 H29 a29
  refine wl_ <| i_ H31 rfl (v := .int .i64 3) (dd_len rfl (H31.ev 42 rfl) Tryd.underlying22) fun a32 H32 => wl_ <| i_ H32 rfl (dd_cmp rfl (H32.ev 41 rfl) (H32.ev 43 rfl) (ge_f (by decide))) fun a33 H33 => ln_ <| nx <| cf_ H33 rfl <| wp_skip <| nx <| sq_ <| sq_ <| rl_ <| ?_
  clear H30 a30 H31 a31 H32 a32
  obtain ⟨p35, L35, B35, m35, c35, hg35, hr35, hm35, hp35⟩ := vols_getC (HVl _ (Below.refl _ _)) (k := 0) (by omega)
  refine wl_ <| p_ H33 rfl rfl fun a34 H34 => ln_ <| nx <| wp_block <| ?_
  clear H33 a33
  refine wp_loopG (ι := Nat) (fun j a9 w9 => (j ≤ 4) ∧ En 150 [(10, .int .i64 j), (8, .int .i64 1), (7, .int .i64 0), (5, .pointer (some ⟨g5, 0, none⟩)), (0, .slice (some ⟨b, o, none⟩) 3 c), (1, .int .u8 (bd z))] a9 ∧ St w noF [⟨g5, 24, bs (encT l)⟩] w9) (fun j => 4 - j) (0) ⟨Nat.zero_le _, H34.sel [1, 0, 5, 7, 8, 10] rfl, ss HS11 [0]⟩ ?_
  clear H34 a34 HS11
  rintro j aL36 wL36 ⟨hj, HL36, HSL36⟩
  refine sq_ <| sq_ <| rl_ <| wl_ <| p_ HL36 rfl rfl fun a37 H37 => ?_
  clear HL36 aL36
  by_cases hc39 : (j : Int) < 4
  ·
   refine wl_ <| i_ H37 rfl (dd_cmp rfl (H37.ev 55 rfl) rfl (lt_t hc39)) fun a40 H40 => ln_ <| nx <| ct_ H40 rfl <| wp_skip <| nx <| sq_ <| wp_block <| sq_ <| rl_ <| q_ H40 2 rfl fun a41 H41 => ln_ <| nx <| sq_ <| sq_ <| rl_ <| q_ H41 3 rfl fun a42 H42 => wl_ <| i_ H42 rfl (xS 2 (o + 0) rfl (H42.ev 60 rfl) (H42.ev 61 rfl)) fun a43 H43 => wl_ <| i_ H43 rfl (xf 0 (o + 0) rfl (H43.ev 62 rfl)) fun a44 H44 => wl_ <| i_ H44 rfl (dd_at rfl (H44.ev 63 rfl) ((hr35 _ HSL36.below).1 0 _ rfl) Tryd.underlying9 rfl) fun a45 H45 => wl_ <| i_ H45 rfl (v := .int .i64 p35.length) (dd_lens rfl (H45.ev 64 rfl) Tryd.underlying9 (by rw [strB_size])) fun a46 H46 => ?_
   clear H37 a37 H40 a40 H41 a41 H42 a42 H43 a43 H44 a44 H45 a45
   by_cases hc48 : (j : Int) < p35.length
   ·
    refine wl_ <| i_ H46 rfl (dd_cmp rfl (H46.ev 59 rfl) (H46.ev 65 rfl) (lt_t hc48)) fun a49 H49 => ln_ <| nx <| ct_ H49 rfl <| rl_ <| q_ H49 2 rfl fun a50 H50 => wl_ <| i_ H50 rfl (xS 2 (o + 0) rfl (H50.ev 67 rfl) (H50.ev 68 rfl)) fun a51 H51 => wl_ <| i_ H51 rfl (xf 0 (o + 0) rfl (H51.ev 69 rfl)) fun a52 H52 => wl_ <| i_ H52 rfl (dd_at rfl (H52.ev 70 rfl) ((hr35 _ HSL36.below).1 0 _ rfl) Tryd.underlying9 rfl) fun a53 H53 => wl_ <| p_ H53 rfl rfl fun a54 H54 => wl_ <| i_ H54 rfl (v := .int .u8 (bd (p35.getD j 0#8))) (dd_ixs rfl (H54.ev 71 rfl) (H54.ev 72 rfl) Tryd.underlying9 (by omega)) fun a55 H55 => wl_ <| p_ H55 rfl rfl fun a56 H56 => ?_
    clear H46 a46 H49 a49 H50 a50 H51 a51 H52 a52 H53 a53 H54 a54
    refine ln_ <| ?_
    clear H55 a55
    have H57 := H56.sel [1, 0, 5, 7, 8, 10, 12, 11] rfl
    refine nx <| sq_ <| sq_ <| rl_ <| q_ H57 3 rfl fun a58 H58 => wl_ <| i_ H58 rfl (xS 2 (o + 0) rfl (H58.ev 75 rfl) (H58.ev 76 rfl)) fun a59 H59 => wl_ <| i_ H59 rfl (xf 1 (o + 0 + 1) rfl (H59.ev 77 rfl)) fun a60 H60 => wl_ <| i_ H60 rfl (dd_at rfl (H60.ev 78 rfl) ((hr35 _ HSL36.below).1 1 _ rfl) Tryd.underlying43 rfl) fun a61 H61 => wl_ <| i_ H61 rfl (v := .int .i64 m35) (dd_len rfl (H61.ev 79 rfl) Tryd.underlying43) fun a62 H62 => ?_
    clear H56 H57 a56 H58 a58 H59 a59 H60 a60 H61 a61
    by_cases hc64 : (j : Int) < m35
    ·
     refine wl_ <| i_ H62 rfl (dd_cmp rfl (H62.ev 74 rfl) (H62.ev 80 rfl) (lt_t hc64)) fun a65 H65 => ln_ <| nx <| ct_ H65 rfl <| rl_ <| q_ H65 2 rfl fun a66 H66 => wl_ <| i_ H66 rfl (xS 2 (o + 0) rfl (H66.ev 82 rfl) (H66.ev 83 rfl)) fun a67 H67 => wl_ <| i_ H67 rfl (xf 1 (o + 0 + 1) rfl (H67.ev 84 rfl)) fun a68 H68 => wl_ <| i_ H68 rfl (dd_at rfl (H68.ev 85 rfl) ((hr35 _ HSL36.below).1 1 _ rfl) Tryd.underlying43 rfl) fun a69 H69 => wl_ <| p_ H69 rfl rfl fun a70 H70 => ?_
     clear H62 a62 H65 a65 H66 a66 H67 a67 H68 a68 H69 a69
     obtain ⟨bi35, oi35, hB35⟩ := ints_addr (hr35 _ (Below.refl _ _)).2 (by omega)
     refine wl_ <| i_ H70 rfl (dd_idxS (sz := 1) (j := oi35 + j) rfl (sl_at (H70.ev 86 rfl) hB35) (H70.ev 87 rfl) (by kernel_rfl) (by omega) (by omega) (by omega)) fun a71 H71 => wl_ <| i_ H71 rfl (dd_at rfl (H71.ev 88 rfl) (ints_atB (hr35 _ HSL36.below).2 hB35 j (by omega)) Tryd.underlying3 rfl) fun a72 H72 => wl_ <| i_ H72 rfl (v := .int .u8 (bd (byteI (L35.getD j 0)))) (dd_conv (k := .u8) rfl (H72.ev 89 rfl) Tryd.underlying3 (by kernel_rfl) (wrap_u8_bd _)) fun a73 H73 => wl_ <| p_ H73 rfl rfl fun a74 H74 => ln_ <| ?_
     clear H70 a70 H71 a71 H72 a72 H73 a73
     have H75 := H74.sel [1, 0, 5, 7, 8, 10, 11, 12] rfl
     refine nx <| sq_ <| rl_ <| q_ H75 2 rfl fun a76 H76 => wl_ <| i_ H76 rfl (v := .int .i64 (1 + j)) (dd_ari rfl (H76.ev 91 rfl) (H76.ev 92 rfl) rfl (i64_of (by first | omega | (have := bd_lo; omega)) (by omega))) fun a77 H77 => wl_ <| i_ H77 rfl (xAo 32 1 (1 + j) rfl (H77.ev 5 rfl) (H77.ev 93 rfl)) fun a78 H78 => wl_ <| i_ H78 rfl (dd_get HSL36 0 (1 + j) rfl rfl (H78.ev 94 rfl) (bs_get (length_encT _) (1 + j) (by omega)) Tryd.underlying5 rfl) fun a79 H79 => wl_ <| p_ H79 rfl rfl fun a80 H80 => wl_ <| i_ H80 rfl (dd_cmp rfl (H80.ev 95 rfl) (H80.ev 96 rfl) (ne_f (pl_name hG hg35 (show 1 + 9 * 0 = 1 from rfl) (by omega)))) fun a81 H81 => wl_ <| p_ H81 rfl rfl fun a82 H82 => wl_ <| ig H82 (wg_ H82 rfl rfl rfl rfl) rfl (dd_mv rfl (H82.ev 8 rfl)) fun a83 H83 => ?_
     clear H74 H75 a74 H76 a76 H77 a77 H78 a78 H79 a79 H80 a80 H81 a81
     refine wl_ <| ig H83 (wg_ H83 rfl rfl rfl rfl) rfl (v := .int .i64 6) (dd_ari rfl (H83.ev 99 rfl) rfl rfl (by decide)) fun a84 H84 => wl_ <| ig H84 (wg_ H84 rfl rfl rfl rfl) rfl (dd_mv rfl (H84.ev 10 rfl)) fun a85 H85 => wl_ <| ig H85 (wg_ H85 rfl rfl rfl rfl) rfl (v := .int .i64 (6 + j)) (dd_ari rfl (H85.ev 100 rfl) (H85.ev 101 rfl) rfl (i64_of (by first | omega | (have := bd_lo; omega)) (by omega))) fun a86 H86 => wl_ <| ig H86 (wg_ H86 rfl rfl rfl rfl) rfl (xAo 32 1 (6 + j) rfl (H86.ev 5 rfl) (H86.ev 102 rfl)) fun a87 H87 => wl_ <| ig H87 (wg_ H87 rfl rfl rfl rfl) rfl (dd_get HSL36 0 (6 + j) rfl rfl (H87.ev 103 rfl) (bs_get (length_encT _) (6 + j) (by omega)) Tryd.underlying5 rfl) fun a88 H88 => wl_ <| ig H88 (wg_ H88 rfl rfl rfl rfl) rfl (dd_mv rfl (H88.ev 12 rfl)) fun a89 H89 => wl_ <| ig H89 (wg_ H89 rfl rfl rfl rfl) rfl (dd_cmp rfl (H89.ev 104 rfl) (H89.ev 105 rfl) (ne_f (pl_blk hG hg35 (show 1 + 9 * 0 = 1 from rfl) (by omega)))) fun a90 H90 => wl_ <| p_ H90 rfl rfl fun a91 H91 => ?_
     clear H82 a82 H83 a83 H84 a84 H85 a85 H86 a86 H87 a87 H88 a88 H89 a89
     refine ln_ <| ?_
     clear H90 a90
     have H92 := H91.sel [1, 0, 5, 7, 8, 10, 107] rfl
     refine nx <| cf_ H92 rfl <| wp_skip <| bn <| nx <| rl_ <| wl_ <| p_ H92 rfl rfl fun a93 H93 => wl_ <| i_ H93 rfl (v := .int .i64 (j + 1)) (dd_ari rfl (H93.ev 57 rfl) rfl rfl (i64_of (by first | omega | (have := bd_lo; omega)) (by omega))) fun a94 H94 => wl_ <| p_ H94 rfl rfl fun a95 H95 => ln_ <| ?_
     clear H91 H92 a91 H93 a93 H94 a94
     refine nx ⟨j + 1, ⟨(by omega), H95.sel [1, 0, 5, 7, 8, 10] rfl, ss HSL36 [0]⟩, (by omega)⟩
    ·
     refine wl_ <| i_ H62 rfl (dd_cmp rfl (H62.ev 74 rfl) (H62.ev 80 rfl) (lt_f hc64)) fun a96 H96 => ln_ <| nx <| cf_ H96 rfl <| wp_skip <| nx <| sq_ <| rl_ <| q_ H96 2 rfl fun a97 H97 => wl_ <| i_ H97 rfl (v := .int .i64 (1 + j)) (dd_ari rfl (H97.ev 91 rfl) (H97.ev 92 rfl) rfl (i64_of (by first | omega | (have := bd_lo; omega)) (by omega))) fun a98 H98 => wl_ <| i_ H98 rfl (xAo 32 1 (1 + j) rfl (H98.ev 5 rfl) (H98.ev 93 rfl)) fun a99 H99 => wl_ <| i_ H99 rfl (dd_get HSL36 0 (1 + j) rfl rfl (H99.ev 94 rfl) (bs_get (length_encT _) (1 + j) (by omega)) Tryd.underlying5 rfl) fun a100 H100 => wl_ <| p_ H100 rfl rfl fun a101 H101 => wl_ <| i_ H101 rfl (dd_cmp rfl (H101.ev 95 rfl) (H101.ev 96 rfl) (ne_f (pl_name hG hg35 (show 1 + 9 * 0 = 1 from rfl) (by omega)))) fun a102 H102 => wl_ <| p_ H102 rfl rfl fun a103 H103 => ?_
     clear H62 a62 H96 a96 H97 a97 H98 a98 H99 a99 H100 a100 H101 a101
     refine wl_ <| ig H103 (wg_ H103 rfl rfl rfl rfl) rfl (dd_mv rfl (H103.ev 8 rfl)) fun a104 H104 => wl_ <| ig H104 (wg_ H104 rfl rfl rfl rfl) rfl (v := .int .i64 6) (dd_ari rfl (H104.ev 99 rfl) rfl rfl (by decide)) fun a105 H105 => wl_ <| ig H105 (wg_ H105 rfl rfl rfl rfl) rfl (dd_mv rfl (H105.ev 10 rfl)) fun a106 H106 => wl_ <| ig H106 (wg_ H106 rfl rfl rfl rfl) rfl (v := .int .i64 (6 + j)) (dd_ari rfl (H106.ev 100 rfl) (H106.ev 101 rfl) rfl (i64_of (by first | omega | (have := bd_lo; omega)) (by omega))) fun a107 H107 => wl_ <| ig H107 (wg_ H107 rfl rfl rfl rfl) rfl (xAo 32 1 (6 + j) rfl (H107.ev 5 rfl) (H107.ev 102 rfl)) fun a108 H108 => wl_ <| ig H108 (wg_ H108 rfl rfl rfl rfl) rfl (dd_get HSL36 0 (6 + j) rfl rfl (H108.ev 103 rfl) (bs_get (length_encT _) (6 + j) (by omega)) Tryd.underlying5 rfl) fun a109 H109 => wl_ <| ig H109 (wg_ H109 rfl rfl rfl rfl) rfl (dd_mv rfl (H109.ev 12 rfl)) fun a110 H110 => wl_ <| ig H110 (wg_ H110 rfl rfl rfl rfl) rfl (dd_cmp rfl (H110.ev 104 rfl) (H110.ev 105 rfl) (ne_f (pl_blk0 hG hg35 (show 1 + 9 * 0 = 1 from rfl) (by omega) (by omega)))) fun a111 H111 => ?_
     clear H102 a102 H103 a103 H104 a104 H105 a105 H106 a106 H107 a107 H108 a108 H109 a109
     refine wl_ <| p_ H111 rfl rfl fun a112 H112 => ln_ <| ?_
     clear H110 a110 H111 a111
     have H113 := H112.sel [1, 0, 5, 7, 8, 10, 107] rfl
     refine nx <| cf_ H113 rfl <| wp_skip <| bn <| nx <| rl_ <| wl_ <| p_ H113 rfl rfl fun a114 H114 => wl_ <| i_ H114 rfl (v := .int .i64 (j + 1)) (dd_ari rfl (H114.ev 57 rfl) rfl rfl (i64_of (by first | omega | (have := bd_lo; omega)) (by omega))) fun a115 H115 => wl_ <| p_ H115 rfl rfl fun a116 H116 => ln_ <| ?_
     clear H112 H113 a112 H114 a114 H115 a115
     refine nx ⟨j + 1, ⟨(by omega), H116.sel [1, 0, 5, 7, 8, 10] rfl, ss HSL36 [0]⟩, (by omega)⟩
   ·
    refine wl_ <| i_ H46 rfl (dd_cmp rfl (H46.ev 59 rfl) (H46.ev 65 rfl) (lt_f hc48)) fun a117 H117 => ln_ <| nx <| cf_ H117 rfl <| wp_skip <| nx <| sq_ <| sq_ <| rl_ <| q_ H117 3 rfl fun a118 H118 => wl_ <| i_ H118 rfl (xS 2 (o + 0) rfl (H118.ev 75 rfl) (H118.ev 76 rfl)) fun a119 H119 => wl_ <| i_ H119 rfl (xf 1 (o + 0 + 1) rfl (H119.ev 77 rfl)) fun a120 H120 => wl_ <| i_ H120 rfl (dd_at rfl (H120.ev 78 rfl) ((hr35 _ HSL36.below).1 1 _ rfl) Tryd.underlying43 rfl) fun a121 H121 => wl_ <| i_ H121 rfl (v := .int .i64 m35) (dd_len rfl (H121.ev 79 rfl) Tryd.underlying43) fun a122 H122 => ?_
    clear H46 a46 H117 a117 H118 a118 H119 a119 H120 a120 H121 a121
    by_cases hc124 : (j : Int) < m35
    ·
     refine wl_ <| i_ H122 rfl (dd_cmp rfl (H122.ev 74 rfl) (H122.ev 80 rfl) (lt_t hc124)) fun a125 H125 => ln_ <| ?_
     clear H122 a122
     have H126 := H125.sel [1, 0, 5, 7, 8, 10, 11, 12, 81] rfl
     refine nx <| ct_ H126 rfl <| rl_ <| q_ H126 2 rfl fun a127 H127 => wl_ <| i_ H127 rfl (xS 2 (o + 0) rfl (H127.ev 82 rfl) (H127.ev 83 rfl)) fun a128 H128 => wl_ <| i_ H128 rfl (xf 1 (o + 0 + 1) rfl (H128.ev 84 rfl)) fun a129 H129 => wl_ <| i_ H129 rfl (dd_at rfl (H129.ev 85 rfl) ((hr35 _ HSL36.below).1 1 _ rfl) Tryd.underlying43 rfl) fun a130 H130 => wl_ <| p_ H130 rfl rfl fun a131 H131 => ?_
     clear H125 H126 a125 H127 a127 H128 a128 H129 a129 H130 a130
     obtain ⟨bi35, oi35, hB35⟩ := ints_addr (hr35 _ (Below.refl _ _)).2 (by omega)
     refine wl_ <| i_ H131 rfl (dd_idxS (sz := 1) (j := oi35 + j) rfl (sl_at (H131.ev 86 rfl) hB35) (H131.ev 87 rfl) (by kernel_rfl) (by omega) (by omega) (by omega)) fun a132 H132 => wl_ <| i_ H132 rfl (dd_at rfl (H132.ev 88 rfl) (ints_atB (hr35 _ HSL36.below).2 hB35 j (by omega)) Tryd.underlying3 rfl) fun a133 H133 => wl_ <| i_ H133 rfl (v := .int .u8 (bd (byteI (L35.getD j 0)))) (dd_conv (k := .u8) rfl (H133.ev 89 rfl) Tryd.underlying3 (by kernel_rfl) (wrap_u8_bd _)) fun a134 H134 => wl_ <| p_ H134 rfl rfl fun a135 H135 => ln_ <| nx <| sq_ <| rl_ <| q_ H135 2 rfl fun a136 H136 => wl_ <| i_ H136 rfl (v := .int .i64 (1 + j)) (dd_ari rfl (H136.ev 91 rfl) (H136.ev 92 rfl) rfl (i64_of (by first | omega | (have := bd_lo; omega)) (by omega))) fun a137 H137 => wl_ <| i_ H137 rfl (xAo 32 1 (1 + j) rfl (H137.ev 5 rfl) (H137.ev 93 rfl)) fun a138 H138 => wl_ <| i_ H138 rfl (dd_get HSL36 0 (1 + j) rfl rfl (H138.ev 94 rfl) (bs_get (length_encT _) (1 + j) (by omega)) Tryd.underlying5 rfl) fun a139 H139 => ?_
     clear H131 a131 H132 a132 H133 a133 H134 a134 H135 a135 H136 a136 H137 a137
     refine wl_ <| p_ H139 rfl rfl fun a140 H140 => wl_ <| i_ H140 rfl (dd_cmp rfl (H140.ev 95 rfl) (H140.ev 96 rfl) (ne_f (pl_name0 hG hg35 (show 1 + 9 * 0 = 1 from rfl) (by omega) (by omega)))) fun a141 H141 => wl_ <| p_ H141 rfl rfl fun a142 H142 => wl_ <| ig H142 (wg_ H142 rfl rfl rfl rfl) rfl (dd_mv rfl (H142.ev 8 rfl)) fun a143 H143 => wl_ <| ig H143 (wg_ H143 rfl rfl rfl rfl) rfl (v := .int .i64 6) (dd_ari rfl (H143.ev 99 rfl) rfl rfl (by decide)) fun a144 H144 => wl_ <| ig H144 (wg_ H144 rfl rfl rfl rfl) rfl (dd_mv rfl (H144.ev 10 rfl)) fun a145 H145 => wl_ <| ig H145 (wg_ H145 rfl rfl rfl rfl) rfl (v := .int .i64 (6 + j)) (dd_ari rfl (H145.ev 100 rfl) (H145.ev 101 rfl) rfl (i64_of (by first | omega | (have := bd_lo; omega)) (by omega))) fun a146 H146 => wl_ <| ig H146 (wg_ H146 rfl rfl rfl rfl) rfl (xAo 32 1 (6 + j) rfl (H146.ev 5 rfl) (H146.ev 102 rfl)) fun a147 H147 => ?_
     clear H138 a138 H139 a139 H140 a140 H141 a141 H142 a142 H143 a143 H144 a144 H145 a145
     refine wl_ <| ig H147 (wg_ H147 rfl rfl rfl rfl) rfl (dd_get HSL36 0 (6 + j) rfl rfl (H147.ev 103 rfl) (bs_get (length_encT _) (6 + j) (by omega)) Tryd.underlying5 rfl) fun a148 H148 => wl_ <| ig H148 (wg_ H148 rfl rfl rfl rfl) rfl (dd_mv rfl (H148.ev 12 rfl)) fun a149 H149 => wl_ <| ig H149 (wg_ H149 rfl rfl rfl rfl) rfl (dd_cmp rfl (H149.ev 104 rfl) (H149.ev 105 rfl) (ne_f (pl_blk hG hg35 (show 1 + 9 * 0 = 1 from rfl) (by omega)))) fun a150 H150 => wl_ <| p_ H150 rfl rfl fun a151 H151 => ln_ <| ?_
     clear H146 a146 H147 a147 H148 a148 H149 a149 H150 a150
     have H152 := H151.sel [1, 0, 5, 7, 8, 10, 107] rfl
     refine nx <| cf_ H152 rfl <| wp_skip <| bn <| nx <| rl_ <| wl_ <| p_ H152 rfl rfl fun a153 H153 => wl_ <| i_ H153 rfl (v := .int .i64 (j + 1)) (dd_ari rfl (H153.ev 57 rfl) rfl rfl (i64_of (by first | omega | (have := bd_lo; omega)) (by omega))) fun a154 H154 => wl_ <| p_ H154 rfl rfl fun a155 H155 => ln_ <| ?_
     clear H151 H152 a151 H153 a153 H154 a154
     refine nx ⟨j + 1, ⟨(by omega), H155.sel [1, 0, 5, 7, 8, 10] rfl, ss HSL36 [0]⟩, (by omega)⟩
    ·
     refine wl_ <| i_ H122 rfl (dd_cmp rfl (H122.ev 74 rfl) (H122.ev 80 rfl) (lt_f hc124)) fun a156 H156 => ln_ <| ?_
     clear H122 a122
     have H157 := H156.sel [1, 0, 5, 7, 8, 10, 11, 12, 81] rfl
     refine nx <| cf_ H157 rfl <| wp_skip <| nx <| sq_ <| rl_ <| q_ H157 2 rfl fun a158 H158 => wl_ <| i_ H158 rfl (v := .int .i64 (1 + j)) (dd_ari rfl (H158.ev 91 rfl) (H158.ev 92 rfl) rfl (i64_of (by first | omega | (have := bd_lo; omega)) (by omega))) fun a159 H159 => wl_ <| i_ H159 rfl (xAo 32 1 (1 + j) rfl (H159.ev 5 rfl) (H159.ev 93 rfl)) fun a160 H160 => wl_ <| i_ H160 rfl (dd_get HSL36 0 (1 + j) rfl rfl (H160.ev 94 rfl) (bs_get (length_encT _) (1 + j) (by omega)) Tryd.underlying5 rfl) fun a161 H161 => wl_ <| p_ H161 rfl rfl fun a162 H162 => wl_ <| i_ H162 rfl (dd_cmp rfl (H162.ev 95 rfl) (H162.ev 96 rfl) (ne_f (pl_name0 hG hg35 (show 1 + 9 * 0 = 1 from rfl) (by omega) (by omega)))) fun a163 H163 => wl_ <| p_ H163 rfl rfl fun a164 H164 => wl_ <| ig H164 (wg_ H164 rfl rfl rfl rfl) rfl (dd_mv rfl (H164.ev 8 rfl)) fun a165 H165 => ?_
     clear H156 H157 a156 H158 a158 H159 a159 H160 a160 H161 a161 H162 a162 H163 a163
     refine wl_ <| ig H165 (wg_ H165 rfl rfl rfl rfl) rfl (v := .int .i64 6) (dd_ari rfl (H165.ev 99 rfl) rfl rfl (by decide)) fun a166 H166 => wl_ <| ig H166 (wg_ H166 rfl rfl rfl rfl) rfl (dd_mv rfl (H166.ev 10 rfl)) fun a167 H167 => wl_ <| ig H167 (wg_ H167 rfl rfl rfl rfl) rfl (v := .int .i64 (6 + j)) (dd_ari rfl (H167.ev 100 rfl) (H167.ev 101 rfl) rfl (i64_of (by first | omega | (have := bd_lo; omega)) (by omega))) fun a168 H168 => wl_ <| ig H168 (wg_ H168 rfl rfl rfl rfl) rfl (xAo 32 1 (6 + j) rfl (H168.ev 5 rfl) (H168.ev 102 rfl)) fun a169 H169 => wl_ <| ig H169 (wg_ H169 rfl rfl rfl rfl) rfl (dd_get HSL36 0 (6 + j) rfl rfl (H169.ev 103 rfl) (bs_get (length_encT _) (6 + j) (by omega)) Tryd.underlying5 rfl) fun a170 H170 => wl_ <| ig H170 (wg_ H170 rfl rfl rfl rfl) rfl (dd_mv rfl (H170.ev 12 rfl)) fun a171 H171 => wl_ <| ig H171 (wg_ H171 rfl rfl rfl rfl) rfl (dd_cmp rfl (H171.ev 104 rfl) (H171.ev 105 rfl) (ne_f (pl_blk0 hG hg35 (show 1 + 9 * 0 = 1 from rfl) (by omega) (by omega)))) fun a172 H172 => wl_ <| p_ H172 rfl rfl fun a173 H173 => ?_
     clear H164 a164 H165 a165 H166 a166 H167 a167 H168 a168 H169 a169 H170 a170 H171 a171
     refine ln_ <| ?_
     clear H172 a172
     have H174 := H173.sel [1, 0, 5, 7, 8, 10, 107] rfl
     refine nx <| cf_ H174 rfl <| wp_skip <| bn <| nx <| rl_ <| wl_ <| p_ H174 rfl rfl fun a175 H175 => wl_ <| i_ H175 rfl (v := .int .i64 (j + 1)) (dd_ari rfl (H175.ev 57 rfl) rfl rfl (i64_of (by first | omega | (have := bd_lo; omega)) (by omega))) fun a176 H176 => wl_ <| p_ H176 rfl rfl fun a177 H177 => ln_ <| ?_
     clear H173 H174 a173 H175 a175 H176 a176
     refine nx ⟨j + 1, ⟨(by omega), H177.sel [1, 0, 5, 7, 8, 10] rfl, ss HSL36 [0]⟩, (by omega)⟩
  ·
   refine wl_ <| i_ H37 rfl (dd_cmp rfl (H37.ev 55 rfl) rfl (lt_f hc39)) fun a178 H178 => ln_ <| nx <| cf_ H178 rfl <| wp_exit <| tx <| tx <| bx <| nx <| sq_ <| ?_
   clear H37 a37
   refine wi_ HSL36 [0] rfl [0] rfl fun HSh179 hx179 => hp_ H178 0 hx179 rfl rfl rfl fun a180 H180 => ht_ H180 1 hx179 rfl rfl (v := .int .i64 5) (fun _ _ _ => dd_ari rfl (H180.ev 108 rfl) rfl rfl (by decide)) fun a181 H181 => ht_ H181 2 hx179 rfl rfl (fun _ _ _ => xA 32 1 5 rfl (H181.ev 5 rfl) (H181.ev 109 rfl)) fun a182 H182 => ht_ H182 3 hx179 rfl rfl (fun _ _ HS9 => dd_get HS9 0 5 rfl rfl (H182.ev 110 rfl) (bs_get (length_encT _) 5 (by decide)) Tryd.underlying5 rfl) fun a183 H183 => ht_ H183 4 hx179 rfl rfl (v := .int .i64 (bd ((encT l).getD 5 0#8))) (fun _ _ _ => dd_conv (k := .i64) rfl (H183.ev 111 rfl) Tryd.underlying5 (by kernel_rfl) (i64_bdA _)) fun a184 H184 => hp_ H184 5 hx179 rfl rfl rfl fun a185 H185 => hp_ H185 6 hx179 rfl rfl rfl fun a186 H186 => ?_
   clear HSL36 H178 a178 H180 a180 H181 a181 H182 a182 H183 a183 H184 a184
   refine ht_ H186 7 hx179 rfl rfl (fun _ _ _ => xS 2 (o + 0) rfl (H186.ev 113 rfl) (H186.ev 114 rfl)) fun a187 H187 => ht_ H187 8 hx179 rfl rfl (fun _ _ _ => xf 1 (o + 0 + 1) rfl (H187.ev 115 rfl)) fun a188 H188 => ht_ H188 9 hx179 rfl rfl (fun _ _ HS9 => dd_at rfl (H188.ev 116 rfl) ((hr35 _ HS9.below).1 1 _ rfl) Tryd.underlying43 rfl) fun a189 H189 => ht_ H189 10 hx179 rfl rfl (v := .int .i64 m35) (fun _ _ _ => dd_len rfl (H189.ev 117 rfl) Tryd.underlying43) fun a190 H190 => ht_ H190 11 hx179 rfl rfl (v := .bool false) (fun _ _ _ => dd_cmp rfl (H190.ev 112 rfl) (H190.ev 118 rfl) (ne_f ((pl_num hG hg35 (show 1 + 9 * 0 = 1 from rfl)).trans (by rw [hm35])))) fun a191 H191 => hp_ H191 12 hx179 rfl rfl rfl fun a192 H192 => htg H192 13 hx179 rfl (wg_ H192 rfl rfl rfl rfl) rfl (fun _ _ _ => dd_mv rfl (H192.ev 0 rfl)) fun a193 H193 => htg H193 14 hx179 rfl (wg_ H193 rfl rfl rfl rfl) rfl (fun _ _ _ => dd_mv rfl (H193.ev 7 rfl)) fun a194 H194 => ?_
   clear H185 a185 H186 a186 H187 a187 H188 a188 H189 a189 H190 a190 H191 a191 H192 a192
   refine htg H194 15 hx179 rfl (wg_ H194 rfl rfl rfl rfl) rfl (fun _ _ _ => xS 2 (o + 0) rfl (H194.ev 121 rfl) (H194.ev 122 rfl)) fun a195 H195 => htg H195 16 hx179 rfl (wg_ H195 rfl rfl rfl rfl) rfl (fun _ _ _ => xf 0 (o + 0) rfl (H195.ev 123 rfl)) fun a196 H196 => htg H196 17 hx179 rfl (wg_ H196 rfl rfl rfl rfl) rfl (fun _ _ HS9 => dd_at rfl (H196.ev 124 rfl) ((hr35 _ HS9.below).1 0 _ rfl) Tryd.underlying9 rfl) fun a197 H197 => htg H197 18 hx179 rfl (wg_ H197 rfl rfl rfl rfl) rfl (fun _ _ _ => dd_mv rfl (H197.ev 0 rfl)) fun a198 H198 => htg H198 20 hx179 rfl (wg_ H198 rfl rfl rfl rfl) rfl (fun _ _ _ => dd_mv rfl (H198.ev 7 rfl)) fun a199 H199 => h1_ 19 rfl <| cg H199 (wg_ H199 rfl rfl rfl rfl) rfl HSh179 (v := .int .i64 0) (dc_ Tryd.func17 rfl (args2 (H199.ev 125 rfl) (H199.ev 126 rfl)) (find_any _ _ _ p35 l wL36.drew (HVl _ HSh179.below) (by decide)) (fun _ w9 h9 => ⟨_, h9.1, by rw [show findI p35 l = (0 : Int) from find_good hG hg35], h9.2⟩)) fun W200 HS200 a200 H200 => sx_ (sxi HS200 [0] rfl) fun hx201 => htg H200 21 hx201 rfl (wg_ H200 rfl rfl rfl rfl) rfl (fun _ _ _ => dd_cmp rfl (H200.ev 127 rfl) (H200.ev 128 rfl) (ne_f (by decide))) fun a202 H202 => ?_
   clear H193 a193 H194 a194 H195 a195 H196 a196 H197 a197 H198 a198 H199 a199 HSh179 hx179
   refine hp_ H202 22 hx201 rfl rfl rfl fun a203 H203 => ?_
   clear H200 a200 H202 a202
   refine wpAnyH_done (by kernel_rfl) ?_ _
   clear hx201
   refine nx <| cf_ H203 rfl <| wp_skip <| bn <| nx <| rl_ <| wl_ <| p_ H203 rfl rfl fun a204 H204 => wl_ <| i_ H204 rfl (v := .int .i64 1) (dd_ari rfl (H204.ev 36 rfl) rfl rfl (by decide)) fun a205 H205 => wl_ <| p_ H205 rfl rfl fun a206 H206 => ln_ <| ?_
   clear H203 a203 H204 a204 H205 a205
   have H207 := H206.sel [1, 0, 5, 7] rfl
   refine nx <| unr_go <| sq_ <| sq_ <| rl_ <| wl_ <| p_ H207 rfl rfl fun a208 H208 => wl_ <| i_ H208 rfl (dd_cmp rfl (H208.ev 34 rfl) rfl (lt_t (by decide))) fun a209 H209 => ln_ <| nx <| ct_ H209 rfl <| wp_skip <| nx <| sq_ <| wp_block <| sq_ <| rl_ <| wl_ <| p_ H209 rfl rfl fun a210 H210 => wl_ <| i_ H210 rfl (v := .int .i64 9) (dd_ari rfl rfl (H210.ev 38 rfl) rfl (by decide)) fun a211 H211 => wl_ <| i_ H211 rfl (v := .int .i64 10) (dd_ari rfl rfl (H211.ev 39 rfl) rfl (by decide)) fun a212 H212 => wl_ <| p_ H212 rfl rfl fun a213 H213 => ln_ <| nx <| sq_ <| sq_ <| rl_ <| q_ H213 2 rfl fun a214 H214 => wl_ <| i_ H214 rfl (v := .int .i64 3) (dd_len rfl (H214.ev 42 rfl) Tryd.underlying22) fun a215 H215 => ?_
   clear H206 H207 a206 H208 a208 H209 a209 H210 a210 H211 a211 H212 a212 H213 a213
   refine wl_ <| i_ H215 rfl (dd_cmp rfl (H215.ev 41 rfl) (H215.ev 43 rfl) (ge_f (by decide))) fun a216 H216 => ln_ <| nx <| cf_ H216 rfl <| wp_skip <| nx <| sq_ <| sq_ <| rl_ <| ?_
   clear H214 a214 H215 a215
   obtain ⟨p218, L218, B218, m218, c218, hg218, hr218, hm218, hp218⟩ := vols_getC (HVl _ (Below.refl _ _)) (k := 1) (by omega)
   refine wl_ <| p_ H216 rfl rfl fun a217 H217 => ln_ <| nx <| wp_block <| ?_
   clear H216 a216
   refine wp_loopG (ι := Nat) (fun j a9 w9 => (j ≤ 4) ∧ En 150 [(10, .int .i64 j), (8, .int .i64 10), (7, .int .i64 1), (5, .pointer (some ⟨g5, 0, none⟩)), (0, .slice (some ⟨b, o, none⟩) 3 c), (1, .int .u8 (bd z))] a9 ∧ St w noF [⟨g5, 24, bs (encT l)⟩] w9) (fun j => 4 - j) (0) ⟨Nat.zero_le _, H217.sel [1, 0, 5, 7, 8, 10] rfl, ss HS200 [0]⟩ ?_
   clear H217 a217 HS200
   rintro j aL219 wL219 ⟨hj, HL219, HSL219⟩
   refine sq_ <| sq_ <| rl_ <| wl_ <| p_ HL219 rfl rfl fun a220 H220 => ?_
   clear HL219 aL219
   by_cases hc222 : (j : Int) < 4
   ·
    refine wl_ <| i_ H220 rfl (dd_cmp rfl (H220.ev 55 rfl) rfl (lt_t hc222)) fun a223 H223 => ln_ <| nx <| ct_ H223 rfl <| wp_skip <| nx <| sq_ <| wp_block <| sq_ <| rl_ <| q_ H223 2 rfl fun a224 H224 => ln_ <| nx <| sq_ <| sq_ <| rl_ <| q_ H224 3 rfl fun a225 H225 => wl_ <| i_ H225 rfl (xS 2 (o + 2) rfl (H225.ev 60 rfl) (H225.ev 61 rfl)) fun a226 H226 => wl_ <| i_ H226 rfl (xf 0 (o + 2) rfl (H226.ev 62 rfl)) fun a227 H227 => wl_ <| i_ H227 rfl (dd_at rfl (H227.ev 63 rfl) ((hr218 _ HSL219.below).1 0 _ rfl) Tryd.underlying9 rfl) fun a228 H228 => wl_ <| i_ H228 rfl (v := .int .i64 p218.length) (dd_lens rfl (H228.ev 64 rfl) Tryd.underlying9 (by rw [strB_size])) fun a229 H229 => ?_
    clear H220 a220 H223 a223 H224 a224 H225 a225 H226 a226 H227 a227 H228 a228
    by_cases hc231 : (j : Int) < p218.length
    ·
     refine wl_ <| i_ H229 rfl (dd_cmp rfl (H229.ev 59 rfl) (H229.ev 65 rfl) (lt_t hc231)) fun a232 H232 => ln_ <| nx <| ct_ H232 rfl <| rl_ <| q_ H232 2 rfl fun a233 H233 => wl_ <| i_ H233 rfl (xS 2 (o + 2) rfl (H233.ev 67 rfl) (H233.ev 68 rfl)) fun a234 H234 => wl_ <| i_ H234 rfl (xf 0 (o + 2) rfl (H234.ev 69 rfl)) fun a235 H235 => wl_ <| i_ H235 rfl (dd_at rfl (H235.ev 70 rfl) ((hr218 _ HSL219.below).1 0 _ rfl) Tryd.underlying9 rfl) fun a236 H236 => wl_ <| p_ H236 rfl rfl fun a237 H237 => wl_ <| i_ H237 rfl (v := .int .u8 (bd (p218.getD j 0#8))) (dd_ixs rfl (H237.ev 71 rfl) (H237.ev 72 rfl) Tryd.underlying9 (by omega)) fun a238 H238 => wl_ <| p_ H238 rfl rfl fun a239 H239 => ?_
     clear H229 a229 H232 a232 H233 a233 H234 a234 H235 a235 H236 a236 H237 a237
     refine ln_ <| ?_
     clear H238 a238
     have H240 := H239.sel [1, 0, 5, 7, 8, 10, 12, 11] rfl
     refine nx <| sq_ <| sq_ <| rl_ <| q_ H240 3 rfl fun a241 H241 => wl_ <| i_ H241 rfl (xS 2 (o + 2) rfl (H241.ev 75 rfl) (H241.ev 76 rfl)) fun a242 H242 => wl_ <| i_ H242 rfl (xf 1 (o + 2 + 1) rfl (H242.ev 77 rfl)) fun a243 H243 => wl_ <| i_ H243 rfl (dd_at rfl (H243.ev 78 rfl) ((hr218 _ HSL219.below).1 1 _ rfl) Tryd.underlying43 rfl) fun a244 H244 => wl_ <| i_ H244 rfl (v := .int .i64 m218) (dd_len rfl (H244.ev 79 rfl) Tryd.underlying43) fun a245 H245 => ?_
     clear H239 H240 a239 H241 a241 H242 a242 H243 a243 H244 a244
     by_cases hc247 : (j : Int) < m218
     ·
      refine wl_ <| i_ H245 rfl (dd_cmp rfl (H245.ev 74 rfl) (H245.ev 80 rfl) (lt_t hc247)) fun a248 H248 => ln_ <| nx <| ct_ H248 rfl <| rl_ <| q_ H248 2 rfl fun a249 H249 => wl_ <| i_ H249 rfl (xS 2 (o + 2) rfl (H249.ev 82 rfl) (H249.ev 83 rfl)) fun a250 H250 => wl_ <| i_ H250 rfl (xf 1 (o + 2 + 1) rfl (H250.ev 84 rfl)) fun a251 H251 => wl_ <| i_ H251 rfl (dd_at rfl (H251.ev 85 rfl) ((hr218 _ HSL219.below).1 1 _ rfl) Tryd.underlying43 rfl) fun a252 H252 => wl_ <| p_ H252 rfl rfl fun a253 H253 => ?_
      clear H245 a245 H248 a248 H249 a249 H250 a250 H251 a251 H252 a252
      obtain ⟨bi218, oi218, hB218⟩ := ints_addr (hr218 _ (Below.refl _ _)).2 (by omega)
      refine wl_ <| i_ H253 rfl (dd_idxS (sz := 1) (j := oi218 + j) rfl (sl_at (H253.ev 86 rfl) hB218) (H253.ev 87 rfl) (by kernel_rfl) (by omega) (by omega) (by omega)) fun a254 H254 => wl_ <| i_ H254 rfl (dd_at rfl (H254.ev 88 rfl) (ints_atB (hr218 _ HSL219.below).2 hB218 j (by omega)) Tryd.underlying3 rfl) fun a255 H255 => wl_ <| i_ H255 rfl (v := .int .u8 (bd (byteI (L218.getD j 0)))) (dd_conv (k := .u8) rfl (H255.ev 89 rfl) Tryd.underlying3 (by kernel_rfl) (wrap_u8_bd _)) fun a256 H256 => wl_ <| p_ H256 rfl rfl fun a257 H257 => ln_ <| ?_
      clear H253 a253 H254 a254 H255 a255 H256 a256
      have H258 := H257.sel [1, 0, 5, 7, 8, 10, 11, 12] rfl
      refine nx <| sq_ <| rl_ <| q_ H258 2 rfl fun a259 H259 => wl_ <| i_ H259 rfl (v := .int .i64 (10 + j)) (dd_ari rfl (H259.ev 91 rfl) (H259.ev 92 rfl) rfl (i64_of (by first | omega | (have := bd_lo; omega)) (by omega))) fun a260 H260 => wl_ <| i_ H260 rfl (xAo 32 1 (10 + j) rfl (H260.ev 5 rfl) (H260.ev 93 rfl)) fun a261 H261 => wl_ <| i_ H261 rfl (dd_get HSL219 0 (10 + j) rfl rfl (H261.ev 94 rfl) (bs_get (length_encT _) (10 + j) (by omega)) Tryd.underlying5 rfl) fun a262 H262 => wl_ <| p_ H262 rfl rfl fun a263 H263 => wl_ <| i_ H263 rfl (dd_cmp rfl (H263.ev 95 rfl) (H263.ev 96 rfl) (ne_f (pl_name hG hg218 (show 1 + 9 * 1 = 10 from rfl) (by omega)))) fun a264 H264 => wl_ <| p_ H264 rfl rfl fun a265 H265 => wl_ <| ig H265 (wg_ H265 rfl rfl rfl rfl) rfl (dd_mv rfl (H265.ev 8 rfl)) fun a266 H266 => ?_
      clear H257 H258 a257 H259 a259 H260 a260 H261 a261 H262 a262 H263 a263 H264 a264
      refine wl_ <| ig H266 (wg_ H266 rfl rfl rfl rfl) rfl (v := .int .i64 15) (dd_ari rfl (H266.ev 99 rfl) rfl rfl (by decide)) fun a267 H267 => wl_ <| ig H267 (wg_ H267 rfl rfl rfl rfl) rfl (dd_mv rfl (H267.ev 10 rfl)) fun a268 H268 => wl_ <| ig H268 (wg_ H268 rfl rfl rfl rfl) rfl (v := .int .i64 (15 + j)) (dd_ari rfl (H268.ev 100 rfl) (H268.ev 101 rfl) rfl (i64_of (by first | omega | (have := bd_lo; omega)) (by omega))) fun a269 H269 => wl_ <| ig H269 (wg_ H269 rfl rfl rfl rfl) rfl (xAo 32 1 (15 + j) rfl (H269.ev 5 rfl) (H269.ev 102 rfl)) fun a270 H270 => wl_ <| ig H270 (wg_ H270 rfl rfl rfl rfl) rfl (dd_get HSL219 0 (15 + j) rfl rfl (H270.ev 103 rfl) (bs_get (length_encT _) (15 + j) (by omega)) Tryd.underlying5 rfl) fun a271 H271 => wl_ <| ig H271 (wg_ H271 rfl rfl rfl rfl) rfl (dd_mv rfl (H271.ev 12 rfl)) fun a272 H272 => wl_ <| ig H272 (wg_ H272 rfl rfl rfl rfl) rfl (dd_cmp rfl (H272.ev 104 rfl) (H272.ev 105 rfl) (ne_f (pl_blk hG hg218 (show 1 + 9 * 1 = 10 from rfl) (by omega)))) fun a273 H273 => wl_ <| p_ H273 rfl rfl fun a274 H274 => ?_
      clear H265 a265 H266 a266 H267 a267 H268 a268 H269 a269 H270 a270 H271 a271 H272 a272
      refine ln_ <| ?_
      clear H273 a273
      have H275 := H274.sel [1, 0, 5, 7, 8, 10, 107] rfl
      refine nx <| cf_ H275 rfl <| wp_skip <| bn <| nx <| rl_ <| wl_ <| p_ H275 rfl rfl fun a276 H276 => wl_ <| i_ H276 rfl (v := .int .i64 (j + 1)) (dd_ari rfl (H276.ev 57 rfl) rfl rfl (i64_of (by first | omega | (have := bd_lo; omega)) (by omega))) fun a277 H277 => wl_ <| p_ H277 rfl rfl fun a278 H278 => ln_ <| ?_
      clear H274 H275 a274 H276 a276 H277 a277
      refine nx ⟨j + 1, ⟨(by omega), H278.sel [1, 0, 5, 7, 8, 10] rfl, ss HSL219 [0]⟩, (by omega)⟩
     ·
      refine wl_ <| i_ H245 rfl (dd_cmp rfl (H245.ev 74 rfl) (H245.ev 80 rfl) (lt_f hc247)) fun a279 H279 => ln_ <| nx <| cf_ H279 rfl <| wp_skip <| nx <| sq_ <| rl_ <| q_ H279 2 rfl fun a280 H280 => wl_ <| i_ H280 rfl (v := .int .i64 (10 + j)) (dd_ari rfl (H280.ev 91 rfl) (H280.ev 92 rfl) rfl (i64_of (by first | omega | (have := bd_lo; omega)) (by omega))) fun a281 H281 => wl_ <| i_ H281 rfl (xAo 32 1 (10 + j) rfl (H281.ev 5 rfl) (H281.ev 93 rfl)) fun a282 H282 => wl_ <| i_ H282 rfl (dd_get HSL219 0 (10 + j) rfl rfl (H282.ev 94 rfl) (bs_get (length_encT _) (10 + j) (by omega)) Tryd.underlying5 rfl) fun a283 H283 => wl_ <| p_ H283 rfl rfl fun a284 H284 => wl_ <| i_ H284 rfl (dd_cmp rfl (H284.ev 95 rfl) (H284.ev 96 rfl) (ne_f (pl_name hG hg218 (show 1 + 9 * 1 = 10 from rfl) (by omega)))) fun a285 H285 => wl_ <| p_ H285 rfl rfl fun a286 H286 => ?_
      clear H245 a245 H279 a279 H280 a280 H281 a281 H282 a282 H283 a283 H284 a284
      refine wl_ <| ig H286 (wg_ H286 rfl rfl rfl rfl) rfl (dd_mv rfl (H286.ev 8 rfl)) fun a287 H287 => wl_ <| ig H287 (wg_ H287 rfl rfl rfl rfl) rfl (v := .int .i64 15) (dd_ari rfl (H287.ev 99 rfl) rfl rfl (by decide)) fun a288 H288 => wl_ <| ig H288 (wg_ H288 rfl rfl rfl rfl) rfl (dd_mv rfl (H288.ev 10 rfl)) fun a289 H289 => wl_ <| ig H289 (wg_ H289 rfl rfl rfl rfl) rfl (v := .int .i64 (15 + j)) (dd_ari rfl (H289.ev 100 rfl) (H289.ev 101 rfl) rfl (i64_of (by first | omega | (have := bd_lo; omega)) (by omega))) fun a290 H290 => wl_ <| ig H290 (wg_ H290 rfl rfl rfl rfl) rfl (xAo 32 1 (15 + j) rfl (H290.ev 5 rfl) (H290.ev 102 rfl)) fun a291 H291 => wl_ <| ig H291 (wg_ H291 rfl rfl rfl rfl) rfl (dd_get HSL219 0 (15 + j) rfl rfl (H291.ev 103 rfl) (bs_get (length_encT _) (15 + j) (by omega)) Tryd.underlying5 rfl) fun a292 H292 => wl_ <| ig H292 (wg_ H292 rfl rfl rfl rfl) rfl (dd_mv rfl (H292.ev 12 rfl)) fun a293 H293 => wl_ <| ig H293 (wg_ H293 rfl rfl rfl rfl) rfl (dd_cmp rfl (H293.ev 104 rfl) (H293.ev 105 rfl) (ne_f (pl_blk0 hG hg218 (show 1 + 9 * 1 = 10 from rfl) (by omega) (by omega)))) fun a294 H294 => ?_
      clear H285 a285 H286 a286 H287 a287 H288 a288 H289 a289 H290 a290 H291 a291 H292 a292
      refine wl_ <| p_ H294 rfl rfl fun a295 H295 => ln_ <| ?_
      clear H293 a293 H294 a294
      have H296 := H295.sel [1, 0, 5, 7, 8, 10, 107] rfl
      refine nx <| cf_ H296 rfl <| wp_skip <| bn <| nx <| rl_ <| wl_ <| p_ H296 rfl rfl fun a297 H297 => wl_ <| i_ H297 rfl (v := .int .i64 (j + 1)) (dd_ari rfl (H297.ev 57 rfl) rfl rfl (i64_of (by first | omega | (have := bd_lo; omega)) (by omega))) fun a298 H298 => wl_ <| p_ H298 rfl rfl fun a299 H299 => ln_ <| ?_
      clear H295 H296 a295 H297 a297 H298 a298
      refine nx ⟨j + 1, ⟨(by omega), H299.sel [1, 0, 5, 7, 8, 10] rfl, ss HSL219 [0]⟩, (by omega)⟩
    ·
     refine wl_ <| i_ H229 rfl (dd_cmp rfl (H229.ev 59 rfl) (H229.ev 65 rfl) (lt_f hc231)) fun a300 H300 => ln_ <| nx <| cf_ H300 rfl <| wp_skip <| nx <| sq_ <| sq_ <| rl_ <| q_ H300 3 rfl fun a301 H301 => wl_ <| i_ H301 rfl (xS 2 (o + 2) rfl (H301.ev 75 rfl) (H301.ev 76 rfl)) fun a302 H302 => wl_ <| i_ H302 rfl (xf 1 (o + 2 + 1) rfl (H302.ev 77 rfl)) fun a303 H303 => wl_ <| i_ H303 rfl (dd_at rfl (H303.ev 78 rfl) ((hr218 _ HSL219.below).1 1 _ rfl) Tryd.underlying43 rfl) fun a304 H304 => wl_ <| i_ H304 rfl (v := .int .i64 m218) (dd_len rfl (H304.ev 79 rfl) Tryd.underlying43) fun a305 H305 => ?_
     clear H229 a229 H300 a300 H301 a301 H302 a302 H303 a303 H304 a304
     by_cases hc307 : (j : Int) < m218
     ·
      refine wl_ <| i_ H305 rfl (dd_cmp rfl (H305.ev 74 rfl) (H305.ev 80 rfl) (lt_t hc307)) fun a308 H308 => ln_ <| ?_
      clear H305 a305
      have H309 := H308.sel [1, 0, 5, 7, 8, 10, 11, 12, 81] rfl
      refine nx <| ct_ H309 rfl <| rl_ <| q_ H309 2 rfl fun a310 H310 => wl_ <| i_ H310 rfl (xS 2 (o + 2) rfl (H310.ev 82 rfl) (H310.ev 83 rfl)) fun a311 H311 => wl_ <| i_ H311 rfl (xf 1 (o + 2 + 1) rfl (H311.ev 84 rfl)) fun a312 H312 => wl_ <| i_ H312 rfl (dd_at rfl (H312.ev 85 rfl) ((hr218 _ HSL219.below).1 1 _ rfl) Tryd.underlying43 rfl) fun a313 H313 => wl_ <| p_ H313 rfl rfl fun a314 H314 => ?_
      clear H308 H309 a308 H310 a310 H311 a311 H312 a312 H313 a313
      obtain ⟨bi218, oi218, hB218⟩ := ints_addr (hr218 _ (Below.refl _ _)).2 (by omega)
      refine wl_ <| i_ H314 rfl (dd_idxS (sz := 1) (j := oi218 + j) rfl (sl_at (H314.ev 86 rfl) hB218) (H314.ev 87 rfl) (by kernel_rfl) (by omega) (by omega) (by omega)) fun a315 H315 => wl_ <| i_ H315 rfl (dd_at rfl (H315.ev 88 rfl) (ints_atB (hr218 _ HSL219.below).2 hB218 j (by omega)) Tryd.underlying3 rfl) fun a316 H316 => wl_ <| i_ H316 rfl (v := .int .u8 (bd (byteI (L218.getD j 0)))) (dd_conv (k := .u8) rfl (H316.ev 89 rfl) Tryd.underlying3 (by kernel_rfl) (wrap_u8_bd _)) fun a317 H317 => wl_ <| p_ H317 rfl rfl fun a318 H318 => ln_ <| nx <| sq_ <| rl_ <| q_ H318 2 rfl fun a319 H319 => wl_ <| i_ H319 rfl (v := .int .i64 (10 + j)) (dd_ari rfl (H319.ev 91 rfl) (H319.ev 92 rfl) rfl (i64_of (by first | omega | (have := bd_lo; omega)) (by omega))) fun a320 H320 => wl_ <| i_ H320 rfl (xAo 32 1 (10 + j) rfl (H320.ev 5 rfl) (H320.ev 93 rfl)) fun a321 H321 => wl_ <| i_ H321 rfl (dd_get HSL219 0 (10 + j) rfl rfl (H321.ev 94 rfl) (bs_get (length_encT _) (10 + j) (by omega)) Tryd.underlying5 rfl) fun a322 H322 => ?_
      clear H314 a314 H315 a315 H316 a316 H317 a317 H318 a318 H319 a319 H320 a320
      refine wl_ <| p_ H322 rfl rfl fun a323 H323 => wl_ <| i_ H323 rfl (dd_cmp rfl (H323.ev 95 rfl) (H323.ev 96 rfl) (ne_f (pl_name0 hG hg218 (show 1 + 9 * 1 = 10 from rfl) (by omega) (by omega)))) fun a324 H324 => wl_ <| p_ H324 rfl rfl fun a325 H325 => wl_ <| ig H325 (wg_ H325 rfl rfl rfl rfl) rfl (dd_mv rfl (H325.ev 8 rfl)) fun a326 H326 => wl_ <| ig H326 (wg_ H326 rfl rfl rfl rfl) rfl (v := .int .i64 15) (dd_ari rfl (H326.ev 99 rfl) rfl rfl (by decide)) fun a327 H327 => wl_ <| ig H327 (wg_ H327 rfl rfl rfl rfl) rfl (dd_mv rfl (H327.ev 10 rfl)) fun a328 H328 => wl_ <| ig H328 (wg_ H328 rfl rfl rfl rfl) rfl (v := .int .i64 (15 + j)) (dd_ari rfl (H328.ev 100 rfl) (H328.ev 101 rfl) rfl (i64_of (by first | omega | (have := bd_lo; omega)) (by omega))) fun a329 H329 => wl_ <| ig H329 (wg_ H329 rfl rfl rfl rfl) rfl (xAo 32 1 (15 + j) rfl (H329.ev 5 rfl) (H329.ev 102 rfl)) fun a330 H330 => ?_
      clear H321 a321 H322 a322 H323 a323 H324 a324 H325 a325 H326 a326 H327 a327 H328 a328
      refine wl_ <| ig H330 (wg_ H330 rfl rfl rfl rfl) rfl (dd_get HSL219 0 (15 + j) rfl rfl (H330.ev 103 rfl) (bs_get (length_encT _) (15 + j) (by omega)) Tryd.underlying5 rfl) fun a331 H331 => wl_ <| ig H331 (wg_ H331 rfl rfl rfl rfl) rfl (dd_mv rfl (H331.ev 12 rfl)) fun a332 H332 => wl_ <| ig H332 (wg_ H332 rfl rfl rfl rfl) rfl (dd_cmp rfl (H332.ev 104 rfl) (H332.ev 105 rfl) (ne_f (pl_blk hG hg218 (show 1 + 9 * 1 = 10 from rfl) (by omega)))) fun a333 H333 => wl_ <| p_ H333 rfl rfl fun a334 H334 => ln_ <| ?_
      clear H329 a329 H330 a330 H331 a331 H332 a332 H333 a333
      have H335 := H334.sel [1, 0, 5, 7, 8, 10, 107] rfl
      refine nx <| cf_ H335 rfl <| wp_skip <| bn <| nx <| rl_ <| wl_ <| p_ H335 rfl rfl fun a336 H336 => wl_ <| i_ H336 rfl (v := .int .i64 (j + 1)) (dd_ari rfl (H336.ev 57 rfl) rfl rfl (i64_of (by first | omega | (have := bd_lo; omega)) (by omega))) fun a337 H337 => wl_ <| p_ H337 rfl rfl fun a338 H338 => ln_ <| ?_
      clear H334 H335 a334 H336 a336 H337 a337
      refine nx ⟨j + 1, ⟨(by omega), H338.sel [1, 0, 5, 7, 8, 10] rfl, ss HSL219 [0]⟩, (by omega)⟩
     ·
      refine wl_ <| i_ H305 rfl (dd_cmp rfl (H305.ev 74 rfl) (H305.ev 80 rfl) (lt_f hc307)) fun a339 H339 => ln_ <| ?_
      clear H305 a305
      have H340 := H339.sel [1, 0, 5, 7, 8, 10, 11, 12, 81] rfl
      refine nx <| cf_ H340 rfl <| wp_skip <| nx <| sq_ <| rl_ <| q_ H340 2 rfl fun a341 H341 => wl_ <| i_ H341 rfl (v := .int .i64 (10 + j)) (dd_ari rfl (H341.ev 91 rfl) (H341.ev 92 rfl) rfl (i64_of (by first | omega | (have := bd_lo; omega)) (by omega))) fun a342 H342 => wl_ <| i_ H342 rfl (xAo 32 1 (10 + j) rfl (H342.ev 5 rfl) (H342.ev 93 rfl)) fun a343 H343 => wl_ <| i_ H343 rfl (dd_get HSL219 0 (10 + j) rfl rfl (H343.ev 94 rfl) (bs_get (length_encT _) (10 + j) (by omega)) Tryd.underlying5 rfl) fun a344 H344 => wl_ <| p_ H344 rfl rfl fun a345 H345 => wl_ <| i_ H345 rfl (dd_cmp rfl (H345.ev 95 rfl) (H345.ev 96 rfl) (ne_f (pl_name0 hG hg218 (show 1 + 9 * 1 = 10 from rfl) (by omega) (by omega)))) fun a346 H346 => wl_ <| p_ H346 rfl rfl fun a347 H347 => wl_ <| ig H347 (wg_ H347 rfl rfl rfl rfl) rfl (dd_mv rfl (H347.ev 8 rfl)) fun a348 H348 => ?_
      clear H339 H340 a339 H341 a341 H342 a342 H343 a343 H344 a344 H345 a345 H346 a346
      refine wl_ <| ig H348 (wg_ H348 rfl rfl rfl rfl) rfl (v := .int .i64 15) (dd_ari rfl (H348.ev 99 rfl) rfl rfl (by decide)) fun a349 H349 => wl_ <| ig H349 (wg_ H349 rfl rfl rfl rfl) rfl (dd_mv rfl (H349.ev 10 rfl)) fun a350 H350 => wl_ <| ig H350 (wg_ H350 rfl rfl rfl rfl) rfl (v := .int .i64 (15 + j)) (dd_ari rfl (H350.ev 100 rfl) (H350.ev 101 rfl) rfl (i64_of (by first | omega | (have := bd_lo; omega)) (by omega))) fun a351 H351 => wl_ <| ig H351 (wg_ H351 rfl rfl rfl rfl) rfl (xAo 32 1 (15 + j) rfl (H351.ev 5 rfl) (H351.ev 102 rfl)) fun a352 H352 => wl_ <| ig H352 (wg_ H352 rfl rfl rfl rfl) rfl (dd_get HSL219 0 (15 + j) rfl rfl (H352.ev 103 rfl) (bs_get (length_encT _) (15 + j) (by omega)) Tryd.underlying5 rfl) fun a353 H353 => wl_ <| ig H353 (wg_ H353 rfl rfl rfl rfl) rfl (dd_mv rfl (H353.ev 12 rfl)) fun a354 H354 => wl_ <| ig H354 (wg_ H354 rfl rfl rfl rfl) rfl (dd_cmp rfl (H354.ev 104 rfl) (H354.ev 105 rfl) (ne_f (pl_blk0 hG hg218 (show 1 + 9 * 1 = 10 from rfl) (by omega) (by omega)))) fun a355 H355 => wl_ <| p_ H355 rfl rfl fun a356 H356 => ?_
      clear H347 a347 H348 a348 H349 a349 H350 a350 H351 a351 H352 a352 H353 a353 H354 a354
      refine ln_ <| ?_
      clear H355 a355
      have H357 := H356.sel [1, 0, 5, 7, 8, 10, 107] rfl
      refine nx <| cf_ H357 rfl <| wp_skip <| bn <| nx <| rl_ <| wl_ <| p_ H357 rfl rfl fun a358 H358 => wl_ <| i_ H358 rfl (v := .int .i64 (j + 1)) (dd_ari rfl (H358.ev 57 rfl) rfl rfl (i64_of (by first | omega | (have := bd_lo; omega)) (by omega))) fun a359 H359 => wl_ <| p_ H359 rfl rfl fun a360 H360 => ln_ <| ?_
      clear H356 H357 a356 H358 a358 H359 a359
      refine nx ⟨j + 1, ⟨(by omega), H360.sel [1, 0, 5, 7, 8, 10] rfl, ss HSL219 [0]⟩, (by omega)⟩
   ·
    refine wl_ <| i_ H220 rfl (dd_cmp rfl (H220.ev 55 rfl) rfl (lt_f hc222)) fun a361 H361 => ln_ <| nx <| cf_ H361 rfl <| wp_exit <| tx <| tx <| bx <| nx <| sq_ <| ?_
    clear H220 a220
    refine wi_ HSL219 [0] rfl [0] rfl fun HSh362 hx362 => hp_ H361 0 hx362 rfl rfl rfl fun a363 H363 => ht_ H363 1 hx362 rfl rfl (v := .int .i64 14) (fun _ _ _ => dd_ari rfl (H363.ev 108 rfl) rfl rfl (by decide)) fun a364 H364 => ht_ H364 2 hx362 rfl rfl (fun _ _ _ => xA 32 1 14 rfl (H364.ev 5 rfl) (H364.ev 109 rfl)) fun a365 H365 => ht_ H365 3 hx362 rfl rfl (fun _ _ HS9 => dd_get HS9 0 14 rfl rfl (H365.ev 110 rfl) (bs_get (length_encT _) 14 (by decide)) Tryd.underlying5 rfl) fun a366 H366 => ht_ H366 4 hx362 rfl rfl (v := .int .i64 (bd ((encT l).getD 14 0#8))) (fun _ _ _ => dd_conv (k := .i64) rfl (H366.ev 111 rfl) Tryd.underlying5 (by kernel_rfl) (i64_bdA _)) fun a367 H367 => hp_ H367 5 hx362 rfl rfl rfl fun a368 H368 => hp_ H368 6 hx362 rfl rfl rfl fun a369 H369 => ?_
    clear HSL219 H361 a361 H363 a363 H364 a364 H365 a365 H366 a366 H367 a367
    refine ht_ H369 7 hx362 rfl rfl (fun _ _ _ => xS 2 (o + 2) rfl (H369.ev 113 rfl) (H369.ev 114 rfl)) fun a370 H370 => ht_ H370 8 hx362 rfl rfl (fun _ _ _ => xf 1 (o + 2 + 1) rfl (H370.ev 115 rfl)) fun a371 H371 => ht_ H371 9 hx362 rfl rfl (fun _ _ HS9 => dd_at rfl (H371.ev 116 rfl) ((hr218 _ HS9.below).1 1 _ rfl) Tryd.underlying43 rfl) fun a372 H372 => ht_ H372 10 hx362 rfl rfl (v := .int .i64 m218) (fun _ _ _ => dd_len rfl (H372.ev 117 rfl) Tryd.underlying43) fun a373 H373 => ht_ H373 11 hx362 rfl rfl (v := .bool false) (fun _ _ _ => dd_cmp rfl (H373.ev 112 rfl) (H373.ev 118 rfl) (ne_f ((pl_num hG hg218 (show 1 + 9 * 1 = 10 from rfl)).trans (by rw [hm218])))) fun a374 H374 => hp_ H374 12 hx362 rfl rfl rfl fun a375 H375 => htg H375 13 hx362 rfl (wg_ H375 rfl rfl rfl rfl) rfl (fun _ _ _ => dd_mv rfl (H375.ev 0 rfl)) fun a376 H376 => htg H376 14 hx362 rfl (wg_ H376 rfl rfl rfl rfl) rfl (fun _ _ _ => dd_mv rfl (H376.ev 7 rfl)) fun a377 H377 => ?_
    clear H368 a368 H369 a369 H370 a370 H371 a371 H372 a372 H373 a373 H374 a374 H375 a375
    refine htg H377 15 hx362 rfl (wg_ H377 rfl rfl rfl rfl) rfl (fun _ _ _ => xS 2 (o + 2) rfl (H377.ev 121 rfl) (H377.ev 122 rfl)) fun a378 H378 => htg H378 16 hx362 rfl (wg_ H378 rfl rfl rfl rfl) rfl (fun _ _ _ => xf 0 (o + 2) rfl (H378.ev 123 rfl)) fun a379 H379 => htg H379 17 hx362 rfl (wg_ H379 rfl rfl rfl rfl) rfl (fun _ _ HS9 => dd_at rfl (H379.ev 124 rfl) ((hr218 _ HS9.below).1 0 _ rfl) Tryd.underlying9 rfl) fun a380 H380 => htg H380 18 hx362 rfl (wg_ H380 rfl rfl rfl rfl) rfl (fun _ _ _ => dd_mv rfl (H380.ev 0 rfl)) fun a381 H381 => htg H381 20 hx362 rfl (wg_ H381 rfl rfl rfl rfl) rfl (fun _ _ _ => dd_mv rfl (H381.ev 7 rfl)) fun a382 H382 => h1_ 19 rfl <| cg H382 (wg_ H382 rfl rfl rfl rfl) rfl HSh362 (v := .int .i64 1) (dc_ Tryd.func17 rfl (args2 (H382.ev 125 rfl) (H382.ev 126 rfl)) (find_any _ _ _ p218 l wL219.drew (HVl _ HSh362.below) (by decide)) (fun _ w9 h9 => ⟨_, h9.1, by rw [show findI p218 l = (1 : Int) from find_good hG hg218], h9.2⟩)) fun W383 HS383 a383 H383 => sx_ (sxi HS383 [0] rfl) fun hx384 => htg H383 21 hx384 rfl (wg_ H383 rfl rfl rfl rfl) rfl (fun _ _ _ => dd_cmp rfl (H383.ev 127 rfl) (H383.ev 128 rfl) (ne_f (by decide))) fun a385 H385 => ?_
    clear H376 a376 H377 a377 H378 a378 H379 a379 H380 a380 H381 a381 H382 a382 HSh362 hx362
    refine hp_ H385 22 hx384 rfl rfl rfl fun a386 H386 => ?_
    clear H383 a383 H385 a385
    refine wpAnyH_done (by kernel_rfl) ?_ _
    clear hx384
    refine nx <| cf_ H386 rfl <| wp_skip <| bn <| nx <| rl_ <| wl_ <| p_ H386 rfl rfl fun a387 H387 => wl_ <| i_ H387 rfl (v := .int .i64 2) (dd_ari rfl (H387.ev 36 rfl) rfl rfl (by decide)) fun a388 H388 => wl_ <| p_ H388 rfl rfl fun a389 H389 => ln_ <| ?_
    clear H386 a386 H387 a387 H388 a388
    have H390 := H389.sel [1, 0, 5, 7] rfl
    refine nx <| unr_go <| sq_ <| sq_ <| rl_ <| wl_ <| p_ H390 rfl rfl fun a391 H391 => wl_ <| i_ H391 rfl (dd_cmp rfl (H391.ev 34 rfl) rfl (lt_t (by decide))) fun a392 H392 => ln_ <| nx <| ct_ H392 rfl <| wp_skip <| nx <| sq_ <| wp_block <| sq_ <| rl_ <| wl_ <| p_ H392 rfl rfl fun a393 H393 => wl_ <| i_ H393 rfl (v := .int .i64 18) (dd_ari rfl rfl (H393.ev 38 rfl) rfl (by decide)) fun a394 H394 => wl_ <| i_ H394 rfl (v := .int .i64 19) (dd_ari rfl rfl (H394.ev 39 rfl) rfl (by decide)) fun a395 H395 => wl_ <| p_ H395 rfl rfl fun a396 H396 => ln_ <| nx <| sq_ <| sq_ <| rl_ <| q_ H396 2 rfl fun a397 H397 => wl_ <| i_ H397 rfl (v := .int .i64 3) (dd_len rfl (H397.ev 42 rfl) Tryd.underlying22) fun a398 H398 => ?_
    clear H389 H390 a389 H391 a391 H392 a392 H393 a393 H394 a394 H395 a395 H396 a396
    refine wl_ <| i_ H398 rfl (dd_cmp rfl (H398.ev 41 rfl) (H398.ev 43 rfl) (ge_f (by decide))) fun a399 H399 => ln_ <| nx <| cf_ H399 rfl <| wp_skip <| nx <| sq_ <| sq_ <| rl_ <| ?_
    clear H397 a397 H398 a398
    obtain ⟨p401, L401, B401, m401, c401, hg401, hr401, hm401, hp401⟩ := vols_getC (HVl _ (Below.refl _ _)) (k := 2) (by omega)
    refine wl_ <| p_ H399 rfl rfl fun a400 H400 => ln_ <| nx <| wp_block <| ?_
    clear H399 a399
    refine wp_loopG (ι := Nat) (fun j a9 w9 => (j ≤ 4) ∧ En 150 [(10, .int .i64 j), (8, .int .i64 19), (7, .int .i64 2), (5, .pointer (some ⟨g5, 0, none⟩)), (0, .slice (some ⟨b, o, none⟩) 3 c), (1, .int .u8 (bd z))] a9 ∧ St w noF [⟨g5, 24, bs (encT l)⟩] w9) (fun j => 4 - j) (0) ⟨Nat.zero_le _, H400.sel [1, 0, 5, 7, 8, 10] rfl, ss HS383 [0]⟩ ?_
    clear H400 a400 HS383
    rintro j aL402 wL402 ⟨hj, HL402, HSL402⟩
    refine sq_ <| sq_ <| rl_ <| wl_ <| p_ HL402 rfl rfl fun a403 H403 => ?_
    clear HL402 aL402
    by_cases hc405 : (j : Int) < 4
    ·
     refine wl_ <| i_ H403 rfl (dd_cmp rfl (H403.ev 55 rfl) rfl (lt_t hc405)) fun a406 H406 => ln_ <| nx <| ct_ H406 rfl <| wp_skip <| nx <| sq_ <| wp_block <| sq_ <| rl_ <| q_ H406 2 rfl fun a407 H407 => ln_ <| nx <| sq_ <| sq_ <| rl_ <| q_ H407 3 rfl fun a408 H408 => wl_ <| i_ H408 rfl (xS 2 (o + 4) rfl (H408.ev 60 rfl) (H408.ev 61 rfl)) fun a409 H409 => wl_ <| i_ H409 rfl (xf 0 (o + 4) rfl (H409.ev 62 rfl)) fun a410 H410 => wl_ <| i_ H410 rfl (dd_at rfl (H410.ev 63 rfl) ((hr401 _ HSL402.below).1 0 _ rfl) Tryd.underlying9 rfl) fun a411 H411 => wl_ <| i_ H411 rfl (v := .int .i64 p401.length) (dd_lens rfl (H411.ev 64 rfl) Tryd.underlying9 (by rw [strB_size])) fun a412 H412 => ?_
     clear H403 a403 H406 a406 H407 a407 H408 a408 H409 a409 H410 a410 H411 a411
     by_cases hc414 : (j : Int) < p401.length
     ·
      refine wl_ <| i_ H412 rfl (dd_cmp rfl (H412.ev 59 rfl) (H412.ev 65 rfl) (lt_t hc414)) fun a415 H415 => ln_ <| nx <| ct_ H415 rfl <| rl_ <| q_ H415 2 rfl fun a416 H416 => wl_ <| i_ H416 rfl (xS 2 (o + 4) rfl (H416.ev 67 rfl) (H416.ev 68 rfl)) fun a417 H417 => wl_ <| i_ H417 rfl (xf 0 (o + 4) rfl (H417.ev 69 rfl)) fun a418 H418 => wl_ <| i_ H418 rfl (dd_at rfl (H418.ev 70 rfl) ((hr401 _ HSL402.below).1 0 _ rfl) Tryd.underlying9 rfl) fun a419 H419 => wl_ <| p_ H419 rfl rfl fun a420 H420 => wl_ <| i_ H420 rfl (v := .int .u8 (bd (p401.getD j 0#8))) (dd_ixs rfl (H420.ev 71 rfl) (H420.ev 72 rfl) Tryd.underlying9 (by omega)) fun a421 H421 => wl_ <| p_ H421 rfl rfl fun a422 H422 => ?_
      clear H412 a412 H415 a415 H416 a416 H417 a417 H418 a418 H419 a419 H420 a420
      refine ln_ <| ?_
      clear H421 a421
      have H423 := H422.sel [1, 0, 5, 7, 8, 10, 12, 11] rfl
      refine nx <| sq_ <| sq_ <| rl_ <| q_ H423 3 rfl fun a424 H424 => wl_ <| i_ H424 rfl (xS 2 (o + 4) rfl (H424.ev 75 rfl) (H424.ev 76 rfl)) fun a425 H425 => wl_ <| i_ H425 rfl (xf 1 (o + 4 + 1) rfl (H425.ev 77 rfl)) fun a426 H426 => wl_ <| i_ H426 rfl (dd_at rfl (H426.ev 78 rfl) ((hr401 _ HSL402.below).1 1 _ rfl) Tryd.underlying43 rfl) fun a427 H427 => wl_ <| i_ H427 rfl (v := .int .i64 m401) (dd_len rfl (H427.ev 79 rfl) Tryd.underlying43) fun a428 H428 => ?_
      clear H422 H423 a422 H424 a424 H425 a425 H426 a426 H427 a427
      by_cases hc430 : (j : Int) < m401
      ·
       refine wl_ <| i_ H428 rfl (dd_cmp rfl (H428.ev 74 rfl) (H428.ev 80 rfl) (lt_t hc430)) fun a431 H431 => ln_ <| nx <| ct_ H431 rfl <| rl_ <| q_ H431 2 rfl fun a432 H432 => wl_ <| i_ H432 rfl (xS 2 (o + 4) rfl (H432.ev 82 rfl) (H432.ev 83 rfl)) fun a433 H433 => wl_ <| i_ H433 rfl (xf 1 (o + 4 + 1) rfl (H433.ev 84 rfl)) fun a434 H434 => wl_ <| i_ H434 rfl (dd_at rfl (H434.ev 85 rfl) ((hr401 _ HSL402.below).1 1 _ rfl) Tryd.underlying43 rfl) fun a435 H435 => wl_ <| p_ H435 rfl rfl fun a436 H436 => ?_
       clear H428 a428 H431 a431 H432 a432 H433 a433 H434 a434 H435 a435
       obtain ⟨bi401, oi401, hB401⟩ := ints_addr (hr401 _ (Below.refl _ _)).2 (by omega)
       refine wl_ <| i_ H436 rfl (dd_idxS (sz := 1) (j := oi401 + j) rfl (sl_at (H436.ev 86 rfl) hB401) (H436.ev 87 rfl) (by kernel_rfl) (by omega) (by omega) (by omega)) fun a437 H437 => wl_ <| i_ H437 rfl (dd_at rfl (H437.ev 88 rfl) (ints_atB (hr401 _ HSL402.below).2 hB401 j (by omega)) Tryd.underlying3 rfl) fun a438 H438 => wl_ <| i_ H438 rfl (v := .int .u8 (bd (byteI (L401.getD j 0)))) (dd_conv (k := .u8) rfl (H438.ev 89 rfl) Tryd.underlying3 (by kernel_rfl) (wrap_u8_bd _)) fun a439 H439 => wl_ <| p_ H439 rfl rfl fun a440 H440 => ln_ <| ?_
       clear H436 a436 H437 a437 H438 a438 H439 a439
       have H441 := H440.sel [1, 0, 5, 7, 8, 10, 11, 12] rfl
       refine nx <| sq_ <| rl_ <| q_ H441 2 rfl fun a442 H442 => wl_ <| i_ H442 rfl (v := .int .i64 (19 + j)) (dd_ari rfl (H442.ev 91 rfl) (H442.ev 92 rfl) rfl (i64_of (by first | omega | (have := bd_lo; omega)) (by omega))) fun a443 H443 => wl_ <| i_ H443 rfl (xAo 32 1 (19 + j) rfl (H443.ev 5 rfl) (H443.ev 93 rfl)) fun a444 H444 => wl_ <| i_ H444 rfl (dd_get HSL402 0 (19 + j) rfl rfl (H444.ev 94 rfl) (bs_get (length_encT _) (19 + j) (by omega)) Tryd.underlying5 rfl) fun a445 H445 => wl_ <| p_ H445 rfl rfl fun a446 H446 => wl_ <| i_ H446 rfl (dd_cmp rfl (H446.ev 95 rfl) (H446.ev 96 rfl) (ne_f (pl_name hG hg401 (show 1 + 9 * 2 = 19 from rfl) (by omega)))) fun a447 H447 => wl_ <| p_ H447 rfl rfl fun a448 H448 => wl_ <| ig H448 (wg_ H448 rfl rfl rfl rfl) rfl (dd_mv rfl (H448.ev 8 rfl)) fun a449 H449 => ?_
       clear H440 H441 a440 H442 a442 H443 a443 H444 a444 H445 a445 H446 a446 H447 a447
       refine wl_ <| ig H449 (wg_ H449 rfl rfl rfl rfl) rfl (v := .int .i64 24) (dd_ari rfl (H449.ev 99 rfl) rfl rfl (by decide)) fun a450 H450 => wl_ <| ig H450 (wg_ H450 rfl rfl rfl rfl) rfl (dd_mv rfl (H450.ev 10 rfl)) fun a451 H451 => wl_ <| ig H451 (wg_ H451 rfl rfl rfl rfl) rfl (v := .int .i64 (24 + j)) (dd_ari rfl (H451.ev 100 rfl) (H451.ev 101 rfl) rfl (i64_of (by first | omega | (have := bd_lo; omega)) (by omega))) fun a452 H452 => wl_ <| ig H452 (wg_ H452 rfl rfl rfl rfl) rfl (xAo 32 1 (24 + j) rfl (H452.ev 5 rfl) (H452.ev 102 rfl)) fun a453 H453 => wl_ <| ig H453 (wg_ H453 rfl rfl rfl rfl) rfl (dd_get HSL402 0 (24 + j) rfl rfl (H453.ev 103 rfl) (bs_get (length_encT _) (24 + j) (by omega)) Tryd.underlying5 rfl) fun a454 H454 => wl_ <| ig H454 (wg_ H454 rfl rfl rfl rfl) rfl (dd_mv rfl (H454.ev 12 rfl)) fun a455 H455 => wl_ <| ig H455 (wg_ H455 rfl rfl rfl rfl) rfl (dd_cmp rfl (H455.ev 104 rfl) (H455.ev 105 rfl) (ne_f (pl_blk hG hg401 (show 1 + 9 * 2 = 19 from rfl) (by omega)))) fun a456 H456 => wl_ <| p_ H456 rfl rfl fun a457 H457 => ?_
       clear H448 a448 H449 a449 H450 a450 H451 a451 H452 a452 H453 a453 H454 a454 H455 a455
       refine ln_ <| ?_
       clear H456 a456
       have H458 := H457.sel [1, 0, 5, 7, 8, 10, 107] rfl
       refine nx <| cf_ H458 rfl <| wp_skip <| bn <| nx <| rl_ <| wl_ <| p_ H458 rfl rfl fun a459 H459 => wl_ <| i_ H459 rfl (v := .int .i64 (j + 1)) (dd_ari rfl (H459.ev 57 rfl) rfl rfl (i64_of (by first | omega | (have := bd_lo; omega)) (by omega))) fun a460 H460 => wl_ <| p_ H460 rfl rfl fun a461 H461 => ln_ <| ?_
       clear H457 H458 a457 H459 a459 H460 a460
       refine nx ⟨j + 1, ⟨(by omega), H461.sel [1, 0, 5, 7, 8, 10] rfl, ss HSL402 [0]⟩, (by omega)⟩
      ·
       refine wl_ <| i_ H428 rfl (dd_cmp rfl (H428.ev 74 rfl) (H428.ev 80 rfl) (lt_f hc430)) fun a462 H462 => ln_ <| nx <| cf_ H462 rfl <| wp_skip <| nx <| sq_ <| rl_ <| q_ H462 2 rfl fun a463 H463 => wl_ <| i_ H463 rfl (v := .int .i64 (19 + j)) (dd_ari rfl (H463.ev 91 rfl) (H463.ev 92 rfl) rfl (i64_of (by first | omega | (have := bd_lo; omega)) (by omega))) fun a464 H464 => wl_ <| i_ H464 rfl (xAo 32 1 (19 + j) rfl (H464.ev 5 rfl) (H464.ev 93 rfl)) fun a465 H465 => wl_ <| i_ H465 rfl (dd_get HSL402 0 (19 + j) rfl rfl (H465.ev 94 rfl) (bs_get (length_encT _) (19 + j) (by omega)) Tryd.underlying5 rfl) fun a466 H466 => wl_ <| p_ H466 rfl rfl fun a467 H467 => wl_ <| i_ H467 rfl (dd_cmp rfl (H467.ev 95 rfl) (H467.ev 96 rfl) (ne_f (pl_name hG hg401 (show 1 + 9 * 2 = 19 from rfl) (by omega)))) fun a468 H468 => wl_ <| p_ H468 rfl rfl fun a469 H469 => ?_
       clear H428 a428 H462 a462 H463 a463 H464 a464 H465 a465 H466 a466 H467 a467
       refine wl_ <| ig H469 (wg_ H469 rfl rfl rfl rfl) rfl (dd_mv rfl (H469.ev 8 rfl)) fun a470 H470 => wl_ <| ig H470 (wg_ H470 rfl rfl rfl rfl) rfl (v := .int .i64 24) (dd_ari rfl (H470.ev 99 rfl) rfl rfl (by decide)) fun a471 H471 => wl_ <| ig H471 (wg_ H471 rfl rfl rfl rfl) rfl (dd_mv rfl (H471.ev 10 rfl)) fun a472 H472 => wl_ <| ig H472 (wg_ H472 rfl rfl rfl rfl) rfl (v := .int .i64 (24 + j)) (dd_ari rfl (H472.ev 100 rfl) (H472.ev 101 rfl) rfl (i64_of (by first | omega | (have := bd_lo; omega)) (by omega))) fun a473 H473 => wl_ <| ig H473 (wg_ H473 rfl rfl rfl rfl) rfl (xAo 32 1 (24 + j) rfl (H473.ev 5 rfl) (H473.ev 102 rfl)) fun a474 H474 => wl_ <| ig H474 (wg_ H474 rfl rfl rfl rfl) rfl (dd_get HSL402 0 (24 + j) rfl rfl (H474.ev 103 rfl) (bs_get (length_encT _) (24 + j) (by omega)) Tryd.underlying5 rfl) fun a475 H475 => wl_ <| ig H475 (wg_ H475 rfl rfl rfl rfl) rfl (dd_mv rfl (H475.ev 12 rfl)) fun a476 H476 => wl_ <| ig H476 (wg_ H476 rfl rfl rfl rfl) rfl (dd_cmp rfl (H476.ev 104 rfl) (H476.ev 105 rfl) (ne_f (pl_blk0 hG hg401 (show 1 + 9 * 2 = 19 from rfl) (by omega) (by omega)))) fun a477 H477 => ?_
       clear H468 a468 H469 a469 H470 a470 H471 a471 H472 a472 H473 a473 H474 a474 H475 a475
       refine wl_ <| p_ H477 rfl rfl fun a478 H478 => ln_ <| ?_
       clear H476 a476 H477 a477
       have H479 := H478.sel [1, 0, 5, 7, 8, 10, 107] rfl
       refine nx <| cf_ H479 rfl <| wp_skip <| bn <| nx <| rl_ <| wl_ <| p_ H479 rfl rfl fun a480 H480 => wl_ <| i_ H480 rfl (v := .int .i64 (j + 1)) (dd_ari rfl (H480.ev 57 rfl) rfl rfl (i64_of (by first | omega | (have := bd_lo; omega)) (by omega))) fun a481 H481 => wl_ <| p_ H481 rfl rfl fun a482 H482 => ln_ <| ?_
       clear H478 H479 a478 H480 a480 H481 a481
       refine nx ⟨j + 1, ⟨(by omega), H482.sel [1, 0, 5, 7, 8, 10] rfl, ss HSL402 [0]⟩, (by omega)⟩
     ·
      refine wl_ <| i_ H412 rfl (dd_cmp rfl (H412.ev 59 rfl) (H412.ev 65 rfl) (lt_f hc414)) fun a483 H483 => ln_ <| nx <| cf_ H483 rfl <| wp_skip <| nx <| sq_ <| sq_ <| rl_ <| q_ H483 3 rfl fun a484 H484 => wl_ <| i_ H484 rfl (xS 2 (o + 4) rfl (H484.ev 75 rfl) (H484.ev 76 rfl)) fun a485 H485 => wl_ <| i_ H485 rfl (xf 1 (o + 4 + 1) rfl (H485.ev 77 rfl)) fun a486 H486 => wl_ <| i_ H486 rfl (dd_at rfl (H486.ev 78 rfl) ((hr401 _ HSL402.below).1 1 _ rfl) Tryd.underlying43 rfl) fun a487 H487 => wl_ <| i_ H487 rfl (v := .int .i64 m401) (dd_len rfl (H487.ev 79 rfl) Tryd.underlying43) fun a488 H488 => ?_
      clear H412 a412 H483 a483 H484 a484 H485 a485 H486 a486 H487 a487
      by_cases hc490 : (j : Int) < m401
      ·
       refine wl_ <| i_ H488 rfl (dd_cmp rfl (H488.ev 74 rfl) (H488.ev 80 rfl) (lt_t hc490)) fun a491 H491 => ln_ <| ?_
       clear H488 a488
       have H492 := H491.sel [1, 0, 5, 7, 8, 10, 11, 12, 81] rfl
       refine nx <| ct_ H492 rfl <| rl_ <| q_ H492 2 rfl fun a493 H493 => wl_ <| i_ H493 rfl (xS 2 (o + 4) rfl (H493.ev 82 rfl) (H493.ev 83 rfl)) fun a494 H494 => wl_ <| i_ H494 rfl (xf 1 (o + 4 + 1) rfl (H494.ev 84 rfl)) fun a495 H495 => wl_ <| i_ H495 rfl (dd_at rfl (H495.ev 85 rfl) ((hr401 _ HSL402.below).1 1 _ rfl) Tryd.underlying43 rfl) fun a496 H496 => wl_ <| p_ H496 rfl rfl fun a497 H497 => ?_
       clear H491 H492 a491 H493 a493 H494 a494 H495 a495 H496 a496
       obtain ⟨bi401, oi401, hB401⟩ := ints_addr (hr401 _ (Below.refl _ _)).2 (by omega)
       refine wl_ <| i_ H497 rfl (dd_idxS (sz := 1) (j := oi401 + j) rfl (sl_at (H497.ev 86 rfl) hB401) (H497.ev 87 rfl) (by kernel_rfl) (by omega) (by omega) (by omega)) fun a498 H498 => wl_ <| i_ H498 rfl (dd_at rfl (H498.ev 88 rfl) (ints_atB (hr401 _ HSL402.below).2 hB401 j (by omega)) Tryd.underlying3 rfl) fun a499 H499 => wl_ <| i_ H499 rfl (v := .int .u8 (bd (byteI (L401.getD j 0)))) (dd_conv (k := .u8) rfl (H499.ev 89 rfl) Tryd.underlying3 (by kernel_rfl) (wrap_u8_bd _)) fun a500 H500 => wl_ <| p_ H500 rfl rfl fun a501 H501 => ln_ <| nx <| sq_ <| rl_ <| q_ H501 2 rfl fun a502 H502 => wl_ <| i_ H502 rfl (v := .int .i64 (19 + j)) (dd_ari rfl (H502.ev 91 rfl) (H502.ev 92 rfl) rfl (i64_of (by first | omega | (have := bd_lo; omega)) (by omega))) fun a503 H503 => wl_ <| i_ H503 rfl (xAo 32 1 (19 + j) rfl (H503.ev 5 rfl) (H503.ev 93 rfl)) fun a504 H504 => wl_ <| i_ H504 rfl (dd_get HSL402 0 (19 + j) rfl rfl (H504.ev 94 rfl) (bs_get (length_encT _) (19 + j) (by omega)) Tryd.underlying5 rfl) fun a505 H505 => ?_
       clear H497 a497 H498 a498 H499 a499 H500 a500 H501 a501 H502 a502 H503 a503
       refine wl_ <| p_ H505 rfl rfl fun a506 H506 => wl_ <| i_ H506 rfl (dd_cmp rfl (H506.ev 95 rfl) (H506.ev 96 rfl) (ne_f (pl_name0 hG hg401 (show 1 + 9 * 2 = 19 from rfl) (by omega) (by omega)))) fun a507 H507 => wl_ <| p_ H507 rfl rfl fun a508 H508 => wl_ <| ig H508 (wg_ H508 rfl rfl rfl rfl) rfl (dd_mv rfl (H508.ev 8 rfl)) fun a509 H509 => wl_ <| ig H509 (wg_ H509 rfl rfl rfl rfl) rfl (v := .int .i64 24) (dd_ari rfl (H509.ev 99 rfl) rfl rfl (by decide)) fun a510 H510 => wl_ <| ig H510 (wg_ H510 rfl rfl rfl rfl) rfl (dd_mv rfl (H510.ev 10 rfl)) fun a511 H511 => wl_ <| ig H511 (wg_ H511 rfl rfl rfl rfl) rfl (v := .int .i64 (24 + j)) (dd_ari rfl (H511.ev 100 rfl) (H511.ev 101 rfl) rfl (i64_of (by first | omega | (have := bd_lo; omega)) (by omega))) fun a512 H512 => wl_ <| ig H512 (wg_ H512 rfl rfl rfl rfl) rfl (xAo 32 1 (24 + j) rfl (H512.ev 5 rfl) (H512.ev 102 rfl)) fun a513 H513 => ?_
       clear H504 a504 H505 a505 H506 a506 H507 a507 H508 a508 H509 a509 H510 a510 H511 a511
       refine wl_ <| ig H513 (wg_ H513 rfl rfl rfl rfl) rfl (dd_get HSL402 0 (24 + j) rfl rfl (H513.ev 103 rfl) (bs_get (length_encT _) (24 + j) (by omega)) Tryd.underlying5 rfl) fun a514 H514 => wl_ <| ig H514 (wg_ H514 rfl rfl rfl rfl) rfl (dd_mv rfl (H514.ev 12 rfl)) fun a515 H515 => wl_ <| ig H515 (wg_ H515 rfl rfl rfl rfl) rfl (dd_cmp rfl (H515.ev 104 rfl) (H515.ev 105 rfl) (ne_f (pl_blk hG hg401 (show 1 + 9 * 2 = 19 from rfl) (by omega)))) fun a516 H516 => wl_ <| p_ H516 rfl rfl fun a517 H517 => ln_ <| ?_
       clear H512 a512 H513 a513 H514 a514 H515 a515 H516 a516
       have H518 := H517.sel [1, 0, 5, 7, 8, 10, 107] rfl
       refine nx <| cf_ H518 rfl <| wp_skip <| bn <| nx <| rl_ <| wl_ <| p_ H518 rfl rfl fun a519 H519 => wl_ <| i_ H519 rfl (v := .int .i64 (j + 1)) (dd_ari rfl (H519.ev 57 rfl) rfl rfl (i64_of (by first | omega | (have := bd_lo; omega)) (by omega))) fun a520 H520 => wl_ <| p_ H520 rfl rfl fun a521 H521 => ln_ <| ?_
       clear H517 H518 a517 H519 a519 H520 a520
       refine nx ⟨j + 1, ⟨(by omega), H521.sel [1, 0, 5, 7, 8, 10] rfl, ss HSL402 [0]⟩, (by omega)⟩
      ·
       refine wl_ <| i_ H488 rfl (dd_cmp rfl (H488.ev 74 rfl) (H488.ev 80 rfl) (lt_f hc490)) fun a522 H522 => ln_ <| ?_
       clear H488 a488
       have H523 := H522.sel [1, 0, 5, 7, 8, 10, 11, 12, 81] rfl
       refine nx <| cf_ H523 rfl <| wp_skip <| nx <| sq_ <| rl_ <| q_ H523 2 rfl fun a524 H524 => wl_ <| i_ H524 rfl (v := .int .i64 (19 + j)) (dd_ari rfl (H524.ev 91 rfl) (H524.ev 92 rfl) rfl (i64_of (by first | omega | (have := bd_lo; omega)) (by omega))) fun a525 H525 => wl_ <| i_ H525 rfl (xAo 32 1 (19 + j) rfl (H525.ev 5 rfl) (H525.ev 93 rfl)) fun a526 H526 => wl_ <| i_ H526 rfl (dd_get HSL402 0 (19 + j) rfl rfl (H526.ev 94 rfl) (bs_get (length_encT _) (19 + j) (by omega)) Tryd.underlying5 rfl) fun a527 H527 => wl_ <| p_ H527 rfl rfl fun a528 H528 => wl_ <| i_ H528 rfl (dd_cmp rfl (H528.ev 95 rfl) (H528.ev 96 rfl) (ne_f (pl_name0 hG hg401 (show 1 + 9 * 2 = 19 from rfl) (by omega) (by omega)))) fun a529 H529 => wl_ <| p_ H529 rfl rfl fun a530 H530 => wl_ <| ig H530 (wg_ H530 rfl rfl rfl rfl) rfl (dd_mv rfl (H530.ev 8 rfl)) fun a531 H531 => ?_
       clear H522 H523 a522 H524 a524 H525 a525 H526 a526 H527 a527 H528 a528 H529 a529
       refine wl_ <| ig H531 (wg_ H531 rfl rfl rfl rfl) rfl (v := .int .i64 24) (dd_ari rfl (H531.ev 99 rfl) rfl rfl (by decide)) fun a532 H532 => wl_ <| ig H532 (wg_ H532 rfl rfl rfl rfl) rfl (dd_mv rfl (H532.ev 10 rfl)) fun a533 H533 => wl_ <| ig H533 (wg_ H533 rfl rfl rfl rfl) rfl (v := .int .i64 (24 + j)) (dd_ari rfl (H533.ev 100 rfl) (H533.ev 101 rfl) rfl (i64_of (by first | omega | (have := bd_lo; omega)) (by omega))) fun a534 H534 => wl_ <| ig H534 (wg_ H534 rfl rfl rfl rfl) rfl (xAo 32 1 (24 + j) rfl (H534.ev 5 rfl) (H534.ev 102 rfl)) fun a535 H535 => wl_ <| ig H535 (wg_ H535 rfl rfl rfl rfl) rfl (dd_get HSL402 0 (24 + j) rfl rfl (H535.ev 103 rfl) (bs_get (length_encT _) (24 + j) (by omega)) Tryd.underlying5 rfl) fun a536 H536 => wl_ <| ig H536 (wg_ H536 rfl rfl rfl rfl) rfl (dd_mv rfl (H536.ev 12 rfl)) fun a537 H537 => wl_ <| ig H537 (wg_ H537 rfl rfl rfl rfl) rfl (dd_cmp rfl (H537.ev 104 rfl) (H537.ev 105 rfl) (ne_f (pl_blk0 hG hg401 (show 1 + 9 * 2 = 19 from rfl) (by omega) (by omega)))) fun a538 H538 => wl_ <| p_ H538 rfl rfl fun a539 H539 => ?_
       clear H530 a530 H531 a531 H532 a532 H533 a533 H534 a534 H535 a535 H536 a536 H537 a537
       refine ln_ <| ?_
       clear H538 a538
       have H540 := H539.sel [1, 0, 5, 7, 8, 10, 107] rfl
       refine nx <| cf_ H540 rfl <| wp_skip <| bn <| nx <| rl_ <| wl_ <| p_ H540 rfl rfl fun a541 H541 => wl_ <| i_ H541 rfl (v := .int .i64 (j + 1)) (dd_ari rfl (H541.ev 57 rfl) rfl rfl (i64_of (by first | omega | (have := bd_lo; omega)) (by omega))) fun a542 H542 => wl_ <| p_ H542 rfl rfl fun a543 H543 => ln_ <| ?_
       clear H539 H540 a539 H541 a541 H542 a542
       refine nx ⟨j + 1, ⟨(by omega), H543.sel [1, 0, 5, 7, 8, 10] rfl, ss HSL402 [0]⟩, (by omega)⟩
    ·
     refine wl_ <| i_ H403 rfl (dd_cmp rfl (H403.ev 55 rfl) rfl (lt_f hc405)) fun a544 H544 => ln_ <| nx <| cf_ H544 rfl <| wp_exit <| tx <| tx <| bx <| nx <| sq_ <| ?_
     clear H403 a403
     refine wi_ HSL402 [0] rfl [0] rfl fun HSh545 hx545 => hp_ H544 0 hx545 rfl rfl rfl fun a546 H546 => ht_ H546 1 hx545 rfl rfl (v := .int .i64 23) (fun _ _ _ => dd_ari rfl (H546.ev 108 rfl) rfl rfl (by decide)) fun a547 H547 => ht_ H547 2 hx545 rfl rfl (fun _ _ _ => xA 32 1 23 rfl (H547.ev 5 rfl) (H547.ev 109 rfl)) fun a548 H548 => ht_ H548 3 hx545 rfl rfl (fun _ _ HS9 => dd_get HS9 0 23 rfl rfl (H548.ev 110 rfl) (bs_get (length_encT _) 23 (by decide)) Tryd.underlying5 rfl) fun a549 H549 => ht_ H549 4 hx545 rfl rfl (v := .int .i64 (bd ((encT l).getD 23 0#8))) (fun _ _ _ => dd_conv (k := .i64) rfl (H549.ev 111 rfl) Tryd.underlying5 (by kernel_rfl) (i64_bdA _)) fun a550 H550 => hp_ H550 5 hx545 rfl rfl rfl fun a551 H551 => hp_ H551 6 hx545 rfl rfl rfl fun a552 H552 => ?_
     clear HSL402 H544 a544 H546 a546 H547 a547 H548 a548 H549 a549 H550 a550
     refine ht_ H552 7 hx545 rfl rfl (fun _ _ _ => xS 2 (o + 4) rfl (H552.ev 113 rfl) (H552.ev 114 rfl)) fun a553 H553 => ht_ H553 8 hx545 rfl rfl (fun _ _ _ => xf 1 (o + 4 + 1) rfl (H553.ev 115 rfl)) fun a554 H554 => ht_ H554 9 hx545 rfl rfl (fun _ _ HS9 => dd_at rfl (H554.ev 116 rfl) ((hr401 _ HS9.below).1 1 _ rfl) Tryd.underlying43 rfl) fun a555 H555 => ht_ H555 10 hx545 rfl rfl (v := .int .i64 m401) (fun _ _ _ => dd_len rfl (H555.ev 117 rfl) Tryd.underlying43) fun a556 H556 => ht_ H556 11 hx545 rfl rfl (v := .bool false) (fun _ _ _ => dd_cmp rfl (H556.ev 112 rfl) (H556.ev 118 rfl) (ne_f ((pl_num hG hg401 (show 1 + 9 * 2 = 19 from rfl)).trans (by rw [hm401])))) fun a557 H557 => hp_ H557 12 hx545 rfl rfl rfl fun a558 H558 => htg H558 13 hx545 rfl (wg_ H558 rfl rfl rfl rfl) rfl (fun _ _ _ => dd_mv rfl (H558.ev 0 rfl)) fun a559 H559 => htg H559 14 hx545 rfl (wg_ H559 rfl rfl rfl rfl) rfl (fun _ _ _ => dd_mv rfl (H559.ev 7 rfl)) fun a560 H560 => ?_
     clear H551 a551 H552 a552 H553 a553 H554 a554 H555 a555 H556 a556 H557 a557 H558 a558
     refine htg H560 15 hx545 rfl (wg_ H560 rfl rfl rfl rfl) rfl (fun _ _ _ => xS 2 (o + 4) rfl (H560.ev 121 rfl) (H560.ev 122 rfl)) fun a561 H561 => htg H561 16 hx545 rfl (wg_ H561 rfl rfl rfl rfl) rfl (fun _ _ _ => xf 0 (o + 4) rfl (H561.ev 123 rfl)) fun a562 H562 => htg H562 17 hx545 rfl (wg_ H562 rfl rfl rfl rfl) rfl (fun _ _ HS9 => dd_at rfl (H562.ev 124 rfl) ((hr401 _ HS9.below).1 0 _ rfl) Tryd.underlying9 rfl) fun a563 H563 => htg H563 18 hx545 rfl (wg_ H563 rfl rfl rfl rfl) rfl (fun _ _ _ => dd_mv rfl (H563.ev 0 rfl)) fun a564 H564 => htg H564 20 hx545 rfl (wg_ H564 rfl rfl rfl rfl) rfl (fun _ _ _ => dd_mv rfl (H564.ev 7 rfl)) fun a565 H565 => h1_ 19 rfl <| cg H565 (wg_ H565 rfl rfl rfl rfl) rfl HSh545 (v := .int .i64 2) (dc_ Tryd.func17 rfl (args2 (H565.ev 125 rfl) (H565.ev 126 rfl)) (find_any _ _ _ p401 l wL402.drew (HVl _ HSh545.below) (by decide)) (fun _ w9 h9 => ⟨_, h9.1, by rw [show findI p401 l = (2 : Int) from find_good hG hg401], h9.2⟩)) fun W566 HS566 a566 H566 => sx_ (sxi HS566 [0] rfl) fun hx567 => htg H566 21 hx567 rfl (wg_ H566 rfl rfl rfl rfl) rfl (fun _ _ _ => dd_cmp rfl (H566.ev 127 rfl) (H566.ev 128 rfl) (ne_f (by decide))) fun a568 H568 => ?_
     clear H559 a559 H560 a560 H561 a561 H562 a562 H563 a563 H564 a564 H565 a565 HSh545 hx545
     refine hp_ H568 22 hx567 rfl rfl rfl fun a569 H569 => ?_
     clear H566 a566 H568 a568
     refine wpAnyH_done (by kernel_rfl) ?_ _
     clear hx567
     refine nx <| cf_ H569 rfl <| wp_skip <| bn <| nx <| rl_ <| wl_ <| p_ H569 rfl rfl fun a570 H570 => wl_ <| i_ H570 rfl (v := .int .i64 3) (dd_ari rfl (H570.ev 36 rfl) rfl rfl (by decide)) fun a571 H571 => wl_ <| p_ H571 rfl rfl fun a572 H572 => ln_ <| ?_
     clear H569 a569 H570 a570 H571 a571
     have H573 := H572.sel [1, 0, 5, 7] rfl
     refine nx <| unr_go <| sq_ <| sq_ <| rl_ <| wl_ <| p_ H573 rfl rfl fun a574 H574 => wl_ <| i_ H574 rfl (dd_cmp rfl (H574.ev 34 rfl) rfl (lt_f (by decide))) fun a575 H575 => ln_ <| nx <| cf_ H575 rfl <| wp_exit <| tx <| tx <| bx <| nx <| sq_ <| rl_ <| wl_ <| p_ H575 rfl rfl fun a576 H576 => ?_
     clear H572 H573 a572 H574 a574 H575 a575
     obtain ⟨r, hr, hr4⟩ := mod_nat (bd z) 4 (bd_lo _) (by decide)
     refine wl_ <| i_ H576 rfl (v := .int .u8 r) (dd_rem rfl (H576.ev 131 rfl) rfl (by decide) hr) fun a577 H577 => wl_ <| i_ H577 rfl (v := .int .u8 (28 + r)) (dd_ari rfl rfl (H577.ev 132 rfl) rfl (u8_of (by omega) (by omega))) fun a578 H578 => wl_ <| i_ H578 rfl (xAo 32 1 (28 + r) rfl (H578.ev 5 rfl) (H578.ev 133 rfl)) fun a579 H579 => wl_ <| t_ rfl (S := [⟨g5, 24, bs ((encT l).set (28 + r) (1#8))⟩]) (fun _ h => dd_put HS566 0 (28 + r) rfl rfl (H579.ev 134 rfl) rfl (by kernel_rfl) rfl rfl (blt_fit ((size_bs _).trans (length_encT _)) (by omega)) (set_bs _ _ (1#8)) h) fun W580 HS580 => ln_ <| nx <| sq_ <| rl_ <| wl_ <| i_ H579 rfl (v := .agg (bs ((encT l).set (28 + r) (1#8)))) (dd_load HS580 0 0 rfl rfl (H579.ev 5 rfl) (slab_whole _) Tryd.underlying24 rfl (by rw [show (bs ((encT l).set (28 + r) (1#8))).size = 32 from ((size_bs _).trans (len_set (length_encT _)))]; kernel_rfl)) fun a581 H581 => ?_
     clear H576 a576 H577 a577 H578 a578 HS566 H579 a579
     refine wl_ <| d_ H581 rfl (R := fun v w9 => ∃ A583 C583, v = .tuple #[.slice A583 0 C583, .int .i64 11] ∧ ((volL ([])).length = 0 ∧ 0 ≤ 3) ∧ (OV W580.heap.size w9 (.slice A583 0 C583) (volL ([]))) ∧ Below W580.heap.size W580 w9) (dc_ Tryd.func12 rfl (args1 (H581.ev 136 rfl)) (dect_any ((encT l).set (28 + r) (1#8)) W580 (len_set (length_encT _))) (fun _ w9 ⟨v9, he, ho, hb⟩ => by rw [(dec_bad (pl_bad hr4)).2] at he; rw [(dec_bad (pl_bad hr4)).1] at ho; obtain ⟨A9, n9, c9, rfl, h1, _⟩ := OV.form2 ho; obtain rfl : n9 = 0 := h1.symm; exact ⟨_, he, A9, c9, rfl, ⟨h1, (by decide)⟩, ho, hb⟩)) ?_
     rintro _ W582 ⟨A583, C583, rfl, hNd583, hov583, hb582⟩ a582 H582
     have HS582 := HS580.same hb582
     clear H581 a581
     have HBs584 : Below w.heap.size w W582 := HS582.below
     have HVlr := fun (W9 : World) (hb9 : Below W582.heap.size W582 W9) => HVl W9 (HBs584.trans (hb9.mono HBs584.size))
     clear HVl
     have HVl := HVlr
     clear HVlr
     have hr35r := fun (W9 : World) (hb9 : Below W582.heap.size W582 W9) => hr35 W9 (HBs584.trans (hb9.mono HBs584.size))
     clear hr35
     have hr35 := hr35r
     clear hr35r
     have hr218r := fun (W9 : World) (hb9 : Below W582.heap.size W582 W9) => hr218 W9 (HBs584.trans (hb9.mono HBs584.size))
     clear hr218
     have hr218 := hr218r
     clear hr218r
     have hr401r := fun (W9 : World) (hb9 : Below W582.heap.size W582 W9) => hr401 W9 (HBs584.trans (hb9.mono HBs584.size))
     clear hr401
     have hr401 := hr401r
     clear hr401r
     have HR584_0 := fun (W9 : World) (hb9 : Below W582.heap.size W582 W9) => (HS582.row 0 rfl).call hb9
     have HSb584 := St.nil W582 noF
     clear HS582
     have HVd583 := fun (W9 : World) (hb9 : Below W582.heap.size W582 W9) => ((hov583.vols (Nat.le_trans (Nat.le_of_eq hNd583.1) (Nat.le_trans hNd583.2 (by decide)))).below hb9 (Nat.le_refl _))
     have hMd583 := (show ∀ x ∈ ([] : List Tv), x.2.length ≤ 1000000 from fun x h => by cases h)
     clear HS580 hb582
     refine wl_ <| p_ H582 rfl rfl fun a585 H585 => wl_ <| i_ H585 rfl (dd_ext rfl (H585.ev 135 rfl) rfl) fun a586 H586 => wl_ <| i_ H586 rfl (dd_ext rfl (H586.ev 135 rfl) rfl) fun a587 H587 => q_ H587 2 rfl fun a588 H588 => ln_ <| nx <| sq_ <| rl_ <| wl_ <| p_ H588 rfl rfl fun a589 H589 => wl_ <| i_ H589 rfl (v := .int .i64 0) (dd_len rfl (H589.ev 140 rfl) Tryd.underlying22) fun a590 H590 => wl_ <| i_ H590 rfl (dd_cmp rfl (H590.ev 141 rfl) rfl (eq_t (by decide))) fun a591 H591 => wl_ <| p_ H591 rfl rfl fun a592 H592 => ?_
     clear H582 a582 H585 a585 H586 a586 H587 a587 H588 a588 H589 a589 H590 a590
     refine wl_ <| ig H592 (wg_ H592 rfl rfl rfl rfl) rfl (dd_mv rfl (H592.ev 14 rfl)) fun a593 H593 => wl_ <| ig H593 (wg_ H593 rfl rfl rfl rfl) rfl (dd_cmp rfl (H593.ev 144 rfl) rfl (eq_t (by decide))) fun a594 H594 => q_ H594 2 rfl fun a595 H595 => wl_ <| cg H595 (wg_ H595 rfl rfl rfl rfl) rfl HSb584 (dcs Tryd.func8 rfl (args0 ) (tabwakes_any W582) (.bool true)) fun W596 HS596 a596 H596 => q_ H596 2 rfl fun a597 H597 => ln_ <| ?_
     clear H591 a591 H592 a592 H593 a593 H594 a594 H595 a595 HSb584 H596 a596
     have H598 := H597.sel [4] rfl
     refine nx <| wp_ret <| ret_run H598.env0 (res_t Tryd.results5 (H598.get 4 rfl)) <| ?_
     clear H597
     exact ⟨rfl, (HBs584.trans (HS596.below.mono HBs584.size))⟩
theorem tabplaces_walk (A : Option Addr) (n c : Nat) (l0 : List Vl) (z : BitVec 8) (w : World) (h0 : VolsAt w (.slice A n c) l0) (_ : n ≤ maxLen) :
    Calls Tryd.prog 5 #[.slice A n c, .int .u8 (bd z)] w fun e w' => e = .returned (.bool true) ∧ Below w.heap.size w w' := by
  obtain ⟨l, rfl⟩ := volL_all l0
  cases hG : goodT l with
  | false => exact tabplaces_no A n c l z w h0 hG
  | true =>
    have hln : l.length = n := by rw [← len_volL]; exact vols_len h0
    have h3 := (goodT_parts hG).1
    rcases (by omega : n = 0 ∨ n = 1 ∨ n = 2 ∨ n = 3) with rfl | rfl | rfl | rfl
    · exact tabplaces0 c A l z w h0 hG
    · obtain ⟨b, o, rfl⟩ := vols_some h0 (by decide); exact tabplaces1 b o c l z w h0 hG
    · obtain ⟨b, o, rfl⟩ := vols_some h0 (by decide); exact tabplaces2 b o c l z w h0 hG
    · obtain ⟨b, o, rfl⟩ := vols_some h0 (by decide); exact tabplaces3 b o c l z w h0 hG
end Go.Proofs.YtpmedgibnnonkaaDoor

/- TablePlaces, as its tied card: for every slice of volumes and byte the call returns true and changes nothing that it was handed. Conditions: those of the row (the tables of runes lie as the program's text lays them, which the card ties to the pruned copy). -/
set_option maxRecDepth 4000
namespace Go.Proofs.YtpmedgibnnonkaaDoor.tablePlaces
open Go Go.ChangeShapes Go.WideShapes Go.ChangeAt Go.RowKit

theorem contract (H : Type) (enc : TypeId × Value → H) (W : World) (base : Nat) (args : Array Value) (ds gs : List (DataW H)) (before : List MemPlace)
    (hval : ∀ (j : Nat) t v, Tryd.f5.params[j]? = some t → args[j]? = some v → Value.okWide Tryd.prog W .any base t v)
    (hW : DataW.Whole enc Tryd.prog Tryd.f5.params.toList Rows.tablePlacesSpec.vars false W args.toList ds gs before) (_ : laidMetH Tryd.prog Rows.tablePlacesRow.laid W) :
    Calls Tryd.prog 5 args W fun e W' => ∃ v, e = .returned v ∧ Rows.tablePlacesSpec.post enc Tryd.prog Tryd.f5 false true false false W args v W' := by
  have hW' := hW
  obtain ⟨p, q, hA0, hV, rfl, _, _⟩ := hW
  have hA : DataW.TrodAll enc Tryd.prog W 0 (fun _ => true) true Tryd.f5.params.toList args.toList ds p := hA0
  rw [Tryd.params5] at hA hval
  obtain ⟨v0, vs0, d0, ds0, p0, q0, hargs, rfl, rfl, h0, r0⟩ := trodAll_cons hA
  obtain ⟨v1, vs1, d1, ds1, p1, q1, rfl, rfl, rfl, h1, r1⟩ := trodAll_cons r0
  obtain ⟨rfl, rfl, rfl⟩ := trodAll_nil r1
  obtain rfl : args = #[v0, v1] := by cases args; simp_all
  obtain ⟨rfl, rfl⟩ := trodVars_none hV
  have hlt0 : ∀ x ∈ p0, x.block < W.heap.size := fun x hx => hW'.lt x (by simp [hx])
  have hlt1 : ∀ x ∈ p1, x.block < W.heap.size := fun x hx => hW'.lt x (by simp [hx])
  obtain ⟨A0, n0, c0, l0, rfl, hS0, hm0⟩ := open_vols (hval 0 22 v0 rfl rfl) h0 hlt0
  obtain ⟨n1, rfl⟩ := open_argU8 Tryd.underlying5 (hval 1 5 v1 rfl rfl) h1 hlt1
  refine (tabplaces_walk A0 n0 c0 l0 n1 W hS0 hm0 ).mono fun e W' ⟨he, hb⟩ => ?_
  subst he
  exact ⟨_, rfl, [d0, d1], [], _, [], _, [], hW', trodAll_cons_mk (shut_bool Tryd.underlying4 _) trodAll_mk0, trodAll_cons_mk (Below.trod laidOutT (by kernel_rfl) (of_decide_eq_true (by kernel_rfl)) h0 hb hlt0) (trodAll_cons_mk (Below.trod laidOutT (by kernel_rfl) (of_decide_eq_true (by kernel_rfl)) h1 hb hlt1) trodAll_mk0), rfl, hb.frame _, fun h => by cases h⟩

theorem laid_met (os : Os) : laidMet Tryd.prog Rows.tablePlacesRow.laid ((laidWorld os).forCall (fun _ _ => 0) ⟨#[], #[.slice none 0 0, .int .u8 0], []⟩).memory :=
  laidMet_of_run' 8 (by kernel_rfl) (by kernel_rfl)
theorem reads (os : Os) {H : Type} (enc : TypeId × Value → H) : ∃ places, DataW.whole enc Tryd.prog ((laidWorld os).forCall (fun _ _ => 0) ⟨#[], #[.slice none 0 0, .int .u8 0], []⟩).memory Tryd.f5.params.toList Rows.tablePlacesSpec.vars false #[(Value.slice none 0 0), (Value.int .u8 0)].toList 8 = some ([.nil, .lit (.int .u8 0)], [], places) :=
  ⟨[], by kernel_rfl⟩

set_option maxRecDepth 100000 in
theorem lifted (os : Os) (started : os.Started) (H : Type) (enc : TypeId × Value → H) (F : Stop.Interp) :
    ReturnsInHanded {} Tryd.checked os 5 .any ((OpenSpec.ofChange Rows.tablePlacesSpec).preRow enc Tryd.prog Tryd.f5 Rows.tablePlacesRow.domain false Rows.tablePlacesRow.laid) (((OpenSpec.ofChange Rows.tablePlacesSpec).at F).post enc Tryd.prog Tryd.f5 false true false false) := by
  obtain ⟨places, hx⟩ := reads os enc
  refine returnsInHanded_of_row (C := Tryd.checked) (s := OpenSpec.ofChange Rows.tablePlacesSpec) ownK started (by kernel_rfl) Tryd.func5
    (witness_row_at (enc := enc) (C := Tryd.checked) false (laidWorld os) #[.slice none 0 0, .int .u8 0] rfl (by kernel_rfl) (by kernel_rfl) (by kernel_rfl)
      (OpenSpec.preRow_of_cond 8 hx (by kernel_rfl) (fun k hk => by cases hk) (by kernel_rfl) (laid_met os))) ?_
  intro W base args ds gs before hval hW _ _ _ hL _ _
  exact contract H enc W base args ds gs before hval hW hL

theorem said : Rows.TablePlacesSaid :=
  OpenClaim.holds_of_cond 5 Tryd.f5 rfl rfl rfl rfl rfl rfl rfl ⟨rfl, rfl, rfl, rfl, rfl⟩ rfl rfl rfl rfl rfl (by kernel_rfl) Tryd.func5 (by kernel_rfl)
    (of_decide_eq_true (by kernel_rfl)) (by unfold Func.isWrapper; first | (rw [if_pos (by decide +kernel)]; kernel_rfl) | (rw [if_neg (by decide +kernel)]; exact ⟨rfl, rfl⟩))
    (fun os started H enc _ F => by rw [OpenClaim.pre_eq_preRow]; exact lifted os started H enc F)

theorem plain (f : FuncId) (fn : Func) (hf : Tryd.pinned.checked.prog.funcNamed Rows.tablePlacesRow.func = some f) (hfn : Tryd.pinned.checked.prog.funcs[f]? = some fn) :
    false = Tryd.pinned.checked.prog.looks [] ∧ ∀ (j : Nat) t, fn.params[j]? = some t → Tryd.pinned.checked.prog.wantsStandIn t = false := by
  obtain rfl : f = 5 := Option.some.inj ((show Tryd.prog.funcNamed Rows.tablePlacesRow.func = some 5 by kernel_rfl).symm.trans hf) |>.symm
  obtain rfl : fn = Tryd.f5 := (Option.some.inj (Tryd.func5.symm.trans hfn)).symm
  refine ⟨by kernel_rfl, fun j t ht => ?_⟩
  rw [Tryd.params5] at ht
  have hm : t = 22 ∨ t = 5 := by simpa using Array.mem_of_getElem? ht
  rcases hm with rfl | rfl
  · exact (show Tryd.prog.wantsStandIn 22 = false by kernel_rfl)
  · exact (show Tryd.prog.wantsStandIn 5 = false by kernel_rfl)

theorem card : Rows.TablePlacesCardSaid :=
  Claim7.holds_tied_plain_at .later [] _ _ _ _ said (fun _ h => by cases h) (by kernel_rfl) (fun _ h => by cases h) tablePlaces_row_tie rfl ⟨rfl, rfl⟩ (by kernel_rfl) rfl plain (by kernel_rfl)
end Go.Proofs.YtpmedgibnnonkaaDoor.tablePlaces
