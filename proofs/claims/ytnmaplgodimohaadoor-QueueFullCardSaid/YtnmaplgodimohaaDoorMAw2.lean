/- Merged: QueFn QueZero QueWk QueWl QueRep QuNone. -/
import Derived.Laws.StructEq
import Derived.Test.YtnmaplgodimohaaDoorMAw1
import Derived.Test.YtnmaplgodimohaaDoorMGen0
/- What waits: its functions. -/
set_option maxRecDepth 4000
namespace Go.Proofs.YtnmaplgodimohaaDoor
open Go Go.RowKit
theorem quelen_any (g : Nat) (A : Option Addr) (n c : Nat) (w : World) (hr : Row w g 27 #[.slice A n c]) : Calls Tryd.prog 19 #[.pointer (some ⟨g, 0, none⟩)] w fun x w' => x = .returned (.int .i64 (n : Int)) ∧ Below w.heap.size w w' := by
  have HS := St.nil w noF
  have HR : ∀ W, Below w.heap.size w W → Row W g 27 #[.slice A n c] := fun W hb => hr.call hb
  refine enter_en Tryd.func19 rfl Tryd.ntmps19 (Nat.le_of_ble_eq_true rfl) fun a0 (HA0 : En 10 [(0, .pointer (some ⟨g, 0, none⟩))] a0) => ?_
  refine sq_ <| rl_ <| wl_ <| p_ HA0 rfl rfl fun _ H1 => ln_ <| nx <| sq_ <| sq_ <| rl_ <| wl_ <| p_ H1 rfl rfl fun _ H2 => wl_ <| i_ H2 rfl (v := .bool false) (dd_eqp rfl (H2.ev 3 rfl) rfl Tryd.underlying24 rfl) fun _ H3 => ln_ <| nx <| cf_ H3 rfl <| wp_skip <| nx <| sq_ <| rl_ <| wl_ <| p_ H3 rfl rfl fun _ H4 => wl_ <| i_ H4 rfl (dd_nilc rfl (H4.ev 5 rfl)) fun _ H5 => wl_ <| i_ H5 rfl (xf 0 0 rfl (H5.ev 6 rfl)) fun _ H6 => wl_ <| i_ H6 rfl (dd_getR (HR _ HS.below) rfl (H6.ev 7 rfl) rfl Tryd.underlying25 rfl) fun _ H7 => wl_ <| i_ H7 rfl (v := .int .i64 n) (dd_len rfl (H7.ev 8 rfl) Tryd.underlying25) fun _ H8 => ?_
  clear HA0 H1 H2 H3 H4 H5 H6
  refine wl_ <| p_ H8 rfl rfl fun _ H9 => ln_ <| nx <| wp_ret <| ret_run H9.env0 (res_t Tryd.results19 (H9.get 2 rfl)) <| ?_
  clear H7 H8
  exact ⟨rfl, HS.below⟩
theorem quehead_some (g b o n c : Nat) (X : List It) (w : World) (hr : Row w g 27 #[.slice (some ⟨b, o, none⟩) n c]) (hi : ItemsAt w (some ⟨b, o, none⟩) n c X) (h0 : CAt w b o (itemsL X)) (hn : 0 < n) : Calls Tryd.prog 18 #[.pointer (some ⟨g, 0, none⟩)] w fun x w' => ∃ y, X[0]? = some y ∧ x = .returned (.tuple #[.agg (catA [[.int .i64 y.1], [.int .i64 y.2.1], [.string (strB y.2.2.1)], [.int .i64 y.2.2.2.1], bytesV y.2.2.2.2]), .bool true]) ∧ Below w.heap.size w w' := by
  have HS := St.nil w noF
  have HR : ∀ W, Below w.heap.size w W → Row W g 27 #[.slice (some ⟨b, o, none⟩) n c] := fun W hb => hr.call hb
  have HE : ∀ W, Below w.heap.size w W → CAt W b o (itemsL X) := fun W hb => h0.call hb
  refine enter_en Tryd.func18 rfl Tryd.ntmps18 (Nat.le_of_ble_eq_true rfl) fun a0 (HA0 : En 14 [(0, .pointer (some ⟨g, 0, none⟩))] a0) => ?_
  refine sq_ <| rl_ <| wl_ <| n_ HA0 rfl (fun _ h => dd_new HS (catA [[.int .i64 0], [.int .i64 0], [.string (⟨#[]⟩)], [.int .i64 0], bytesV (zer 32)]) rfl (z := .agg (catA [[.int .i64 0], [.int .i64 0], [.string (⟨#[]⟩)], [.int .i64 0], bytesV (zer 32)])) (by kernel_rfl) rfl h) fun _ W1 HS1 _ H1 => wl_ <| p_ H1 rfl rfl fun _ H2 => ln_ <| nx <| sq_ <| sq_ <| rl_ <| wl_ <| p_ H2 rfl rfl fun _ H3 => wl_ <| c_ H3 rfl HS1 (dcs Tryd.func19 rfl (args1 (H3.ev 4 rfl)) (quelen_any g _ _ _ W1 (HR _ HS1.below)) (.int .i64 n)) fun _ HS4 _ H4 => wl_ <| i_ H4 rfl (dd_cmp rfl (H4.ev 5 rfl) rfl (eq_f (by omega))) fun _ H5 => ln_ <| nx <| cf_ H5 rfl <| wp_skip <| nx <| sq_ <| rl_ <| wl_ <| p_ H5 rfl rfl fun _ H6 => wl_ <| i_ H6 rfl (dd_nilc rfl (H6.ev 8 rfl)) fun _ H7 => wl_ <| i_ H7 rfl (xf 0 0 rfl (H7.ev 9 rfl)) fun _ H8 => ?_
  clear HS HA0 H1 H2 H3 HS1 H4 H5 H6
  refine wl_ <| i_ H8 rfl (dd_getR (HR _ HS4.below) rfl (H8.ev 10 rfl) rfl Tryd.underlying25 rfl) fun _ H9 => wl_ <| i_ H9 rfl (xSo 36 (o + 0 * 36) rfl (H9.ev 11 rfl) rfl) fun _ H10 => ?_
  clear H7 H8 H9
  obtain ⟨x0, hx0⟩ : ∃ x, X[0]? = some x := ⟨_, List.getElem?_eq_getElem (by rw [hi.len]; omega)⟩
  have hw0 := hi.wf x0 (List.mem_of_getElem? hx0)
  refine wl_ <| i_ H10 rfl (v := .agg (catA [[.int .i64 x0.1], [.int .i64 x0.2.1], [.string (strB x0.2.2.1)], [.int .i64 x0.2.2.2.1], bytesV x0.2.2.2.2])) (dd_atN rfl (H10.ev 12 rfl) (item_all (HE _ HS4.below) hi.wf hx0) Tryd.underlying40 rfl (by show _ = some (catA [[.int .i64 x0.1], [.int .i64 x0.2.1], [.string (strB x0.2.2.1)], [.int .i64 x0.2.2.2.1], bytesV x0.2.2.2.2]).toList.length; rw [show (catA [[.int .i64 x0.1], [.int .i64 x0.2.1], [.string (strB x0.2.2.1)], [.int .i64 x0.2.2.2.1], bytesV x0.2.2.2.2]).toList.length = 36 from (Array.length_toList).trans (cat_size (lens_cons rfl (lens_cons rfl (lens_cons rfl (lens_cons rfl (lens_cons (len_bv hw0) (lens_nil)))))))]; kernel_rfl)) fun _ H11 => wl_ <| t_ rfl (fun _ h => dd_setrow HS4 0 rfl rfl (H11.ev 2 rfl) (H11.ev 13 rfl) (by kernel_rfl) ((cat_size (lens_cons rfl (lens_cons rfl (lens_cons rfl (lens_cons rfl (lens_cons (len_bv hw0) (lens_nil))))))) : (catA [[.int .i64 x0.1], [.int .i64 x0.2.1], [.string (strB x0.2.2.1)], [.int .i64 x0.2.2.2.1], bytesV x0.2.2.2.2]).size = 36) ((cat_size (lens_cons rfl (lens_cons rfl (lens_cons rfl (lens_cons rfl (lens_cons (len_bv (length_zer 32)) (lens_nil))))))) : (catA [[.int .i64 0], [.int .i64 0], [.string (⟨#[]⟩)], [.int .i64 0], bytesV (zer 32)]).size = 36) (cat_one (ones_cons (ones_c rfl) (ones_cons (ones_c rfl) (ones_cons (ones_c rfl) (ones_cons (ones_c rfl) (ones_cons (one_bytesV _) (ones_nil))))))) h) fun _ HS12 => wl_ <| p_ H11 rfl rfl fun _ H13 => ln_ <| nx <| wp_ret <| ret_run H13.env0 (res_ct Tryd.results18 (H13.get 2 rfl) (HS12.row 0 rfl) Tryd.underlying40 rfl (by rw [show (catA [[.int .i64 x0.1], [.int .i64 x0.2.1], [.string (strB x0.2.2.1)], [.int .i64 x0.2.2.2.1], bytesV x0.2.2.2.2]).size = 36 from (cat_size (lens_cons rfl (lens_cons rfl (lens_cons rfl (lens_cons rfl (lens_cons (len_bv hw0) (lens_nil)))))))]; kernel_rfl) (H13.get 3 rfl)) <| ?_
  clear H10 HS4 H11
  exact ⟨x0, hx0, rfl, HS12.below⟩
theorem quepop_some (F : Nat → Prop) (g b o n c : Nat) (w : World) (HS : St w F [⟨g, 27, #[.slice (some ⟨b, o, none⟩) n c]⟩] w) (hn : 0 < n) (hc : 1 < c) (_ : n ≤ c) : Calls Tryd.prog 13 #[.pointer (some ⟨g, 0, none⟩)] w fun x w' => x = .returned (.bool true) ∧ St w F [⟨g, 27, #[.slice (some ⟨b, o + 36, none⟩) (n - 1) (c - 1)]⟩] w' := by
  refine enter_en Tryd.func13 rfl Tryd.ntmps13 (Nat.le_of_ble_eq_true rfl) fun a0 (HA0 : En 14 [(0, .pointer (some ⟨g, 0, none⟩))] a0) => ?_
  refine sq_ <| rl_ <| wl_ <| p_ HA0 rfl rfl fun _ H1 => ln_ <| nx <| sq_ <| sq_ <| rl_ <| wl_ <| p_ H1 rfl rfl fun _ H2 => wl_ <| c_ H2 rfl HS (dcs Tryd.func19 rfl (args1 (H2.ev 3 rfl)) (quelen_any g _ _ _ w (HS.row 0 rfl)) (.int .i64 n)) fun _ HS3 _ H3 => wl_ <| i_ H3 rfl (dd_cmp rfl (H3.ev 4 rfl) rfl (eq_f (by omega))) fun _ H4 => ln_ <| nx <| cf_ H4 rfl <| wp_skip <| nx <| sq_ <| rl_ <| q_ H4 2 rfl fun _ H5 => wl_ <| i_ H5 rfl (dd_nilc rfl (H5.ev 7 rfl)) fun _ H6 => wl_ <| i_ H6 rfl (xf 0 0 rfl (H6.ev 8 rfl)) fun _ H7 => wl_ <| i_ H7 rfl (dd_get HS3 0 0 rfl rfl (H7.ev 9 rfl) rfl Tryd.underlying25 rfl) fun _ H8 => ?_
  clear HA0 H1 H2 HS H3 H4 H5 H6
  refine wl_ <| i_ H8 rfl (v := .slice (some ⟨b, o + 36, none⟩) (n - 1) (c - 1)) (dd_sll (l := 1) (sz := 36) (j := o + 36) (n' := n - 1) (c' := c - 1) rfl (H8.ev 10 rfl) rfl (by kernel_rfl) (by omega) (by omega) rfl rfl rfl) fun _ H9 => wl_ <| i_ H9 rfl (dd_nilc rfl (H9.ev 6 rfl)) fun _ H10 => wl_ <| i_ H10 rfl (xf 0 0 rfl (H10.ev 12 rfl)) fun _ H11 => wl_ <| t_ rfl (fun _ h => dd_put (cs := #[.slice (some ⟨b, o + 36, none⟩) (n - 1) (c - 1)]) HS3 0 0 rfl rfl (H11.ev 13 rfl) (H11.ev 11 rfl) (by kernel_rfl) rfl rfl rfl rfl h) fun _ HS12 => ln_ <| nx <| sq_ <| rl_ <| wl_ <| p_ H11 rfl rfl fun _ H13 => ln_ <| nx <| wp_ret <| ret_run H13.env0 (res_t Tryd.results13 (H13.get 2 rfl)) <| ?_
  clear H7 H8 H9 H10 HS3 H11
  exact ⟨rfl, ss HS12 [0]⟩
theorem quepop_none (g : Nat) (A : Option Addr) (c : Nat) (w : World) (hr : Row w g 27 #[.slice A 0 c]) : Calls Tryd.prog 13 #[.pointer (some ⟨g, 0, none⟩)] w fun x w' => x = .returned (.bool false) ∧ Below w.heap.size w w' := by
  have HS := St.nil w noF
  have HR : ∀ W, Below w.heap.size w W → Row W g 27 #[.slice A 0 c] := fun W hb => hr.call hb
  refine enter_en Tryd.func13 rfl Tryd.ntmps13 (Nat.le_of_ble_eq_true rfl) fun a0 (HA0 : En 14 [(0, .pointer (some ⟨g, 0, none⟩))] a0) => ?_
  refine sq_ <| rl_ <| wl_ <| p_ HA0 rfl rfl fun _ H1 => ln_ <| nx <| sq_ <| sq_ <| rl_ <| wl_ <| p_ H1 rfl rfl fun _ H2 => wl_ <| c_ H2 rfl HS (dcs Tryd.func19 rfl (args1 (H2.ev 3 rfl)) (quelen_any g _ _ _ w (HR _ HS.below)) (.int .i64 0)) fun _ HS3 _ H3 => wl_ <| i_ H3 rfl (dd_cmp rfl (H3.ev 4 rfl) rfl (eq_t (by decide))) fun _ H4 => ln_ <| nx <| ct_ H4 rfl <| sq_ <| rl_ <| wl_ <| p_ H4 rfl rfl fun _ H5 => ln_ <| nx <| wp_ret <| tr <| ret_run H5.env0 (res_t Tryd.results13 (H5.get 2 rfl)) <| ?_
  clear HA0 H1 H2 HS H3 H4
  exact ⟨rfl, HS3.below⟩
theorem queadd_full (g : Nat) (A B : Option Addr) (n c m d : Nat) (w : World) (hr : Row w g 27 #[.slice A n c]) (hf : 4 < n + m) (hn : n ≤ 1000) (_ : m ≤ 1000000000) : Calls Tryd.prog 11 #[.pointer (some ⟨g, 0, none⟩), .slice B m d] w fun x w' => x = .returned (.int .i64 19) ∧ Below w.heap.size w w' := by
  have HS := St.nil w noF
  have HR : ∀ W, Below w.heap.size w W → Row W g 27 #[.slice A n c] := fun W hb => hr.call hb
  refine enter_en Tryd.func11 rfl Tryd.ntmps11 (Nat.le_of_ble_eq_true rfl) fun a0 (HA0 : En 26 [(0, .pointer (some ⟨g, 0, none⟩)), (1, .slice B m d)] a0) => ?_
  refine sq_ <| rl_ <| wl_ <| p_ HA0 rfl rfl fun _ H1 => ln_ <| nx <| sq_ <| sq_ <| rl_ <| wl_ <| p_ H1 rfl rfl fun _ H2 => wl_ <| i_ H2 rfl (v := .bool false) (dd_eqp rfl (H2.ev 5 rfl) rfl Tryd.underlying24 rfl) fun _ H3 => ln_ <| nx <| cf_ H3 rfl <| wp_skip <| nx <| sq_ <| sq_ <| rl_ <| wl_ <| p_ H3 rfl rfl fun _ H4 => wl_ <| i_ H4 rfl (v := .int .i64 m) (dd_len rfl (H4.ev 7 rfl) Tryd.underlying25) fun _ H5 => wl_ <| p_ H5 rfl rfl fun _ H6 => wl_ <| i_ H6 rfl (dd_nilc rfl (H6.ev 9 rfl)) fun _ H7 => wl_ <| i_ H7 rfl (xf 0 0 rfl (H7.ev 10 rfl)) fun _ H8 => ?_
  clear HA0 H1 H2 H3 H4 H5 H6
  refine wl_ <| i_ H8 rfl (dd_getR (HR _ HS.below) rfl (H8.ev 11 rfl) rfl Tryd.underlying25 rfl) fun _ H9 => wl_ <| i_ H9 rfl (v := .int .i64 n) (dd_len rfl (H9.ev 12 rfl) Tryd.underlying25) fun _ H10 => wl_ <| i_ H10 rfl (v := .int .i64 (4 - (n : Int))) (dd_ari rfl rfl (H10.ev 13 rfl) rfl (i64_of (by omega) (by omega))) fun _ H11 => wl_ <| i_ H11 rfl (dd_cmp rfl (H11.ev 8 rfl) (H11.ev 14 rfl) (gt_t (by omega))) fun _ H12 => ln_ <| nx <| ct_ H12 rfl <| sq_ <| rl_ <| wl_ <| p_ H12 rfl rfl fun _ H13 => ln_ <| nx <| wp_ret <| tr <| ret_run H13.env0 (res_t Tryd.results11 (H13.get 4 rfl)) <| ?_
  clear H7 H8 H9 H10 H11 H12
  exact ⟨rfl, HS.below⟩
set_option maxHeartbeats 800000 in
theorem queadd_some (F : Nat → Prop) (g : Nat) (A B : Option Addr) (n c m d : Nat) (X Y : List It) (w : World) (HS : St w F [⟨g, 27, #[.slice A n c]⟩] w) (H1 : ∀ W, Chg F w W → ItemsAt W A n c X) (H2 : ∀ W, Chg F w W → ItemsAt W B m d Y) (hf : n + m ≤ 4) (h0 : 0 < n + m) : Calls Tryd.prog 11 #[.pointer (some ⟨g, 0, none⟩), .slice B m d] w fun x w' => ∃ g' c' cb', x = .returned (.int .i64 0) ∧ OwnC cb' c' (n + m) 36 (itemsL (X ++ Y)) ∧ St w F [⟨g, 27, #[.slice (some ⟨g', 0, none⟩) (n + m) c']⟩, ⟨g', 40, cb'⟩] w' := by
  refine enter_en Tryd.func11 rfl Tryd.ntmps11 (Nat.le_of_ble_eq_true rfl) fun a0 (HA0 : En 26 [(0, .pointer (some ⟨g, 0, none⟩)), (1, .slice B m d)] a0) => ?_
  refine sq_ <| rl_ <| wl_ <| p_ HA0 rfl rfl fun _ H1 => ln_ <| nx <| sq_ <| sq_ <| rl_ <| wl_ <| p_ H1 rfl rfl fun _ H2 => wl_ <| i_ H2 rfl (v := .bool false) (dd_eqp rfl (H2.ev 5 rfl) rfl Tryd.underlying24 rfl) fun _ H3 => ln_ <| nx <| cf_ H3 rfl <| wp_skip <| nx <| sq_ <| sq_ <| rl_ <| wl_ <| p_ H3 rfl rfl fun _ H4 => wl_ <| i_ H4 rfl (v := .int .i64 m) (dd_len rfl (H4.ev 7 rfl) Tryd.underlying25) fun _ H5 => wl_ <| p_ H5 rfl rfl fun _ H6 => wl_ <| i_ H6 rfl (dd_nilc rfl (H6.ev 9 rfl)) fun _ H7 => wl_ <| i_ H7 rfl (xf 0 0 rfl (H7.ev 10 rfl)) fun _ H8 => ?_
  clear HA0 H1 H2 H3 H4 H5 H6
  refine wl_ <| i_ H8 rfl (dd_get HS 0 0 rfl rfl (H8.ev 11 rfl) rfl Tryd.underlying25 rfl) fun _ H9 => wl_ <| i_ H9 rfl (v := .int .i64 n) (dd_len rfl (H9.ev 12 rfl) Tryd.underlying25) fun _ H10 => wl_ <| i_ H10 rfl (v := .int .i64 (4 - (n : Int))) (dd_ari rfl rfl (H10.ev 13 rfl) rfl (i64_of (by omega) (by omega))) fun _ H11 => wl_ <| i_ H11 rfl (dd_cmp rfl (H11.ev 8 rfl) (H11.ev 14 rfl) (gt_f (by omega))) fun _ H12 => ln_ <| nx <| cf_ H12 rfl <| wp_skip <| nx <| sq_ <| rl_ <| q_ H12 2 rfl fun _ H13 => wl_ <| i_ H13 rfl (dd_nilc rfl (H13.ev 17 rfl)) fun _ H14 => wl_ <| i_ H14 rfl (xf 0 0 rfl (H14.ev 18 rfl)) fun _ H15 => wl_ <| i_ H15 rfl (dd_get HS 0 0 rfl rfl (H15.ev 19 rfl) rfl Tryd.underlying25 rfl) fun _ H16 => ?_
  clear H7 H8 H9 H10 H11 H12 H13 H14
  refine wl_ <| p_ H16 rfl rfl fun _ H17 => wl_ <| n_ H17 rfl (fun _ h => dd_lits HS #[.slice A n c, .slice B m d] rfl (ps := [(0, .slice A n c), (1, .slice B m d)]) (pr1 (H17.ev 20 rfl) (pr1 (H17.ev 21 rfl) (pr0))) (z := .slice none 0 0) (sz := 1) Tryd.underlying71 (by kernel_rfl) rfl rfl (by kernel_rfl) h) fun g22 W18 HS18 _ H18 => ?_
  clear H15 H16 HS H17
  refine wl_ <| d_ H18 rfl (R := fun v w9 => ∃ gc20 cc20 cbc20, v = .slice (some ⟨gc20, 0, none⟩) (n + m) cc20 ∧ (W18.heap.size ≤ gc20) ∧ (Row w9 gc20 40 cbc20) ∧ (OwnC cbc20 cc20 (n + m) 36 (itemsL (X ++ Y))) ∧ Below W18.heap.size W18 w9) (dc_ Tryd.func23 rfl (args1 (H18.ev 22 rfl)) (concatQ_any _ _ _ _ _ _ _ X Y W18 (HS18.row 1 rfl) (H1 _ HS18.chg) (H2 _ HS18.chg) (by omega) (by omega) (by omega)) (fun _ w9 ⟨g9, c9, cb9, he, h1, h2, h3, hb⟩ => ⟨_, he, g9, c9, cb9, rfl, h1, h2, h3, hb⟩)) ?_
  rintro _ W19 ⟨gc20, cc20, cbc20, rfl, hg20, hr20, Oc20, hb19⟩ a19 H19
  have HS19 := HS18.same hb19
  clear H18
  have HS19j : St w F [⟨g, 27, #[.slice A n c]⟩, ⟨g22, 25, #[.slice A n c, .slice B m d]⟩, ⟨gc20, 40, cbc20⟩] W19 := HS18.joins hb19 hr20 hg20
  clear HS19 hr20 hg20
  clear HS18 hb19
  refine wl_ <| i_ H19 rfl (dd_nilc rfl (H19.ev 16 rfl)) fun _ H21 => wl_ <| i_ H21 rfl (xf 0 0 rfl (H21.ev 24 rfl)) fun _ H22 => wl_ <| t_ rfl (fun _ h => dd_put (cs := #[.slice (some ⟨gc20, 0, none⟩) (n + m) cc20]) HS19j 0 0 rfl rfl (H22.ev 25 rfl) (H22.ev 23 rfl) (by kernel_rfl) rfl rfl rfl rfl h) fun _ HS23 => ln_ <| ?_
  clear H19 H21 HS19j
  have H24 := H22.sel [] rfl
  refine nx <| sq_ <| rl_ <| wl_ <| p_ H24 rfl rfl fun _ H25 => ln_ <| nx <| wp_ret <| ret_run H25.env0 (res_t Tryd.results11 (H25.get 4 rfl)) <| ?_
  clear H22 H24
  exact ⟨gc20, cc20, cbc20, rfl, Oc20, ss HS23 [0, 2]⟩
theorem puts_1 {qb : List (BitVec 8)} {y : It} (h : y.2.1 = 1) : putsE qb y = placeE (decLT qb) y.2.2.1 y.2.2.2.1 ∧ putsP qb y = writeP (decLT qb) y.2.2.1 y.2.2.2.1 y.2.2.2.2 := ⟨if_pos h, if_pos h⟩
theorem puts_2 {qb : List (BitVec 8)} {y : It} (h : y.2.1 = 2) : putsE qb y = makeE (decLT qb) y.2.2.1 y.2.2.2.1 ∧ putsP qb y = makeP (decLT qb) y.2.2.1 y.2.2.2.1 := by
  unfold putsE putsP; rw [if_neg (by omega), if_pos h, if_neg (by omega), if_pos h]; exact ⟨rfl, rfl⟩
theorem puts_3 {qb : List (BitVec 8)} {y : It} (h : y.2.1 = 3) : putsE qb y = goneE (decLT qb) y.2.2.1 ∧ putsP qb y = goneP (decLT qb) y.2.2.1 := by
  unfold putsE putsP; rw [if_neg (by omega), if_neg (by omega), if_pos h, if_neg (by omega), if_neg (by omega), if_pos h]; exact ⟨rfl, rfl⟩
theorem puts_no {qb : List (BitVec 8)} {y : It} (h1 : ¬ y.2.1 = 1) (h2 : ¬ y.2.1 = 2) (h3 : ¬ y.2.1 = 3) : putsE qb y = 1 ∧ putsP qb y = [] := by
  unfold putsE putsP; rw [if_neg h1, if_neg h2, if_neg h3, if_neg h1, if_neg h2, if_neg h3]; exact ⟨rfl, rfl⟩
set_option maxHeartbeats 800000 in
theorem queputs_any (y : It) (qb : List (BitVec 8)) (w : World) (hy : y.2.2.2.2.length = 32) (hqb : qb.length = 32) (hnm : y.2.2.1.length ≤ maxLen) : Calls Tryd.prog 20 #[.agg (catA [[.int .i64 y.1], [.int .i64 y.2.1], [.string (strB y.2.2.1)], [.int .i64 y.2.2.2.1], bytesV y.2.2.2.2]), .agg (bs qb)] w fun x w' => ∃ v, x = .returned (.tuple #[v, .int .i64 (putsE qb y)]) ∧ w'.ownsRow w.heap.size 70 33 v (putsP qb y).length ((putsP qb y).map pcell).flatten ∧ Below w.heap.size w w' := by
  have HS := St.nil w noF
  refine enter_en Tryd.func20 rfl Tryd.ntmps20 (Nat.le_of_ble_eq_true rfl) fun a0 (HA0 : En 38 [(0, .agg (catA [[.int .i64 y.1], [.int .i64 y.2.1], [.string (strB y.2.2.1)], [.int .i64 y.2.2.2.1], bytesV y.2.2.2.2])), (1, .agg (bs qb))] a0) => ?_
  refine sq_ <| rl_ <| wl_ <| n_ HA0 rfl (fun _ h => dd_box HS rfl (HA0.ev 0 rfl) (cs := (catA [[.int .i64 y.1], [.int .i64 y.2.1], [.string (strB y.2.2.1)], [.int .i64 y.2.2.2.1], bytesV y.2.2.2.2])) rfl h) fun _ _ HS1 _ H1 => wl_ <| n_ H1 rfl (fun _ h => dd_box HS1 rfl (H1.ev 1 rfl) (cs := (bs qb)) rfl h) fun _ W2 HS2 _ H2 => q_ H2 2 rfl fun _ H3 => ln_ <| nx <| sq_ <| sq_ <| rl_ <| wl_ <| i_ H3 rfl (xf 1 1 rfl (H3.ev 2 rfl)) fun _ H4 => wl_ <| i_ H4 rfl (dd_get HS2 0 1 rfl rfl (H4.ev 6 rfl) (cat_get (lens_cons rfl (lens_cons rfl (lens_cons rfl (lens_cons rfl (lens_cons (len_bv hy) (lens_nil)))))) 1 rfl rfl) Tryd.underlying3 rfl) fun _ H5 => ln_ <| nx <| wp_block <| sq_ <| rl_ <| ?_
  clear HS HA0 HS1 H1 H2 H3 H4
  by_cases hc7 : (y.2.1 : Int) = 1
  ·
   refine wl_ <| i_ H5 rfl (dd_cmp rfl (H5.ev 7 rfl) rfl (eq_t hc7)) fun _ H8 => wl_ <| p_ H8 rfl rfl fun _ H9 => ln_ <| nx <| ct_ H9 rfl <| sq_ <| rl_ <| wl_ <| i_ H9 rfl (v := .agg (bs qb)) (dd_load HS2 1 0 rfl rfl (H9.ev 3 rfl) (slab_whole _) Tryd.underlying36 rfl (by rw [show (bs qb).size = 32 from ((size_bs _).trans hqb)]; kernel_rfl)) fun _ H10 => wl_ <| i_ H10 rfl (xf 2 2 rfl (H10.ev 2 rfl)) fun _ H11 => wl_ <| i_ H11 rfl (dd_get HS2 0 2 rfl rfl (H11.ev 11 rfl) (cat_get (lens_cons rfl (lens_cons rfl (lens_cons rfl (lens_cons rfl (lens_cons (len_bv hy) (lens_nil)))))) 2 rfl rfl) Tryd.underlying9 rfl) fun _ H12 => wl_ <| i_ H12 rfl (xf 3 3 rfl (H12.ev 2 rfl)) fun _ H13 => wl_ <| i_ H13 rfl (dd_get HS2 0 3 rfl rfl (H13.ev 13 rfl) (cat_get (lens_cons rfl (lens_cons rfl (lens_cons rfl (lens_cons rfl (lens_cons (len_bv hy) (lens_nil)))))) 3 rfl rfl) Tryd.underlying3 rfl) fun _ H14 => wl_ <| i_ H14 rfl (xf 4 4 rfl (H14.ev 2 rfl)) fun _ H15 => ?_
   clear H5 H8 H9 H10 H11 H12 H13
   refine wl_ <| i_ H15 rfl (v := .agg (bs y.2.2.2.2)) (dd_load HS2 0 4 rfl rfl (H15.ev 15 rfl) (cat_slab1 (lens_cons rfl (lens_cons rfl (lens_cons rfl (lens_cons rfl (lens_cons (len_bv hy) (lens_nil)))))) 4 rfl rfl) Tryd.underlying36 rfl (by rw [show (bs y.2.2.2.2).size = 32 from ((size_bs _).trans hy)]; kernel_rfl)) fun _ H16 => ?_
   clear H14 H15
   refine wl_ <| d_ H16 rfl (R := fun v w9 => ∃ vp, v = .tuple #[vp, .int .i64 (placeE (decLT qb) y.2.2.1 y.2.2.2.1)] ∧ (w9.ownsRow W2.heap.size 70 33 vp (writeP (decLT qb) y.2.2.1 y.2.2.2.1 y.2.2.2.2).length ((writeP (decLT qb) y.2.2.1 y.2.2.2.1 y.2.2.2.2).map pcell).flatten) ∧ Below W2.heap.size W2 w9) (dc_ Tryd.func24 rfl (args4 (H16.ev 10 rfl) (H16.ev 12 rfl) (H16.ev 14 rfl) (H16.ev 16 rfl)) (write_any qb y.2.2.1 y.2.2.2.2 y.2.2.2.1 W2 hqb hy) (fun _ w9 ⟨v9, he, ho, hb⟩ => ⟨_, he, v9, rfl, ho, hb⟩)) ?_
   rintro _ W17 ⟨vp, rfl, hp, hb17⟩ a17 H17
   have HS17 := HS2.same hb17
   clear H16
   have hbw := HS2.below
   clear HS2 hb17
   refine wl_ <| i_ H17 rfl (v := vp) (dd_ext rfl (H17.ev 17 rfl) rfl) fun _ H19 => wl_ <| i_ H19 rfl (v := .int .i64 (placeE (decLT qb) y.2.2.1 y.2.2.2.1)) (dd_ext rfl (H19.ev 17 rfl) rfl) fun _ H20 => q_ H20 2 rfl fun _ H21 => ln_ <| ?_
   clear H17 H19 H20
   have H22 := H21.sel [4, 5] rfl
   refine nx <| wp_ret <| br_ <| tr <| ret_run H22.env0 (res_tt Tryd.results20 (H22.get 4 rfl) (H22.get 5 rfl)) <| ?_
   clear H21
   have hE := puts_1 (qb := qb) hc7
   exact ⟨vp, by rw [hE.1], by rw [hE.2]; exact own_mono hp hbw.size, HS17.below⟩
  refine wl_ <| i_ H5 rfl (dd_cmp rfl (H5.ev 7 rfl) rfl (eq_f hc7)) fun _ H23 => wl_ <| p_ H23 rfl rfl fun _ H24 => ln_ <| nx <| cf_ H24 rfl <| sq_ <| rl_ <| ?_
  clear H5 H23
  by_cases hc26 : (y.2.1 : Int) = 2
  ·
   refine wl_ <| i_ H24 rfl (dd_cmp rfl (H24.ev 7 rfl) rfl (eq_t hc26)) fun _ H27 => wl_ <| p_ H27 rfl rfl fun _ H28 => ln_ <| nx <| ct_ H28 rfl <| sq_ <| rl_ <| wl_ <| i_ H28 rfl (v := .agg (bs qb)) (dd_load HS2 1 0 rfl rfl (H28.ev 3 rfl) (slab_whole _) Tryd.underlying36 rfl (by rw [show (bs qb).size = 32 from ((size_bs _).trans hqb)]; kernel_rfl)) fun _ H29 => wl_ <| i_ H29 rfl (xf 2 2 rfl (H29.ev 2 rfl)) fun _ H30 => wl_ <| i_ H30 rfl (dd_get HS2 0 2 rfl rfl (H30.ev 23 rfl) (cat_get (lens_cons rfl (lens_cons rfl (lens_cons rfl (lens_cons rfl (lens_cons (len_bv hy) (lens_nil)))))) 2 rfl rfl) Tryd.underlying9 rfl) fun _ H31 => wl_ <| i_ H31 rfl (xf 3 3 rfl (H31.ev 2 rfl)) fun _ H32 => wl_ <| i_ H32 rfl (dd_get HS2 0 3 rfl rfl (H32.ev 25 rfl) (cat_get (lens_cons rfl (lens_cons rfl (lens_cons rfl (lens_cons rfl (lens_cons (len_bv hy) (lens_nil)))))) 3 rfl rfl) Tryd.underlying3 rfl) fun _ H33 => ?_
   clear H24 H27 H28 H29 H30 H31 H32
   refine wl_ <| d_ H33 rfl (R := fun v w9 => ∃ vp, v = .tuple #[vp, .int .i64 (makeE (decLT qb) y.2.2.1 y.2.2.2.1)] ∧ (w9.ownsRow W2.heap.size 70 33 vp (makeP (decLT qb) y.2.2.1 y.2.2.2.1).length ((makeP (decLT qb) y.2.2.1 y.2.2.2.1).map pcell).flatten) ∧ Below W2.heap.size W2 w9) (dc_ Tryd.func25 rfl (args3 (H33.ev 22 rfl) (H33.ev 24 rfl) (H33.ev 26 rfl)) (make_any qb y.2.2.1 y.2.2.2.1 W2 hqb hnm) (fun _ w9 ⟨v9, he, ho, hb⟩ => ⟨_, he, v9, rfl, ho, hb⟩)) ?_
   rintro _ W34 ⟨vp, rfl, hp, hb34⟩ a34 H34
   have HS34 := HS2.same hb34
   clear H33
   have hbw := HS2.below
   clear HS2 hb34
   refine wl_ <| i_ H34 rfl (v := vp) (dd_ext rfl (H34.ev 27 rfl) rfl) fun _ H36 => wl_ <| i_ H36 rfl (v := .int .i64 (makeE (decLT qb) y.2.2.1 y.2.2.2.1)) (dd_ext rfl (H36.ev 27 rfl) rfl) fun _ H37 => q_ H37 2 rfl fun _ H38 => ln_ <| ?_
   clear H34 H36 H37
   have H39 := H38.sel [4, 5] rfl
   refine nx <| wp_ret <| br_ <| tr <| ret_run H39.env0 (res_tt Tryd.results20 (H39.get 4 rfl) (H39.get 5 rfl)) <| ?_
   clear H38
   have hE := puts_2 (qb := qb) hc26
   exact ⟨vp, by rw [hE.1], by rw [hE.2]; exact own_mono hp hbw.size, HS34.below⟩
  refine wl_ <| i_ H24 rfl (dd_cmp rfl (H24.ev 7 rfl) rfl (eq_f hc26)) fun _ H40 => wl_ <| p_ H40 rfl rfl fun _ H41 => ln_ <| nx <| cf_ H41 rfl <| sq_ <| rl_ <| ?_
  clear H24 H40
  by_cases hc43 : (y.2.1 : Int) = 3
  ·
   refine wl_ <| i_ H41 rfl (dd_cmp rfl (H41.ev 7 rfl) rfl (eq_t hc43)) fun _ H44 => wl_ <| p_ H44 rfl rfl fun _ H45 => ln_ <| nx <| ct_ H45 rfl <| sq_ <| rl_ <| wl_ <| i_ H45 rfl (v := .agg (bs qb)) (dd_load HS2 1 0 rfl rfl (H45.ev 3 rfl) (slab_whole _) Tryd.underlying36 rfl (by rw [show (bs qb).size = 32 from ((size_bs _).trans hqb)]; kernel_rfl)) fun _ H46 => wl_ <| i_ H46 rfl (xf 2 2 rfl (H46.ev 2 rfl)) fun _ H47 => wl_ <| i_ H47 rfl (dd_get HS2 0 2 rfl rfl (H47.ev 33 rfl) (cat_get (lens_cons rfl (lens_cons rfl (lens_cons rfl (lens_cons rfl (lens_cons (len_bv hy) (lens_nil)))))) 2 rfl rfl) Tryd.underlying9 rfl) fun _ H48 => ?_
   clear H41 H44 H45 H46 H47
   refine wl_ <| d_ H48 rfl (R := fun v w9 => ∃ vp, v = .tuple #[vp, .int .i64 (goneE (decLT qb) y.2.2.1)] ∧ (w9.ownsRow W2.heap.size 70 33 vp (goneP (decLT qb) y.2.2.1).length ((goneP (decLT qb) y.2.2.1).map pcell).flatten) ∧ Below W2.heap.size W2 w9) (dc_ Tryd.func26 rfl (args2 (H48.ev 32 rfl) (H48.ev 34 rfl)) (gone_any qb y.2.2.1 W2 hqb) (fun _ w9 ⟨v9, he, ho, hb⟩ => ⟨_, he, v9, rfl, ho, hb⟩)) ?_
   rintro _ W49 ⟨vp, rfl, hp, hb49⟩ a49 H49
   have HS49 := HS2.same hb49
   clear H48
   have hbw := HS2.below
   clear HS2 hb49
   refine wl_ <| i_ H49 rfl (v := vp) (dd_ext rfl (H49.ev 35 rfl) rfl) fun _ H51 => wl_ <| i_ H51 rfl (v := .int .i64 (goneE (decLT qb) y.2.2.1)) (dd_ext rfl (H51.ev 35 rfl) rfl) fun _ H52 => q_ H52 2 rfl fun _ H53 => ln_ <| ?_
   clear H49 H51 H52
   have H54 := H53.sel [4, 5] rfl
   refine nx <| wp_ret <| br_ <| tr <| ret_run H54.env0 (res_tt Tryd.results20 (H54.get 4 rfl) (H54.get 5 rfl)) <| ?_
   clear H53
   have hE := puts_3 (qb := qb) hc43
   exact ⟨vp, by rw [hE.1], by rw [hE.2]; exact own_mono hp hbw.size, HS49.below⟩
  refine wl_ <| i_ H41 rfl (dd_cmp rfl (H41.ev 7 rfl) rfl (eq_f hc43)) fun _ H55 => wl_ <| p_ H55 rfl rfl fun _ H56 => ln_ <| nx <| cf_ H56 rfl <| wp_skip <| bn <| nx <| sq_ <| rl_ <| q_ H56 2 rfl fun _ H57 => ln_ <| nx <| wp_ret <| ret_run H57.env0 (res_tt Tryd.results20 (H57.get 4 rfl) (H57.get 5 rfl)) <| ?_
  clear H41 H55 H56
  have hE := puts_no (qb := qb) hc7 hc26 hc43
  exact ⟨_, by rw [hE.1], by rw [hE.2]; exact World.ownsRow_nil _ _ _ _, HS2.below⟩
end Go.Proofs.YtnmaplgodimohaaDoor

/- The concat of two empty slices; nothing that is added to nothing. -/
set_option maxRecDepth 4000
namespace Go.Proofs.YtnmaplgodimohaaDoor
open Go Go.RowKit
theorem dd_appZ {P : Program} {o : Oper} {a : Act} {w : World} {e t : TypeId} {s x : Operand} {A : Option Addr} {c2 sz : Nat} (ho : o.op = .call { callee := .builtin .append, args := #[s, x], argTypes := #[t, t] }) (hs : a.eval s = .slice none 0 0) (hx : a.eval x = .slice A 0 c2) (ht : P.underlying t = some (.slice e)) (hi : (P.info? e).map (fun i => i.size) = some sz) : (execOp a.eval o).run P w = .ok (.value (.slice none 0 0)) w := by
  obtain ⟨i, hi1, hi2⟩ := Option.map_eq_some_iff.1 hi
  cases A <;> simp [execOp, ho, resolve, invoke, builtin, hs, hx, Builtin.append_, run_underlying ht, sizeOf, typeInfo, hi1, Builtin.lenOf, Builtin.firstCells, loadCells, loadCellsFrom]
theorem growQ_nil (w : World) : Calls Tryd.prog 30 #[.slice none 0 0, .int .i64 0] w fun x w' => x = .returned (.slice none 0 0) ∧ Below w.heap.size w w' := by
  have HS := St.nil w noF
  refine enter_en Tryd.func30 rfl Tryd.ntmps30 (Nat.le_of_ble_eq_true rfl) fun a0 (HA0 : En 27 [(0, .slice none 0 0), (1, .int .i64 0)] a0) => ?_
  refine sq_ <| rl_ <| wl_ <| p_ HA0 rfl rfl fun _ H1 => ln_ <| nx <| sq_ <| sq_ <| rl_ <| wl_ <| p_ H1 rfl rfl fun _ H2 => wl_ <| i_ H2 rfl (dd_cmp rfl (H2.ev 5 rfl) rfl (lt_f (by decide))) fun _ H3 => ln_ <| nx <| cf_ H3 rfl <| wp_skip <| nx <| sq_ <| sq_ <| rl_ <| q_ H3 2 rfl fun _ H4 => wl_ <| i_ H4 rfl (v := .int .i64 0) (dd_cap rfl (H4.ev 9 rfl) Tryd.underlying25) fun _ H5 => wl_ <| p_ H5 rfl rfl fun _ H6 => wl_ <| i_ H6 rfl (v := .int .i64 0) (dd_len rfl (H6.ev 11 rfl) Tryd.underlying25) fun _ H7 => wl_ <| i_ H7 rfl (v := .int .i64 0) (dd_ari rfl (H7.ev 10 rfl) (H7.ev 12 rfl) rfl (by decide)) fun _ H8 => ?_
  clear HA0 H1 H2 H3 H4 H5 H6
  refine wl_ <| i_ H8 rfl (v := .int .i64 0) (dd_ari rfl (H8.ev 8 rfl) (H8.ev 13 rfl) rfl (by decide)) fun _ H9 => wl_ <| p_ H9 rfl rfl fun _ H10 => ln_ <| nx <| sq_ <| rl_ <| wl_ <| p_ H10 rfl rfl fun _ H11 => wl_ <| i_ H11 rfl (dd_cmp rfl (H11.ev 15 rfl) rfl (gt_f (by decide))) fun _ H12 => ln_ <| nx <| cf_ H12 rfl <| wp_skip <| nx <| sq_ <| rl_ <| q_ H12 2 rfl fun _ H13 => ln_ <| nx <| wp_ret <| ret_run H13.env0 (res_t Tryd.results30 (H13.get 4 rfl)) <| ?_
  clear H7 H8 H9 H10 H11 H12
  exact ⟨rfl, HS.below⟩
set_option maxHeartbeats 800000 in
theorem concatQ_nil (g : Nat) (A1 A2 : Option Addr) (c1 c2 : Nat) (w : World) (hr : Row w g 25 #[.slice A1 0 c1, .slice A2 0 c2]) : Calls Tryd.prog 23 #[.slice (some ⟨g, 0, none⟩) 2 2] w fun x w' => x = .returned (.slice none 0 0) ∧ Below w.heap.size w w' := by
  have HS := St.nil w noF
  have HR : ∀ W, Below w.heap.size w W → Row W g 25 #[.slice A1 0 c1, .slice A2 0 c2] := fun W hb => hr.call hb
  refine enter_en Tryd.func23 rfl Tryd.ntmps23 (Nat.le_of_ble_eq_true rfl) fun a0 (HA0 : En 36 [(0, .slice (some ⟨g, 0, none⟩) 2 2)] a0) => ?_
  refine sq_ <| rl_ <| wl_ <| p_ HA0 rfl rfl fun _ H1 => ln_ <| nx <| sq_ <| rl_ <| wl_ <| p_ H1 rfl rfl fun _ H2 => ln_ <| nx <| sq_ <| sq_ <| rl_ <| wl_ <| p_ H2 rfl rfl fun _ H3 => wl_ <| i_ H3 rfl (v := .int .i64 2) (dd_len rfl (H3.ev 9 rfl) Tryd.underlying71) fun _ H4 => wl_ <| p_ H4 rfl rfl fun _ H5 => ln_ <| nx <| wp_block <| wp_unr 3 <| unr_go <| sq_ <| rl_ <| wl_ <| i_ H5 rfl (dd_cmp rfl (H5.ev 11 rfl) (H5.ev 10 rfl) (lt_t (by decide))) fun _ H6 => ln_ <| nx <| sq_ <| ct_ H6 rfl <| wp_skip <| nx <| sq_ <| wp_block <| sq_ <| rl_ <| wl_ <| i_ H6 rfl (xS 1 0 rfl (H6.ev 9 rfl) (H6.ev 11 rfl)) fun _ H7 => wl_ <| i_ H7 rfl (dd_getR (HR _ HS.below) rfl (H7.ev 13 rfl) rfl Tryd.underlying25 rfl) fun _ H8 => ?_
  clear HA0 H1 H2 H3 H4 H5 H6
  refine wl_ <| p_ H8 rfl rfl fun _ H9 => ln_ <| nx <| sq_ <| rl_ <| q_ H9 2 rfl fun _ H10 => wl_ <| i_ H10 rfl (v := .int .i64 0) (dd_len rfl (H10.ev 16 rfl) Tryd.underlying25) fun _ H11 => wl_ <| i_ H11 rfl (v := .int .i64 0) (dd_ari rfl (H11.ev 15 rfl) (H11.ev 17 rfl) rfl (by decide)) fun _ H12 => wl_ <| p_ H12 rfl rfl fun _ H13 => ln_ <| nx <| sq_ <| rl_ <| wl_ <| p_ H13 rfl rfl fun _ H14 => wl_ <| i_ H14 rfl (dd_cmp rfl (H14.ev 19 rfl) rfl (lt_f (by decide))) fun _ H15 => ln_ <| nx <| cf_ H15 rfl <| wp_skip <| bn <| nx <| rl_ <| wl_ <| i_ H15 rfl (v := .int .i64 1) (dd_ari rfl (H15.ev 11 rfl) rfl rfl (by decide)) fun _ H16 => ?_
  clear H7 H8 H9 H10 H11 H12 H13 H14
  refine wl_ <| p_ H16 rfl rfl fun _ H17 => ln_ <| nx <| unr_go <| sq_ <| rl_ <| wl_ <| i_ H17 rfl (dd_cmp rfl (H17.ev 11 rfl) (H17.ev 10 rfl) (lt_t (by decide))) fun _ H18 => ln_ <| nx <| sq_ <| ct_ H18 rfl <| wp_skip <| nx <| sq_ <| wp_block <| sq_ <| rl_ <| wl_ <| i_ H18 rfl (xS 1 1 rfl (H18.ev 9 rfl) (H18.ev 11 rfl)) fun _ H19 => wl_ <| i_ H19 rfl (dd_getR (HR _ HS.below) rfl (H19.ev 13 rfl) rfl Tryd.underlying25 rfl) fun _ H20 => wl_ <| p_ H20 rfl rfl fun _ H21 => ln_ <| nx <| sq_ <| rl_ <| q_ H21 2 rfl fun _ H22 => wl_ <| i_ H22 rfl (v := .int .i64 0) (dd_len rfl (H22.ev 16 rfl) Tryd.underlying25) fun _ H23 => wl_ <| i_ H23 rfl (v := .int .i64 0) (dd_ari rfl (H23.ev 15 rfl) (H23.ev 17 rfl) rfl (by decide)) fun _ H24 => ?_
  clear H15 H16 H17 H18 H19 H20 H21 H22
  refine wl_ <| p_ H24 rfl rfl fun _ H25 => ln_ <| nx <| sq_ <| rl_ <| wl_ <| p_ H25 rfl rfl fun _ H26 => wl_ <| i_ H26 rfl (dd_cmp rfl (H26.ev 19 rfl) rfl (lt_f (by decide))) fun _ H27 => ln_ <| nx <| cf_ H27 rfl <| wp_skip <| bn <| nx <| rl_ <| wl_ <| i_ H27 rfl (v := .int .i64 2) (dd_ari rfl (H27.ev 11 rfl) rfl rfl (by decide)) fun _ H28 => wl_ <| p_ H28 rfl rfl fun _ H29 => ln_ <| nx <| unr_go <| sq_ <| rl_ <| wl_ <| i_ H29 rfl (dd_cmp rfl (H29.ev 11 rfl) (H29.ev 10 rfl) (lt_f (by decide))) fun _ H30 => ln_ <| nx <| sq_ <| cf_ H30 rfl <| wp_exit <| tx <| tx <| bx <| nx <| sq_ <| rl_ <| wl_ <| p_ H30 rfl rfl fun _ H31 => wl_ <| c_ H31 rfl HS (dcs Tryd.func30 rfl (args2 (show _ = (.slice none 0 0 : Value) from rfl) (H31.ev 23 rfl)) (growQ_nil w) (.slice none 0 0)) fun _ HS32 _ H32 => ?_
  clear H23 H24 H25 H26 H27 H28 H29 H30
  refine wl_ <| p_ H32 rfl rfl fun _ H33 => ln_ <| ?_
  clear H31 HS H32
  have H34 := H33.sel [0, 6] rfl
  refine nx <| sq_ <| sq_ <| rl_ <| wl_ <| p_ H34 rfl rfl fun _ H35 => wl_ <| i_ H35 rfl (v := .int .i64 2) (dd_len rfl (H35.ev 25 rfl) Tryd.underlying71) fun _ H36 => wl_ <| p_ H36 rfl rfl fun _ H37 => ln_ <| nx <| wp_block <| wp_unr 3 <| unr_go <| sq_ <| rl_ <| wl_ <| i_ H37 rfl (dd_cmp rfl (H37.ev 27 rfl) (H37.ev 26 rfl) (lt_t (by decide))) fun _ H38 => ln_ <| nx <| sq_ <| ct_ H38 rfl <| wp_skip <| nx <| sq_ <| wp_block <| sq_ <| rl_ <| wl_ <| i_ H38 rfl (xS 1 0 rfl (H38.ev 25 rfl) (H38.ev 27 rfl)) fun _ H39 => wl_ <| i_ H39 rfl (dd_getR (HR _ HS32.below) rfl (H39.ev 29 rfl) rfl Tryd.underlying25 rfl) fun _ H40 => wl_ <| p_ H40 rfl rfl fun _ H41 => ln_ <| nx <| rl_ <| q_ H41 2 rfl fun _ H42 => ?_
  clear H33 H34 H35 H36 H37 H38 H39 H40
  refine wl_ <| i_ H42 rfl (v := .slice none 0 0) (dd_appZ (sz := 36) rfl (H42.ev 31 rfl) (H42.ev 32 rfl) Tryd.underlying25 (by kernel_rfl)) fun _ H43 => wl_ <| p_ H43 rfl rfl fun _ H44 => ln_ <| bn <| nx <| rl_ <| wl_ <| i_ H44 rfl (v := .int .i64 1) (dd_ari rfl (H44.ev 27 rfl) rfl rfl (by decide)) fun _ H45 => wl_ <| p_ H45 rfl rfl fun _ H46 => ln_ <| nx <| unr_go <| sq_ <| rl_ <| wl_ <| i_ H46 rfl (dd_cmp rfl (H46.ev 27 rfl) (H46.ev 26 rfl) (lt_t (by decide))) fun _ H47 => ln_ <| nx <| sq_ <| ct_ H47 rfl <| wp_skip <| nx <| sq_ <| wp_block <| sq_ <| rl_ <| wl_ <| i_ H47 rfl (xS 1 1 rfl (H47.ev 25 rfl) (H47.ev 27 rfl)) fun _ H48 => wl_ <| i_ H48 rfl (dd_getR (HR _ HS32.below) rfl (H48.ev 29 rfl) rfl Tryd.underlying25 rfl) fun _ H49 => wl_ <| p_ H49 rfl rfl fun _ H50 => ?_
  clear H41 H42 H43 H44 H45 H46 H47 H48
  refine ln_ <| nx <| rl_ <| q_ H50 2 rfl fun _ H51 => wl_ <| i_ H51 rfl (v := .slice none 0 0) (dd_appZ (sz := 36) rfl (H51.ev 31 rfl) (H51.ev 32 rfl) Tryd.underlying25 (by kernel_rfl)) fun _ H52 => wl_ <| p_ H52 rfl rfl fun _ H53 => ln_ <| bn <| nx <| rl_ <| wl_ <| i_ H53 rfl (v := .int .i64 2) (dd_ari rfl (H53.ev 27 rfl) rfl rfl (by decide)) fun _ H54 => wl_ <| p_ H54 rfl rfl fun _ H55 => ln_ <| nx <| unr_go <| sq_ <| rl_ <| wl_ <| i_ H55 rfl (dd_cmp rfl (H55.ev 27 rfl) (H55.ev 26 rfl) (lt_f (by decide))) fun _ H56 => ln_ <| nx <| sq_ <| cf_ H56 rfl <| wp_exit <| tx <| tx <| bx <| nx <| sq_ <| rl_ <| q_ H56 2 rfl fun _ H57 => ln_ <| nx <| wp_ret <| ret_run H57.env0 (res_t Tryd.results23 (H57.get 2 rfl)) <| ?_
  clear H49 H50 H51 H52 H53 H54 H55 H56
  exact ⟨rfl, HS32.below⟩
theorem queadd_zero (F : Nat → Prop) (g : Nat) (A B : Option Addr) (c d : Nat) (w : World) (HS : St w F [⟨g, 27, #[.slice A 0 c]⟩] w) : Calls Tryd.prog 11 #[.pointer (some ⟨g, 0, none⟩), .slice B 0 d] w fun x w' => x = .returned (.int .i64 0) ∧ St w F [⟨g, 27, #[.slice none 0 0]⟩] w' := by
  refine enter_en Tryd.func11 rfl Tryd.ntmps11 (Nat.le_of_ble_eq_true rfl) fun a0 (HA0 : En 26 [(0, .pointer (some ⟨g, 0, none⟩)), (1, .slice B 0 d)] a0) => ?_
  refine sq_ <| rl_ <| wl_ <| p_ HA0 rfl rfl fun _ H1 => ln_ <| nx <| sq_ <| sq_ <| rl_ <| wl_ <| p_ H1 rfl rfl fun _ H2 => wl_ <| i_ H2 rfl (v := .bool false) (dd_eqp rfl (H2.ev 5 rfl) rfl Tryd.underlying24 rfl) fun _ H3 => ln_ <| nx <| cf_ H3 rfl <| wp_skip <| nx <| sq_ <| sq_ <| rl_ <| wl_ <| p_ H3 rfl rfl fun _ H4 => wl_ <| i_ H4 rfl (v := .int .i64 0) (dd_len rfl (H4.ev 7 rfl) Tryd.underlying25) fun _ H5 => wl_ <| p_ H5 rfl rfl fun _ H6 => wl_ <| i_ H6 rfl (dd_nilc rfl (H6.ev 9 rfl)) fun _ H7 => wl_ <| i_ H7 rfl (xf 0 0 rfl (H7.ev 10 rfl)) fun _ H8 => ?_
  clear HA0 H1 H2 H3 H4 H5 H6
  refine wl_ <| i_ H8 rfl (dd_get HS 0 0 rfl rfl (H8.ev 11 rfl) rfl Tryd.underlying25 rfl) fun _ H9 => wl_ <| i_ H9 rfl (v := .int .i64 0) (dd_len rfl (H9.ev 12 rfl) Tryd.underlying25) fun _ H10 => wl_ <| i_ H10 rfl (v := .int .i64 4) (dd_ari rfl rfl (H10.ev 13 rfl) rfl (by decide)) fun _ H11 => wl_ <| i_ H11 rfl (dd_cmp rfl (H11.ev 8 rfl) (H11.ev 14 rfl) (gt_f (by decide))) fun _ H12 => ln_ <| nx <| cf_ H12 rfl <| wp_skip <| nx <| sq_ <| rl_ <| q_ H12 2 rfl fun _ H13 => wl_ <| i_ H13 rfl (dd_nilc rfl (H13.ev 17 rfl)) fun _ H14 => wl_ <| i_ H14 rfl (xf 0 0 rfl (H14.ev 18 rfl)) fun _ H15 => wl_ <| i_ H15 rfl (dd_get HS 0 0 rfl rfl (H15.ev 19 rfl) rfl Tryd.underlying25 rfl) fun _ H16 => ?_
  clear H7 H8 H9 H10 H11 H12 H13 H14
  refine wl_ <| p_ H16 rfl rfl fun _ H17 => wl_ <| n_ H17 rfl (fun _ h => dd_lits HS #[.slice A 0 c, .slice B 0 d] rfl (ps := [(0, .slice A 0 c), (1, .slice B 0 d)]) (pr1 (H17.ev 20 rfl) (pr1 (H17.ev 21 rfl) (pr0))) (z := .slice none 0 0) (sz := 1) Tryd.underlying71 (by kernel_rfl) rfl rfl (by kernel_rfl) h) fun _ W18 HS18 _ H18 => wl_ <| c_ H18 rfl HS18 (dcs Tryd.func23 rfl (args1 (H18.ev 22 rfl)) (concatQ_nil _ _ _ _ _ W18 (HS18.row 1 rfl)) (.slice none 0 0)) fun _ HS19 _ H19 => wl_ <| i_ H19 rfl (dd_nilc rfl (H19.ev 16 rfl)) fun _ H20 => wl_ <| i_ H20 rfl (xf 0 0 rfl (H20.ev 24 rfl)) fun _ H21 => wl_ <| t_ rfl (fun _ h => dd_put (cs := #[.slice none 0 0]) HS19 0 0 rfl rfl (H21.ev 25 rfl) (H21.ev 23 rfl) (by kernel_rfl) rfl rfl rfl rfl h) fun _ HS22 => ln_ <| ?_
  clear H15 H16 HS H17 H18 HS18 H19 H20 HS19
  have H23 := H21.sel [] rfl
  refine nx <| sq_ <| rl_ <| wl_ <| p_ H23 rfl rfl fun _ H24 => ln_ <| nx <| wp_ret <| ret_run H24.env0 (res_t Tryd.results11 (H24.get 4 rfl)) <| ?_
  clear H21 H23
  exact ⟨rfl, ss HS22 [0]⟩
def tl1 (A : Option Addr) (c : Nat) : Option Addr := if c = 1 then A else A.map (·.add 36)
theorem dd_slt {P : Program} {o : Oper} {a : Act} {w : World} {t : TypeId} {x lo : Operand} {A : Option Addr} {n c : Nat} {k : IntKind} (ho : o.op = .slice t x (some lo) none none) (hx : a.eval x = .slice A n c) (hl : a.eval lo = .int k 1) (ht : slOf P t = some 36) (h1 : 1 ≤ n)
    : (execOp a.eval o).run P w = .ok (.value (.slice (tl1 A c) (n - 1) (c - 1))) w := by
  unfold slOf at ht
  cases hu : P.underlying t with
  | none => rw [hu] at ht; cases ht
  | some d =>
    rw [hu] at ht
    cases d with
    | slice e =>
      simp only at ht
      cases hq : P.info? e with
      | none => rw [hq] at ht; cases ht
      | some inf =>
        rw [hq] at ht
        simp only [Option.map_some, Option.some.injEq] at ht
        have e1 : (1 : Int) ≤ (n : Int) := by omega
        simp [execOp, ho, hx, hl, Instr.sliceAt, run_underlying hu, Instr.slice, Instr.sliceBounds, Instr.sliceBound, asIntOf, sizeOf, typeInfo, hq, e1, ht, tl1]
    | _ => simp only at ht; cases ht
theorem ItemsAt.tl {w : World} {A : Option Addr} {n c : Nat} {X : List It} (h : ItemsAt w A n c X) (hn : 0 < n) : ItemsAt w (tl1 A c) (n - 1) (c - 1) X.tail := by
  have hl := h.len
  have hc := h.cap
  refine ⟨by rw [List.length_tail, hl], by omega, fun x hx => h.wf x (List.mem_of_mem_tail hx), fun h1 => ?_⟩
  obtain ⟨b, o, rfl, h2⟩ := h.at_ (by omega)
  refine ⟨b, o + 36, by unfold tl1; rw [if_neg (by omega)]; rfl, ?_⟩
  cases X with
  | nil => exact absurd hl (by simp; omega)
  | cons x X =>
    rw [show x :: X = [x] ++ X from rfl, items_app] at h2
    exact h2.post (n := 36) (len_items (n := 1) (fun y hy => by rw [List.mem_singleton] at hy; subst hy; exact h.wf y (List.mem_cons_self ..)) rfl)
theorem quepop_any (F : Nat → Prop) (g : Nat) (A : Option Addr) (n c : Nat) (w : World) (HS : St w F [⟨g, 27, #[.slice A n c]⟩] w) (hn : 0 < n) : Calls Tryd.prog 13 #[.pointer (some ⟨g, 0, none⟩)] w fun x w' => x = .returned (.bool true) ∧ St w F [⟨g, 27, #[.slice (tl1 A c) (n - 1) (c - 1)]⟩] w' := by
  refine enter_en Tryd.func13 rfl Tryd.ntmps13 (Nat.le_of_ble_eq_true rfl) fun a0 (HA0 : En 14 [(0, .pointer (some ⟨g, 0, none⟩))] a0) => ?_
  refine sq_ <| rl_ <| wl_ <| p_ HA0 rfl rfl fun _ H1 => ln_ <| nx <| sq_ <| sq_ <| rl_ <| wl_ <| p_ H1 rfl rfl fun _ H2 => wl_ <| c_ H2 rfl HS (dcs Tryd.func19 rfl (args1 (H2.ev 3 rfl)) (quelen_any g _ _ _ w (HS.row 0 rfl)) (.int .i64 n)) fun _ HS3 _ H3 => wl_ <| i_ H3 rfl (dd_cmp rfl (H3.ev 4 rfl) rfl (eq_f (by omega))) fun _ H4 => ln_ <| nx <| cf_ H4 rfl <| wp_skip <| nx <| sq_ <| rl_ <| q_ H4 2 rfl fun _ H5 => wl_ <| i_ H5 rfl (dd_nilc rfl (H5.ev 7 rfl)) fun _ H6 => wl_ <| i_ H6 rfl (xf 0 0 rfl (H6.ev 8 rfl)) fun _ H7 => wl_ <| i_ H7 rfl (dd_get HS3 0 0 rfl rfl (H7.ev 9 rfl) rfl Tryd.underlying25 rfl) fun _ H8 => ?_
  clear HA0 H1 H2 HS H3 H4 H5 H6
  refine wl_ <| i_ H8 rfl (v := .slice (tl1 A c) (n - 1) (c - 1)) (dd_slt rfl (H8.ev 10 rfl) rfl (by kernel_rfl) (by omega)) fun _ H9 => wl_ <| i_ H9 rfl (dd_nilc rfl (H9.ev 6 rfl)) fun _ H10 => wl_ <| i_ H10 rfl (xf 0 0 rfl (H10.ev 12 rfl)) fun _ H11 => wl_ <| t_ rfl (fun _ h => dd_put (cs := #[.slice (tl1 A c) (n - 1) (c - 1)]) HS3 0 0 rfl rfl (H11.ev 13 rfl) (H11.ev 11 rfl) (by kernel_rfl) rfl rfl rfl rfl h) fun _ HS12 => ln_ <| nx <| sq_ <| rl_ <| wl_ <| p_ H11 rfl rfl fun _ H13 => ln_ <| nx <| wp_ret <| ret_run H13.env0 (res_t Tryd.results13 (H13.get 2 rfl)) <| ?_
  clear H7 H8 H9 H10 HS3 H11
  exact ⟨rfl, ss HS12 [0]⟩
end Go.Proofs.YtnmaplgodimohaaDoor

/- The statements' own functions of what waits. -/
set_option maxRecDepth 4000
namespace Go.Proofs.YtnmaplgodimohaaDoor
open Go Go.RowKit
theorem ids_1 {X : List It} {x : It} {cb : Array Value} {c : Nat} (h : X[0]? = some x) (O : OwnC cb c 1 1 [.int .i64 x.1]) : OwnC cb c 1 1 (intsV ((X.take 1).map (·.1))) := by
  obtain ⟨h1, h2⟩ := List.getElem?_eq_some_iff.1 h
  rw [show X.take 1 = [x] by rw [List.take_succ_eq_append_getElem h1, List.take_zero, h2]; rfl]; exact O
theorem ids_S {X : List It} {j : Nat} {x : It} {cb : Array Value} {c : Nat} (h : X[j]? = some x) (O : OwnC cb c (j + 1) 1 (intsV ((X.take j).map (·.1)) ++ [.int .i64 x.1])) : OwnC cb c (j + 1) 1 (intsV ((X.take (j + 1)).map (·.1))) := by
  obtain ⟨h1, h2⟩ := List.getElem?_eq_some_iff.1 h
  rw [List.take_succ_eq_append_getElem h1, h2, List.map_append, show intsV (List.map (·.1) (X.take j) ++ List.map (·.1) [x]) = intsV (List.map (·.1) (X.take j)) ++ [.int .i64 x.1] by simp [intsV]]; exact O
set_option maxHeartbeats 800000 in
theorem queclear_any (F : Nat → Prop) (g b o n c : Nat) (X : List It) (w : World) (HS : St w F [⟨g, 27, #[.slice (some ⟨b, o, none⟩) n c]⟩] w) (hi : ItemsAt w (some ⟨b, o, none⟩) n c X) (HE : ∀ W, Chg F w W → CAt W b o (itemsL X)) (h0 : 0 < n) (hm : n ≤ 1000) : Calls Tryd.prog 16 #[.pointer (some ⟨g, 0, none⟩)] w fun x w' => ∃ g' c' cb', x = .returned (.slice (some ⟨g', 0, none⟩) n c') ∧ OwnC cb' c' n 1 (intsV (X.map (·.1))) ∧ St w F [⟨g, 27, #[.slice none 0 0]⟩, ⟨g', 3, cb'⟩] w' := by
  refine enter_en Tryd.func16 rfl Tryd.ntmps16 (Nat.le_of_ble_eq_true rfl) fun a0 (HA0 : En 27 [(0, .pointer (some ⟨g, 0, none⟩))] a0) => ?_
  refine sq_ <| rl_ <| wl_ <| p_ HA0 rfl rfl fun _ H1 => ln_ <| nx <| sq_ <| sq_ <| rl_ <| wl_ <| p_ H1 rfl rfl fun _ H2 => wl_ <| i_ H2 rfl (v := .bool false) (dd_eqp rfl (H2.ev 6 rfl) rfl Tryd.underlying24 rfl) fun _ H3 => ln_ <| nx <| cf_ H3 rfl <| wp_skip <| nx <| sq_ <| rl_ <| wl_ <| p_ H3 rfl rfl fun _ H4 => ln_ <| nx <| sq_ <| sq_ <| rl_ <| wl_ <| p_ H4 rfl rfl fun _ H5 => wl_ <| i_ H5 rfl (dd_nilc rfl (H5.ev 8 rfl)) fun _ H6 => wl_ <| i_ H6 rfl (xf 0 0 rfl (H6.ev 9 rfl)) fun _ H7 => wl_ <| i_ H7 rfl (dd_get HS 0 0 rfl rfl (H7.ev 10 rfl) rfl Tryd.underlying25 rfl) fun _ H8 => ?_
  clear HA0 H1 H2 H3 H4 H5 H6
  refine wl_ <| i_ H8 rfl (v := .int .i64 n) (dd_len rfl (H8.ev 11 rfl) Tryd.underlying25) fun a9 H9 => wl_ <| p_ H9 rfl rfl fun _ H10 => ln_ <| nx <| wp_block <| ?_
  clear H7 H8 H9
  refine wp_loop1 (ι := Nat) (fun j1 a9 w9 => ∃ gi1 : Nat, ∃ ci1 : Nat, ∃ cbi1 : Array Value, (1 ≤ j1 ∧ j1 ≤ n) ∧ (OwnC cbi1 ci1 j1 1 (intsV ((X.take j1).map (·.1)))) ∧ En 27 [(13, .int .i64 j1), (12, .int .i64 n), (11, .slice (some ⟨b, o, none⟩) n c), (3, .slice (some ⟨gi1, 0, none⟩) j1 ci1), (0, .pointer (some ⟨g, 0, none⟩))] a9 ∧ St w F [⟨g, 27, #[.slice (some ⟨b, o, none⟩) n c]⟩, ⟨gi1, 3, cbi1⟩] w9) (fun j1 => n - j1) (1) ?_ ?_
  ·
   refine sq_ <| rl_ <| wl_ <| i_ H10 rfl (dd_cmp rfl (H10.ev 13 rfl) (H10.ev 12 rfl) (lt_t (by omega))) fun _ H12 => ln_ <| nx <| sq_ <| ct_ H12 rfl <| wp_skip <| nx <| sq_ <| wp_block <| sq_ <| rl_ <| wl_ <| i_ H12 rfl (xSo 36 (o + 0 * 36) rfl (H12.ev 11 rfl) (H12.ev 13 rfl)) fun _ H13 => ?_
   clear H10 H12
   obtain ⟨x0, hx0⟩ : ∃ x, X[0]? = some x := ⟨_, List.getElem?_eq_getElem (by rw [hi.len]; omega)⟩
   have hw0 := hi.wf x0 (List.mem_of_getElem? hx0)
   refine wl_ <| i_ H13 rfl (v := .agg (catA [[.int .i64 x0.1], [.int .i64 x0.2.1], [.string (strB x0.2.2.1)], [.int .i64 x0.2.2.2.1], bytesV x0.2.2.2.2])) (dd_atN rfl (H13.ev 15 rfl) (item_all (HE _ HS.chg) hi.wf hx0) Tryd.underlying40 rfl (by show _ = some (catA [[.int .i64 x0.1], [.int .i64 x0.2.1], [.string (strB x0.2.2.1)], [.int .i64 x0.2.2.2.1], bytesV x0.2.2.2.2]).toList.length; rw [show (catA [[.int .i64 x0.1], [.int .i64 x0.2.1], [.string (strB x0.2.2.1)], [.int .i64 x0.2.2.2.1], bytesV x0.2.2.2.2]).toList.length = 36 from (Array.length_toList).trans (cat_size (lens_cons rfl (lens_cons rfl (lens_cons rfl (lens_cons rfl (lens_cons (len_bv hw0) (lens_nil)))))))]; kernel_rfl)) fun _ H14 => wl_ <| n_ H14 rfl (fun _ h => dd_new HS (catA [[.int .i64 0], [.int .i64 0], [.string (⟨#[]⟩)], [.int .i64 0], bytesV (zer 32)]) rfl (z := .agg (catA [[.int .i64 0], [.int .i64 0], [.string (⟨#[]⟩)], [.int .i64 0], bytesV (zer 32)])) (by kernel_rfl) rfl h) fun g5 _ HS15 _ H15 => wl_ <| t_ rfl (fun _ h => dd_setrow HS15 1 rfl rfl (H15.ev 5 rfl) (H15.ev 16 rfl) (by kernel_rfl) ((cat_size (lens_cons rfl (lens_cons rfl (lens_cons rfl (lens_cons rfl (lens_cons (len_bv hw0) (lens_nil))))))) : (catA [[.int .i64 x0.1], [.int .i64 x0.2.1], [.string (strB x0.2.2.1)], [.int .i64 x0.2.2.2.1], bytesV x0.2.2.2.2]).size = 36) ((cat_size (lens_cons rfl (lens_cons rfl (lens_cons rfl (lens_cons rfl (lens_cons (len_bv (length_zer 32)) (lens_nil))))))) : (catA [[.int .i64 0], [.int .i64 0], [.string (⟨#[]⟩)], [.int .i64 0], bytesV (zer 32)]).size = 36) (cat_one (ones_cons (ones_c rfl) (ones_cons (ones_c rfl) (ones_cons (ones_c rfl) (ones_cons (ones_c rfl) (ones_cons (one_bytesV _) (ones_nil))))))) h) fun _ HS16 => ln_ <| nx <| rl_ <| wl_ <| p_ H15 rfl rfl fun _ H17 => wl_ <| i_ H17 rfl (xf 0 0 rfl (H17.ev 5 rfl)) fun _ H18 => wl_ <| i_ H18 rfl (dd_get HS16 1 0 rfl rfl (H18.ev 18 rfl) (cat_get (lens_cons rfl (lens_cons rfl (lens_cons rfl (lens_cons rfl (lens_cons (len_bv hw0) (lens_nil)))))) 0 rfl rfl) Tryd.underlying3 rfl) fun _ H19 => wl_ <| n_ H19 rfl (fun _ h => dd_lits HS16 #[.int .i64 x0.1] rfl (ps := [(0, .int .i64 x0.1)]) (pr1 (H19.ev 19 rfl) (pr0)) (z := .int .i64 0) (sz := 1) Tryd.underlying45 (by kernel_rfl) rfl rfl (by kernel_rfl) h) fun g20 _ HS20 _ H20 => wl_ <| a_ H20 rfl (S := fun g21_22 cb21_22 => [⟨g, 27, #[.slice (some ⟨b, o, none⟩) n c]⟩, ⟨g5, 40, catA [[.int .i64 x0.1], [.int .i64 x0.2.1], [.string (strB x0.2.2.1)], [.int .i64 x0.2.2.2.1], bytesV x0.2.2.2.2]⟩, ⟨g20, 3, #[.int .i64 x0.1]⟩, ⟨g21_22, 3, cb21_22⟩]) (fun g21_22 c21_22 => .slice (some ⟨g21_22, 0, none⟩) 1 c21_22) (T := fun _ c21_22 cb21_22 => OwnC cb21_22 c21_22 1 1 ([.int .i64 x0.1])) (fun _ h => dd_app0 HS20 rfl (H20.ev 17 rfl) (z := .int .i64 0) (bytes := 8) (sz := 1) Tryd.underlying45 (by kernel_rfl) rfl (by decide) ([.int .i64 x0.1]) (H20.ev 20 rfl) rfl (row_news (HS20.row 2 rfl) 0 (slab_whole _)) (ao_cons rfl ao_nil) (by unfold maxLen; omega) (by omega) h) fun g21_22 c21_22 cb21_22 _ O21_22 HS21 _ H21 => ?_
   clear H13 HS H14 HS15 H15 H17 H18 HS16 H19
   refine wl_ <| p_ H21 rfl rfl fun _ H23 => ln_ <| bn <| nx <| rl_ <| wl_ <| i_ H23 rfl (v := .int .i64 1) (dd_ari rfl (H23.ev 13 rfl) rfl rfl (by decide)) fun _ H24 => wl_ <| p_ H24 rfl rfl fun _ H25 => ln_ <| ?_
   clear HS20 H20 H21 H23 H24
   have H26 := H25.sel [0, 11, 12, 3, 13] rfl
   clear H25
   exact nx ⟨g21_22, c21_22, cb21_22, (by omega), (ids_1 hx0 O21_22), H26.sel [0, 3, 11, 12, 13] rfl, ss HS21 [0, 3]⟩
  clear H10 HS
  rintro j1 aL11 wL11 ⟨gi1, ci1, cbi1, hj, Oi1, HL11, HSL11⟩
  refine sq_ <| rl_ <| ?_
  by_cases hc28 : (j1 : Int) < n
  ·
   refine wl_ <| i_ HL11 rfl (dd_cmp rfl (HL11.ev 13 rfl) (HL11.ev 12 rfl) (lt_t hc28)) fun _ H29 => ln_ <| nx <| sq_ <| ct_ H29 rfl <| wp_skip <| nx <| sq_ <| wp_block <| sq_ <| rl_ <| wl_ <| i_ H29 rfl (xSo 36 (o + j1 * 36) rfl (H29.ev 11 rfl) (H29.ev 13 rfl)) fun _ H30 => ?_
   clear HL11 H29
   obtain ⟨xj1, hxj1⟩ : ∃ x, X[j1]? = some x := ⟨_, List.getElem?_eq_getElem (by rw [hi.len]; omega)⟩
   have hwj1 := hi.wf xj1 (List.mem_of_getElem? hxj1)
   refine wl_ <| i_ H30 rfl (v := .agg (catA [[.int .i64 xj1.1], [.int .i64 xj1.2.1], [.string (strB xj1.2.2.1)], [.int .i64 xj1.2.2.2.1], bytesV xj1.2.2.2.2])) (dd_atN rfl (H30.ev 15 rfl) (item_all (HE _ HSL11.chg) hi.wf hxj1) Tryd.underlying40 rfl (by show _ = some (catA [[.int .i64 xj1.1], [.int .i64 xj1.2.1], [.string (strB xj1.2.2.1)], [.int .i64 xj1.2.2.2.1], bytesV xj1.2.2.2.2]).toList.length; rw [show (catA [[.int .i64 xj1.1], [.int .i64 xj1.2.1], [.string (strB xj1.2.2.1)], [.int .i64 xj1.2.2.2.1], bytesV xj1.2.2.2.2]).toList.length = 36 from (Array.length_toList).trans (cat_size (lens_cons rfl (lens_cons rfl (lens_cons rfl (lens_cons rfl (lens_cons (len_bv hwj1) (lens_nil)))))))]; kernel_rfl)) fun _ H31 => wl_ <| n_ H31 rfl (fun _ h => dd_new HSL11 (catA [[.int .i64 0], [.int .i64 0], [.string (⟨#[]⟩)], [.int .i64 0], bytesV (zer 32)]) rfl (z := .agg (catA [[.int .i64 0], [.int .i64 0], [.string (⟨#[]⟩)], [.int .i64 0], bytesV (zer 32)])) (by kernel_rfl) rfl h) fun g5 _ HS32 _ H32 => wl_ <| t_ rfl (fun _ h => dd_setrow HS32 2 rfl rfl (H32.ev 5 rfl) (H32.ev 16 rfl) (by kernel_rfl) ((cat_size (lens_cons rfl (lens_cons rfl (lens_cons rfl (lens_cons rfl (lens_cons (len_bv hwj1) (lens_nil))))))) : (catA [[.int .i64 xj1.1], [.int .i64 xj1.2.1], [.string (strB xj1.2.2.1)], [.int .i64 xj1.2.2.2.1], bytesV xj1.2.2.2.2]).size = 36) ((cat_size (lens_cons rfl (lens_cons rfl (lens_cons rfl (lens_cons rfl (lens_cons (len_bv (length_zer 32)) (lens_nil))))))) : (catA [[.int .i64 0], [.int .i64 0], [.string (⟨#[]⟩)], [.int .i64 0], bytesV (zer 32)]).size = 36) (cat_one (ones_cons (ones_c rfl) (ones_cons (ones_c rfl) (ones_cons (ones_c rfl) (ones_cons (ones_c rfl) (ones_cons (one_bytesV _) (ones_nil))))))) h) fun _ HS33 => ln_ <| nx <| rl_ <| wl_ <| p_ H32 rfl rfl fun _ H34 => wl_ <| i_ H34 rfl (xf 0 0 rfl (H34.ev 5 rfl)) fun _ H35 => wl_ <| i_ H35 rfl (dd_get HS33 2 0 rfl rfl (H35.ev 18 rfl) (cat_get (lens_cons rfl (lens_cons rfl (lens_cons rfl (lens_cons rfl (lens_cons (len_bv hwj1) (lens_nil)))))) 0 rfl rfl) Tryd.underlying3 rfl) fun _ H36 => wl_ <| n_ H36 rfl (fun _ h => dd_lits HS33 #[.int .i64 xj1.1] rfl (ps := [(0, .int .i64 xj1.1)]) (pr1 (H36.ev 19 rfl) (pr0)) (z := .int .i64 0) (sz := 1) Tryd.underlying45 (by kernel_rfl) rfl rfl (by kernel_rfl) h) fun g20 _ HS37 _ H37 => wl_ <| a_ H37 rfl (S := fun g21_39 cb21_39 => [⟨g, 27, #[.slice (some ⟨b, o, none⟩) n c]⟩, ⟨g5, 40, catA [[.int .i64 xj1.1], [.int .i64 xj1.2.1], [.string (strB xj1.2.2.1)], [.int .i64 xj1.2.2.2.1], bytesV xj1.2.2.2.2]⟩, ⟨g20, 3, #[.int .i64 xj1.1]⟩, ⟨g21_39, 3, cb21_39⟩]) (fun g21_39 c21_39 => .slice (some ⟨g21_39, 0, none⟩) (j1 + 1) c21_39) (T := fun _ c21_39 cb21_39 => OwnC cb21_39 c21_39 (j1 + 1) 1 ((intsV ((X.take j1).map (·.1))) ++ [.int .i64 xj1.1])) (fun _ h => dd_app HS37 1 rfl Oi1 rfl (H37.ev 17 rfl) (z := .int .i64 0) (bytes := 8) Tryd.underlying45 (by kernel_rfl) rfl (by decide) ([.int .i64 xj1.1]) (H37.ev 20 rfl) rfl (row_news (HS37.row 3 rfl) 0 (slab_whole _)) (ao_cons rfl ao_nil) (by unfold maxLen; omega) (by omega) h) fun g21_39 c21_39 cb21_39 _ O21_39 HS38 _ H38 => ?_
   clear H30 HSL11 H31 HS32 H32 H34 H35 HS33 H36
   refine wl_ <| p_ H38 rfl rfl fun _ H40 => ln_ <| bn <| nx <| rl_ <| wl_ <| i_ H40 rfl (v := .int .i64 (j1 + 1)) (dd_ari rfl (H40.ev 13 rfl) rfl rfl (i64_of (by first | omega | (have := bd_lo; omega)) (by omega))) fun _ H41 => wl_ <| p_ H41 rfl rfl fun _ H42 => ln_ <| ?_
   clear HS37 H37 H38 H40 H41
   refine nx ⟨j1 + 1, ⟨g21_39, c21_39, cb21_39, (by omega), (ids_S hxj1 O21_39), H42.sel [0, 3, 11, 12, 13] rfl, ss HS38 [0, 3]⟩, (by omega)⟩
  refine wl_ <| i_ HL11 rfl (dd_cmp rfl (HL11.ev 13 rfl) (HL11.ev 12 rfl) (lt_f hc28)) fun _ H43 => ln_ <| nx <| sq_ <| cf_ H43 rfl <| wp_exit <| tx <| tx <| bx <| nx <| sq_ <| rl_ <| wl_ <| p_ H43 rfl rfl fun _ H44 => wl_ <| i_ H44 rfl (dd_nilc rfl (H44.ev 23 rfl)) fun _ H45 => wl_ <| i_ H45 rfl (xf 0 0 rfl (H45.ev 24 rfl)) fun _ H46 => wl_ <| t_ rfl (fun _ h => dd_put (cs := #[.slice none 0 0]) HSL11 0 0 rfl rfl (H46.ev 25 rfl) rfl (by kernel_rfl) rfl rfl rfl rfl h) fun _ HS47 => ln_ <| nx <| sq_ <| rl_ <| q_ H46 2 rfl fun _ H48 => ln_ <| nx <| wp_ret <| ret_run H48.env0 (res_t Tryd.results16 (H48.get 2 rfl)) <| ?_
  clear HL11 H43 H44 H45 HSL11 H46
  obtain rfl : j1 = n := by omega
  exact ⟨gi1, ci1, cbi1, rfl, (by have h9 := Oi1; rw [show X.take j1 = X from by rw [← hi.len]; exact List.take_length] at h9; exact h9), ss HS47 [0, 1]⟩
def fairI (X : List It) : Bool := (X.all fun (x : It) => decide (x.2.2.1.length ≤ 100)) && decide (X.length ≤ 20)
theorem qfair_no {X : List It} {k : Nat} {x : It} (h : X[k]? = some x) (hb : ¬ x.2.2.1.length ≤ 100) : fairI X = false := by
  cases hf : fairI X with
  | false => rfl
  | true =>
    unfold fairI at hf
    rw [Bool.and_eq_true, List.all_eq_true] at hf
    exact absurd (of_decide_eq_true (hf.1 _ (List.mem_of_getElem? h))) hb
theorem qfair_yes {X : List It} (h : ∀ (j : Nat) (x : It), X[j]? = some x → x.2.2.1.length ≤ 100) (hn : X.length ≤ 20) : fairI X = true := by
  unfold fairI
  rw [Bool.and_eq_true, List.all_eq_true]
  refine ⟨fun x hx => ?_, decide_eq_true hn⟩
  obtain ⟨j, hj⟩ := List.getElem?_of_mem hx
  exact decide_eq_true (h j x hj)
theorem qfair_many {X : List It} (hn : ¬ X.length ≤ 20) : fairI X = false := by unfold fairI; rw [decide_eq_false hn, Bool.and_false]
theorem qfair_pos (b o n c : Nat) (X : List It) (w : World) (hi : ItemsAt w (some ⟨b, o, none⟩) n c X) (h0 : CAt w b o (itemsL X)) (hm : n ≤ maxLen) : Calls Tryd.prog 9 #[.slice (some ⟨b, o, none⟩) n c] w fun x w' => x = .returned (.bool (fairI X)) ∧ Below w.heap.size w w' := by
  unfold maxLen at hm
  have HS := St.nil w noF
  have HE : ∀ W, Below w.heap.size w W → CAt W b o (itemsL X) := fun W hb => h0.call hb
  refine enter_en Tryd.func9 rfl Tryd.ntmps9 (Nat.le_of_ble_eq_true rfl) fun a0 (HA0 : En 20 [(0, .slice (some ⟨b, o, none⟩) n c)] a0) => ?_
  refine sq_ <| rl_ <| wl_ <| p_ HA0 rfl rfl fun _ H1 => ln_ <| nx <| sq_ <| sq_ <| rl_ <| wl_ <| p_ H1 rfl rfl fun _ H2 => ln_ <| nx <| wp_block <| ?_
  clear HA0 H1
  refine wp_loopG (ι := Nat) (fun i a9 w9 => (i ≤ n) ∧ (∀ (j : Nat) (x : It), j < i → X[j]? = some x → x.2.2.1.length ≤ 100) ∧ En 20 [(3, .int .i64 i), (0, .slice (some ⟨b, o, none⟩) n c)] a9 ∧ St w noF [] w9) (fun i => n - i) (0) ⟨(Nat.zero_le _), (fun j x hj => absurd hj (Nat.not_lt_zero _)), H2.sel [0, 3] rfl, ss HS []⟩ ?_
  clear H2 HS
  rintro i aL3 wL3 ⟨hj, hok, HL3, HSL3⟩
  refine sq_ <| sq_ <| rl_ <| q_ HL3 2 rfl fun _ H4 => wl_ <| i_ H4 rfl (v := .int .i64 n) (dd_len rfl (H4.ev 5 rfl) Tryd.underlying25) fun _ H5 => ?_
  clear HL3 H4
  by_cases hc7 : (i : Int) < n
  ·
   refine wl_ <| i_ H5 rfl (dd_cmp rfl (H5.ev 4 rfl) (H5.ev 6 rfl) (lt_t hc7)) fun _ H8 => ln_ <| nx <| ct_ H8 rfl <| wp_skip <| nx <| sq_ <| wp_block <| sq_ <| rl_ <| q_ H8 2 rfl fun a9 H9 => wl_ <| i_ H9 rfl (xSo 36 (o + i * 36) rfl (H9.ev 10 rfl) (H9.ev 11 rfl)) fun _ H10 => wl_ <| i_ H10 rfl (xf 2 (o + i * 36 + 2) rfl (H10.ev 12 rfl)) fun _ H11 => ?_
   clear H5 H8 H9 H10
   obtain ⟨xi, hxi⟩ : ∃ x, X[i]? = some x := ⟨_, List.getElem?_eq_getElem (by rw [hi.len]; omega)⟩
   have hwi := hi.wf xi (List.mem_of_getElem? hxi)
   refine wl_ <| i_ H11 rfl (dd_at rfl (H11.ev 13 rfl) (item_nm (HE _ HSL3.below) hi.wf hxi) Tryd.underlying9 rfl) fun _ H12 => wl_ <| i_ H12 rfl (v := .int .i64 xi.2.2.1.length) (dd_lens rfl (H12.ev 14 rfl) Tryd.underlying9 (by rw [strB_size])) fun _ H13 => ?_
   clear H11 H12
   by_cases hc15 : (100 : Int) < xi.2.2.1.length
   ·
    refine wl_ <| i_ H13 rfl (dd_cmp rfl (H13.ev 15 rfl) rfl (gt_t hc15)) fun _ H16 => ln_ <| nx <| ct_ H16 rfl <| sq_ <| rl_ <| wl_ <| p_ H16 rfl rfl fun _ H17 => ln_ <| nx <| wp_ret <| br_ <| tr <| tr <| br_ <| tr <| ret_run H17.env0 (res_t Tryd.results9 (H17.get 2 rfl)) <| ?_
    clear H13 H16
    exact ⟨by rw [qfair_no hxi (by omega)], HSL3.below⟩
   refine wl_ <| i_ H13 rfl (dd_cmp rfl (H13.ev 15 rfl) rfl (gt_f hc15)) fun _ H18 => ln_ <| nx <| cf_ H18 rfl <| wp_skip <| bn <| nx <| rl_ <| wl_ <| p_ H18 rfl rfl fun _ H19 => wl_ <| i_ H19 rfl (v := .int .i64 (i + 1)) (dd_ari rfl (H19.ev 8 rfl) rfl rfl (i64_of (by first | omega | (have := bd_lo; omega)) (by omega))) fun _ H20 => wl_ <| p_ H20 rfl rfl fun _ H21 => ln_ <| ?_
   clear H13 H18 H19 H20
   refine nx ⟨i + 1, ⟨(by omega), (fun j x hj hx => (Nat.lt_succ_iff_lt_or_eq.1 hj).elim (fun h8 => hok j x h8 hx) (fun h8 => by rw [h8, hxi] at hx; injection hx with hx; rw [← hx]; omega)), H21.sel [0, 3] rfl, ss HSL3 []⟩, (by omega)⟩
  refine wl_ <| i_ H5 rfl (dd_cmp rfl (H5.ev 4 rfl) (H5.ev 6 rfl) (lt_f hc7)) fun _ H22 => ln_ <| nx <| cf_ H22 rfl <| wp_exit <| tx <| tx <| bx <| nx <| sq_ <| rl_ <| wl_ <| p_ H22 rfl rfl fun _ H23 => wl_ <| i_ H23 rfl (v := .int .i64 n) (dd_len rfl (H23.ev 17 rfl) Tryd.underlying25) fun _ H24 => ?_
  clear H5 H22 H23
  by_cases hc26 : (n : Int) ≤ 20
  ·
   refine wl_ <| i_ H24 rfl (dd_cmp rfl (H24.ev 18 rfl) rfl (le_t hc26)) fun _ H27 => wl_ <| p_ H27 rfl rfl fun _ H28 => ln_ <| nx <| wp_ret <| ret_run H28.env0 (res_t Tryd.results9 (H28.get 2 rfl)) <| ?_
   clear H24 H27
   exact ⟨by rw [qfair_yes (X := X) (fun j x hx => hok j x (by have := (List.getElem?_eq_some_iff.1 hx).1; have := hi.len; omega) hx) (by rw [hi.len]; omega)], HSL3.below⟩
  refine wl_ <| i_ H24 rfl (dd_cmp rfl (H24.ev 18 rfl) rfl (le_f hc26)) fun _ H29 => wl_ <| p_ H29 rfl rfl fun _ H30 => ln_ <| nx <| wp_ret <| ret_run H30.env0 (res_t Tryd.results9 (H30.get 2 rfl)) <| ?_
  clear H24 H29
  exact ⟨by rw [qfair_many (X := X) (by rw [hi.len]; omega)], HSL3.below⟩
theorem qfair_zero (A : Option Addr) (c : Nat) (w : World) : Calls Tryd.prog 9 #[.slice A 0 c] w fun x w' => x = .returned (.bool (fairI [])) ∧ Below w.heap.size w w' := by
  have HS := St.nil w noF
  refine enter_en Tryd.func9 rfl Tryd.ntmps9 (Nat.le_of_ble_eq_true rfl) fun a0 (HA0 : En 20 [(0, .slice A 0 c)] a0) => ?_
  refine sq_ <| rl_ <| wl_ <| p_ HA0 rfl rfl fun _ H1 => ln_ <| nx <| sq_ <| sq_ <| rl_ <| wl_ <| p_ H1 rfl rfl fun _ H2 => ln_ <| nx <| wp_block <| wp_unr 1 <| unr_go <| sq_ <| sq_ <| rl_ <| q_ H2 2 rfl fun _ H3 => wl_ <| i_ H3 rfl (v := .int .i64 0) (dd_len rfl (H3.ev 5 rfl) Tryd.underlying25) fun _ H4 => wl_ <| i_ H4 rfl (dd_cmp rfl (H4.ev 4 rfl) (H4.ev 6 rfl) (lt_f (by decide))) fun _ H5 => ln_ <| nx <| cf_ H5 rfl <| wp_exit <| tx <| tx <| bx <| nx <| sq_ <| rl_ <| wl_ <| p_ H5 rfl rfl fun _ H6 => wl_ <| i_ H6 rfl (v := .int .i64 0) (dd_len rfl (H6.ev 17 rfl) Tryd.underlying25) fun _ H7 => wl_ <| i_ H7 rfl (dd_cmp rfl (H7.ev 18 rfl) rfl (le_t (by decide))) fun _ H8 => ?_
  clear HA0 H1 H2 H3 H4 H5 H6
  refine wl_ <| p_ H8 rfl rfl fun _ H9 => ln_ <| nx <| wp_ret <| ret_run H9.env0 (res_t Tryd.results9 (H9.get 2 rfl)) <| ?_
  clear H7 H8
  exact ⟨rfl, HS.below⟩
theorem qfair_any (A : Option Addr) (n c : Nat) (X : List It) (w : World) (hi : ItemsAt w A n c X) (hm : n ≤ maxLen) : Calls Tryd.prog 9 #[.slice A n c] w fun x w' => x = .returned (.bool (fairI X)) ∧ Below w.heap.size w w' := by
  by_cases h0 : n = 0
  · subst h0
    obtain rfl : X = [] := List.eq_nil_of_length_eq_zero hi.len
    exact qfair_zero A c w
  · obtain ⟨b, o, rfl, h1⟩ := hi.at_ h0
    exact qfair_pos b o n c X w hi h1 hm
end Go.Proofs.YtnmaplgodimohaaDoor

/- The statements' wakes of what waits. -/
set_option maxRecDepth 4000
namespace Go.Proofs.YtnmaplgodimohaaDoor
open Go Go.RowKit
theorem plc36 {n i s : Nat} (h : (List.replicate n 36)[i]? = some s) : some (i * 36, 36) = some (((List.replicate n 36).take i).sum, s) := by
  rw [List.getElem?_replicate] at h
  split at h
  · injection h with h
    subst h
    rw [List.take_replicate, List.sum_replicate_nat, Nat.min_eq_left (by omega)]
  · cases h
def zqv : Value := .agg zitm
theorem base2 : ((Array.range (2 * 36)).map (zqv.cells[· % zqv.cells.size]!)) = catA (List.replicate 2 zitm.toList) := by kernel_rfl
theorem base3 : ((Array.range (3 * 36)).map (zqv.cells[· % zqv.cells.size]!)) = catA (List.replicate 3 zitm.toList) := by kernel_rfl
theorem items_lit {L : List (List Value)} {X : List It} (h : L = X.map itcell) : (catA L).toList = itemsL X := by subst h; rfl
def wka : It := (5, 2, [97#8, 98#8], 1, zer 32)
def wkb : It := (0, 4, [], 0, zer 32)
theorem wka_len : wka.2.2.2.2.length = 32 := length_zer 32
theorem wka_wf1 : wfI [wka] := fun x hx => by rw [List.mem_singleton] at hx; subst hx; exact wka_len
theorem wka_wf2 : wfI [wka, wka] := wfI_app (l := [wka]) wka_wf1 wka_wf1
theorem wka_at {w : World} {b : Nat} (h : CAt w b 0 (itemsL ([] ++ [wka, wka]))) : CAt w b 36 (itemsL [wka]) := by
  rw [show ([] ++ [wka, wka] : List It) = [wka] ++ [wka] from rfl, items_app] at h
  exact h.post (n := 36) (len_items (n := 1) wka_wf1 rfl)
theorem wka_E : putsE (zer 32) wka = 0 := by
  rw [(puts_2 (qb := zer 32) (y := wka) rfl).1, wk_z2]; decide +kernel
theorem wka_P : (putsP (zer 32) wka).length = 2 := by
  rw [(puts_2 (qb := zer 32) (y := wka) rfl).2, wk_z2]; decide +kernel
theorem one5 : ∀ x ∈ [(5 : Int)], -9223372036854775808 ≤ x ∧ x < 9223372036854775808 := fun x hx => by rw [List.mem_singleton] at hx; subst hx; decide
theorem itm_parts (x : It) (hx : x.2.2.2.2.length = 32) : (catA [[.int .i64 x.1], [.int .i64 x.2.1], [.string (strB x.2.2.1)], [.int .i64 x.2.2.2.1], bytesV x.2.2.2.2])[0]? = some (.int .i64 x.1) ∧ (catA [[.int .i64 x.1], [.int .i64 x.2.1], [.string (strB x.2.2.1)], [.int .i64 x.2.2.2.1], bytesV x.2.2.2.2])[1]? = some (.int .i64 x.2.1) ∧ (catA [[.int .i64 x.1], [.int .i64 x.2.1], [.string (strB x.2.2.1)], [.int .i64 x.2.2.2.1], bytesV x.2.2.2.2])[2]? = some (.string (strB x.2.2.1)) ∧ (catA [[.int .i64 x.1], [.int .i64 x.2.1], [.string (strB x.2.2.1)], [.int .i64 x.2.2.2.1], bytesV x.2.2.2.2])[3]? = some (.int .i64 x.2.2.2.1) ∧ (catA [[.int .i64 x.1], [.int .i64 x.2.1], [.string (strB x.2.2.1)], [.int .i64 x.2.2.2.1], bytesV x.2.2.2.2]).extract 4 36 = bs x.2.2.2.2 := by
  have L := lens_cons (rfl : ([.int .i64 x.1] : List Value).length = 1) (lens_cons (rfl : ([.int .i64 x.2.1] : List Value).length = 1) (lens_cons (rfl : ([.string (strB x.2.2.1)] : List Value).length = 1) (lens_cons (rfl : ([.int .i64 x.2.2.2.1] : List Value).length = 1) (lens_cons (len_bv hx) lens_nil))))
  have h4 := cat_slab1 L 4 (off := 4) (l := bytesV x.2.2.2.2) rfl rfl
  refine ⟨rfl, rfl, rfl, rfl, ?_⟩
  apply Array.toList_inj.1
  rw [Array.toList_extract, List.extract_eq_take_drop]
  rw [List.size_toArray, len_bytesV, hx] at h4
  exact h4
theorem eql_itm (x y : It) (hx : x.2.2.2.2.length = 32) (hy : y.2.2.2.2.length = 32) (w : World) : (Op.equalIn 10000 40 (.agg (catA [[.int .i64 x.1], [.int .i64 x.2.1], [.string (strB x.2.2.1)], [.int .i64 x.2.2.2.1], bytesV x.2.2.2.2])) (.agg (catA [[.int .i64 y.1], [.int .i64 y.2.1], [.string (strB y.2.2.1)], [.int .i64 y.2.2.2.1], bytesV y.2.2.2.2]))).run Tryd.prog w = .ok (decide (x = y)) w := by
  have hS : Tryd.prog.underlying 40 = some (.struct (Tryd.prog.fieldsOf 40)) := by kernel_rfl
  have e : decide (x = y) = (x.1 == y.1 && (x.2.1 == y.2.1 && (((strB x.2.2.1).toList == (strB y.2.2.1).toList) && (x.2.2.2.1 == y.2.2.2.1 && decide (x.2.2.2.2 = y.2.2.2.2))))) := by
    rw [str_beq]
    obtain ⟨x1, x2, x3, x4, x5⟩ := x
    obtain ⟨y1, y2, y3, y4, y5⟩ := y
    by_cases h1 : x1 = y1 <;> by_cases h2 : x2 = y2 <;> by_cases h3 : x3 = y3 <;> by_cases h4 : x4 = y4 <;> by_cases h5 : x5 = y5 <;> simp [h1, h2, h3, h4, h5]
  have q2 : ∀ w, (Op.equalIn 9999 36 (.agg (bs x.2.2.2.2)) (.agg (bs y.2.2.2.2))).run Tryd.prog w = .ok (decide (x.2.2.2.2 = y.2.2.2.2)) w := fun w => equal_bytesD 9997 36 32 x.2.2.2.2 y.2.2.2.2 hx hy Tryd.underlying36 w
  have u1 := Tryd.underlying3
  have u3 := Tryd.underlying9
  obtain ⟨a1, a2, a3, a4, a5⟩ := itm_parts x hx
  obtain ⟨b1, b2, b3, b4, b5⟩ := itm_parts y hy
  rw [e, show (10000 : Nat) = 9999 + 1 from rfl, run_equalIn_agg w 9999 40 _ _ hS (by kernel_rfl)]
  clear e
  generalize decide (x.2.2.2.2 = y.2.2.2.2) = D2 at *
  generalize catA [[.int .i64 x.1], [.int .i64 x.2.1], [.string (strB x.2.2.1)], [.int .i64 x.2.2.2.1], bytesV x.2.2.2.2] = X at *
  generalize catA [[.int .i64 y.1], [.int .i64 y.2.1], [.string (strB y.2.2.1)], [.int .i64 y.2.2.2.1], bytesV y.2.2.2.2] = Y at *
  generalize strB x.2.2.1 = s at *
  generalize strB y.2.2.1 = s' at *
  simp only [Program.fieldsOf, Tryd.underlying40]
  go_simp
  cases D2 <;> by_cases h1 : x.1 = y.1 <;> by_cases h2 : x.2.1 = y.2.1 <;> by_cases h3 : s.toList = s'.toList <;> by_cases h4 : x.2.2.2.1 = y.2.2.2.1 <;> simp_all
set_option maxHeartbeats 1600000 in
theorem qwakes_any (w : World) : Calls Tryd.prog 8 #[] w fun x w' => x = .returned (.bool true) ∧ Below w.heap.size w w' := by
  have HS := St.nil w noF
  refine enter_en Tryd.func8 rfl Tryd.ntmps8 (Nat.le_of_ble_eq_true rfl) fun a0 (HA0 : En 83 [] a0) => ?_
  refine sq_ <| rl_ <| wl_ <| p_ HA0 rfl rfl fun _ H1 => ln_ <| nx <| sq_ <| rl_ <| wl_ <| i_ H1 rfl (v := .agg #[.slice none 0 0]) (dd_bld rfl (ps := []) (pr0) (Lz := [[.slice none 0 0]]) (by kernel_rfl) (lens_cons rfl (lens_nil)) (fit_nil) (cs := #[.slice none 0 0]) rfl) fun _ H2 => wl_ <| n_ H2 rfl (fun _ h => dd_box HS rfl (H2.ev 9 rfl) (cs := #[.slice none 0 0]) rfl h) fun g10 _ HS3 _ H3 => wl_ <| p_ H3 rfl rfl fun _ H4 => ln_ <| nx <| sq_ <| rl_ <| wl_ <| i_ H4 rfl (v := .agg (catA [[.int .i64 5], [.int .i64 2], [.string (⟨#[97, 98]⟩)], [.int .i64 1], bytesV (zer 32)])) (dd_bld rfl (ps := [(0, .int .i64 5), (1, .int .i64 2), (2, .string (⟨#[97, 98]⟩)), (3, .int .i64 1)]) (pr1 rfl (pr1 rfl (pr1 rfl (pr1 rfl (pr0))))) (Lz := [[.int .i64 0], [.int .i64 0], [.string (⟨#[]⟩)], [.int .i64 0], bytesV (zer 32)]) (by kernel_rfl) (lens_cons rfl (lens_cons rfl (lens_cons rfl (lens_cons rfl (lens_cons (len_bv (length_zer 32)) (lens_nil)))))) (fit_cons (i := 0) rfl rfl (fit_cons (i := 1) rfl rfl (fit_cons (i := 2) rfl rfl (fit_cons (i := 3) rfl rfl (fit_nil))))) (cs := catA [[.int .i64 5], [.int .i64 2], [.string (⟨#[97, 98]⟩)], [.int .i64 1], bytesV (zer 32)]) rfl) fun _ H5 => wl_ <| n_ H5 rfl (fun _ h => dd_new HS3 (catA [[.int .i64 0], [.int .i64 0], [.string (⟨#[]⟩)], [.int .i64 0], bytesV (zer 32)]) rfl (z := .agg (catA [[.int .i64 0], [.int .i64 0], [.string (⟨#[]⟩)], [.int .i64 0], bytesV (zer 32)])) (by kernel_rfl) rfl h) fun g2 _ HS6 _ H6 => wl_ <| t_ rfl (fun _ h => dd_setrow HS6 1 rfl rfl (H6.ev 2 rfl) (H6.ev 11 rfl) (by kernel_rfl) ((cat_size (lens_cons rfl (lens_cons rfl (lens_cons rfl (lens_cons rfl (lens_cons (len_bv (length_zer 32)) (lens_nil))))))) : (catA [[.int .i64 5], [.int .i64 2], [.string (⟨#[97, 98]⟩)], [.int .i64 1], bytesV (zer 32)]).size = 36) ((cat_size (lens_cons rfl (lens_cons rfl (lens_cons rfl (lens_cons rfl (lens_cons (len_bv (length_zer 32)) (lens_nil))))))) : (catA [[.int .i64 0], [.int .i64 0], [.string (⟨#[]⟩)], [.int .i64 0], bytesV (zer 32)]).size = 36) (cat_one (ones_cons (ones_c rfl) (ones_cons (ones_c rfl) (ones_cons (ones_c rfl) (ones_cons (ones_c rfl) (ones_cons (one_bytesV _) (ones_nil))))))) h) fun _ HS7 => ln_ <| nx <| sq_ <| sq_ <| rl_ <| wl_ <| p_ H6 rfl rfl fun _ H8 => ?_
  clear HA0 H1 HS H2 H3 H4 HS3 H5 HS6
  refine wl_ <| i_ H8 rfl (v := .agg (catA [[.int .i64 5], [.int .i64 2], [.string (⟨#[97, 98]⟩)], [.int .i64 1], bytesV (zer 32)])) (dd_load HS7 1 0 rfl rfl (H8.ev 2 rfl) (slab_whole _) Tryd.underlying40 rfl (by rw [show (catA [[.int .i64 5], [.int .i64 2], [.string (⟨#[97, 98]⟩)], [.int .i64 1], bytesV (zer 32)]).size = 36 from (cat_size (lens_cons rfl (lens_cons rfl (lens_cons rfl (lens_cons rfl (lens_cons (len_bv (length_zer 32)) (lens_nil)))))))]; kernel_rfl)) fun _ H9 => wl_ <| i_ H9 rfl (v := .agg (catA [[.int .i64 5], [.int .i64 2], [.string (⟨#[97, 98]⟩)], [.int .i64 1], bytesV (zer 32)])) (dd_load HS7 1 0 rfl rfl (H9.ev 2 rfl) (slab_whole _) Tryd.underlying40 rfl (by rw [show (catA [[.int .i64 5], [.int .i64 2], [.string (⟨#[97, 98]⟩)], [.int .i64 1], bytesV (zer 32)]).size = 36 from (cat_size (lens_cons rfl (lens_cons rfl (lens_cons rfl (lens_cons rfl (lens_cons (len_bv (length_zer 32)) (lens_nil)))))))]; kernel_rfl)) fun _ H10 => wl_ <| n_ H10 rfl (fun _ h => dd_lits HS7 (catA [(catA [[.int .i64 5], [.int .i64 2], [.string (⟨#[97, 98]⟩)], [.int .i64 1], bytesV (zer 32)]).toList, (catA [[.int .i64 5], [.int .i64 2], [.string (⟨#[97, 98]⟩)], [.int .i64 1], bytesV (zer 32)]).toList]) rfl (ps := [(0, .agg (catA [[.int .i64 5], [.int .i64 2], [.string (⟨#[97, 98]⟩)], [.int .i64 1], bytesV (zer 32)])), (1, .agg (catA [[.int .i64 5], [.int .i64 2], [.string (⟨#[97, 98]⟩)], [.int .i64 1], bytesV (zer 32)]))]) (pr1 (H10.ev 13 rfl) (pr1 (H10.ev 14 rfl) (pr0))) (z := .agg (catA [[.int .i64 0], [.int .i64 0], [.string (⟨#[]⟩)], [.int .i64 0], bytesV (zer 32)])) (sz := 36) Tryd.underlying25 (by kernel_rfl) rfl rfl ((congrArg (fun b9 => Instr.fill (fun i => some (i * 36, 36)) b9 [(0, .agg (catA [[.int .i64 5], [.int .i64 2], [.string (⟨#[97, 98]⟩)], [.int .i64 1], bytesV (zer 32)])), (1, .agg (catA [[.int .i64 5], [.int .i64 2], [.string (⟨#[97, 98]⟩)], [.int .i64 1], bytesV (zer 32)]))]) base2).trans (fill_segs _ [(0, .agg (catA [[.int .i64 5], [.int .i64 2], [.string (⟨#[97, 98]⟩)], [.int .i64 1], bytesV (zer 32)])), (1, .agg (catA [[.int .i64 5], [.int .i64 2], [.string (⟨#[97, 98]⟩)], [.int .i64 1], bytesV (zer 32)]))] (List.replicate 2 zitm.toList) (List.replicate 2 36) rfl (fun i s h => plc36 h) (fit_cons (i := 0) rfl (cat_size (lens_cons rfl (lens_cons rfl (lens_cons rfl (lens_cons rfl (lens_cons (len_bv (length_zer 32)) (lens_nil))))))) (fit_cons (i := 1) rfl (cat_size (lens_cons rfl (lens_cons rfl (lens_cons rfl (lens_cons rfl (lens_cons (len_bv (length_zer 32)) (lens_nil))))))) (fit_nil))))) h) fun g15 _ HS11 _ H11 => ?_
  clear H6 H8 H9 HS7 H10
  refine wl_ <| d_ H11 rfl (R := fun v9 w9 => ∃ gq13 : Nat, ∃ cq13 : Nat, ∃ cbq13 : Array Value, v9 = .int .i64 0 ∧ (OwnC cbq13 cq13 2 36 (itemsL ([] ++ [wka, wka]))) ∧ St w noF [⟨g10, 27, #[.slice (some ⟨gq13, 0, none⟩) 2 cq13]⟩, ⟨gq13, 40, cbq13⟩, ⟨g2, 40, catA [[.int .i64 5], [.int .i64 2], [.string (⟨#[97, 98]⟩)], [.int .i64 1], bytesV (zer 32)]⟩, ⟨g15, 40, catA [(catA [[.int .i64 5], [.int .i64 2], [.string (⟨#[97, 98]⟩)], [.int .i64 1], bytesV (zer 32)]).toList, (catA [[.int .i64 5], [.int .i64 2], [.string (⟨#[97, 98]⟩)], [.int .i64 1], bytesV (zer 32)]).toList]⟩] w9) (dc_ Tryd.func11 rfl (args2 (H11.ev 12 rfl) (H11.ev 15 rfl)) (queadd_some _ g10 _ _ 0 _ 2 _ ([]) ([wka, wka]) _ (ss HS11 [0]).frame (fun W9 k9 => items_nil _ _ _) (fun W9 k9 => (items_row (X := [wka, wka]) ((HS11.row 2 rfl).chg k9 (nin_row (S1 := selB [⟨g10, 27, #[.slice none 0 0]⟩, ⟨g2, 40, catA [[.int .i64 5], [.int .i64 2], [.string (⟨#[97, 98]⟩)], [.int .i64 1], bytesV (zer 32)]⟩, ⟨g15, 40, catA [(catA [[.int .i64 5], [.int .i64 2], [.string (⟨#[97, 98]⟩)], [.int .i64 1], bytesV (zer 32)]).toList, (catA [[.int .i64 5], [.int .i64 2], [.string (⟨#[97, 98]⟩)], [.int .i64 1], bytesV (zer 32)]).toList]⟩] [0]) (ss HS11 [0, 1, 2]) 1 rfl)) (items_lit rfl) rfl wka_wf2)) (by decide) (by decide)) (fun _ w9 ⟨g9, c9, cb9, he, hO, hS⟩ => ⟨_, he, g9, c9, cb9, rfl, hO, St.reframe (ss HS11 [0, 1, 2]) hS⟩)) ?_
  rintro _ W12 ⟨gq13, cq13, cbq13, rfl, Oq13, HS12⟩ a12 H12
  clear H11 HS11
  refine wl_ <| i_ H12 rfl (dd_cmp rfl (H12.ev 16 rfl) rfl (ne_f (by decide))) fun _ H14 => wl_ <| p_ H14 rfl rfl fun _ H15 => wl_ <| ig H15 (wg_ H15 rfl rfl rfl rfl) rfl (dd_mv rfl (H15.ev 1 rfl)) fun _ H16 => wl_ <| ig H16 (wg_ H16 rfl rfl rfl rfl) rfl (v := .agg (catA [[.int .i64 5], [.int .i64 2], [.string (⟨#[97, 98]⟩)], [.int .i64 1], bytesV (zer 32)])) (dd_load HS12 2 0 rfl rfl (H16.ev 2 rfl) (slab_whole _) Tryd.underlying40 rfl (by rw [show (catA [[.int .i64 5], [.int .i64 2], [.string (⟨#[97, 98]⟩)], [.int .i64 1], bytesV (zer 32)]).size = 36 from (cat_size (lens_cons rfl (lens_cons rfl (lens_cons rfl (lens_cons rfl (lens_cons (len_bv (length_zer 32)) (lens_nil)))))))]; kernel_rfl)) fun _ H17 => wl_ <| ig H17 (wg_ H17 rfl rfl rfl rfl) rfl (v := .agg (catA [[.int .i64 5], [.int .i64 2], [.string (⟨#[97, 98]⟩)], [.int .i64 1], bytesV (zer 32)])) (dd_load HS12 2 0 rfl rfl (H17.ev 2 rfl) (slab_whole _) Tryd.underlying40 rfl (by rw [show (catA [[.int .i64 5], [.int .i64 2], [.string (⟨#[97, 98]⟩)], [.int .i64 1], bytesV (zer 32)]).size = 36 from (cat_size (lens_cons rfl (lens_cons rfl (lens_cons rfl (lens_cons rfl (lens_cons (len_bv (length_zer 32)) (lens_nil)))))))]; kernel_rfl)) fun _ H18 => wl_ <| ig H18 (wg_ H18 rfl rfl rfl rfl) rfl (v := .agg (catA [[.int .i64 5], [.int .i64 2], [.string (⟨#[97, 98]⟩)], [.int .i64 1], bytesV (zer 32)])) (dd_load HS12 2 0 rfl rfl (H18.ev 2 rfl) (slab_whole _) Tryd.underlying40 rfl (by rw [show (catA [[.int .i64 5], [.int .i64 2], [.string (⟨#[97, 98]⟩)], [.int .i64 1], bytesV (zer 32)]).size = 36 from (cat_size (lens_cons rfl (lens_cons rfl (lens_cons rfl (lens_cons rfl (lens_cons (len_bv (length_zer 32)) (lens_nil)))))))]; kernel_rfl)) fun _ H19 => wl_ <| ng H19 (wg_ H19 rfl rfl rfl rfl) rfl (S := fun g23 => [⟨g10, 27, #[.slice (some ⟨gq13, 0, none⟩) 2 cq13]⟩, ⟨gq13, 40, cbq13⟩, ⟨g2, 40, catA [[.int .i64 5], [.int .i64 2], [.string (⟨#[97, 98]⟩)], [.int .i64 1], bytesV (zer 32)]⟩, ⟨g15, 40, catA [(catA [[.int .i64 5], [.int .i64 2], [.string (⟨#[97, 98]⟩)], [.int .i64 1], bytesV (zer 32)]).toList, (catA [[.int .i64 5], [.int .i64 2], [.string (⟨#[97, 98]⟩)], [.int .i64 1], bytesV (zer 32)]).toList]⟩, ⟨g23, 40, catA [(catA [[.int .i64 5], [.int .i64 2], [.string (⟨#[97, 98]⟩)], [.int .i64 1], bytesV (zer 32)]).toList, (catA [[.int .i64 5], [.int .i64 2], [.string (⟨#[97, 98]⟩)], [.int .i64 1], bytesV (zer 32)]).toList, (catA [[.int .i64 5], [.int .i64 2], [.string (⟨#[97, 98]⟩)], [.int .i64 1], bytesV (zer 32)]).toList]⟩]) (fun _ h => dd_lits HS12 (catA [(catA [[.int .i64 5], [.int .i64 2], [.string (⟨#[97, 98]⟩)], [.int .i64 1], bytesV (zer 32)]).toList, (catA [[.int .i64 5], [.int .i64 2], [.string (⟨#[97, 98]⟩)], [.int .i64 1], bytesV (zer 32)]).toList, (catA [[.int .i64 5], [.int .i64 2], [.string (⟨#[97, 98]⟩)], [.int .i64 1], bytesV (zer 32)]).toList]) rfl (ps := [(0, .agg (catA [[.int .i64 5], [.int .i64 2], [.string (⟨#[97, 98]⟩)], [.int .i64 1], bytesV (zer 32)])), (1, .agg (catA [[.int .i64 5], [.int .i64 2], [.string (⟨#[97, 98]⟩)], [.int .i64 1], bytesV (zer 32)])), (2, .agg (catA [[.int .i64 5], [.int .i64 2], [.string (⟨#[97, 98]⟩)], [.int .i64 1], bytesV (zer 32)]))]) (pr1 (H19.ev 20 rfl) (pr1 (H19.ev 21 rfl) (pr1 (H19.ev 22 rfl) (pr0)))) (z := .agg (catA [[.int .i64 0], [.int .i64 0], [.string (⟨#[]⟩)], [.int .i64 0], bytesV (zer 32)])) (sz := 36) Tryd.underlying25 (by kernel_rfl) rfl rfl ((congrArg (fun b9 => Instr.fill (fun i => some (i * 36, 36)) b9 [(0, .agg (catA [[.int .i64 5], [.int .i64 2], [.string (⟨#[97, 98]⟩)], [.int .i64 1], bytesV (zer 32)])), (1, .agg (catA [[.int .i64 5], [.int .i64 2], [.string (⟨#[97, 98]⟩)], [.int .i64 1], bytesV (zer 32)])), (2, .agg (catA [[.int .i64 5], [.int .i64 2], [.string (⟨#[97, 98]⟩)], [.int .i64 1], bytesV (zer 32)]))]) base3).trans (fill_segs _ [(0, .agg (catA [[.int .i64 5], [.int .i64 2], [.string (⟨#[97, 98]⟩)], [.int .i64 1], bytesV (zer 32)])), (1, .agg (catA [[.int .i64 5], [.int .i64 2], [.string (⟨#[97, 98]⟩)], [.int .i64 1], bytesV (zer 32)])), (2, .agg (catA [[.int .i64 5], [.int .i64 2], [.string (⟨#[97, 98]⟩)], [.int .i64 1], bytesV (zer 32)]))] (List.replicate 3 zitm.toList) (List.replicate 3 36) rfl (fun i s h => plc36 h) (fit_cons (i := 0) rfl (cat_size (lens_cons rfl (lens_cons rfl (lens_cons rfl (lens_cons rfl (lens_cons (len_bv (length_zer 32)) (lens_nil))))))) (fit_cons (i := 1) rfl (cat_size (lens_cons rfl (lens_cons rfl (lens_cons rfl (lens_cons rfl (lens_cons (len_bv (length_zer 32)) (lens_nil))))))) (fit_cons (i := 2) rfl (cat_size (lens_cons rfl (lens_cons rfl (lens_cons rfl (lens_cons rfl (lens_cons (len_bv (length_zer 32)) (lens_nil))))))) (fit_nil)))))) h) fun g23 W20 HS20 _ H20 => wl_ <| cg H20 (wg_ H20 rfl rfl rfl rfl) rfl HS20 (dcs Tryd.func11 rfl (args2 (H20.ev 19 rfl) (H20.ev 23 rfl)) (queadd_full g10 _ _ _ _ _ _ W20 (HS20.row 0 rfl) (by decide) (by decide) (by decide)) (.int .i64 19)) fun W21 HS21 _ H21 => ?_
  clear H12 H14 H15 H16 H17 H18 HS12 H19
  refine wl_ <| ig H21 (wg_ H21 rfl rfl rfl rfl) rfl (dd_cmp rfl (H21.ev 24 rfl) rfl (ne_f (by decide))) fun _ H22 => q_ H22 2 rfl fun _ H23 => wl_ <| ig H23 (wg_ H23 rfl rfl rfl rfl) rfl (dd_mv rfl (H23.ev 1 rfl)) fun _ H24 => wl_ <| cg H24 (wg_ H24 rfl rfl rfl rfl) rfl HS21 (dcs Tryd.func19 rfl (args1 (H24.ev 28 rfl)) (quelen_any g10 _ _ _ W21 (HS21.row 0 rfl)) (.int .i64 2)) fun W25 HS25 _ H25 => wl_ <| ig H25 (wg_ H25 rfl rfl rfl rfl) rfl (dd_cmp rfl (H25.ev 29 rfl) rfl (ne_f (by decide))) fun _ H26 => wl_ <| p_ H26 rfl rfl fun _ H27 => ln_ <| ?_
  clear H20 HS20 H21 H22 H23 H24 HS21 H25 H26
  have H28 := H27.sel [1, 2, 31] rfl
  refine nx <| cf_ H28 rfl <| wp_skip <| nx <| sq_ <| rl_ <| wl_ <| p_ H28 rfl rfl fun _ H29 => wl_ <| c_ H29 rfl HS25 (v := .tuple #[.agg (catA [[.int .i64 wka.1], [.int .i64 wka.2.1], [.string (strB wka.2.2.1)], [.int .i64 wka.2.2.2.1], bytesV wka.2.2.2.2]), .bool true]) (dc_ Tryd.func18 rfl (args1 (H29.ev 33 rfl)) (quehead_some g10 _ _ _ _ ([] ++ [wka, wka]) W25 (HS25.row 0 rfl) (items_own (HS25.row 1 rfl) Oq13 rfl wka_wf2) (cat_own (HS25.row 1 rfl) Oq13) (by decide)) (fun _ w9 ⟨y9, hy9, he, hb⟩ => by obtain rfl : wka = y9 := (by injection (show some wka = some y9 from hy9)); exact ⟨_, he, rfl, hb⟩)) fun _ HS30 _ H30 => wl_ <| p_ H30 rfl rfl fun _ H31 => wl_ <| i_ H31 rfl (v := .agg (catA [[.int .i64 wka.1], [.int .i64 wka.2.1], [.string (strB wka.2.2.1)], [.int .i64 wka.2.2.2.1], bytesV wka.2.2.2.2])) (dd_ext rfl (H31.ev 32 rfl) rfl) fun _ H32 => wl_ <| i_ H32 rfl (v := .bool true) (dd_ext rfl (H32.ev 32 rfl) rfl) fun _ H33 => wl_ <| n_ H33 rfl (fun _ h => dd_new HS30 (catA [[.int .i64 0], [.int .i64 0], [.string (⟨#[]⟩)], [.int .i64 0], bytesV (zer 32)]) rfl (z := .agg (catA [[.int .i64 0], [.int .i64 0], [.string (⟨#[]⟩)], [.int .i64 0], bytesV (zer 32)])) (by kernel_rfl) rfl h) fun g3 _ HS34 _ H34 => wl_ <| t_ rfl (fun _ h => dd_setrow HS34 5 rfl rfl (H34.ev 3 rfl) (H34.ev 35 rfl) (by kernel_rfl) ((cat_size (lens_cons rfl (lens_cons rfl (lens_cons rfl (lens_cons rfl (lens_cons (len_bv wka_len) (lens_nil))))))) : (catA [[.int .i64 wka.1], [.int .i64 wka.2.1], [.string (strB wka.2.2.1)], [.int .i64 wka.2.2.2.1], bytesV wka.2.2.2.2]).size = 36) ((cat_size (lens_cons rfl (lens_cons rfl (lens_cons rfl (lens_cons rfl (lens_cons (len_bv (length_zer 32)) (lens_nil))))))) : (catA [[.int .i64 0], [.int .i64 0], [.string (⟨#[]⟩)], [.int .i64 0], bytesV (zer 32)]).size = 36) (cat_one (ones_cons (ones_c rfl) (ones_cons (ones_c rfl) (ones_cons (ones_c rfl) (ones_cons (ones_c rfl) (ones_cons (one_bytesV _) (ones_nil))))))) h) fun W35 HS35 => wl_ <| p_ H34 rfl rfl fun _ H36 => ?_
  clear H27 H28 H29 HS25 H30 H31 H32 HS30 H33 HS34
  refine ln_ <| nx <| sq_ <| rl_ <| wl_ <| i_ H36 rfl (v := .agg (catA [[.int .i64 5], [.int .i64 2], [.string (⟨#[97, 98]⟩)], [.int .i64 1], bytesV (zer 32)])) (dd_load HS35 2 0 rfl rfl (H36.ev 2 rfl) (slab_whole _) Tryd.underlying40 rfl (by rw [show (catA [[.int .i64 5], [.int .i64 2], [.string (⟨#[97, 98]⟩)], [.int .i64 1], bytesV (zer 32)]).size = 36 from (cat_size (lens_cons rfl (lens_cons rfl (lens_cons rfl (lens_cons rfl (lens_cons (len_bv (length_zer 32)) (lens_nil)))))))]; kernel_rfl)) fun _ H37 => wl_ <| i_ H37 rfl (v := .agg (bs (zer 32))) (dd_bldk rfl (ps := []) (pr0) (cs := bs (zer 32)) (by kernel_rfl)) fun _ H38 => ?_
  clear H34 H36 H37
  refine wl_ <| d_ H38 rfl (R := fun v w9 => ∃ Ap cp, v = .tuple #[.slice Ap 2 cp, .int .i64 0] ∧ Below W35.heap.size W35 w9) (dc_ Tryd.func20 rfl (args2 (H38.ev 38 rfl) (H38.ev 39 rfl)) (queputs_any wka (zer 32) W35 wka_len (length_zer 32) (by decide)) (fun _ w9 ⟨v9, he, ho, hb⟩ => by rw [wka_E] at he; rw [wka_P] at ho; obtain ⟨g9, c9, cb9, rfl, _⟩ := ownc_pos ho (by decide); exact ⟨_, he, _, c9, rfl, hb⟩)) ?_
  rintro _ W39 ⟨Ap, cp, rfl, hb39⟩ a39 H39
  have HS39 := HS35.same hb39
  clear H38
  clear HS35 hb39
  refine wl_ <| p_ H39 rfl rfl fun _ H40 => wl_ <| i_ H40 rfl (v := .slice Ap 2 cp) (dd_ext rfl (H40.ev 37 rfl) rfl) fun _ H41 => wl_ <| i_ H41 rfl (v := .int .i64 0) (dd_ext rfl (H41.ev 37 rfl) rfl) fun _ H42 => q_ H42 2 rfl fun _ H43 => ln_ <| nx <| sq_ <| rl_ <| wl_ <| i_ H43 rfl (v := .agg (catA [[.int .i64 0], [.int .i64 4], [.string (⟨#[]⟩)], [.int .i64 0], bytesV (zer 32)])) (dd_bld rfl (ps := [(1, .int .i64 4)]) (pr1 rfl (pr0)) (Lz := [[.int .i64 0], [.int .i64 0], [.string (⟨#[]⟩)], [.int .i64 0], bytesV (zer 32)]) (by kernel_rfl) (lens_cons rfl (lens_cons rfl (lens_cons rfl (lens_cons rfl (lens_cons (len_bv (length_zer 32)) (lens_nil)))))) (fit_cons (i := 1) rfl rfl (fit_nil)) (cs := catA [[.int .i64 0], [.int .i64 4], [.string (⟨#[]⟩)], [.int .i64 0], bytesV (zer 32)]) rfl) fun _ H44 => wl_ <| i_ H44 rfl (v := .agg (bs (zer 32))) (dd_bldk rfl (ps := []) (pr0) (cs := bs (zer 32)) (by kernel_rfl)) fun _ H45 => ?_
  clear H39 H40 H41 H42 H43 H44
  refine wl_ <| d_ H45 rfl (R := fun v w9 => ∃ vq, v = .tuple #[vq, .int .i64 1] ∧ Below W39.heap.size W39 w9) (dc_ Tryd.func20 rfl (args2 (H45.ev 44 rfl) (H45.ev 45 rfl)) (queputs_any wkb (zer 32) W39 (length_zer 32) (length_zer 32) (by decide)) (fun _ w9 ⟨v9, he, ho, hb⟩ => ⟨_, he, v9, rfl, hb⟩)) ?_
  rintro _ W46 ⟨vq, rfl, hb46⟩ a46 H46
  have HS46 := HS39.same hb46
  clear H45
  clear HS39 hb46
  refine wl_ <| p_ H46 rfl rfl fun _ H47 => wl_ <| i_ H47 rfl (v := vq) (dd_ext rfl (H47.ev 43 rfl) rfl) fun _ H48 => wl_ <| i_ H48 rfl (v := .int .i64 1) (dd_ext rfl (H48.ev 43 rfl) rfl) fun _ H49 => q_ H49 2 rfl fun _ H50 => ln_ <| ?_
  clear H46 H47 H48 H49
  have H51 := H50.sel [1, 2, 3, 4, 5, 6, 8] rfl
  refine nx <| sq_ <| rl_ <| q_ H51 2 rfl fun _ H52 => wl_ <| ig H52 (wg_ H52 rfl rfl rfl rfl) rfl (v := .agg (catA [[.int .i64 wka.1], [.int .i64 wka.2.1], [.string (strB wka.2.2.1)], [.int .i64 wka.2.2.2.1], bytesV wka.2.2.2.2])) (dd_load HS46 5 0 rfl rfl (H52.ev 3 rfl) (slab_whole _) Tryd.underlying40 rfl (by rw [show (catA [[.int .i64 wka.1], [.int .i64 wka.2.1], [.string (strB wka.2.2.1)], [.int .i64 wka.2.2.2.1], bytesV wka.2.2.2.2]).size = 36 from (cat_size (lens_cons rfl (lens_cons rfl (lens_cons rfl (lens_cons rfl (lens_cons (len_bv wka_len) (lens_nil)))))))]; kernel_rfl)) fun _ H53 => wl_ <| ig H53 (wg_ H53 rfl rfl rfl rfl) rfl (v := .agg (catA [[.int .i64 5], [.int .i64 2], [.string (⟨#[97, 98]⟩)], [.int .i64 1], bytesV (zer 32)])) (dd_load HS46 2 0 rfl rfl (H53.ev 2 rfl) (slab_whole _) Tryd.underlying40 rfl (by rw [show (catA [[.int .i64 5], [.int .i64 2], [.string (⟨#[97, 98]⟩)], [.int .i64 1], bytesV (zer 32)]).size = 36 from (cat_size (lens_cons rfl (lens_cons rfl (lens_cons rfl (lens_cons rfl (lens_cons (len_bv (length_zer 32)) (lens_nil)))))))]; kernel_rfl)) fun _ H54 => wl_ <| ig H54 (wg_ H54 rfl rfl rfl rfl) rfl (v := .bool true) (dd_eqa (b := true) rfl (H54.ev 51 rfl) (H54.ev 52 rfl) (by kernel_rfl) (fun w => by have h9 := eql_itm wka wka wka_len wka_len w; rw [decide_eq_true rfl] at h9; exact h9)) fun _ H55 => q_ H55 2 rfl fun _ H56 => wl_ <| ig H56 (wg_ H56 rfl rfl rfl rfl) rfl (dd_mv rfl (H56.ev 6 rfl)) fun _ H57 => wl_ <| ig H57 (wg_ H57 rfl rfl rfl rfl) rfl (dd_cmp rfl (H57.ev 56 rfl) rfl (eq_t (by decide))) fun _ H58 => q_ H58 2 rfl fun _ H59 => ?_
  clear H50 H51 H52 H53 H54 H55 H56 H57
  refine wl_ <| ig H59 (wg_ H59 rfl rfl rfl rfl) rfl (dd_mv rfl (H59.ev 5 rfl)) fun _ H60 => wl_ <| ig H60 (wg_ H60 rfl rfl rfl rfl) rfl (v := .int .i64 2) (dd_len rfl (H60.ev 60 rfl) Tryd.underlying51) fun _ H61 => wl_ <| ig H61 (wg_ H61 rfl rfl rfl rfl) rfl (dd_cmp rfl (H61.ev 61 rfl) rfl (eq_t (by decide))) fun _ H62 => q_ H62 2 rfl fun _ H63 => wl_ <| ig H63 (wg_ H63 rfl rfl rfl rfl) rfl (dd_mv rfl (H63.ev 8 rfl)) fun _ H64 => wl_ <| ig H64 (wg_ H64 rfl rfl rfl rfl) rfl (dd_cmp rfl (H64.ev 65 rfl) rfl (eq_t (by decide))) fun _ H65 => q_ H65 2 rfl fun _ H66 => wl_ <| ig H66 (wg_ H66 rfl rfl rfl rfl) rfl (dd_mv rfl (H66.ev 1 rfl)) fun _ H67 => ?_
  clear H58 H59 H60 H61 H62 H63 H64 H65
  clear H66
  have hlegq13 := Oq13.le
  refine wl_ <| dr_ H67 (wg_ H67 rfl rfl rfl rfl) rfl (R := fun v9 w9 => v9 = .bool true ∧ St w noF [⟨g10, 27, #[.slice (some ⟨gq13, 36, none⟩) 1 (cq13 - 1)]⟩, ⟨gq13, 40, cbq13⟩, ⟨g2, 40, catA [[.int .i64 5], [.int .i64 2], [.string (⟨#[97, 98]⟩)], [.int .i64 1], bytesV (zer 32)]⟩, ⟨g15, 40, catA [(catA [[.int .i64 5], [.int .i64 2], [.string (⟨#[97, 98]⟩)], [.int .i64 1], bytesV (zer 32)]).toList, (catA [[.int .i64 5], [.int .i64 2], [.string (⟨#[97, 98]⟩)], [.int .i64 1], bytesV (zer 32)]).toList]⟩, ⟨g23, 40, catA [(catA [[.int .i64 5], [.int .i64 2], [.string (⟨#[97, 98]⟩)], [.int .i64 1], bytesV (zer 32)]).toList, (catA [[.int .i64 5], [.int .i64 2], [.string (⟨#[97, 98]⟩)], [.int .i64 1], bytesV (zer 32)]).toList, (catA [[.int .i64 5], [.int .i64 2], [.string (⟨#[97, 98]⟩)], [.int .i64 1], bytesV (zer 32)]).toList]⟩, ⟨g3, 40, catA [[.int .i64 wka.1], [.int .i64 wka.2.1], [.string (strB wka.2.2.1)], [.int .i64 wka.2.2.2.1], bytesV wka.2.2.2.2]⟩] w9) (dc_ Tryd.func13 rfl (args1 (H67.ev 69 rfl)) (quepop_some _ g10 gq13 0 2 cq13 _ (ss HS46 [0]).frame (by omega) (by omega) (by omega)) (fun _ w9 ⟨he, hS⟩ => ⟨_, he, rfl, St.reframe (ss HS46 [0, 1, 2, 3, 4, 5]) hS⟩)) ?_
  rintro _ W68 ⟨rfl, HS68⟩ a68 H68
  clear H67 HS46
  refine q_ H68 2 rfl fun _ H69 => wl_ <| ig H69 (wg_ H69 rfl rfl rfl rfl) rfl (dd_mv rfl (H69.ev 1 rfl)) fun _ H70 => ?_
  clear H68 H69
  refine wl_ <| dr_ H70 (wg_ H70 rfl rfl rfl rfl) rfl (R := fun v9 w9 => ∃ gi72 : Nat, ∃ ci72 : Nat, ∃ cbi72 : Array Value, v9 = .slice (some ⟨gi72, 0, none⟩) 1 ci72 ∧ (OwnC cbi72 ci72 1 1 (intsV ([wka].map (·.1)))) ∧ St w noF [⟨g10, 27, #[.slice none 0 0]⟩, ⟨gi72, 3, cbi72⟩, ⟨gq13, 40, cbq13⟩, ⟨g2, 40, catA [[.int .i64 5], [.int .i64 2], [.string (⟨#[97, 98]⟩)], [.int .i64 1], bytesV (zer 32)]⟩, ⟨g15, 40, catA [(catA [[.int .i64 5], [.int .i64 2], [.string (⟨#[97, 98]⟩)], [.int .i64 1], bytesV (zer 32)]).toList, (catA [[.int .i64 5], [.int .i64 2], [.string (⟨#[97, 98]⟩)], [.int .i64 1], bytesV (zer 32)]).toList]⟩, ⟨g23, 40, catA [(catA [[.int .i64 5], [.int .i64 2], [.string (⟨#[97, 98]⟩)], [.int .i64 1], bytesV (zer 32)]).toList, (catA [[.int .i64 5], [.int .i64 2], [.string (⟨#[97, 98]⟩)], [.int .i64 1], bytesV (zer 32)]).toList, (catA [[.int .i64 5], [.int .i64 2], [.string (⟨#[97, 98]⟩)], [.int .i64 1], bytesV (zer 32)]).toList]⟩, ⟨g3, 40, catA [[.int .i64 wka.1], [.int .i64 wka.2.1], [.string (strB wka.2.2.1)], [.int .i64 wka.2.2.2.1], bytesV wka.2.2.2.2]⟩] w9) (dc_ Tryd.func16 rfl (args1 (H70.ev 73 rfl)) (queclear_any _ g10 gq13 36 1 _ [wka] _ (ss HS68 [0]).frame ⟨rfl, by omega, wka_wf1, fun _ => ⟨_, _, rfl, wka_at (cat_own (HS68.row 1 rfl) Oq13)⟩⟩ (fun W9 k9 => wka_at (cat_own ((HS68.row 1 rfl).chg k9 (nin_row (S1 := selB [⟨g10, 27, #[.slice (some ⟨gq13, 36, none⟩) 1 (cq13 - 1)]⟩, ⟨gq13, 40, cbq13⟩, ⟨g2, 40, catA [[.int .i64 5], [.int .i64 2], [.string (⟨#[97, 98]⟩)], [.int .i64 1], bytesV (zer 32)]⟩, ⟨g15, 40, catA [(catA [[.int .i64 5], [.int .i64 2], [.string (⟨#[97, 98]⟩)], [.int .i64 1], bytesV (zer 32)]).toList, (catA [[.int .i64 5], [.int .i64 2], [.string (⟨#[97, 98]⟩)], [.int .i64 1], bytesV (zer 32)]).toList]⟩, ⟨g23, 40, catA [(catA [[.int .i64 5], [.int .i64 2], [.string (⟨#[97, 98]⟩)], [.int .i64 1], bytesV (zer 32)]).toList, (catA [[.int .i64 5], [.int .i64 2], [.string (⟨#[97, 98]⟩)], [.int .i64 1], bytesV (zer 32)]).toList, (catA [[.int .i64 5], [.int .i64 2], [.string (⟨#[97, 98]⟩)], [.int .i64 1], bytesV (zer 32)]).toList]⟩, ⟨g3, 40, catA [[.int .i64 wka.1], [.int .i64 wka.2.1], [.string (strB wka.2.2.1)], [.int .i64 wka.2.2.2.1], bytesV wka.2.2.2.2]⟩] [0]) (ss HS68 [0, 1, 2, 3, 4, 5]) 0 rfl)) Oq13)) (by decide) (by decide)) (fun _ w9 ⟨g9, c9, cb9, he, hO, hS⟩ => ⟨_, he, g9, c9, cb9, rfl, hO, St.reframe (ss HS68 [0, 1, 2, 3, 4, 5]) hS⟩)) ?_
  rintro _ W71 ⟨gi72, ci72, cbi72, rfl, Oi72, HS71⟩ a71 H71
  clear H70 HS68
  refine wl_ <| ng H71 (wg_ H71 rfl rfl rfl rfl) rfl (fun _ h => dd_lits HS71 #[.int .i64 5] rfl (ps := [(0, .int .i64 5)]) (pr1 rfl (pr0)) (z := .int .i64 0) (sz := 1) Tryd.underlying45 (by kernel_rfl) rfl rfl (by kernel_rfl) h) fun _ W73 HS73 _ H73 => wl_ <| cg H73 (wg_ H73 rfl rfl rfl rfl) rfl HS73 (v := .bool true) (dc_ Tryd.func15 rfl (args2 (H73.ev 74 rfl) (H73.ev 75 rfl)) (keepints_any [5] [5] _ _ _ _ _ _ W73 (ints_own (base := 0) (ownc_to (HS73.row 1 rfl) Oi72 (Nat.zero_le _)) one5) (ints_own (base := 0) (ownc_to (HS73.row 7 rfl) (⟨Nat.le_refl _, by decide, rfl, rfl, rfl⟩ : OwnC #[.int .i64 5] 1 1 1 (intsV [5])) (Nat.zero_le _)) one5) (by decide)) (fun _ w9 h9 => ⟨_, h9.1, by rw [decide_eq_true rfl], h9.2⟩)) fun W74 HS74 _ H74 => q_ H74 2 rfl fun _ H75 => wl_ <| ig H75 (wg_ H75 rfl rfl rfl rfl) rfl (dd_mv rfl (H75.ev 1 rfl)) fun _ H76 => wl_ <| cg H76 (wg_ H76 rfl rfl rfl rfl) rfl HS74 (dcs Tryd.func13 rfl (args1 (H76.ev 79 rfl)) (quepop_none g10 _ _ W74 (HS74.row 0 rfl)) (.bool false)) fun _ HS77 _ H77 => wl_ <| ig H77 (wg_ H77 rfl rfl rfl rfl) rfl (v := .bool true) (dd_nt rfl (H77.ev 80 rfl) rfl) fun _ H78 => q_ H78 2 rfl fun _ H79 => ln_ <| ?_
  clear HS71 H71 H73 HS73 H74 H75 H76 HS74 H77 H78
  have H80 := H79.sel [0] rfl
  refine nx <| wp_ret <| ret_run H80.env0 (res_t Tryd.results8 (H80.get 0 rfl)) <| ?_
  clear H79
  exact ⟨rfl, HS77.below⟩
end Go.Proofs.YtnmaplgodimohaaDoor

/- Copies of one item that wait. -/
set_option maxRecDepth 4000
namespace Go.Proofs.YtnmaplgodimohaaDoor
open Go Go.RowKit
theorem wf_rep {y : It} {n : Nat} (hy : y.2.2.2.2.length = 32) : wfI (List.replicate n y) := fun x hx => by rw [List.eq_of_mem_replicate hx]; exact hy
theorem rep_app {y : It} (a b N : Nat) (h : a + b = N) : List.replicate a y ++ List.replicate b y = List.replicate N y := by subst h; exact List.replicate_append_replicate
theorem rep_S {y : It} {cb : Array Value} {c n j : Nat} (O : OwnC cb c n 36 (itemsL (List.replicate j y) ++ itemsL [y])) : OwnC cb c n 36 (itemsL (List.replicate (j + 1) y)) := by
  rw [← items_app, show [y] = List.replicate 1 y from rfl, rep_app j 1 (j + 1) rfl] at O; exact O
theorem ItemsAt.cat {w : World} {b o n c : Nat} {X : List It} (h : ItemsAt w (some ⟨b, o, none⟩) n c X) (hn : n ≠ 0) : CAt w b o (itemsL X) := by
  obtain ⟨b9, o9, e, h2⟩ := h.at_ hn
  injection e with e; injection e with e1 e2; subst e1 e2; exact h2
theorem queadd_as (F : Nat → Prop) (g : Nat) (A B : Option Addr) (n c m d : Nat) (X Y : List It) (N : Nat) (Z : List It) (w : World) (HS : St w F [⟨g, 27, #[.slice A n c]⟩] w) (H1 : ∀ W, Chg F w W → ItemsAt W A n c X) (H2 : ∀ W, Chg F w W → ItemsAt W B m d Y) (hf : n + m ≤ 4) (h0 : 0 < n + m) (hN : n + m = N) (hZ : X ++ Y = Z) : Calls Tryd.prog 11 #[.pointer (some ⟨g, 0, none⟩), .slice B m d] w fun x w' => ∃ g' c' cb', x = .returned (.int .i64 0) ∧ OwnC cb' c' N 36 (itemsL Z) ∧ St w F [⟨g, 27, #[.slice (some ⟨g', 0, none⟩) N c']⟩, ⟨g', 40, cb'⟩] w' := by
  subst hN hZ; exact queadd_some F g A B n c m d X Y w HS H1 H2 hf h0
end Go.Proofs.YtnmaplgodimohaaDoor

/- The statement QueueNone: its walk. -/
set_option maxRecDepth 4000
namespace Go.Proofs.YtnmaplgodimohaaDoor
open Go Go.RowKit
theorem wf_one {y : It} (hy : y.2.2.2.2.length = 32) : wfI [y] := fun x hx => by rw [List.mem_singleton] at hx; subst hx; exact hy
end Go.Proofs.YtnmaplgodimohaaDoor
