/- Merged: QueFn QueZero QueWk QueWl QueRep QueRef QueIds QuNone QuOrd QuOrdN SlOpen. -/
import Derived.Laws.StructEq
import Derived.Test.YtnmaplgodimohaaDoorMAw1
import Derived.Test.YtnmaplgodimohaaDoorMGen0
/- What waits: its functions. -/
set_option maxRecDepth 4000
namespace Go.Proofs.YtnmaplgodimohaaDoor
open Go Go.RowKit
theorem quelen_any (g : Nat) (A : Option Addr) (n c : Nat) (w : World) (hr : Row w g 27 #[.slice A n c]) : Calls Tryd.prog 19 #[.pointer (some ⟨g, 0, none⟩)] w fun x w' => x = .returned (.int .i64 (n : Int)) ∧ Below w.heap.size w w' := by
  have HS := St.nil w noF
  have HR : ∀ W, Below w.heap.size w W → Row W g 27 #[.slice A n c] := fun W hb => hr.call hb
  refine enter_en Tryd.func19 rfl Tryd.ntmps19 (Nat.le_of_ble_eq_true rfl) fun a0 (HA0 : En 10 [(0, .pointer (some ⟨g, 0, none⟩))] a0) => ?_
  refine sq_ <| rl_ <| wl_ <| p_ HA0 rfl rfl fun _ H1 => ln_ <| nx <| sq_ <| sq_ <| rl_ <| wl_ <| p_ H1 rfl rfl fun _ H2 => wl_ <| i_ H2 rfl (v := .bool false) (dd_eqp rfl (H2.ev 3 rfl) rfl Tryd.underlying24 rfl) fun _ H3 => ln_ <| nx <| cf_ H3 rfl <| wp_skip <| nx <| sq_ <| rl_ <| wl_ <| p_ H3 rfl rfl fun _ H4 => wl_ <| i_ H4 rfl (dd_nilc rfl (H4.ev 5 rfl)) fun _ H5 => wl_ <| i_ H5 rfl (xf 0 0 rfl (H5.ev 6 rfl)) fun _ H6 => wl_ <| i_ H6 rfl (dd_getR (HR _ HS.below) rfl (H6.ev 7 rfl) rfl Tryd.underlying25 rfl) fun _ H7 => wl_ <| i_ H7 rfl (v := .int .i64 n) (dd_len rfl (H7.ev 8 rfl) Tryd.underlying25) fun _ H8 => ?_
  clear HA0 H1 H2 H3 H4 H5 H6
  refine wl_ <| p_ H8 rfl rfl fun _ H9 => ln_ <| nx <| wp_ret <| ret_run H9.env0 (res_t Tryd.results19 (H9.get 2 rfl)) <| ?_
  clear H7 H8
  exact ⟨rfl, HS.below⟩
theorem quehead_some (g b o n c : Nat) (X : List It) (w : World) (hr : Row w g 27 #[.slice (some ⟨b, o, none⟩) n c]) (hi : ItemsAt w (some ⟨b, o, none⟩) n c X) (h0 : CAt w b o (itemsL X)) (hn : 0 < n) : Calls Tryd.prog 18 #[.pointer (some ⟨g, 0, none⟩)] w fun x w' => ∃ y, X[0]? = some y ∧ x = .returned (.tuple #[.agg (catA [[.int .i64 y.1], [.int .i64 y.2.1], [.string (strB y.2.2.1)], [.int .i64 y.2.2.2.1], bytesV y.2.2.2.2]), .bool true]) ∧ Below w.heap.size w w' := by
  have HS := St.nil w noF
  have HR : ∀ W, Below w.heap.size w W → Row W g 27 #[.slice (some ⟨b, o, none⟩) n c] := fun W hb => hr.call hb
  have HE : ∀ W, Below w.heap.size w W → CAt W b o (itemsL X) := fun W hb => h0.call hb
  refine enter_en Tryd.func18 rfl Tryd.ntmps18 (Nat.le_of_ble_eq_true rfl) fun a0 (HA0 : En 14 [(0, .pointer (some ⟨g, 0, none⟩))] a0) => ?_
  refine sq_ <| rl_ <| wl_ <| n_ HA0 rfl (fun _ h => dd_new HS (catA [[.int .i64 0], [.int .i64 0], [.string (⟨#[]⟩)], [.int .i64 0], bytesV (zer 32)]) rfl (z := .agg (catA [[.int .i64 0], [.int .i64 0], [.string (⟨#[]⟩)], [.int .i64 0], bytesV (zer 32)])) (by kernel_rfl) rfl h) fun _ W1 HS1 _ H1 => wl_ <| p_ H1 rfl rfl fun _ H2 => ln_ <| nx <| sq_ <| sq_ <| rl_ <| wl_ <| p_ H2 rfl rfl fun _ H3 => wl_ <| c_ H3 rfl HS1 (dcs Tryd.func19 rfl (args1 (H3.ev 4 rfl)) (quelen_any g _ _ _ W1 (HR _ HS1.below)) (.int .i64 n)) fun _ HS4 _ H4 => wl_ <| i_ H4 rfl (dd_cmp rfl (H4.ev 5 rfl) rfl (eq_f (by omega))) fun _ H5 => ln_ <| nx <| cf_ H5 rfl <| wp_skip <| nx <| sq_ <| rl_ <| wl_ <| p_ H5 rfl rfl fun _ H6 => wl_ <| i_ H6 rfl (dd_nilc rfl (H6.ev 8 rfl)) fun _ H7 => wl_ <| i_ H7 rfl (xf 0 0 rfl (H7.ev 9 rfl)) fun _ H8 => ?_
  clear HS HA0 H1 H2 H3 HS1 H4 H5 H6
  refine wl_ <| i_ H8 rfl (dd_getR (HR _ HS4.below) rfl (H8.ev 10 rfl) rfl Tryd.underlying25 rfl) fun _ H9 => wl_ <| i_ H9 rfl (xSo 36 (o + 0 * 36) rfl (H9.ev 11 rfl) rfl) fun _ H10 => ?_
  clear H7 H8 H9
  obtain ⟨x0, hx0⟩ : ∃ x, X[0]? = some x := ⟨_, List.getElem?_eq_getElem (by rw [hi.len]; omega)⟩
  have hw0 := hi.wf x0 (List.mem_of_getElem? hx0)
  refine wl_ <| i_ H10 rfl (v := .agg (catA [[.int .i64 x0.1], [.int .i64 x0.2.1], [.string (strB x0.2.2.1)], [.int .i64 x0.2.2.2.1], bytesV x0.2.2.2.2])) (dd_atN rfl (H10.ev 12 rfl) (item_all (HE _ HS4.below) hi.wf hx0) Tryd.underlying40 rfl (by show _ = some (catA [[.int .i64 x0.1], [.int .i64 x0.2.1], [.string (strB x0.2.2.1)], [.int .i64 x0.2.2.2.1], bytesV x0.2.2.2.2]).toList.length; rw [show (catA [[.int .i64 x0.1], [.int .i64 x0.2.1], [.string (strB x0.2.2.1)], [.int .i64 x0.2.2.2.1], bytesV x0.2.2.2.2]).toList.length = 36 from (Array.length_toList).trans (cat_size (lens_cons rfl (lens_cons rfl (lens_cons rfl (lens_cons rfl (lens_cons (len_bv hw0) (lens_nil)))))))]; kernel_rfl)) fun _ H11 => wl_ <| t_ rfl (fun _ h => dd_setrow HS4 0 rfl rfl (H11.ev 2 rfl) (H11.ev 13 rfl) (by kernel_rfl) ((cat_size (lens_cons rfl (lens_cons rfl (lens_cons rfl (lens_cons rfl (lens_cons (len_bv hw0) (lens_nil))))))) : (catA [[.int .i64 x0.1], [.int .i64 x0.2.1], [.string (strB x0.2.2.1)], [.int .i64 x0.2.2.2.1], bytesV x0.2.2.2.2]).size = 36) ((cat_size (lens_cons rfl (lens_cons rfl (lens_cons rfl (lens_cons rfl (lens_cons (len_bv (length_zer 32)) (lens_nil))))))) : (catA [[.int .i64 0], [.int .i64 0], [.string (⟨#[]⟩)], [.int .i64 0], bytesV (zer 32)]).size = 36) (cat_one (ones_cons (ones_c rfl) (ones_cons (ones_c rfl) (ones_cons (ones_c rfl) (ones_cons (ones_c rfl) (ones_cons (one_bytesV _) (ones_nil))))))) h) fun _ HS12 => wl_ <| p_ H11 rfl rfl fun _ H13 => ln_ <| nx <| wp_ret <| ret_run H13.env0 (res_ct Tryd.results18 (H13.get 2 rfl) (HS12.row 0 rfl) Tryd.underlying40 rfl (by rw [show (catA [[.int .i64 x0.1], [.int .i64 x0.2.1], [.string (strB x0.2.2.1)], [.int .i64 x0.2.2.2.1], bytesV x0.2.2.2.2]).size = 36 from (cat_size (lens_cons rfl (lens_cons rfl (lens_cons rfl (lens_cons rfl (lens_cons (len_bv hw0) (lens_nil)))))))]; kernel_rfl) (H13.get 3 rfl)) <| ?_
  clear H10 HS4 H11
  exact ⟨x0, hx0, rfl, HS12.below⟩
theorem quepop_some (F : Nat → Prop) (g b o n c : Nat) (w : World) (HS : St w F [⟨g, 27, #[.slice (some ⟨b, o, none⟩) n c]⟩] w) (hn : 0 < n) (hc : 1 < c) (_ : n ≤ c) : Calls Tryd.prog 13 #[.pointer (some ⟨g, 0, none⟩)] w fun x w' => x = .returned (.bool true) ∧ St w F [⟨g, 27, #[.slice (some ⟨b, o + 36, none⟩) (n - 1) (c - 1)]⟩] w' := by
  refine enter_en Tryd.func13 rfl Tryd.ntmps13 (Nat.le_of_ble_eq_true rfl) fun a0 (HA0 : En 14 [(0, .pointer (some ⟨g, 0, none⟩))] a0) => ?_
  refine sq_ <| rl_ <| wl_ <| p_ HA0 rfl rfl fun _ H1 => ln_ <| nx <| sq_ <| sq_ <| rl_ <| wl_ <| p_ H1 rfl rfl fun _ H2 => wl_ <| c_ H2 rfl HS (dcs Tryd.func19 rfl (args1 (H2.ev 3 rfl)) (quelen_any g _ _ _ w (HS.row 0 rfl)) (.int .i64 n)) fun _ HS3 _ H3 => wl_ <| i_ H3 rfl (dd_cmp rfl (H3.ev 4 rfl) rfl (eq_f (by omega))) fun _ H4 => ln_ <| nx <| cf_ H4 rfl <| wp_skip <| nx <| sq_ <| rl_ <| q_ H4 2 rfl fun _ H5 => wl_ <| i_ H5 rfl (dd_nilc rfl (H5.ev 7 rfl)) fun _ H6 => wl_ <| i_ H6 rfl (xf 0 0 rfl (H6.ev 8 rfl)) fun _ H7 => wl_ <| i_ H7 rfl (dd_get HS3 0 0 rfl rfl (H7.ev 9 rfl) rfl Tryd.underlying25 rfl) fun _ H8 => ?_
  clear HA0 H1 H2 HS H3 H4 H5 H6
  refine wl_ <| i_ H8 rfl (v := .slice (some ⟨b, o + 36, none⟩) (n - 1) (c - 1)) (dd_sll (l := 1) (sz := 36) (j := o + 36) (n' := n - 1) (c' := c - 1) rfl (H8.ev 10 rfl) rfl (by kernel_rfl) (by omega) (by omega) rfl rfl rfl) fun _ H9 => wl_ <| i_ H9 rfl (dd_nilc rfl (H9.ev 6 rfl)) fun _ H10 => wl_ <| i_ H10 rfl (xf 0 0 rfl (H10.ev 12 rfl)) fun _ H11 => wl_ <| t_ rfl (fun _ h => dd_put (cs := #[.slice (some ⟨b, o + 36, none⟩) (n - 1) (c - 1)]) HS3 0 0 rfl rfl (H11.ev 13 rfl) (H11.ev 11 rfl) (by kernel_rfl) rfl rfl rfl rfl h) fun _ HS12 => ln_ <| nx <| sq_ <| rl_ <| wl_ <| p_ H11 rfl rfl fun _ H13 => ln_ <| nx <| wp_ret <| ret_run H13.env0 (res_t Tryd.results13 (H13.get 2 rfl)) <| ?_
  clear H7 H8 H9 H10 HS3 H11
  exact ⟨rfl, ss HS12 [0]⟩
theorem quepop_none (g : Nat) (A : Option Addr) (c : Nat) (w : World) (hr : Row w g 27 #[.slice A 0 c]) : Calls Tryd.prog 13 #[.pointer (some ⟨g, 0, none⟩)] w fun x w' => x = .returned (.bool false) ∧ Below w.heap.size w w' := by
  have HS := St.nil w noF
  have HR : ∀ W, Below w.heap.size w W → Row W g 27 #[.slice A 0 c] := fun W hb => hr.call hb
  refine enter_en Tryd.func13 rfl Tryd.ntmps13 (Nat.le_of_ble_eq_true rfl) fun a0 (HA0 : En 14 [(0, .pointer (some ⟨g, 0, none⟩))] a0) => ?_
  refine sq_ <| rl_ <| wl_ <| p_ HA0 rfl rfl fun _ H1 => ln_ <| nx <| sq_ <| sq_ <| rl_ <| wl_ <| p_ H1 rfl rfl fun _ H2 => wl_ <| c_ H2 rfl HS (dcs Tryd.func19 rfl (args1 (H2.ev 3 rfl)) (quelen_any g _ _ _ w (HR _ HS.below)) (.int .i64 0)) fun _ HS3 _ H3 => wl_ <| i_ H3 rfl (dd_cmp rfl (H3.ev 4 rfl) rfl (eq_t (by decide))) fun _ H4 => ln_ <| nx <| ct_ H4 rfl <| sq_ <| rl_ <| wl_ <| p_ H4 rfl rfl fun _ H5 => ln_ <| nx <| wp_ret <| tr <| ret_run H5.env0 (res_t Tryd.results13 (H5.get 2 rfl)) <| ?_
  clear HA0 H1 H2 HS H3 H4
  exact ⟨rfl, HS3.below⟩
theorem queadd_full (g : Nat) (A B : Option Addr) (n c m d : Nat) (w : World) (hr : Row w g 27 #[.slice A n c]) (hf : 4 < n + m) (hn : n ≤ 1000) (_ : m ≤ 1000000000) : Calls Tryd.prog 11 #[.pointer (some ⟨g, 0, none⟩), .slice B m d] w fun x w' => x = .returned (.int .i64 19) ∧ Below w.heap.size w w' := by
  have HS := St.nil w noF
  have HR : ∀ W, Below w.heap.size w W → Row W g 27 #[.slice A n c] := fun W hb => hr.call hb
  refine enter_en Tryd.func11 rfl Tryd.ntmps11 (Nat.le_of_ble_eq_true rfl) fun a0 (HA0 : En 26 [(0, .pointer (some ⟨g, 0, none⟩)), (1, .slice B m d)] a0) => ?_
  refine sq_ <| rl_ <| wl_ <| p_ HA0 rfl rfl fun _ H1 => ln_ <| nx <| sq_ <| sq_ <| rl_ <| wl_ <| p_ H1 rfl rfl fun _ H2 => wl_ <| i_ H2 rfl (v := .bool false) (dd_eqp rfl (H2.ev 5 rfl) rfl Tryd.underlying24 rfl) fun _ H3 => ln_ <| nx <| cf_ H3 rfl <| wp_skip <| nx <| sq_ <| sq_ <| rl_ <| wl_ <| p_ H3 rfl rfl fun _ H4 => wl_ <| i_ H4 rfl (v := .int .i64 m) (dd_len rfl (H4.ev 7 rfl) Tryd.underlying25) fun _ H5 => wl_ <| p_ H5 rfl rfl fun _ H6 => wl_ <| i_ H6 rfl (dd_nilc rfl (H6.ev 9 rfl)) fun _ H7 => wl_ <| i_ H7 rfl (xf 0 0 rfl (H7.ev 10 rfl)) fun _ H8 => ?_
  clear HA0 H1 H2 H3 H4 H5 H6
  refine wl_ <| i_ H8 rfl (dd_getR (HR _ HS.below) rfl (H8.ev 11 rfl) rfl Tryd.underlying25 rfl) fun _ H9 => wl_ <| i_ H9 rfl (v := .int .i64 n) (dd_len rfl (H9.ev 12 rfl) Tryd.underlying25) fun _ H10 => wl_ <| i_ H10 rfl (v := .int .i64 (4 - (n : Int))) (dd_ari rfl rfl (H10.ev 13 rfl) rfl (i64_of (by omega) (by omega))) fun _ H11 => wl_ <| i_ H11 rfl (dd_cmp rfl (H11.ev 8 rfl) (H11.ev 14 rfl) (gt_t (by omega))) fun _ H12 => ln_ <| nx <| ct_ H12 rfl <| sq_ <| rl_ <| wl_ <| p_ H12 rfl rfl fun _ H13 => ln_ <| nx <| wp_ret <| tr <| ret_run H13.env0 (res_t Tryd.results11 (H13.get 4 rfl)) <| ?_
  clear H7 H8 H9 H10 H11 H12
  exact ⟨rfl, HS.below⟩
set_option maxHeartbeats 800000 in
theorem queadd_some (F : Nat → Prop) (g : Nat) (A B : Option Addr) (n c m d : Nat) (X Y : List It) (w : World) (HS : St w F [⟨g, 27, #[.slice A n c]⟩] w) (H1 : ∀ W, Chg F w W → ItemsAt W A n c X) (H2 : ∀ W, Chg F w W → ItemsAt W B m d Y) (hf : n + m ≤ 4) (h0 : 0 < n + m) : Calls Tryd.prog 11 #[.pointer (some ⟨g, 0, none⟩), .slice B m d] w fun x w' => ∃ g' c' cb', x = .returned (.int .i64 0) ∧ OwnC cb' c' (n + m) 36 (itemsL (X ++ Y)) ∧ St w F [⟨g, 27, #[.slice (some ⟨g', 0, none⟩) (n + m) c']⟩, ⟨g', 40, cb'⟩] w' := by
  refine enter_en Tryd.func11 rfl Tryd.ntmps11 (Nat.le_of_ble_eq_true rfl) fun a0 (HA0 : En 26 [(0, .pointer (some ⟨g, 0, none⟩)), (1, .slice B m d)] a0) => ?_
  refine sq_ <| rl_ <| wl_ <| p_ HA0 rfl rfl fun _ H1 => ln_ <| nx <| sq_ <| sq_ <| rl_ <| wl_ <| p_ H1 rfl rfl fun _ H2 => wl_ <| i_ H2 rfl (v := .bool false) (dd_eqp rfl (H2.ev 5 rfl) rfl Tryd.underlying24 rfl) fun _ H3 => ln_ <| nx <| cf_ H3 rfl <| wp_skip <| nx <| sq_ <| sq_ <| rl_ <| wl_ <| p_ H3 rfl rfl fun _ H4 => wl_ <| i_ H4 rfl (v := .int .i64 m) (dd_len rfl (H4.ev 7 rfl) Tryd.underlying25) fun _ H5 => wl_ <| p_ H5 rfl rfl fun _ H6 => wl_ <| i_ H6 rfl (dd_nilc rfl (H6.ev 9 rfl)) fun _ H7 => wl_ <| i_ H7 rfl (xf 0 0 rfl (H7.ev 10 rfl)) fun _ H8 => ?_
  clear HA0 H1 H2 H3 H4 H5 H6
  refine wl_ <| i_ H8 rfl (dd_get HS 0 0 rfl rfl (H8.ev 11 rfl) rfl Tryd.underlying25 rfl) fun _ H9 => wl_ <| i_ H9 rfl (v := .int .i64 n) (dd_len rfl (H9.ev 12 rfl) Tryd.underlying25) fun _ H10 => wl_ <| i_ H10 rfl (v := .int .i64 (4 - (n : Int))) (dd_ari rfl rfl (H10.ev 13 rfl) rfl (i64_of (by omega) (by omega))) fun _ H11 => wl_ <| i_ H11 rfl (dd_cmp rfl (H11.ev 8 rfl) (H11.ev 14 rfl) (gt_f (by omega))) fun _ H12 => ln_ <| nx <| cf_ H12 rfl <| wp_skip <| nx <| sq_ <| rl_ <| q_ H12 2 rfl fun _ H13 => wl_ <| i_ H13 rfl (dd_nilc rfl (H13.ev 17 rfl)) fun _ H14 => wl_ <| i_ H14 rfl (xf 0 0 rfl (H14.ev 18 rfl)) fun _ H15 => wl_ <| i_ H15 rfl (dd_get HS 0 0 rfl rfl (H15.ev 19 rfl) rfl Tryd.underlying25 rfl) fun _ H16 => ?_
  clear H7 H8 H9 H10 H11 H12 H13 H14
  refine wl_ <| p_ H16 rfl rfl fun _ H17 => wl_ <| n_ H17 rfl (fun _ h => dd_lits HS #[.slice A n c, .slice B m d] rfl (ps := [(0, .slice A n c), (1, .slice B m d)]) (pr1 (H17.ev 20 rfl) (pr1 (H17.ev 21 rfl) (pr0))) (z := .slice none 0 0) (sz := 1) Tryd.underlying71 (by kernel_rfl) rfl rfl (by kernel_rfl) h) fun g22 W18 HS18 _ H18 => ?_
  clear H15 H16 HS H17
  refine wl_ <| d_ H18 rfl (R := fun v w9 => ∃ gc20 cc20 cbc20, v = .slice (some ⟨gc20, 0, none⟩) (n + m) cc20 ∧ (W18.heap.size ≤ gc20) ∧ (Row w9 gc20 40 cbc20) ∧ (OwnC cbc20 cc20 (n + m) 36 (itemsL (X ++ Y))) ∧ Below W18.heap.size W18 w9) (dc_ Tryd.func23 rfl (args1 (H18.ev 22 rfl)) (concatQ_any _ _ _ _ _ _ _ X Y W18 (HS18.row 1 rfl) (H1 _ HS18.chg) (H2 _ HS18.chg) (by omega) (by omega) (by omega)) (fun _ w9 ⟨g9, c9, cb9, he, h1, h2, h3, hb⟩ => ⟨_, he, g9, c9, cb9, rfl, h1, h2, h3, hb⟩)) ?_
  rintro _ W19 ⟨gc20, cc20, cbc20, rfl, hg20, hr20, Oc20, hb19⟩ a19 H19
  have HS19 := HS18.same hb19
  clear H18
  have HS19j : St w F [⟨g, 27, #[.slice A n c]⟩, ⟨g22, 25, #[.slice A n c, .slice B m d]⟩, ⟨gc20, 40, cbc20⟩] W19 := HS18.joins hb19 hr20 hg20
  clear HS19 hr20 hg20
  clear HS18 hb19
  refine wl_ <| i_ H19 rfl (dd_nilc rfl (H19.ev 16 rfl)) fun _ H21 => wl_ <| i_ H21 rfl (xf 0 0 rfl (H21.ev 24 rfl)) fun _ H22 => wl_ <| t_ rfl (fun _ h => dd_put (cs := #[.slice (some ⟨gc20, 0, none⟩) (n + m) cc20]) HS19j 0 0 rfl rfl (H22.ev 25 rfl) (H22.ev 23 rfl) (by kernel_rfl) rfl rfl rfl rfl h) fun _ HS23 => ln_ <| ?_
  clear H19 H21 HS19j
  have H24 := H22.sel [] rfl
  refine nx <| sq_ <| rl_ <| wl_ <| p_ H24 rfl rfl fun _ H25 => ln_ <| nx <| wp_ret <| ret_run H25.env0 (res_t Tryd.results11 (H25.get 4 rfl)) <| ?_
  clear H22 H24
  exact ⟨gc20, cc20, cbc20, rfl, Oc20, ss HS23 [0, 2]⟩
theorem puts_1 {qb : List (BitVec 8)} {y : It} (h : y.2.1 = 1) : putsE qb y = placeE (decLT qb) y.2.2.1 y.2.2.2.1 ∧ putsP qb y = writeP (decLT qb) y.2.2.1 y.2.2.2.1 y.2.2.2.2 := ⟨if_pos h, if_pos h⟩
theorem puts_2 {qb : List (BitVec 8)} {y : It} (h : y.2.1 = 2) : putsE qb y = makeE (decLT qb) y.2.2.1 y.2.2.2.1 ∧ putsP qb y = makeP (decLT qb) y.2.2.1 y.2.2.2.1 := by
  unfold putsE putsP; rw [if_neg (by omega), if_pos h, if_neg (by omega), if_pos h]; exact ⟨rfl, rfl⟩
theorem puts_3 {qb : List (BitVec 8)} {y : It} (h : y.2.1 = 3) : putsE qb y = goneE (decLT qb) y.2.2.1 ∧ putsP qb y = goneP (decLT qb) y.2.2.1 := by
  unfold putsE putsP; rw [if_neg (by omega), if_neg (by omega), if_pos h, if_neg (by omega), if_neg (by omega), if_pos h]; exact ⟨rfl, rfl⟩
theorem puts_no {qb : List (BitVec 8)} {y : It} (h1 : ¬ y.2.1 = 1) (h2 : ¬ y.2.1 = 2) (h3 : ¬ y.2.1 = 3) : putsE qb y = 1 ∧ putsP qb y = [] := by
  unfold putsE putsP; rw [if_neg h1, if_neg h2, if_neg h3, if_neg h1, if_neg h2, if_neg h3]; exact ⟨rfl, rfl⟩
set_option maxHeartbeats 800000 in
theorem queputs_any (y : It) (qb : List (BitVec 8)) (w : World) (hy : y.2.2.2.2.length = 32) (hqb : qb.length = 32) (hnm : y.2.2.1.length ≤ maxLen) : Calls Tryd.prog 20 #[.agg (catA [[.int .i64 y.1], [.int .i64 y.2.1], [.string (strB y.2.2.1)], [.int .i64 y.2.2.2.1], bytesV y.2.2.2.2]), .agg (bs qb)] w fun x w' => ∃ v, x = .returned (.tuple #[v, .int .i64 (putsE qb y)]) ∧ w'.ownsRow w.heap.size 70 33 v (putsP qb y).length ((putsP qb y).map pcell).flatten ∧ Below w.heap.size w w' := by
  have HS := St.nil w noF
  refine enter_en Tryd.func20 rfl Tryd.ntmps20 (Nat.le_of_ble_eq_true rfl) fun a0 (HA0 : En 38 [(0, .agg (catA [[.int .i64 y.1], [.int .i64 y.2.1], [.string (strB y.2.2.1)], [.int .i64 y.2.2.2.1], bytesV y.2.2.2.2])), (1, .agg (bs qb))] a0) => ?_
  refine sq_ <| rl_ <| wl_ <| n_ HA0 rfl (fun _ h => dd_box HS rfl (HA0.ev 0 rfl) (cs := (catA [[.int .i64 y.1], [.int .i64 y.2.1], [.string (strB y.2.2.1)], [.int .i64 y.2.2.2.1], bytesV y.2.2.2.2])) rfl h) fun _ _ HS1 _ H1 => wl_ <| n_ H1 rfl (fun _ h => dd_box HS1 rfl (H1.ev 1 rfl) (cs := (bs qb)) rfl h) fun _ W2 HS2 _ H2 => q_ H2 2 rfl fun _ H3 => ln_ <| nx <| sq_ <| sq_ <| rl_ <| wl_ <| i_ H3 rfl (xf 1 1 rfl (H3.ev 2 rfl)) fun _ H4 => wl_ <| i_ H4 rfl (dd_get HS2 0 1 rfl rfl (H4.ev 6 rfl) (cat_get (lens_cons rfl (lens_cons rfl (lens_cons rfl (lens_cons rfl (lens_cons (len_bv hy) (lens_nil)))))) 1 rfl rfl) Tryd.underlying3 rfl) fun _ H5 => ln_ <| nx <| wp_block <| sq_ <| rl_ <| ?_
  clear HS HA0 HS1 H1 H2 H3 H4
  by_cases hc7 : (y.2.1 : Int) = 1
  ·
   refine wl_ <| i_ H5 rfl (dd_cmp rfl (H5.ev 7 rfl) rfl (eq_t hc7)) fun _ H8 => wl_ <| p_ H8 rfl rfl fun _ H9 => ln_ <| nx <| ct_ H9 rfl <| sq_ <| rl_ <| wl_ <| i_ H9 rfl (v := .agg (bs qb)) (dd_load HS2 1 0 rfl rfl (H9.ev 3 rfl) (slab_whole _) Tryd.underlying36 rfl (by rw [show (bs qb).size = 32 from ((size_bs _).trans hqb)]; kernel_rfl)) fun _ H10 => wl_ <| i_ H10 rfl (xf 2 2 rfl (H10.ev 2 rfl)) fun _ H11 => wl_ <| i_ H11 rfl (dd_get HS2 0 2 rfl rfl (H11.ev 11 rfl) (cat_get (lens_cons rfl (lens_cons rfl (lens_cons rfl (lens_cons rfl (lens_cons (len_bv hy) (lens_nil)))))) 2 rfl rfl) Tryd.underlying9 rfl) fun _ H12 => wl_ <| i_ H12 rfl (xf 3 3 rfl (H12.ev 2 rfl)) fun _ H13 => wl_ <| i_ H13 rfl (dd_get HS2 0 3 rfl rfl (H13.ev 13 rfl) (cat_get (lens_cons rfl (lens_cons rfl (lens_cons rfl (lens_cons rfl (lens_cons (len_bv hy) (lens_nil)))))) 3 rfl rfl) Tryd.underlying3 rfl) fun _ H14 => wl_ <| i_ H14 rfl (xf 4 4 rfl (H14.ev 2 rfl)) fun _ H15 => ?_
   clear H5 H8 H9 H10 H11 H12 H13
   refine wl_ <| i_ H15 rfl (v := .agg (bs y.2.2.2.2)) (dd_load HS2 0 4 rfl rfl (H15.ev 15 rfl) (cat_slab1 (lens_cons rfl (lens_cons rfl (lens_cons rfl (lens_cons rfl (lens_cons (len_bv hy) (lens_nil)))))) 4 rfl rfl) Tryd.underlying36 rfl (by rw [show (bs y.2.2.2.2).size = 32 from ((size_bs _).trans hy)]; kernel_rfl)) fun _ H16 => ?_
   clear H14 H15
   refine wl_ <| d_ H16 rfl (R := fun v w9 => ∃ vp, v = .tuple #[vp, .int .i64 (placeE (decLT qb) y.2.2.1 y.2.2.2.1)] ∧ (w9.ownsRow W2.heap.size 70 33 vp (writeP (decLT qb) y.2.2.1 y.2.2.2.1 y.2.2.2.2).length ((writeP (decLT qb) y.2.2.1 y.2.2.2.1 y.2.2.2.2).map pcell).flatten) ∧ Below W2.heap.size W2 w9) (dc_ Tryd.func24 rfl (args4 (H16.ev 10 rfl) (H16.ev 12 rfl) (H16.ev 14 rfl) (H16.ev 16 rfl)) (write_any qb y.2.2.1 y.2.2.2.2 y.2.2.2.1 W2 hqb hy) (fun _ w9 ⟨v9, he, ho, hb⟩ => ⟨_, he, v9, rfl, ho, hb⟩)) ?_
   rintro _ W17 ⟨vp, rfl, hp, hb17⟩ a17 H17
   have HS17 := HS2.same hb17
   clear H16
   have hbw := HS2.below
   clear HS2 hb17
   refine wl_ <| i_ H17 rfl (v := vp) (dd_ext rfl (H17.ev 17 rfl) rfl) fun _ H19 => wl_ <| i_ H19 rfl (v := .int .i64 (placeE (decLT qb) y.2.2.1 y.2.2.2.1)) (dd_ext rfl (H19.ev 17 rfl) rfl) fun _ H20 => q_ H20 2 rfl fun _ H21 => ln_ <| ?_
   clear H17 H19 H20
   have H22 := H21.sel [4, 5] rfl
   refine nx <| wp_ret <| br_ <| tr <| ret_run H22.env0 (res_tt Tryd.results20 (H22.get 4 rfl) (H22.get 5 rfl)) <| ?_
   clear H21
   have hE := puts_1 (qb := qb) hc7
   exact ⟨vp, by rw [hE.1], by rw [hE.2]; exact own_mono hp hbw.size, HS17.below⟩
  refine wl_ <| i_ H5 rfl (dd_cmp rfl (H5.ev 7 rfl) rfl (eq_f hc7)) fun _ H23 => wl_ <| p_ H23 rfl rfl fun _ H24 => ln_ <| nx <| cf_ H24 rfl <| sq_ <| rl_ <| ?_
  clear H5 H23
  by_cases hc26 : (y.2.1 : Int) = 2
  ·
   refine wl_ <| i_ H24 rfl (dd_cmp rfl (H24.ev 7 rfl) rfl (eq_t hc26)) fun _ H27 => wl_ <| p_ H27 rfl rfl fun _ H28 => ln_ <| nx <| ct_ H28 rfl <| sq_ <| rl_ <| wl_ <| i_ H28 rfl (v := .agg (bs qb)) (dd_load HS2 1 0 rfl rfl (H28.ev 3 rfl) (slab_whole _) Tryd.underlying36 rfl (by rw [show (bs qb).size = 32 from ((size_bs _).trans hqb)]; kernel_rfl)) fun _ H29 => wl_ <| i_ H29 rfl (xf 2 2 rfl (H29.ev 2 rfl)) fun _ H30 => wl_ <| i_ H30 rfl (dd_get HS2 0 2 rfl rfl (H30.ev 23 rfl) (cat_get (lens_cons rfl (lens_cons rfl (lens_cons rfl (lens_cons rfl (lens_cons (len_bv hy) (lens_nil)))))) 2 rfl rfl) Tryd.underlying9 rfl) fun _ H31 => wl_ <| i_ H31 rfl (xf 3 3 rfl (H31.ev 2 rfl)) fun _ H32 => wl_ <| i_ H32 rfl (dd_get HS2 0 3 rfl rfl (H32.ev 25 rfl) (cat_get (lens_cons rfl (lens_cons rfl (lens_cons rfl (lens_cons rfl (lens_cons (len_bv hy) (lens_nil)))))) 3 rfl rfl) Tryd.underlying3 rfl) fun _ H33 => ?_
   clear H24 H27 H28 H29 H30 H31 H32
   refine wl_ <| d_ H33 rfl (R := fun v w9 => ∃ vp, v = .tuple #[vp, .int .i64 (makeE (decLT qb) y.2.2.1 y.2.2.2.1)] ∧ (w9.ownsRow W2.heap.size 70 33 vp (makeP (decLT qb) y.2.2.1 y.2.2.2.1).length ((makeP (decLT qb) y.2.2.1 y.2.2.2.1).map pcell).flatten) ∧ Below W2.heap.size W2 w9) (dc_ Tryd.func25 rfl (args3 (H33.ev 22 rfl) (H33.ev 24 rfl) (H33.ev 26 rfl)) (make_any qb y.2.2.1 y.2.2.2.1 W2 hqb hnm) (fun _ w9 ⟨v9, he, ho, hb⟩ => ⟨_, he, v9, rfl, ho, hb⟩)) ?_
   rintro _ W34 ⟨vp, rfl, hp, hb34⟩ a34 H34
   have HS34 := HS2.same hb34
   clear H33
   have hbw := HS2.below
   clear HS2 hb34
   refine wl_ <| i_ H34 rfl (v := vp) (dd_ext rfl (H34.ev 27 rfl) rfl) fun _ H36 => wl_ <| i_ H36 rfl (v := .int .i64 (makeE (decLT qb) y.2.2.1 y.2.2.2.1)) (dd_ext rfl (H36.ev 27 rfl) rfl) fun _ H37 => q_ H37 2 rfl fun _ H38 => ln_ <| ?_
   clear H34 H36 H37
   have H39 := H38.sel [4, 5] rfl
   refine nx <| wp_ret <| br_ <| tr <| ret_run H39.env0 (res_tt Tryd.results20 (H39.get 4 rfl) (H39.get 5 rfl)) <| ?_
   clear H38
   have hE := puts_2 (qb := qb) hc26
   exact ⟨vp, by rw [hE.1], by rw [hE.2]; exact own_mono hp hbw.size, HS34.below⟩
  refine wl_ <| i_ H24 rfl (dd_cmp rfl (H24.ev 7 rfl) rfl (eq_f hc26)) fun _ H40 => wl_ <| p_ H40 rfl rfl fun _ H41 => ln_ <| nx <| cf_ H41 rfl <| sq_ <| rl_ <| ?_
  clear H24 H40
  by_cases hc43 : (y.2.1 : Int) = 3
  ·
   refine wl_ <| i_ H41 rfl (dd_cmp rfl (H41.ev 7 rfl) rfl (eq_t hc43)) fun _ H44 => wl_ <| p_ H44 rfl rfl fun _ H45 => ln_ <| nx <| ct_ H45 rfl <| sq_ <| rl_ <| wl_ <| i_ H45 rfl (v := .agg (bs qb)) (dd_load HS2 1 0 rfl rfl (H45.ev 3 rfl) (slab_whole _) Tryd.underlying36 rfl (by rw [show (bs qb).size = 32 from ((size_bs _).trans hqb)]; kernel_rfl)) fun _ H46 => wl_ <| i_ H46 rfl (xf 2 2 rfl (H46.ev 2 rfl)) fun _ H47 => wl_ <| i_ H47 rfl (dd_get HS2 0 2 rfl rfl (H47.ev 33 rfl) (cat_get (lens_cons rfl (lens_cons rfl (lens_cons rfl (lens_cons rfl (lens_cons (len_bv hy) (lens_nil)))))) 2 rfl rfl) Tryd.underlying9 rfl) fun _ H48 => ?_
   clear H41 H44 H45 H46 H47
   refine wl_ <| d_ H48 rfl (R := fun v w9 => ∃ vp, v = .tuple #[vp, .int .i64 (goneE (decLT qb) y.2.2.1)] ∧ (w9.ownsRow W2.heap.size 70 33 vp (goneP (decLT qb) y.2.2.1).length ((goneP (decLT qb) y.2.2.1).map pcell).flatten) ∧ Below W2.heap.size W2 w9) (dc_ Tryd.func26 rfl (args2 (H48.ev 32 rfl) (H48.ev 34 rfl)) (gone_any qb y.2.2.1 W2 hqb) (fun _ w9 ⟨v9, he, ho, hb⟩ => ⟨_, he, v9, rfl, ho, hb⟩)) ?_
   rintro _ W49 ⟨vp, rfl, hp, hb49⟩ a49 H49
   have HS49 := HS2.same hb49
   clear H48
   have hbw := HS2.below
   clear HS2 hb49
   refine wl_ <| i_ H49 rfl (v := vp) (dd_ext rfl (H49.ev 35 rfl) rfl) fun _ H51 => wl_ <| i_ H51 rfl (v := .int .i64 (goneE (decLT qb) y.2.2.1)) (dd_ext rfl (H51.ev 35 rfl) rfl) fun _ H52 => q_ H52 2 rfl fun _ H53 => ln_ <| ?_
   clear H49 H51 H52
   have H54 := H53.sel [4, 5] rfl
   refine nx <| wp_ret <| br_ <| tr <| ret_run H54.env0 (res_tt Tryd.results20 (H54.get 4 rfl) (H54.get 5 rfl)) <| ?_
   clear H53
   have hE := puts_3 (qb := qb) hc43
   exact ⟨vp, by rw [hE.1], by rw [hE.2]; exact own_mono hp hbw.size, HS49.below⟩
  refine wl_ <| i_ H41 rfl (dd_cmp rfl (H41.ev 7 rfl) rfl (eq_f hc43)) fun _ H55 => wl_ <| p_ H55 rfl rfl fun _ H56 => ln_ <| nx <| cf_ H56 rfl <| wp_skip <| bn <| nx <| sq_ <| rl_ <| q_ H56 2 rfl fun _ H57 => ln_ <| nx <| wp_ret <| ret_run H57.env0 (res_tt Tryd.results20 (H57.get 4 rfl) (H57.get 5 rfl)) <| ?_
  clear H41 H55 H56
  have hE := puts_no (qb := qb) hc7 hc26 hc43
  exact ⟨_, by rw [hE.1], by rw [hE.2]; exact World.ownsRow_nil _ _ _ _, HS2.below⟩
end Go.Proofs.YtnmaplgodimohaaDoor

/- The concat of two empty slices; nothing that is added to nothing. -/
set_option maxRecDepth 4000
namespace Go.Proofs.YtnmaplgodimohaaDoor
open Go Go.RowKit
def tl1 (A : Option Addr) (c : Nat) : Option Addr := if c = 1 then A else A.map (·.add 36)
theorem dd_slt {P : Program} {o : Oper} {a : Act} {w : World} {t : TypeId} {x lo : Operand} {A : Option Addr} {n c : Nat} {k : IntKind} (ho : o.op = .slice t x (some lo) none none) (hx : a.eval x = .slice A n c) (hl : a.eval lo = .int k 1) (ht : slOf P t = some 36) (h1 : 1 ≤ n)
    : (execOp a.eval o).run P w = .ok (.value (.slice (tl1 A c) (n - 1) (c - 1))) w := by
  unfold slOf at ht
  cases hu : P.underlying t with
  | none => rw [hu] at ht; cases ht
  | some d =>
    rw [hu] at ht
    cases d with
    | slice e =>
      simp only at ht
      cases hq : P.info? e with
      | none => rw [hq] at ht; cases ht
      | some inf =>
        rw [hq] at ht
        simp only [Option.map_some, Option.some.injEq] at ht
        have e1 : (1 : Int) ≤ (n : Int) := by omega
        simp [execOp, ho, hx, hl, Instr.sliceAt, run_underlying hu, Instr.slice, Instr.sliceBounds, Instr.sliceBound, asIntOf, sizeOf, typeInfo, hq, e1, ht, tl1]
    | _ => simp only at ht; cases ht
theorem ItemsAt.tl {w : World} {A : Option Addr} {n c : Nat} {X : List It} (h : ItemsAt w A n c X) (hn : 0 < n) : ItemsAt w (tl1 A c) (n - 1) (c - 1) X.tail := by
  have hl := h.len
  have hc := h.cap
  refine ⟨by rw [List.length_tail, hl], by omega, fun x hx => h.wf x (List.mem_of_mem_tail hx), fun h1 => ?_⟩
  obtain ⟨b, o, rfl, h2⟩ := h.at_ (by omega)
  refine ⟨b, o + 36, by unfold tl1; rw [if_neg (by omega)]; rfl, ?_⟩
  cases X with
  | nil => exact absurd hl (by simp; omega)
  | cons x X =>
    rw [show x :: X = [x] ++ X from rfl, items_app] at h2
    exact h2.post (n := 36) (len_items (n := 1) (fun y hy => by rw [List.mem_singleton] at hy; subst hy; exact h.wf y (List.mem_cons_self ..)) rfl)
theorem quepop_any (F : Nat → Prop) (g : Nat) (A : Option Addr) (n c : Nat) (w : World) (HS : St w F [⟨g, 27, #[.slice A n c]⟩] w) (hn : 0 < n) : Calls Tryd.prog 13 #[.pointer (some ⟨g, 0, none⟩)] w fun x w' => x = .returned (.bool true) ∧ St w F [⟨g, 27, #[.slice (tl1 A c) (n - 1) (c - 1)]⟩] w' := by
  refine enter_en Tryd.func13 rfl Tryd.ntmps13 (Nat.le_of_ble_eq_true rfl) fun a0 (HA0 : En 14 [(0, .pointer (some ⟨g, 0, none⟩))] a0) => ?_
  refine sq_ <| rl_ <| wl_ <| p_ HA0 rfl rfl fun _ H1 => ln_ <| nx <| sq_ <| sq_ <| rl_ <| wl_ <| p_ H1 rfl rfl fun _ H2 => wl_ <| c_ H2 rfl HS (dcs Tryd.func19 rfl (args1 (H2.ev 3 rfl)) (quelen_any g _ _ _ w (HS.row 0 rfl)) (.int .i64 n)) fun _ HS3 _ H3 => wl_ <| i_ H3 rfl (dd_cmp rfl (H3.ev 4 rfl) rfl (eq_f (by omega))) fun _ H4 => ln_ <| nx <| cf_ H4 rfl <| wp_skip <| nx <| sq_ <| rl_ <| q_ H4 2 rfl fun _ H5 => wl_ <| i_ H5 rfl (dd_nilc rfl (H5.ev 7 rfl)) fun _ H6 => wl_ <| i_ H6 rfl (xf 0 0 rfl (H6.ev 8 rfl)) fun _ H7 => wl_ <| i_ H7 rfl (dd_get HS3 0 0 rfl rfl (H7.ev 9 rfl) rfl Tryd.underlying25 rfl) fun _ H8 => ?_
  clear HA0 H1 H2 HS H3 H4 H5 H6
  refine wl_ <| i_ H8 rfl (v := .slice (tl1 A c) (n - 1) (c - 1)) (dd_slt rfl (H8.ev 10 rfl) rfl (by kernel_rfl) (by omega)) fun _ H9 => wl_ <| i_ H9 rfl (dd_nilc rfl (H9.ev 6 rfl)) fun _ H10 => wl_ <| i_ H10 rfl (xf 0 0 rfl (H10.ev 12 rfl)) fun _ H11 => wl_ <| t_ rfl (fun _ h => dd_put (cs := #[.slice (tl1 A c) (n - 1) (c - 1)]) HS3 0 0 rfl rfl (H11.ev 13 rfl) (H11.ev 11 rfl) (by kernel_rfl) rfl rfl rfl rfl h) fun _ HS12 => ln_ <| nx <| sq_ <| rl_ <| wl_ <| p_ H11 rfl rfl fun _ H13 => ln_ <| nx <| wp_ret <| ret_run H13.env0 (res_t Tryd.results13 (H13.get 2 rfl)) <| ?_
  clear H7 H8 H9 H10 HS3 H11
  exact ⟨rfl, ss HS12 [0]⟩
end Go.Proofs.YtnmaplgodimohaaDoor

/- The statements' own functions of what waits. -/
set_option maxRecDepth 4000
namespace Go.Proofs.YtnmaplgodimohaaDoor
open Go Go.RowKit
theorem ids_1 {X : List It} {x : It} {cb : Array Value} {c : Nat} (h : X[0]? = some x) (O : OwnC cb c 1 1 [.int .i64 x.1]) : OwnC cb c 1 1 (intsV ((X.take 1).map (·.1))) := by
  obtain ⟨h1, h2⟩ := List.getElem?_eq_some_iff.1 h
  rw [show X.take 1 = [x] by rw [List.take_succ_eq_append_getElem h1, List.take_zero, h2]; rfl]; exact O
theorem ids_S {X : List It} {j : Nat} {x : It} {cb : Array Value} {c : Nat} (h : X[j]? = some x) (O : OwnC cb c (j + 1) 1 (intsV ((X.take j).map (·.1)) ++ [.int .i64 x.1])) : OwnC cb c (j + 1) 1 (intsV ((X.take (j + 1)).map (·.1))) := by
  obtain ⟨h1, h2⟩ := List.getElem?_eq_some_iff.1 h
  rw [List.take_succ_eq_append_getElem h1, h2, List.map_append, show intsV (List.map (·.1) (X.take j) ++ List.map (·.1) [x]) = intsV (List.map (·.1) (X.take j)) ++ [.int .i64 x.1] by simp [intsV]]; exact O
set_option maxHeartbeats 800000 in
theorem queclear_any (F : Nat → Prop) (g b o n c : Nat) (X : List It) (w : World) (HS : St w F [⟨g, 27, #[.slice (some ⟨b, o, none⟩) n c]⟩] w) (hi : ItemsAt w (some ⟨b, o, none⟩) n c X) (HE : ∀ W, Chg F w W → CAt W b o (itemsL X)) (h0 : 0 < n) (hm : n ≤ 1000) : Calls Tryd.prog 16 #[.pointer (some ⟨g, 0, none⟩)] w fun x w' => ∃ g' c' cb', x = .returned (.slice (some ⟨g', 0, none⟩) n c') ∧ OwnC cb' c' n 1 (intsV (X.map (·.1))) ∧ St w F [⟨g, 27, #[.slice none 0 0]⟩, ⟨g', 3, cb'⟩] w' := by
  refine enter_en Tryd.func16 rfl Tryd.ntmps16 (Nat.le_of_ble_eq_true rfl) fun a0 (HA0 : En 27 [(0, .pointer (some ⟨g, 0, none⟩))] a0) => ?_
  refine sq_ <| rl_ <| wl_ <| p_ HA0 rfl rfl fun _ H1 => ln_ <| nx <| sq_ <| sq_ <| rl_ <| wl_ <| p_ H1 rfl rfl fun _ H2 => wl_ <| i_ H2 rfl (v := .bool false) (dd_eqp rfl (H2.ev 6 rfl) rfl Tryd.underlying24 rfl) fun _ H3 => ln_ <| nx <| cf_ H3 rfl <| wp_skip <| nx <| sq_ <| rl_ <| wl_ <| p_ H3 rfl rfl fun _ H4 => ln_ <| nx <| sq_ <| sq_ <| rl_ <| wl_ <| p_ H4 rfl rfl fun _ H5 => wl_ <| i_ H5 rfl (dd_nilc rfl (H5.ev 8 rfl)) fun _ H6 => wl_ <| i_ H6 rfl (xf 0 0 rfl (H6.ev 9 rfl)) fun _ H7 => wl_ <| i_ H7 rfl (dd_get HS 0 0 rfl rfl (H7.ev 10 rfl) rfl Tryd.underlying25 rfl) fun _ H8 => ?_
  clear HA0 H1 H2 H3 H4 H5 H6
  refine wl_ <| i_ H8 rfl (v := .int .i64 n) (dd_len rfl (H8.ev 11 rfl) Tryd.underlying25) fun a9 H9 => wl_ <| p_ H9 rfl rfl fun _ H10 => ln_ <| nx <| wp_block <| ?_
  clear H7 H8 H9
  refine wp_loop1 (ι := Nat) (fun j1 a9 w9 => ∃ gi1 : Nat, ∃ ci1 : Nat, ∃ cbi1 : Array Value, (1 ≤ j1 ∧ j1 ≤ n) ∧ (OwnC cbi1 ci1 j1 1 (intsV ((X.take j1).map (·.1)))) ∧ En 27 [(13, .int .i64 j1), (12, .int .i64 n), (11, .slice (some ⟨b, o, none⟩) n c), (3, .slice (some ⟨gi1, 0, none⟩) j1 ci1), (0, .pointer (some ⟨g, 0, none⟩))] a9 ∧ St w F [⟨g, 27, #[.slice (some ⟨b, o, none⟩) n c]⟩, ⟨gi1, 3, cbi1⟩] w9) (fun j1 => n - j1) (1) ?_ ?_
  ·
   refine sq_ <| rl_ <| wl_ <| i_ H10 rfl (dd_cmp rfl (H10.ev 13 rfl) (H10.ev 12 rfl) (lt_t (by omega))) fun _ H12 => ln_ <| nx <| sq_ <| ct_ H12 rfl <| wp_skip <| nx <| sq_ <| wp_block <| sq_ <| rl_ <| wl_ <| i_ H12 rfl (xSo 36 (o + 0 * 36) rfl (H12.ev 11 rfl) (H12.ev 13 rfl)) fun _ H13 => ?_
   clear H10 H12
   obtain ⟨x0, hx0⟩ : ∃ x, X[0]? = some x := ⟨_, List.getElem?_eq_getElem (by rw [hi.len]; omega)⟩
   have hw0 := hi.wf x0 (List.mem_of_getElem? hx0)
   refine wl_ <| i_ H13 rfl (v := .agg (catA [[.int .i64 x0.1], [.int .i64 x0.2.1], [.string (strB x0.2.2.1)], [.int .i64 x0.2.2.2.1], bytesV x0.2.2.2.2])) (dd_atN rfl (H13.ev 15 rfl) (item_all (HE _ HS.chg) hi.wf hx0) Tryd.underlying40 rfl (by show _ = some (catA [[.int .i64 x0.1], [.int .i64 x0.2.1], [.string (strB x0.2.2.1)], [.int .i64 x0.2.2.2.1], bytesV x0.2.2.2.2]).toList.length; rw [show (catA [[.int .i64 x0.1], [.int .i64 x0.2.1], [.string (strB x0.2.2.1)], [.int .i64 x0.2.2.2.1], bytesV x0.2.2.2.2]).toList.length = 36 from (Array.length_toList).trans (cat_size (lens_cons rfl (lens_cons rfl (lens_cons rfl (lens_cons rfl (lens_cons (len_bv hw0) (lens_nil)))))))]; kernel_rfl)) fun _ H14 => wl_ <| n_ H14 rfl (fun _ h => dd_new HS (catA [[.int .i64 0], [.int .i64 0], [.string (⟨#[]⟩)], [.int .i64 0], bytesV (zer 32)]) rfl (z := .agg (catA [[.int .i64 0], [.int .i64 0], [.string (⟨#[]⟩)], [.int .i64 0], bytesV (zer 32)])) (by kernel_rfl) rfl h) fun g5 _ HS15 _ H15 => wl_ <| t_ rfl (fun _ h => dd_setrow HS15 1 rfl rfl (H15.ev 5 rfl) (H15.ev 16 rfl) (by kernel_rfl) ((cat_size (lens_cons rfl (lens_cons rfl (lens_cons rfl (lens_cons rfl (lens_cons (len_bv hw0) (lens_nil))))))) : (catA [[.int .i64 x0.1], [.int .i64 x0.2.1], [.string (strB x0.2.2.1)], [.int .i64 x0.2.2.2.1], bytesV x0.2.2.2.2]).size = 36) ((cat_size (lens_cons rfl (lens_cons rfl (lens_cons rfl (lens_cons rfl (lens_cons (len_bv (length_zer 32)) (lens_nil))))))) : (catA [[.int .i64 0], [.int .i64 0], [.string (⟨#[]⟩)], [.int .i64 0], bytesV (zer 32)]).size = 36) (cat_one (ones_cons (ones_c rfl) (ones_cons (ones_c rfl) (ones_cons (ones_c rfl) (ones_cons (ones_c rfl) (ones_cons (one_bytesV _) (ones_nil))))))) h) fun _ HS16 => ln_ <| nx <| rl_ <| wl_ <| p_ H15 rfl rfl fun _ H17 => wl_ <| i_ H17 rfl (xf 0 0 rfl (H17.ev 5 rfl)) fun _ H18 => wl_ <| i_ H18 rfl (dd_get HS16 1 0 rfl rfl (H18.ev 18 rfl) (cat_get (lens_cons rfl (lens_cons rfl (lens_cons rfl (lens_cons rfl (lens_cons (len_bv hw0) (lens_nil)))))) 0 rfl rfl) Tryd.underlying3 rfl) fun _ H19 => wl_ <| n_ H19 rfl (fun _ h => dd_lits HS16 #[.int .i64 x0.1] rfl (ps := [(0, .int .i64 x0.1)]) (pr1 (H19.ev 19 rfl) (pr0)) (z := .int .i64 0) (sz := 1) Tryd.underlying45 (by kernel_rfl) rfl rfl (by kernel_rfl) h) fun g20 _ HS20 _ H20 => wl_ <| a_ H20 rfl (S := fun g21_22 cb21_22 => [⟨g, 27, #[.slice (some ⟨b, o, none⟩) n c]⟩, ⟨g5, 40, catA [[.int .i64 x0.1], [.int .i64 x0.2.1], [.string (strB x0.2.2.1)], [.int .i64 x0.2.2.2.1], bytesV x0.2.2.2.2]⟩, ⟨g20, 3, #[.int .i64 x0.1]⟩, ⟨g21_22, 3, cb21_22⟩]) (fun g21_22 c21_22 => .slice (some ⟨g21_22, 0, none⟩) 1 c21_22) (T := fun _ c21_22 cb21_22 => OwnC cb21_22 c21_22 1 1 ([.int .i64 x0.1])) (fun _ h => dd_app0 HS20 rfl (H20.ev 17 rfl) (z := .int .i64 0) (bytes := 8) (sz := 1) Tryd.underlying45 (by kernel_rfl) rfl (by decide) ([.int .i64 x0.1]) (H20.ev 20 rfl) rfl (row_news (HS20.row 2 rfl) 0 (slab_whole _)) (ao_cons rfl ao_nil) (by unfold maxLen; omega) (by omega) h) fun g21_22 c21_22 cb21_22 _ O21_22 HS21 _ H21 => ?_
   clear H13 HS H14 HS15 H15 H17 H18 HS16 H19
   refine wl_ <| p_ H21 rfl rfl fun _ H23 => ln_ <| bn <| nx <| rl_ <| wl_ <| i_ H23 rfl (v := .int .i64 1) (dd_ari rfl (H23.ev 13 rfl) rfl rfl (by decide)) fun _ H24 => wl_ <| p_ H24 rfl rfl fun _ H25 => ln_ <| ?_
   clear HS20 H20 H21 H23 H24
   have H26 := H25.sel [0, 11, 12, 3, 13] rfl
   clear H25
   exact nx ⟨g21_22, c21_22, cb21_22, (by omega), (ids_1 hx0 O21_22), H26.sel [0, 3, 11, 12, 13] rfl, ss HS21 [0, 3]⟩
  clear H10 HS
  rintro j1 aL11 wL11 ⟨gi1, ci1, cbi1, hj, Oi1, HL11, HSL11⟩
  refine sq_ <| rl_ <| ?_
  by_cases hc28 : (j1 : Int) < n
  ·
   refine wl_ <| i_ HL11 rfl (dd_cmp rfl (HL11.ev 13 rfl) (HL11.ev 12 rfl) (lt_t hc28)) fun _ H29 => ln_ <| nx <| sq_ <| ct_ H29 rfl <| wp_skip <| nx <| sq_ <| wp_block <| sq_ <| rl_ <| wl_ <| i_ H29 rfl (xSo 36 (o + j1 * 36) rfl (H29.ev 11 rfl) (H29.ev 13 rfl)) fun _ H30 => ?_
   clear HL11 H29
   obtain ⟨xj1, hxj1⟩ : ∃ x, X[j1]? = some x := ⟨_, List.getElem?_eq_getElem (by rw [hi.len]; omega)⟩
   have hwj1 := hi.wf xj1 (List.mem_of_getElem? hxj1)
   refine wl_ <| i_ H30 rfl (v := .agg (catA [[.int .i64 xj1.1], [.int .i64 xj1.2.1], [.string (strB xj1.2.2.1)], [.int .i64 xj1.2.2.2.1], bytesV xj1.2.2.2.2])) (dd_atN rfl (H30.ev 15 rfl) (item_all (HE _ HSL11.chg) hi.wf hxj1) Tryd.underlying40 rfl (by show _ = some (catA [[.int .i64 xj1.1], [.int .i64 xj1.2.1], [.string (strB xj1.2.2.1)], [.int .i64 xj1.2.2.2.1], bytesV xj1.2.2.2.2]).toList.length; rw [show (catA [[.int .i64 xj1.1], [.int .i64 xj1.2.1], [.string (strB xj1.2.2.1)], [.int .i64 xj1.2.2.2.1], bytesV xj1.2.2.2.2]).toList.length = 36 from (Array.length_toList).trans (cat_size (lens_cons rfl (lens_cons rfl (lens_cons rfl (lens_cons rfl (lens_cons (len_bv hwj1) (lens_nil)))))))]; kernel_rfl)) fun _ H31 => wl_ <| n_ H31 rfl (fun _ h => dd_new HSL11 (catA [[.int .i64 0], [.int .i64 0], [.string (⟨#[]⟩)], [.int .i64 0], bytesV (zer 32)]) rfl (z := .agg (catA [[.int .i64 0], [.int .i64 0], [.string (⟨#[]⟩)], [.int .i64 0], bytesV (zer 32)])) (by kernel_rfl) rfl h) fun g5 _ HS32 _ H32 => wl_ <| t_ rfl (fun _ h => dd_setrow HS32 2 rfl rfl (H32.ev 5 rfl) (H32.ev 16 rfl) (by kernel_rfl) ((cat_size (lens_cons rfl (lens_cons rfl (lens_cons rfl (lens_cons rfl (lens_cons (len_bv hwj1) (lens_nil))))))) : (catA [[.int .i64 xj1.1], [.int .i64 xj1.2.1], [.string (strB xj1.2.2.1)], [.int .i64 xj1.2.2.2.1], bytesV xj1.2.2.2.2]).size = 36) ((cat_size (lens_cons rfl (lens_cons rfl (lens_cons rfl (lens_cons rfl (lens_cons (len_bv (length_zer 32)) (lens_nil))))))) : (catA [[.int .i64 0], [.int .i64 0], [.string (⟨#[]⟩)], [.int .i64 0], bytesV (zer 32)]).size = 36) (cat_one (ones_cons (ones_c rfl) (ones_cons (ones_c rfl) (ones_cons (ones_c rfl) (ones_cons (ones_c rfl) (ones_cons (one_bytesV _) (ones_nil))))))) h) fun _ HS33 => ln_ <| nx <| rl_ <| wl_ <| p_ H32 rfl rfl fun _ H34 => wl_ <| i_ H34 rfl (xf 0 0 rfl (H34.ev 5 rfl)) fun _ H35 => wl_ <| i_ H35 rfl (dd_get HS33 2 0 rfl rfl (H35.ev 18 rfl) (cat_get (lens_cons rfl (lens_cons rfl (lens_cons rfl (lens_cons rfl (lens_cons (len_bv hwj1) (lens_nil)))))) 0 rfl rfl) Tryd.underlying3 rfl) fun _ H36 => wl_ <| n_ H36 rfl (fun _ h => dd_lits HS33 #[.int .i64 xj1.1] rfl (ps := [(0, .int .i64 xj1.1)]) (pr1 (H36.ev 19 rfl) (pr0)) (z := .int .i64 0) (sz := 1) Tryd.underlying45 (by kernel_rfl) rfl rfl (by kernel_rfl) h) fun g20 _ HS37 _ H37 => wl_ <| a_ H37 rfl (S := fun g21_39 cb21_39 => [⟨g, 27, #[.slice (some ⟨b, o, none⟩) n c]⟩, ⟨g5, 40, catA [[.int .i64 xj1.1], [.int .i64 xj1.2.1], [.string (strB xj1.2.2.1)], [.int .i64 xj1.2.2.2.1], bytesV xj1.2.2.2.2]⟩, ⟨g20, 3, #[.int .i64 xj1.1]⟩, ⟨g21_39, 3, cb21_39⟩]) (fun g21_39 c21_39 => .slice (some ⟨g21_39, 0, none⟩) (j1 + 1) c21_39) (T := fun _ c21_39 cb21_39 => OwnC cb21_39 c21_39 (j1 + 1) 1 ((intsV ((X.take j1).map (·.1))) ++ [.int .i64 xj1.1])) (fun _ h => dd_app HS37 1 rfl Oi1 rfl (H37.ev 17 rfl) (z := .int .i64 0) (bytes := 8) Tryd.underlying45 (by kernel_rfl) rfl (by decide) ([.int .i64 xj1.1]) (H37.ev 20 rfl) rfl (row_news (HS37.row 3 rfl) 0 (slab_whole _)) (ao_cons rfl ao_nil) (by unfold maxLen; omega) (by omega) h) fun g21_39 c21_39 cb21_39 _ O21_39 HS38 _ H38 => ?_
   clear H30 HSL11 H31 HS32 H32 H34 H35 HS33 H36
   refine wl_ <| p_ H38 rfl rfl fun _ H40 => ln_ <| bn <| nx <| rl_ <| wl_ <| i_ H40 rfl (v := .int .i64 (j1 + 1)) (dd_ari rfl (H40.ev 13 rfl) rfl rfl (i64_of (by first | omega | (have := bd_lo; omega)) (by omega))) fun _ H41 => wl_ <| p_ H41 rfl rfl fun _ H42 => ln_ <| ?_
   clear HS37 H37 H38 H40 H41
   refine nx ⟨j1 + 1, ⟨g21_39, c21_39, cb21_39, (by omega), (ids_S hxj1 O21_39), H42.sel [0, 3, 11, 12, 13] rfl, ss HS38 [0, 3]⟩, (by omega)⟩
  refine wl_ <| i_ HL11 rfl (dd_cmp rfl (HL11.ev 13 rfl) (HL11.ev 12 rfl) (lt_f hc28)) fun _ H43 => ln_ <| nx <| sq_ <| cf_ H43 rfl <| wp_exit <| tx <| tx <| bx <| nx <| sq_ <| rl_ <| wl_ <| p_ H43 rfl rfl fun _ H44 => wl_ <| i_ H44 rfl (dd_nilc rfl (H44.ev 23 rfl)) fun _ H45 => wl_ <| i_ H45 rfl (xf 0 0 rfl (H45.ev 24 rfl)) fun _ H46 => wl_ <| t_ rfl (fun _ h => dd_put (cs := #[.slice none 0 0]) HSL11 0 0 rfl rfl (H46.ev 25 rfl) rfl (by kernel_rfl) rfl rfl rfl rfl h) fun _ HS47 => ln_ <| nx <| sq_ <| rl_ <| q_ H46 2 rfl fun _ H48 => ln_ <| nx <| wp_ret <| ret_run H48.env0 (res_t Tryd.results16 (H48.get 2 rfl)) <| ?_
  clear HL11 H43 H44 H45 HSL11 H46
  obtain rfl : j1 = n := by omega
  exact ⟨gi1, ci1, cbi1, rfl, (by have h9 := Oi1; rw [show X.take j1 = X from by rw [← hi.len]; exact List.take_length] at h9; exact h9), ss HS47 [0, 1]⟩
end Go.Proofs.YtnmaplgodimohaaDoor

/- The statements' wakes of what waits. -/
set_option maxRecDepth 4000
namespace Go.Proofs.YtnmaplgodimohaaDoor
open Go Go.RowKit
theorem plc36 {n i s : Nat} (h : (List.replicate n 36)[i]? = some s) : some (i * 36, 36) = some (((List.replicate n 36).take i).sum, s) := by
  rw [List.getElem?_replicate] at h
  split at h
  · injection h with h
    subst h
    rw [List.take_replicate, List.sum_replicate_nat, Nat.min_eq_left (by omega)]
  · cases h
def zqv : Value := .agg zitm
theorem base2 : ((Array.range (2 * 36)).map (zqv.cells[· % zqv.cells.size]!)) = catA (List.replicate 2 zitm.toList) := by kernel_rfl
theorem base3 : ((Array.range (3 * 36)).map (zqv.cells[· % zqv.cells.size]!)) = catA (List.replicate 3 zitm.toList) := by kernel_rfl
theorem items_lit {L : List (List Value)} {X : List It} (h : L = X.map itcell) : (catA L).toList = itemsL X := by subst h; rfl
def wka : It := (5, 2, [97#8, 98#8], 1, zer 32)
def wkb : It := (0, 4, [], 0, zer 32)
theorem wka_len : wka.2.2.2.2.length = 32 := length_zer 32
theorem wka_wf1 : wfI [wka] := fun x hx => by rw [List.mem_singleton] at hx; subst hx; exact wka_len
theorem wka_wf2 : wfI [wka, wka] := wfI_app (l := [wka]) wka_wf1 wka_wf1
theorem wka_at {w : World} {b : Nat} (h : CAt w b 0 (itemsL ([] ++ [wka, wka]))) : CAt w b 36 (itemsL [wka]) := by
  rw [show ([] ++ [wka, wka] : List It) = [wka] ++ [wka] from rfl, items_app] at h
  exact h.post (n := 36) (len_items (n := 1) wka_wf1 rfl)
theorem wka_E : putsE (zer 32) wka = 0 := by
  rw [(puts_2 (qb := zer 32) (y := wka) rfl).1, wk_z2]; decide +kernel
theorem wka_P : (putsP (zer 32) wka).length = 2 := by
  rw [(puts_2 (qb := zer 32) (y := wka) rfl).2, wk_z2]; decide +kernel
theorem one5 : ∀ x ∈ [(5 : Int)], -9223372036854775808 ≤ x ∧ x < 9223372036854775808 := fun x hx => by rw [List.mem_singleton] at hx; subst hx; decide
theorem itm_parts (x : It) (hx : x.2.2.2.2.length = 32) : (catA [[.int .i64 x.1], [.int .i64 x.2.1], [.string (strB x.2.2.1)], [.int .i64 x.2.2.2.1], bytesV x.2.2.2.2])[0]? = some (.int .i64 x.1) ∧ (catA [[.int .i64 x.1], [.int .i64 x.2.1], [.string (strB x.2.2.1)], [.int .i64 x.2.2.2.1], bytesV x.2.2.2.2])[1]? = some (.int .i64 x.2.1) ∧ (catA [[.int .i64 x.1], [.int .i64 x.2.1], [.string (strB x.2.2.1)], [.int .i64 x.2.2.2.1], bytesV x.2.2.2.2])[2]? = some (.string (strB x.2.2.1)) ∧ (catA [[.int .i64 x.1], [.int .i64 x.2.1], [.string (strB x.2.2.1)], [.int .i64 x.2.2.2.1], bytesV x.2.2.2.2])[3]? = some (.int .i64 x.2.2.2.1) ∧ (catA [[.int .i64 x.1], [.int .i64 x.2.1], [.string (strB x.2.2.1)], [.int .i64 x.2.2.2.1], bytesV x.2.2.2.2]).extract 4 36 = bs x.2.2.2.2 := by
  have L := lens_cons (rfl : ([.int .i64 x.1] : List Value).length = 1) (lens_cons (rfl : ([.int .i64 x.2.1] : List Value).length = 1) (lens_cons (rfl : ([.string (strB x.2.2.1)] : List Value).length = 1) (lens_cons (rfl : ([.int .i64 x.2.2.2.1] : List Value).length = 1) (lens_cons (len_bv hx) lens_nil))))
  have h4 := cat_slab1 L 4 (off := 4) (l := bytesV x.2.2.2.2) rfl rfl
  refine ⟨rfl, rfl, rfl, rfl, ?_⟩
  apply Array.toList_inj.1
  rw [Array.toList_extract, List.extract_eq_take_drop]
  rw [List.size_toArray, len_bytesV, hx] at h4
  exact h4
theorem eql_itm (x y : It) (hx : x.2.2.2.2.length = 32) (hy : y.2.2.2.2.length = 32) (w : World) : (Op.equalIn 10000 40 (.agg (catA [[.int .i64 x.1], [.int .i64 x.2.1], [.string (strB x.2.2.1)], [.int .i64 x.2.2.2.1], bytesV x.2.2.2.2])) (.agg (catA [[.int .i64 y.1], [.int .i64 y.2.1], [.string (strB y.2.2.1)], [.int .i64 y.2.2.2.1], bytesV y.2.2.2.2]))).run Tryd.prog w = .ok (decide (x = y)) w := by
  have hS : Tryd.prog.underlying 40 = some (.struct (Tryd.prog.fieldsOf 40)) := by kernel_rfl
  have e : decide (x = y) = (x.1 == y.1 && (x.2.1 == y.2.1 && (((strB x.2.2.1).toList == (strB y.2.2.1).toList) && (x.2.2.2.1 == y.2.2.2.1 && decide (x.2.2.2.2 = y.2.2.2.2))))) := by
    rw [str_beq]
    obtain ⟨x1, x2, x3, x4, x5⟩ := x
    obtain ⟨y1, y2, y3, y4, y5⟩ := y
    by_cases h1 : x1 = y1 <;> by_cases h2 : x2 = y2 <;> by_cases h3 : x3 = y3 <;> by_cases h4 : x4 = y4 <;> by_cases h5 : x5 = y5 <;> simp [h1, h2, h3, h4, h5]
  have q2 : ∀ w, (Op.equalIn 9999 36 (.agg (bs x.2.2.2.2)) (.agg (bs y.2.2.2.2))).run Tryd.prog w = .ok (decide (x.2.2.2.2 = y.2.2.2.2)) w := fun w => equal_bytesD 9997 36 32 x.2.2.2.2 y.2.2.2.2 hx hy Tryd.underlying36 w
  have u1 := Tryd.underlying3
  have u3 := Tryd.underlying9
  obtain ⟨a1, a2, a3, a4, a5⟩ := itm_parts x hx
  obtain ⟨b1, b2, b3, b4, b5⟩ := itm_parts y hy
  rw [e, show (10000 : Nat) = 9999 + 1 from rfl, run_equalIn_agg w 9999 40 _ _ hS (by kernel_rfl)]
  clear e
  generalize decide (x.2.2.2.2 = y.2.2.2.2) = D2 at *
  generalize catA [[.int .i64 x.1], [.int .i64 x.2.1], [.string (strB x.2.2.1)], [.int .i64 x.2.2.2.1], bytesV x.2.2.2.2] = X at *
  generalize catA [[.int .i64 y.1], [.int .i64 y.2.1], [.string (strB y.2.2.1)], [.int .i64 y.2.2.2.1], bytesV y.2.2.2.2] = Y at *
  generalize strB x.2.2.1 = s at *
  generalize strB y.2.2.1 = s' at *
  simp only [Program.fieldsOf, Tryd.underlying40]
  go_simp
  cases D2 <;> by_cases h1 : x.1 = y.1 <;> by_cases h2 : x.2.1 = y.2.1 <;> by_cases h3 : s.toList = s'.toList <;> by_cases h4 : x.2.2.2.1 = y.2.2.2.1 <;> simp_all
set_option maxHeartbeats 1600000 in
theorem qwakes_any (w : World) : Calls Tryd.prog 8 #[] w fun x w' => x = .returned (.bool true) ∧ Below w.heap.size w w' := by
  have HS := St.nil w noF
  refine enter_en Tryd.func8 rfl Tryd.ntmps8 (Nat.le_of_ble_eq_true rfl) fun a0 (HA0 : En 83 [] a0) => ?_
  refine sq_ <| rl_ <| wl_ <| p_ HA0 rfl rfl fun _ H1 => ln_ <| nx <| sq_ <| rl_ <| wl_ <| i_ H1 rfl (v := .agg #[.slice none 0 0]) (dd_bld rfl (ps := []) (pr0) (Lz := [[.slice none 0 0]]) (by kernel_rfl) (lens_cons rfl (lens_nil)) (fit_nil) (cs := #[.slice none 0 0]) rfl) fun _ H2 => wl_ <| n_ H2 rfl (fun _ h => dd_box HS rfl (H2.ev 9 rfl) (cs := #[.slice none 0 0]) rfl h) fun g10 _ HS3 _ H3 => wl_ <| p_ H3 rfl rfl fun _ H4 => ln_ <| nx <| sq_ <| rl_ <| wl_ <| i_ H4 rfl (v := .agg (catA [[.int .i64 5], [.int .i64 2], [.string (⟨#[97, 98]⟩)], [.int .i64 1], bytesV (zer 32)])) (dd_bld rfl (ps := [(0, .int .i64 5), (1, .int .i64 2), (2, .string (⟨#[97, 98]⟩)), (3, .int .i64 1)]) (pr1 rfl (pr1 rfl (pr1 rfl (pr1 rfl (pr0))))) (Lz := [[.int .i64 0], [.int .i64 0], [.string (⟨#[]⟩)], [.int .i64 0], bytesV (zer 32)]) (by kernel_rfl) (lens_cons rfl (lens_cons rfl (lens_cons rfl (lens_cons rfl (lens_cons (len_bv (length_zer 32)) (lens_nil)))))) (fit_cons (i := 0) rfl rfl (fit_cons (i := 1) rfl rfl (fit_cons (i := 2) rfl rfl (fit_cons (i := 3) rfl rfl (fit_nil))))) (cs := catA [[.int .i64 5], [.int .i64 2], [.string (⟨#[97, 98]⟩)], [.int .i64 1], bytesV (zer 32)]) rfl) fun _ H5 => wl_ <| n_ H5 rfl (fun _ h => dd_new HS3 (catA [[.int .i64 0], [.int .i64 0], [.string (⟨#[]⟩)], [.int .i64 0], bytesV (zer 32)]) rfl (z := .agg (catA [[.int .i64 0], [.int .i64 0], [.string (⟨#[]⟩)], [.int .i64 0], bytesV (zer 32)])) (by kernel_rfl) rfl h) fun g2 _ HS6 _ H6 => wl_ <| t_ rfl (fun _ h => dd_setrow HS6 1 rfl rfl (H6.ev 2 rfl) (H6.ev 11 rfl) (by kernel_rfl) ((cat_size (lens_cons rfl (lens_cons rfl (lens_cons rfl (lens_cons rfl (lens_cons (len_bv (length_zer 32)) (lens_nil))))))) : (catA [[.int .i64 5], [.int .i64 2], [.string (⟨#[97, 98]⟩)], [.int .i64 1], bytesV (zer 32)]).size = 36) ((cat_size (lens_cons rfl (lens_cons rfl (lens_cons rfl (lens_cons rfl (lens_cons (len_bv (length_zer 32)) (lens_nil))))))) : (catA [[.int .i64 0], [.int .i64 0], [.string (⟨#[]⟩)], [.int .i64 0], bytesV (zer 32)]).size = 36) (cat_one (ones_cons (ones_c rfl) (ones_cons (ones_c rfl) (ones_cons (ones_c rfl) (ones_cons (ones_c rfl) (ones_cons (one_bytesV _) (ones_nil))))))) h) fun _ HS7 => ln_ <| nx <| sq_ <| sq_ <| rl_ <| wl_ <| p_ H6 rfl rfl fun _ H8 => ?_
  clear HA0 H1 HS H2 H3 H4 HS3 H5 HS6
  refine wl_ <| i_ H8 rfl (v := .agg (catA [[.int .i64 5], [.int .i64 2], [.string (⟨#[97, 98]⟩)], [.int .i64 1], bytesV (zer 32)])) (dd_load HS7 1 0 rfl rfl (H8.ev 2 rfl) (slab_whole _) Tryd.underlying40 rfl (by rw [show (catA [[.int .i64 5], [.int .i64 2], [.string (⟨#[97, 98]⟩)], [.int .i64 1], bytesV (zer 32)]).size = 36 from (cat_size (lens_cons rfl (lens_cons rfl (lens_cons rfl (lens_cons rfl (lens_cons (len_bv (length_zer 32)) (lens_nil)))))))]; kernel_rfl)) fun _ H9 => wl_ <| i_ H9 rfl (v := .agg (catA [[.int .i64 5], [.int .i64 2], [.string (⟨#[97, 98]⟩)], [.int .i64 1], bytesV (zer 32)])) (dd_load HS7 1 0 rfl rfl (H9.ev 2 rfl) (slab_whole _) Tryd.underlying40 rfl (by rw [show (catA [[.int .i64 5], [.int .i64 2], [.string (⟨#[97, 98]⟩)], [.int .i64 1], bytesV (zer 32)]).size = 36 from (cat_size (lens_cons rfl (lens_cons rfl (lens_cons rfl (lens_cons rfl (lens_cons (len_bv (length_zer 32)) (lens_nil)))))))]; kernel_rfl)) fun _ H10 => wl_ <| n_ H10 rfl (fun _ h => dd_lits HS7 (catA [(catA [[.int .i64 5], [.int .i64 2], [.string (⟨#[97, 98]⟩)], [.int .i64 1], bytesV (zer 32)]).toList, (catA [[.int .i64 5], [.int .i64 2], [.string (⟨#[97, 98]⟩)], [.int .i64 1], bytesV (zer 32)]).toList]) rfl (ps := [(0, .agg (catA [[.int .i64 5], [.int .i64 2], [.string (⟨#[97, 98]⟩)], [.int .i64 1], bytesV (zer 32)])), (1, .agg (catA [[.int .i64 5], [.int .i64 2], [.string (⟨#[97, 98]⟩)], [.int .i64 1], bytesV (zer 32)]))]) (pr1 (H10.ev 13 rfl) (pr1 (H10.ev 14 rfl) (pr0))) (z := .agg (catA [[.int .i64 0], [.int .i64 0], [.string (⟨#[]⟩)], [.int .i64 0], bytesV (zer 32)])) (sz := 36) Tryd.underlying25 (by kernel_rfl) rfl rfl ((congrArg (fun b9 => Instr.fill (fun i => some (i * 36, 36)) b9 [(0, .agg (catA [[.int .i64 5], [.int .i64 2], [.string (⟨#[97, 98]⟩)], [.int .i64 1], bytesV (zer 32)])), (1, .agg (catA [[.int .i64 5], [.int .i64 2], [.string (⟨#[97, 98]⟩)], [.int .i64 1], bytesV (zer 32)]))]) base2).trans (fill_segs _ [(0, .agg (catA [[.int .i64 5], [.int .i64 2], [.string (⟨#[97, 98]⟩)], [.int .i64 1], bytesV (zer 32)])), (1, .agg (catA [[.int .i64 5], [.int .i64 2], [.string (⟨#[97, 98]⟩)], [.int .i64 1], bytesV (zer 32)]))] (List.replicate 2 zitm.toList) (List.replicate 2 36) rfl (fun i s h => plc36 h) (fit_cons (i := 0) rfl (cat_size (lens_cons rfl (lens_cons rfl (lens_cons rfl (lens_cons rfl (lens_cons (len_bv (length_zer 32)) (lens_nil))))))) (fit_cons (i := 1) rfl (cat_size (lens_cons rfl (lens_cons rfl (lens_cons rfl (lens_cons rfl (lens_cons (len_bv (length_zer 32)) (lens_nil))))))) (fit_nil))))) h) fun g15 _ HS11 _ H11 => ?_
  clear H6 H8 H9 HS7 H10
  refine wl_ <| d_ H11 rfl (R := fun v9 w9 => ∃ gq13 : Nat, ∃ cq13 : Nat, ∃ cbq13 : Array Value, v9 = .int .i64 0 ∧ (OwnC cbq13 cq13 2 36 (itemsL ([] ++ [wka, wka]))) ∧ St w noF [⟨g10, 27, #[.slice (some ⟨gq13, 0, none⟩) 2 cq13]⟩, ⟨gq13, 40, cbq13⟩, ⟨g2, 40, catA [[.int .i64 5], [.int .i64 2], [.string (⟨#[97, 98]⟩)], [.int .i64 1], bytesV (zer 32)]⟩, ⟨g15, 40, catA [(catA [[.int .i64 5], [.int .i64 2], [.string (⟨#[97, 98]⟩)], [.int .i64 1], bytesV (zer 32)]).toList, (catA [[.int .i64 5], [.int .i64 2], [.string (⟨#[97, 98]⟩)], [.int .i64 1], bytesV (zer 32)]).toList]⟩] w9) (dc_ Tryd.func11 rfl (args2 (H11.ev 12 rfl) (H11.ev 15 rfl)) (queadd_some _ g10 _ _ 0 _ 2 _ ([]) ([wka, wka]) _ (ss HS11 [0]).frame (fun W9 k9 => items_nil _ _ _) (fun W9 k9 => (items_row (X := [wka, wka]) ((HS11.row 2 rfl).chg k9 (nin_row (S1 := selB [⟨g10, 27, #[.slice none 0 0]⟩, ⟨g2, 40, catA [[.int .i64 5], [.int .i64 2], [.string (⟨#[97, 98]⟩)], [.int .i64 1], bytesV (zer 32)]⟩, ⟨g15, 40, catA [(catA [[.int .i64 5], [.int .i64 2], [.string (⟨#[97, 98]⟩)], [.int .i64 1], bytesV (zer 32)]).toList, (catA [[.int .i64 5], [.int .i64 2], [.string (⟨#[97, 98]⟩)], [.int .i64 1], bytesV (zer 32)]).toList]⟩] [0]) (ss HS11 [0, 1, 2]) 1 rfl)) (items_lit rfl) rfl wka_wf2)) (by decide) (by decide)) (fun _ w9 ⟨g9, c9, cb9, he, hO, hS⟩ => ⟨_, he, g9, c9, cb9, rfl, hO, St.reframe (ss HS11 [0, 1, 2]) hS⟩)) ?_
  rintro _ W12 ⟨gq13, cq13, cbq13, rfl, Oq13, HS12⟩ a12 H12
  clear H11 HS11
  refine wl_ <| i_ H12 rfl (dd_cmp rfl (H12.ev 16 rfl) rfl (ne_f (by decide))) fun _ H14 => wl_ <| p_ H14 rfl rfl fun _ H15 => wl_ <| ig H15 (wg_ H15 rfl rfl rfl rfl) rfl (dd_mv rfl (H15.ev 1 rfl)) fun _ H16 => wl_ <| ig H16 (wg_ H16 rfl rfl rfl rfl) rfl (v := .agg (catA [[.int .i64 5], [.int .i64 2], [.string (⟨#[97, 98]⟩)], [.int .i64 1], bytesV (zer 32)])) (dd_load HS12 2 0 rfl rfl (H16.ev 2 rfl) (slab_whole _) Tryd.underlying40 rfl (by rw [show (catA [[.int .i64 5], [.int .i64 2], [.string (⟨#[97, 98]⟩)], [.int .i64 1], bytesV (zer 32)]).size = 36 from (cat_size (lens_cons rfl (lens_cons rfl (lens_cons rfl (lens_cons rfl (lens_cons (len_bv (length_zer 32)) (lens_nil)))))))]; kernel_rfl)) fun _ H17 => wl_ <| ig H17 (wg_ H17 rfl rfl rfl rfl) rfl (v := .agg (catA [[.int .i64 5], [.int .i64 2], [.string (⟨#[97, 98]⟩)], [.int .i64 1], bytesV (zer 32)])) (dd_load HS12 2 0 rfl rfl (H17.ev 2 rfl) (slab_whole _) Tryd.underlying40 rfl (by rw [show (catA [[.int .i64 5], [.int .i64 2], [.string (⟨#[97, 98]⟩)], [.int .i64 1], bytesV (zer 32)]).size = 36 from (cat_size (lens_cons rfl (lens_cons rfl (lens_cons rfl (lens_cons rfl (lens_cons (len_bv (length_zer 32)) (lens_nil)))))))]; kernel_rfl)) fun _ H18 => wl_ <| ig H18 (wg_ H18 rfl rfl rfl rfl) rfl (v := .agg (catA [[.int .i64 5], [.int .i64 2], [.string (⟨#[97, 98]⟩)], [.int .i64 1], bytesV (zer 32)])) (dd_load HS12 2 0 rfl rfl (H18.ev 2 rfl) (slab_whole _) Tryd.underlying40 rfl (by rw [show (catA [[.int .i64 5], [.int .i64 2], [.string (⟨#[97, 98]⟩)], [.int .i64 1], bytesV (zer 32)]).size = 36 from (cat_size (lens_cons rfl (lens_cons rfl (lens_cons rfl (lens_cons rfl (lens_cons (len_bv (length_zer 32)) (lens_nil)))))))]; kernel_rfl)) fun _ H19 => wl_ <| ng H19 (wg_ H19 rfl rfl rfl rfl) rfl (S := fun g23 => [⟨g10, 27, #[.slice (some ⟨gq13, 0, none⟩) 2 cq13]⟩, ⟨gq13, 40, cbq13⟩, ⟨g2, 40, catA [[.int .i64 5], [.int .i64 2], [.string (⟨#[97, 98]⟩)], [.int .i64 1], bytesV (zer 32)]⟩, ⟨g15, 40, catA [(catA [[.int .i64 5], [.int .i64 2], [.string (⟨#[97, 98]⟩)], [.int .i64 1], bytesV (zer 32)]).toList, (catA [[.int .i64 5], [.int .i64 2], [.string (⟨#[97, 98]⟩)], [.int .i64 1], bytesV (zer 32)]).toList]⟩, ⟨g23, 40, catA [(catA [[.int .i64 5], [.int .i64 2], [.string (⟨#[97, 98]⟩)], [.int .i64 1], bytesV (zer 32)]).toList, (catA [[.int .i64 5], [.int .i64 2], [.string (⟨#[97, 98]⟩)], [.int .i64 1], bytesV (zer 32)]).toList, (catA [[.int .i64 5], [.int .i64 2], [.string (⟨#[97, 98]⟩)], [.int .i64 1], bytesV (zer 32)]).toList]⟩]) (fun _ h => dd_lits HS12 (catA [(catA [[.int .i64 5], [.int .i64 2], [.string (⟨#[97, 98]⟩)], [.int .i64 1], bytesV (zer 32)]).toList, (catA [[.int .i64 5], [.int .i64 2], [.string (⟨#[97, 98]⟩)], [.int .i64 1], bytesV (zer 32)]).toList, (catA [[.int .i64 5], [.int .i64 2], [.string (⟨#[97, 98]⟩)], [.int .i64 1], bytesV (zer 32)]).toList]) rfl (ps := [(0, .agg (catA [[.int .i64 5], [.int .i64 2], [.string (⟨#[97, 98]⟩)], [.int .i64 1], bytesV (zer 32)])), (1, .agg (catA [[.int .i64 5], [.int .i64 2], [.string (⟨#[97, 98]⟩)], [.int .i64 1], bytesV (zer 32)])), (2, .agg (catA [[.int .i64 5], [.int .i64 2], [.string (⟨#[97, 98]⟩)], [.int .i64 1], bytesV (zer 32)]))]) (pr1 (H19.ev 20 rfl) (pr1 (H19.ev 21 rfl) (pr1 (H19.ev 22 rfl) (pr0)))) (z := .agg (catA [[.int .i64 0], [.int .i64 0], [.string (⟨#[]⟩)], [.int .i64 0], bytesV (zer 32)])) (sz := 36) Tryd.underlying25 (by kernel_rfl) rfl rfl ((congrArg (fun b9 => Instr.fill (fun i => some (i * 36, 36)) b9 [(0, .agg (catA [[.int .i64 5], [.int .i64 2], [.string (⟨#[97, 98]⟩)], [.int .i64 1], bytesV (zer 32)])), (1, .agg (catA [[.int .i64 5], [.int .i64 2], [.string (⟨#[97, 98]⟩)], [.int .i64 1], bytesV (zer 32)])), (2, .agg (catA [[.int .i64 5], [.int .i64 2], [.string (⟨#[97, 98]⟩)], [.int .i64 1], bytesV (zer 32)]))]) base3).trans (fill_segs _ [(0, .agg (catA [[.int .i64 5], [.int .i64 2], [.string (⟨#[97, 98]⟩)], [.int .i64 1], bytesV (zer 32)])), (1, .agg (catA [[.int .i64 5], [.int .i64 2], [.string (⟨#[97, 98]⟩)], [.int .i64 1], bytesV (zer 32)])), (2, .agg (catA [[.int .i64 5], [.int .i64 2], [.string (⟨#[97, 98]⟩)], [.int .i64 1], bytesV (zer 32)]))] (List.replicate 3 zitm.toList) (List.replicate 3 36) rfl (fun i s h => plc36 h) (fit_cons (i := 0) rfl (cat_size (lens_cons rfl (lens_cons rfl (lens_cons rfl (lens_cons rfl (lens_cons (len_bv (length_zer 32)) (lens_nil))))))) (fit_cons (i := 1) rfl (cat_size (lens_cons rfl (lens_cons rfl (lens_cons rfl (lens_cons rfl (lens_cons (len_bv (length_zer 32)) (lens_nil))))))) (fit_cons (i := 2) rfl (cat_size (lens_cons rfl (lens_cons rfl (lens_cons rfl (lens_cons rfl (lens_cons (len_bv (length_zer 32)) (lens_nil))))))) (fit_nil)))))) h) fun g23 W20 HS20 _ H20 => wl_ <| cg H20 (wg_ H20 rfl rfl rfl rfl) rfl HS20 (dcs Tryd.func11 rfl (args2 (H20.ev 19 rfl) (H20.ev 23 rfl)) (queadd_full g10 _ _ _ _ _ _ W20 (HS20.row 0 rfl) (by decide) (by decide) (by decide)) (.int .i64 19)) fun W21 HS21 _ H21 => ?_
  clear H12 H14 H15 H16 H17 H18 HS12 H19
  refine wl_ <| ig H21 (wg_ H21 rfl rfl rfl rfl) rfl (dd_cmp rfl (H21.ev 24 rfl) rfl (ne_f (by decide))) fun _ H22 => q_ H22 2 rfl fun _ H23 => wl_ <| ig H23 (wg_ H23 rfl rfl rfl rfl) rfl (dd_mv rfl (H23.ev 1 rfl)) fun _ H24 => wl_ <| cg H24 (wg_ H24 rfl rfl rfl rfl) rfl HS21 (dcs Tryd.func19 rfl (args1 (H24.ev 28 rfl)) (quelen_any g10 _ _ _ W21 (HS21.row 0 rfl)) (.int .i64 2)) fun W25 HS25 _ H25 => wl_ <| ig H25 (wg_ H25 rfl rfl rfl rfl) rfl (dd_cmp rfl (H25.ev 29 rfl) rfl (ne_f (by decide))) fun _ H26 => wl_ <| p_ H26 rfl rfl fun _ H27 => ln_ <| ?_
  clear H20 HS20 H21 H22 H23 H24 HS21 H25 H26
  have H28 := H27.sel [1, 2, 31] rfl
  refine nx <| cf_ H28 rfl <| wp_skip <| nx <| sq_ <| rl_ <| wl_ <| p_ H28 rfl rfl fun _ H29 => wl_ <| c_ H29 rfl HS25 (v := .tuple #[.agg (catA [[.int .i64 wka.1], [.int .i64 wka.2.1], [.string (strB wka.2.2.1)], [.int .i64 wka.2.2.2.1], bytesV wka.2.2.2.2]), .bool true]) (dc_ Tryd.func18 rfl (args1 (H29.ev 33 rfl)) (quehead_some g10 _ _ _ _ ([] ++ [wka, wka]) W25 (HS25.row 0 rfl) (items_own (HS25.row 1 rfl) Oq13 rfl wka_wf2) (cat_own (HS25.row 1 rfl) Oq13) (by decide)) (fun _ w9 ⟨y9, hy9, he, hb⟩ => by obtain rfl : wka = y9 := (by injection (show some wka = some y9 from hy9)); exact ⟨_, he, rfl, hb⟩)) fun _ HS30 _ H30 => wl_ <| p_ H30 rfl rfl fun _ H31 => wl_ <| i_ H31 rfl (v := .agg (catA [[.int .i64 wka.1], [.int .i64 wka.2.1], [.string (strB wka.2.2.1)], [.int .i64 wka.2.2.2.1], bytesV wka.2.2.2.2])) (dd_ext rfl (H31.ev 32 rfl) rfl) fun _ H32 => wl_ <| i_ H32 rfl (v := .bool true) (dd_ext rfl (H32.ev 32 rfl) rfl) fun _ H33 => wl_ <| n_ H33 rfl (fun _ h => dd_new HS30 (catA [[.int .i64 0], [.int .i64 0], [.string (⟨#[]⟩)], [.int .i64 0], bytesV (zer 32)]) rfl (z := .agg (catA [[.int .i64 0], [.int .i64 0], [.string (⟨#[]⟩)], [.int .i64 0], bytesV (zer 32)])) (by kernel_rfl) rfl h) fun g3 _ HS34 _ H34 => wl_ <| t_ rfl (fun _ h => dd_setrow HS34 5 rfl rfl (H34.ev 3 rfl) (H34.ev 35 rfl) (by kernel_rfl) ((cat_size (lens_cons rfl (lens_cons rfl (lens_cons rfl (lens_cons rfl (lens_cons (len_bv wka_len) (lens_nil))))))) : (catA [[.int .i64 wka.1], [.int .i64 wka.2.1], [.string (strB wka.2.2.1)], [.int .i64 wka.2.2.2.1], bytesV wka.2.2.2.2]).size = 36) ((cat_size (lens_cons rfl (lens_cons rfl (lens_cons rfl (lens_cons rfl (lens_cons (len_bv (length_zer 32)) (lens_nil))))))) : (catA [[.int .i64 0], [.int .i64 0], [.string (⟨#[]⟩)], [.int .i64 0], bytesV (zer 32)]).size = 36) (cat_one (ones_cons (ones_c rfl) (ones_cons (ones_c rfl) (ones_cons (ones_c rfl) (ones_cons (ones_c rfl) (ones_cons (one_bytesV _) (ones_nil))))))) h) fun W35 HS35 => wl_ <| p_ H34 rfl rfl fun _ H36 => ?_
  clear H27 H28 H29 HS25 H30 H31 H32 HS30 H33 HS34
  refine ln_ <| nx <| sq_ <| rl_ <| wl_ <| i_ H36 rfl (v := .agg (catA [[.int .i64 5], [.int .i64 2], [.string (⟨#[97, 98]⟩)], [.int .i64 1], bytesV (zer 32)])) (dd_load HS35 2 0 rfl rfl (H36.ev 2 rfl) (slab_whole _) Tryd.underlying40 rfl (by rw [show (catA [[.int .i64 5], [.int .i64 2], [.string (⟨#[97, 98]⟩)], [.int .i64 1], bytesV (zer 32)]).size = 36 from (cat_size (lens_cons rfl (lens_cons rfl (lens_cons rfl (lens_cons rfl (lens_cons (len_bv (length_zer 32)) (lens_nil)))))))]; kernel_rfl)) fun _ H37 => wl_ <| i_ H37 rfl (v := .agg (bs (zer 32))) (dd_bldk rfl (ps := []) (pr0) (cs := bs (zer 32)) (by kernel_rfl)) fun _ H38 => ?_
  clear H34 H36 H37
  refine wl_ <| d_ H38 rfl (R := fun v w9 => ∃ Ap cp, v = .tuple #[.slice Ap 2 cp, .int .i64 0] ∧ Below W35.heap.size W35 w9) (dc_ Tryd.func20 rfl (args2 (H38.ev 38 rfl) (H38.ev 39 rfl)) (queputs_any wka (zer 32) W35 wka_len (length_zer 32) (by decide)) (fun _ w9 ⟨v9, he, ho, hb⟩ => by rw [wka_E] at he; rw [wka_P] at ho; obtain ⟨g9, c9, cb9, rfl, _⟩ := ownc_pos ho (by decide); exact ⟨_, he, _, c9, rfl, hb⟩)) ?_
  rintro _ W39 ⟨Ap, cp, rfl, hb39⟩ a39 H39
  have HS39 := HS35.same hb39
  clear H38
  clear HS35 hb39
  refine wl_ <| p_ H39 rfl rfl fun _ H40 => wl_ <| i_ H40 rfl (v := .slice Ap 2 cp) (dd_ext rfl (H40.ev 37 rfl) rfl) fun _ H41 => wl_ <| i_ H41 rfl (v := .int .i64 0) (dd_ext rfl (H41.ev 37 rfl) rfl) fun _ H42 => q_ H42 2 rfl fun _ H43 => ln_ <| nx <| sq_ <| rl_ <| wl_ <| i_ H43 rfl (v := .agg (catA [[.int .i64 0], [.int .i64 4], [.string (⟨#[]⟩)], [.int .i64 0], bytesV (zer 32)])) (dd_bld rfl (ps := [(1, .int .i64 4)]) (pr1 rfl (pr0)) (Lz := [[.int .i64 0], [.int .i64 0], [.string (⟨#[]⟩)], [.int .i64 0], bytesV (zer 32)]) (by kernel_rfl) (lens_cons rfl (lens_cons rfl (lens_cons rfl (lens_cons rfl (lens_cons (len_bv (length_zer 32)) (lens_nil)))))) (fit_cons (i := 1) rfl rfl (fit_nil)) (cs := catA [[.int .i64 0], [.int .i64 4], [.string (⟨#[]⟩)], [.int .i64 0], bytesV (zer 32)]) rfl) fun _ H44 => wl_ <| i_ H44 rfl (v := .agg (bs (zer 32))) (dd_bldk rfl (ps := []) (pr0) (cs := bs (zer 32)) (by kernel_rfl)) fun _ H45 => ?_
  clear H39 H40 H41 H42 H43 H44
  refine wl_ <| d_ H45 rfl (R := fun v w9 => ∃ vq, v = .tuple #[vq, .int .i64 1] ∧ Below W39.heap.size W39 w9) (dc_ Tryd.func20 rfl (args2 (H45.ev 44 rfl) (H45.ev 45 rfl)) (queputs_any wkb (zer 32) W39 (length_zer 32) (length_zer 32) (by decide)) (fun _ w9 ⟨v9, he, ho, hb⟩ => ⟨_, he, v9, rfl, hb⟩)) ?_
  rintro _ W46 ⟨vq, rfl, hb46⟩ a46 H46
  have HS46 := HS39.same hb46
  clear H45
  clear HS39 hb46
  refine wl_ <| p_ H46 rfl rfl fun _ H47 => wl_ <| i_ H47 rfl (v := vq) (dd_ext rfl (H47.ev 43 rfl) rfl) fun _ H48 => wl_ <| i_ H48 rfl (v := .int .i64 1) (dd_ext rfl (H48.ev 43 rfl) rfl) fun _ H49 => q_ H49 2 rfl fun _ H50 => ln_ <| ?_
  clear H46 H47 H48 H49
  have H51 := H50.sel [1, 2, 3, 4, 5, 6, 8] rfl
  refine nx <| sq_ <| rl_ <| q_ H51 2 rfl fun _ H52 => wl_ <| ig H52 (wg_ H52 rfl rfl rfl rfl) rfl (v := .agg (catA [[.int .i64 wka.1], [.int .i64 wka.2.1], [.string (strB wka.2.2.1)], [.int .i64 wka.2.2.2.1], bytesV wka.2.2.2.2])) (dd_load HS46 5 0 rfl rfl (H52.ev 3 rfl) (slab_whole _) Tryd.underlying40 rfl (by rw [show (catA [[.int .i64 wka.1], [.int .i64 wka.2.1], [.string (strB wka.2.2.1)], [.int .i64 wka.2.2.2.1], bytesV wka.2.2.2.2]).size = 36 from (cat_size (lens_cons rfl (lens_cons rfl (lens_cons rfl (lens_cons rfl (lens_cons (len_bv wka_len) (lens_nil)))))))]; kernel_rfl)) fun _ H53 => wl_ <| ig H53 (wg_ H53 rfl rfl rfl rfl) rfl (v := .agg (catA [[.int .i64 5], [.int .i64 2], [.string (⟨#[97, 98]⟩)], [.int .i64 1], bytesV (zer 32)])) (dd_load HS46 2 0 rfl rfl (H53.ev 2 rfl) (slab_whole _) Tryd.underlying40 rfl (by rw [show (catA [[.int .i64 5], [.int .i64 2], [.string (⟨#[97, 98]⟩)], [.int .i64 1], bytesV (zer 32)]).size = 36 from (cat_size (lens_cons rfl (lens_cons rfl (lens_cons rfl (lens_cons rfl (lens_cons (len_bv (length_zer 32)) (lens_nil)))))))]; kernel_rfl)) fun _ H54 => wl_ <| ig H54 (wg_ H54 rfl rfl rfl rfl) rfl (v := .bool true) (dd_eqa (b := true) rfl (H54.ev 51 rfl) (H54.ev 52 rfl) (by kernel_rfl) (fun w => by have h9 := eql_itm wka wka wka_len wka_len w; rw [decide_eq_true rfl] at h9; exact h9)) fun _ H55 => q_ H55 2 rfl fun _ H56 => wl_ <| ig H56 (wg_ H56 rfl rfl rfl rfl) rfl (dd_mv rfl (H56.ev 6 rfl)) fun _ H57 => wl_ <| ig H57 (wg_ H57 rfl rfl rfl rfl) rfl (dd_cmp rfl (H57.ev 56 rfl) rfl (eq_t (by decide))) fun _ H58 => q_ H58 2 rfl fun _ H59 => ?_
  clear H50 H51 H52 H53 H54 H55 H56 H57
  refine wl_ <| ig H59 (wg_ H59 rfl rfl rfl rfl) rfl (dd_mv rfl (H59.ev 5 rfl)) fun _ H60 => wl_ <| ig H60 (wg_ H60 rfl rfl rfl rfl) rfl (v := .int .i64 2) (dd_len rfl (H60.ev 60 rfl) Tryd.underlying51) fun _ H61 => wl_ <| ig H61 (wg_ H61 rfl rfl rfl rfl) rfl (dd_cmp rfl (H61.ev 61 rfl) rfl (eq_t (by decide))) fun _ H62 => q_ H62 2 rfl fun _ H63 => wl_ <| ig H63 (wg_ H63 rfl rfl rfl rfl) rfl (dd_mv rfl (H63.ev 8 rfl)) fun _ H64 => wl_ <| ig H64 (wg_ H64 rfl rfl rfl rfl) rfl (dd_cmp rfl (H64.ev 65 rfl) rfl (eq_t (by decide))) fun _ H65 => q_ H65 2 rfl fun _ H66 => wl_ <| ig H66 (wg_ H66 rfl rfl rfl rfl) rfl (dd_mv rfl (H66.ev 1 rfl)) fun _ H67 => ?_
  clear H58 H59 H60 H61 H62 H63 H64 H65
  clear H66
  have hlegq13 := Oq13.le
  refine wl_ <| dr_ H67 (wg_ H67 rfl rfl rfl rfl) rfl (R := fun v9 w9 => v9 = .bool true ∧ St w noF [⟨g10, 27, #[.slice (some ⟨gq13, 36, none⟩) 1 (cq13 - 1)]⟩, ⟨gq13, 40, cbq13⟩, ⟨g2, 40, catA [[.int .i64 5], [.int .i64 2], [.string (⟨#[97, 98]⟩)], [.int .i64 1], bytesV (zer 32)]⟩, ⟨g15, 40, catA [(catA [[.int .i64 5], [.int .i64 2], [.string (⟨#[97, 98]⟩)], [.int .i64 1], bytesV (zer 32)]).toList, (catA [[.int .i64 5], [.int .i64 2], [.string (⟨#[97, 98]⟩)], [.int .i64 1], bytesV (zer 32)]).toList]⟩, ⟨g23, 40, catA [(catA [[.int .i64 5], [.int .i64 2], [.string (⟨#[97, 98]⟩)], [.int .i64 1], bytesV (zer 32)]).toList, (catA [[.int .i64 5], [.int .i64 2], [.string (⟨#[97, 98]⟩)], [.int .i64 1], bytesV (zer 32)]).toList, (catA [[.int .i64 5], [.int .i64 2], [.string (⟨#[97, 98]⟩)], [.int .i64 1], bytesV (zer 32)]).toList]⟩, ⟨g3, 40, catA [[.int .i64 wka.1], [.int .i64 wka.2.1], [.string (strB wka.2.2.1)], [.int .i64 wka.2.2.2.1], bytesV wka.2.2.2.2]⟩] w9) (dc_ Tryd.func13 rfl (args1 (H67.ev 69 rfl)) (quepop_some _ g10 gq13 0 2 cq13 _ (ss HS46 [0]).frame (by omega) (by omega) (by omega)) (fun _ w9 ⟨he, hS⟩ => ⟨_, he, rfl, St.reframe (ss HS46 [0, 1, 2, 3, 4, 5]) hS⟩)) ?_
  rintro _ W68 ⟨rfl, HS68⟩ a68 H68
  clear H67 HS46
  refine q_ H68 2 rfl fun _ H69 => wl_ <| ig H69 (wg_ H69 rfl rfl rfl rfl) rfl (dd_mv rfl (H69.ev 1 rfl)) fun _ H70 => ?_
  clear H68 H69
  refine wl_ <| dr_ H70 (wg_ H70 rfl rfl rfl rfl) rfl (R := fun v9 w9 => ∃ gi72 : Nat, ∃ ci72 : Nat, ∃ cbi72 : Array Value, v9 = .slice (some ⟨gi72, 0, none⟩) 1 ci72 ∧ (OwnC cbi72 ci72 1 1 (intsV ([wka].map (·.1)))) ∧ St w noF [⟨g10, 27, #[.slice none 0 0]⟩, ⟨gi72, 3, cbi72⟩, ⟨gq13, 40, cbq13⟩, ⟨g2, 40, catA [[.int .i64 5], [.int .i64 2], [.string (⟨#[97, 98]⟩)], [.int .i64 1], bytesV (zer 32)]⟩, ⟨g15, 40, catA [(catA [[.int .i64 5], [.int .i64 2], [.string (⟨#[97, 98]⟩)], [.int .i64 1], bytesV (zer 32)]).toList, (catA [[.int .i64 5], [.int .i64 2], [.string (⟨#[97, 98]⟩)], [.int .i64 1], bytesV (zer 32)]).toList]⟩, ⟨g23, 40, catA [(catA [[.int .i64 5], [.int .i64 2], [.string (⟨#[97, 98]⟩)], [.int .i64 1], bytesV (zer 32)]).toList, (catA [[.int .i64 5], [.int .i64 2], [.string (⟨#[97, 98]⟩)], [.int .i64 1], bytesV (zer 32)]).toList, (catA [[.int .i64 5], [.int .i64 2], [.string (⟨#[97, 98]⟩)], [.int .i64 1], bytesV (zer 32)]).toList]⟩, ⟨g3, 40, catA [[.int .i64 wka.1], [.int .i64 wka.2.1], [.string (strB wka.2.2.1)], [.int .i64 wka.2.2.2.1], bytesV wka.2.2.2.2]⟩] w9) (dc_ Tryd.func16 rfl (args1 (H70.ev 73 rfl)) (queclear_any _ g10 gq13 36 1 _ [wka] _ (ss HS68 [0]).frame ⟨rfl, by omega, wka_wf1, fun _ => ⟨_, _, rfl, wka_at (cat_own (HS68.row 1 rfl) Oq13)⟩⟩ (fun W9 k9 => wka_at (cat_own ((HS68.row 1 rfl).chg k9 (nin_row (S1 := selB [⟨g10, 27, #[.slice (some ⟨gq13, 36, none⟩) 1 (cq13 - 1)]⟩, ⟨gq13, 40, cbq13⟩, ⟨g2, 40, catA [[.int .i64 5], [.int .i64 2], [.string (⟨#[97, 98]⟩)], [.int .i64 1], bytesV (zer 32)]⟩, ⟨g15, 40, catA [(catA [[.int .i64 5], [.int .i64 2], [.string (⟨#[97, 98]⟩)], [.int .i64 1], bytesV (zer 32)]).toList, (catA [[.int .i64 5], [.int .i64 2], [.string (⟨#[97, 98]⟩)], [.int .i64 1], bytesV (zer 32)]).toList]⟩, ⟨g23, 40, catA [(catA [[.int .i64 5], [.int .i64 2], [.string (⟨#[97, 98]⟩)], [.int .i64 1], bytesV (zer 32)]).toList, (catA [[.int .i64 5], [.int .i64 2], [.string (⟨#[97, 98]⟩)], [.int .i64 1], bytesV (zer 32)]).toList, (catA [[.int .i64 5], [.int .i64 2], [.string (⟨#[97, 98]⟩)], [.int .i64 1], bytesV (zer 32)]).toList]⟩, ⟨g3, 40, catA [[.int .i64 wka.1], [.int .i64 wka.2.1], [.string (strB wka.2.2.1)], [.int .i64 wka.2.2.2.1], bytesV wka.2.2.2.2]⟩] [0]) (ss HS68 [0, 1, 2, 3, 4, 5]) 0 rfl)) Oq13)) (by decide) (by decide)) (fun _ w9 ⟨g9, c9, cb9, he, hO, hS⟩ => ⟨_, he, g9, c9, cb9, rfl, hO, St.reframe (ss HS68 [0, 1, 2, 3, 4, 5]) hS⟩)) ?_
  rintro _ W71 ⟨gi72, ci72, cbi72, rfl, Oi72, HS71⟩ a71 H71
  clear H70 HS68
  refine wl_ <| ng H71 (wg_ H71 rfl rfl rfl rfl) rfl (fun _ h => dd_lits HS71 #[.int .i64 5] rfl (ps := [(0, .int .i64 5)]) (pr1 rfl (pr0)) (z := .int .i64 0) (sz := 1) Tryd.underlying45 (by kernel_rfl) rfl rfl (by kernel_rfl) h) fun _ W73 HS73 _ H73 => wl_ <| cg H73 (wg_ H73 rfl rfl rfl rfl) rfl HS73 (v := .bool true) (dc_ Tryd.func15 rfl (args2 (H73.ev 74 rfl) (H73.ev 75 rfl)) (keepints_any [5] [5] _ _ _ _ _ _ W73 (ints_own (base := 0) (ownc_to (HS73.row 1 rfl) Oi72 (Nat.zero_le _)) one5) (ints_own (base := 0) (ownc_to (HS73.row 7 rfl) (⟨Nat.le_refl _, by decide, rfl, rfl, rfl⟩ : OwnC #[.int .i64 5] 1 1 1 (intsV [5])) (Nat.zero_le _)) one5) (by decide)) (fun _ w9 h9 => ⟨_, h9.1, by rw [decide_eq_true rfl], h9.2⟩)) fun W74 HS74 _ H74 => q_ H74 2 rfl fun _ H75 => wl_ <| ig H75 (wg_ H75 rfl rfl rfl rfl) rfl (dd_mv rfl (H75.ev 1 rfl)) fun _ H76 => wl_ <| cg H76 (wg_ H76 rfl rfl rfl rfl) rfl HS74 (dcs Tryd.func13 rfl (args1 (H76.ev 79 rfl)) (quepop_none g10 _ _ W74 (HS74.row 0 rfl)) (.bool false)) fun _ HS77 _ H77 => wl_ <| ig H77 (wg_ H77 rfl rfl rfl rfl) rfl (v := .bool true) (dd_nt rfl (H77.ev 80 rfl) rfl) fun _ H78 => q_ H78 2 rfl fun _ H79 => ln_ <| ?_
  clear HS71 H71 H73 HS73 H74 H75 H76 HS74 H77 H78
  have H80 := H79.sel [0] rfl
  refine nx <| wp_ret <| ret_run H80.env0 (res_t Tryd.results8 (H80.get 0 rfl)) <| ?_
  clear H79
  exact ⟨rfl, HS77.below⟩
end Go.Proofs.YtnmaplgodimohaaDoor

/- Copies of one item that wait. -/
set_option maxRecDepth 4000
namespace Go.Proofs.YtnmaplgodimohaaDoor
open Go Go.RowKit
theorem ItemsAt.cat {w : World} {b o n c : Nat} {X : List It} (h : ItemsAt w (some ⟨b, o, none⟩) n c X) (hn : n ≠ 0) : CAt w b o (itemsL X) := by
  obtain ⟨b9, o9, e, h2⟩ := h.at_ hn
  injection e with e; injection e with e1 e2; subst e1 e2; exact h2
theorem queadd_as (F : Nat → Prop) (g : Nat) (A B : Option Addr) (n c m d : Nat) (X Y : List It) (N : Nat) (Z : List It) (w : World) (HS : St w F [⟨g, 27, #[.slice A n c]⟩] w) (H1 : ∀ W, Chg F w W → ItemsAt W A n c X) (H2 : ∀ W, Chg F w W → ItemsAt W B m d Y) (hf : n + m ≤ 4) (h0 : 0 < n + m) (hN : n + m = N) (hZ : X ++ Y = Z) : Calls Tryd.prog 11 #[.pointer (some ⟨g, 0, none⟩), .slice B m d] w fun x w' => ∃ g' c' cb', x = .returned (.int .i64 0) ∧ OwnC cb' c' N 36 (itemsL Z) ∧ St w F [⟨g, 27, #[.slice (some ⟨g', 0, none⟩) N c']⟩, ⟨g', 40, cb'⟩] w' := by
  subst hN hZ; exact queadd_some F g A B n c m d X Y w HS H1 H2 hf h0
end Go.Proofs.YtnmaplgodimohaaDoor

/- The document's queue. -/
set_option maxRecDepth 4000
namespace Go.Proofs.YtnmaplgodimohaaDoor
open Go Go.RowKit
theorem queclear_zero (F : Nat → Prop) (g : Nat) (A : Option Addr) (c : Nat) (w : World) (HS : St w F [⟨g, 27, #[.slice A 0 c]⟩] w) : Calls Tryd.prog 16 #[.pointer (some ⟨g, 0, none⟩)] w fun x w' => x = .returned (.slice none 0 0) ∧ St w F [⟨g, 27, #[.slice none 0 0]⟩] w' := by
  refine enter_en Tryd.func16 rfl Tryd.ntmps16 (Nat.le_of_ble_eq_true rfl) fun a0 (HA0 : En 27 [(0, .pointer (some ⟨g, 0, none⟩))] a0) => ?_
  refine sq_ <| rl_ <| wl_ <| p_ HA0 rfl rfl fun _ H1 => ln_ <| nx <| sq_ <| sq_ <| rl_ <| wl_ <| p_ H1 rfl rfl fun _ H2 => wl_ <| i_ H2 rfl (v := .bool false) (dd_eqp rfl (H2.ev 6 rfl) rfl Tryd.underlying24 rfl) fun _ H3 => ln_ <| nx <| cf_ H3 rfl <| wp_skip <| nx <| sq_ <| rl_ <| wl_ <| p_ H3 rfl rfl fun _ H4 => ln_ <| nx <| sq_ <| sq_ <| rl_ <| wl_ <| p_ H4 rfl rfl fun _ H5 => wl_ <| i_ H5 rfl (dd_nilc rfl (H5.ev 8 rfl)) fun _ H6 => wl_ <| i_ H6 rfl (xf 0 0 rfl (H6.ev 9 rfl)) fun _ H7 => wl_ <| i_ H7 rfl (dd_get HS 0 0 rfl rfl (H7.ev 10 rfl) rfl Tryd.underlying25 rfl) fun _ H8 => ?_
  clear HA0 H1 H2 H3 H4 H5 H6
  refine wl_ <| i_ H8 rfl (v := .int .i64 0) (dd_len rfl (H8.ev 11 rfl) Tryd.underlying25) fun _ H9 => wl_ <| p_ H9 rfl rfl fun _ H10 => ln_ <| nx <| wp_block <| wp_unr 1 <| unr_go <| sq_ <| rl_ <| wl_ <| i_ H10 rfl (dd_cmp rfl (H10.ev 13 rfl) (H10.ev 12 rfl) (lt_f (by decide))) fun _ H11 => ln_ <| nx <| sq_ <| cf_ H11 rfl <| wp_exit <| tx <| tx <| bx <| nx <| sq_ <| rl_ <| wl_ <| p_ H11 rfl rfl fun _ H12 => wl_ <| i_ H12 rfl (dd_nilc rfl (H12.ev 23 rfl)) fun _ H13 => wl_ <| i_ H13 rfl (xf 0 0 rfl (H13.ev 24 rfl)) fun _ H14 => wl_ <| t_ rfl (fun _ h => dd_put (cs := #[.slice none 0 0]) HS 0 0 rfl rfl (H14.ev 25 rfl) rfl (by kernel_rfl) rfl rfl rfl rfl h) fun _ HS15 => ln_ <| nx <| sq_ <| rl_ <| q_ H14 2 rfl fun _ H16 => ?_
  clear H7 H8 H9 H10 H11 H12 H13 HS
  refine ln_ <| nx <| wp_ret <| ret_run H16.env0 (res_t Tryd.results16 (H16.get 2 rfl)) <| ?_
  clear H14
  exact ⟨rfl, ss HS15 [0]⟩
end Go.Proofs.YtnmaplgodimohaaDoor

/- Items that wait, told by their ids. -/
set_option maxRecDepth 4000
namespace Go.Proofs.YtnmaplgodimohaaDoor
open Go Go.RowKit
def idIt (i : Int) : It := (i, 1, [], 0, zer 32)
theorem idIt_wf (L : List Int) : wfI (L.map idIt) := fun x hx => by
  obtain ⟨i, _, rfl⟩ := List.mem_map.1 hx
  exact length_zer 32
theorem idIt_ids (L : List Int) : (L.map idIt).map (·.1) = L := by
  rw [List.map_map]
  exact List.map_id L
theorem idIt_app (L : List Int) (x : Int) : L.map idIt ++ [idIt x] = (L ++ [x]).map idIt := by rw [List.map_append]; rfl
theorem ids_own {w : World} {g n c : Nat} {cb : Array Value} {L : List Int} (hr : Row w g 40 cb) (O : OwnC cb c n 36 (itemsL (L.map idIt))) (hl : L.length = n) : ItemsAt w (some ⟨g, 0, none⟩) n c (L.map idIt) :=
  items_own hr O (by rw [List.length_map, hl]) (idIt_wf L)
theorem ids_tl {w : World} {A : Option Addr} {n m c : Nat} {L : List Int} (h : ItemsAt w A n c (L.map idIt)) (hn : n = m + 1) : ItemsAt w (tl1 A c) m (c - 1) (L.tail.map idIt) := by
  subst hn
  rw [List.map_tail]
  exact h.tl (by omega)
theorem quehead_ids (g : Nat) (A : Option Addr) (n c : Nat) (L : List Int) (w : World) (hr : Row w g 27 #[.slice A n c]) (hi : ItemsAt w A n c (L.map idIt)) (hn : 0 < n) : Calls Tryd.prog 18 #[.pointer (some ⟨g, 0, none⟩)] w fun x w' => ∃ y, L = y :: L.tail ∧ x = .returned (.tuple #[.agg (catA [[.int .i64 y], [.int .i64 1], [.string ⟨#[]⟩], [.int .i64 0], bytesV (zer 32)]), .bool true]) ∧ Below w.heap.size w w' := by
  obtain ⟨b, o, rfl, h0⟩ := hi.at_ (by omega)
  refine (quehead_some g b o n c (L.map idIt) w hr hi h0 hn).mono ?_
  rintro e w' ⟨y, hy, rfl, hb⟩
  cases L with
  | nil => cases hy
  | cons i L =>
    obtain rfl : idIt i = y := by injection hy
    exact ⟨i, rfl, rfl, hb⟩
theorem queadd_ids (F : Nat → Prop) (g : Nat) (A B : Option Addr) (n c d m : Nat) (L : List Int) (i : Int) (w : World) (HS : St w F [⟨g, 27, #[.slice A n c]⟩] w) (H1 : ∀ W, Chg F w W → ItemsAt W A n c (L.map idIt)) (H2 : ∀ W, Chg F w W → ItemsAt W B 1 d [idIt i]) (hf : n + 1 ≤ 4) (hm : n + 1 = m) : Calls Tryd.prog 11 #[.pointer (some ⟨g, 0, none⟩), .slice B 1 d] w fun x w' => ∃ g' c' cb', x = .returned (.int .i64 0) ∧ OwnC cb' c' m 36 (itemsL ((L ++ [i]).map idIt)) ∧ St w F [⟨g, 27, #[.slice (some ⟨g', 0, none⟩) m c']⟩, ⟨g', 40, cb'⟩] w' :=
  queadd_as F g A B n c 1 d (L.map idIt) [idIt i] m _ w HS H1 H2 hf (by omega) hm (idIt_app L i)
theorem quepop_S (F : Nat → Prop) (g : Nat) (A : Option Addr) (n c m : Nat) (w : World) (HS : St w F [⟨g, 27, #[.slice A n c]⟩] w) (hn : n = m + 1) : Calls Tryd.prog 13 #[.pointer (some ⟨g, 0, none⟩)] w fun x w' => x = .returned (.bool true) ∧ St w F [⟨g, 27, #[.slice (tl1 A c) m (c - 1)]⟩] w' := by
  subst hn
  exact quepop_any F g A (m + 1) c w HS (by omega)
theorem queclear_ids (F : Nat → Prop) (g : Nat) (A : Option Addr) (n c : Nat) (L : List Int) (w : World) (HS : St w F [⟨g, 27, #[.slice A n c]⟩] w) (H1 : ∀ W, Chg F w W → ItemsAt W A n c (L.map idIt)) (h0 : 0 < n) (hm : n ≤ 1000) : Calls Tryd.prog 16 #[.pointer (some ⟨g, 0, none⟩)] w fun x w' => ∃ g' c' cb', x = .returned (.slice (some ⟨g', 0, none⟩) n c') ∧ OwnC cb' c' n 1 (intsV L) ∧ St w F [⟨g, 27, #[.slice none 0 0]⟩, ⟨g', 3, cb'⟩] w' := by
  have hi := H1 w HS.chg
  obtain ⟨b, o, rfl, h2⟩ := hi.at_ (by omega)
  have h := queclear_any F g b o n c (L.map idIt) w HS hi (fun W k => ItemsAt.cat (H1 W k) (by omega)) h0 hm
  rw [idIt_ids] at h
  exact h
theorem intsS {cb : Array Value} {c n m : Nat} {L : List Int} {x : Int} {M : List Int} (h : OwnC cb c n 1 (intsV L ++ [.int .i64 x])) (hn : n = m) (hM : L ++ [x] = M) : OwnC cb c m 1 (intsV M) := by
  subst hn hM
  rw [show intsV (L ++ [x]) = intsV L ++ [.int .i64 x] by simp [intsV]]
  exact h
theorem intsA {cb : Array Value} {c n m : Nat} {L K M : List Int} (h : OwnC cb c n 1 (intsV L ++ intsV K)) (hn : n = m) (hM : L ++ K = M) : OwnC cb c m 1 (intsV M) := by
  subst hn hM
  rw [show intsV (L ++ K) = intsV L ++ intsV K by simp [intsV]]
  exact h
theorem ints_ownC {w : World} {g c n : Nat} {cb : Array Value} {L : List Int} (hr : Row w g 3 cb) (O : OwnC cb c n 1 (intsV L)) (hl : ∀ x ∈ L, -9223372036854775808 ≤ x ∧ x < 9223372036854775808) : IntsAt w (.slice (some ⟨g, 0, none⟩) n c) L :=
  ints_own (base := 0) (ownc_to hr O (Nat.zero_le _)) hl
theorem IntsAt.cells {w W : World} {b o n c : Nat} {X : List Int} (h : IntsAt w (.slice (some ⟨b, o, none⟩) n c) X) (hb : Below w.heap.size w W) : ∀ (k : Nat) (x : Int), X[k]? = some x → W.cell? ⟨b, o + k, none⟩ = some (.int .i64 x) := fun k x hx => by
  obtain ⟨b', o', x', h1, h2, _, h4, _⟩ := ints_get (h.below hb (Nat.le_refl _)) (List.getElem?_eq_some_iff.1 hx).1
  injection h2 with h2; injection h2 with h2 h3; subst h2 h3
  rw [hx] at h1; injection h1 with h1; subst h1; exact h4
theorem IntsAt.bnds {w : World} {A : Option Addr} {n c : Nat} {X : List Int} (h : IntsAt w (.slice A n c) X) : ∀ x ∈ X, -9223372036854775808 ≤ x ∧ x < 9223372036854775808 := fun x hx => by
  obtain ⟨k, hk, e⟩ := List.getElem_of_mem hx
  obtain ⟨_, _, y, hy, _, _, _, h1, h2⟩ := ints_get h hk
  rw [List.getElem?_eq_getElem hk, e] at hy; injection hy with hy; subst hy; exact ⟨h1, h2⟩
def BoolsAt (w : World) (v : Value) (l : List Bool) : Prop := rdSl 1 rdBool w [v] l
theorem bools_get {w : World} {A : Option Addr} {n c : Nat} {l : List Bool} (h : BoolsAt w (.slice A n c) l) {k : Nat} (hk : k < l.length) : ∃ b o x, l[k]? = some x ∧ A = some ⟨b, o, none⟩ ∧ w.cell? ⟨b, o + k, none⟩ = some (.bool x) := by
  obtain ⟨A', c', e1, _, _, _, h5⟩ := h
  have e1 : Value.slice A n c = .slice A' l.length c' := by simpa using e1
  injection e1 with e1 _ _
  subst e1
  obtain ⟨b, o, h6, h7, h8⟩ := h5 (by rintro rfl; simp at hk)
  obtain ⟨x, hx⟩ : ∃ x, l[k]? = some x := ⟨_, List.getElem?_eq_getElem hk⟩
  obtain ⟨ds, _, h10, h11⟩ := h8 k x hx
  have h11 : ds = [.bool x] := h11
  subst h11
  have h12 := h10 0 _ rfl
  rw [Nat.mul_one] at h12
  exact ⟨b, o, x, hx, h6, h12⟩
theorem bools_len {w : World} {A : Option Addr} {n c : Nat} {l : List Bool} (h : BoolsAt w (.slice A n c) l) : l.length = n ∧ n ≤ maxLen := by
  obtain ⟨A', c', e1, _, _, h4, _⟩ := h
  have e1 : Value.slice A n c = .slice A' l.length c' := by simpa using e1
  injection e1 with _ e1 _
  subst e1
  exact ⟨rfl, h4⟩
theorem BoolsAt.below {w w' : World} {v : Value} {l : List Bool} {B : Nat} (h : BoolsAt w v l) (hb : Below B w w') (hB : w.heap.size ≤ B) : BoolsAt w' v l := stays_sl stays_bool B w w' _ _ h hb hB
theorem BoolsAt.cells {w W : World} {b o n c : Nat} {X : List Bool} (h : BoolsAt w (.slice (some ⟨b, o, none⟩) n c) X) (hb : Below w.heap.size w W) : ∀ (k : Nat) (x : Bool), X[k]? = some x → W.cell? ⟨b, o + k, none⟩ = some (.bool x) := fun k x hx => by
  obtain ⟨b', o', x', h1, h2, h4⟩ := bools_get (h.below hb (Nat.le_refl _)) (List.getElem?_eq_some_iff.1 hx).1
  injection h2 with h2; injection h2 with h2 h3; subst h2 h3
  rw [hx] at h1; injection h1 with h1; subst h1; exact h4
theorem idIt_wf1 (x : Int) : wfI [idIt x] := fun y hy => by rw [List.mem_singleton] at hy; subst hy; exact length_zer 32
theorem idIt_lit (x : Int) : (catA [[.int .i64 x], [.int .i64 1], [.string ⟨#[]⟩], [.int .i64 0], bytesV (zer 32)]).toList = itemsL [idIt x] := by rw [items_one]; rfl
theorem len_snoc {L : List Int} {n : Nat} {x : Int} (h : L.length = n) : (L ++ [x]).length = n + 1 := by rw [List.length_append, h]; rfl
theorem ints_take {cb : Array Value} {c n : Nat} {L : List Int} (h : OwnC cb c n 1 (intsV L)) : (cb.toList.drop 0).take (intsV L).length = intsV L := by
  rw [List.drop_zero, h.len]; exact h.take
theorem len_tl {L : List Int} {n m : Nat} (h : L.length = n) (hn : n = m + 1) : L.tail.length = m := by rw [List.length_tail, h]; omega
theorem pop_eq {O L : List Int} {y : Int} (h : L = y :: L.tail) : O ++ L = (O ++ [y]) ++ L.tail := by
  rw [List.append_assoc]
  show _ = O ++ (y :: L.tail)
  rw [← h]
theorem intsT {cb : Array Value} {c n m : Nat} {L M : List Int} (h : OwnC cb c n 1 (intsV L)) (hn : n = m) (hM : L = M) : OwnC cb c m 1 (intsV M) := by subst hn hM; exact h
def B64 (L : List Int) : Prop := ∀ x ∈ L, -9223372036854775808 ≤ x ∧ x < 9223372036854775808
theorem B64.snoc {L : List Int} {x : Int} (h : B64 L) (hx : -9223372036854775808 ≤ x ∧ x < 9223372036854775808) : B64 (L ++ [x]) := fun y hy => (List.mem_append.1 hy).elim (h y) (fun h1 => by rw [List.mem_singleton] at h1; subst h1; exact hx)
theorem B64.one {x : Int} (hx : -9223372036854775808 ≤ x ∧ x < 9223372036854775808) : B64 [x] := fun y hy => by rw [List.mem_singleton] at hy; subst hy; exact hx
theorem B64.eq {L M : List Int} (h : B64 L) (e : L = M) : B64 M := e ▸ h
theorem B64.left {L M : List Int} (h : B64 (L ++ M)) : B64 L := fun x hx => h x (List.mem_append_left _ hx)
theorem ints_none (w : World) : IntsAt w (.slice none 0 0) [] := ⟨none, 0, rfl, Nat.le_refl _, fun _ => rfl, Nat.zero_le _, fun h => absurd rfl h⟩
theorem out_all {O W : List Int} {n : Nat} (h : W.length = n) (hn : n = 0) : O = O ++ W := by rw [List.eq_nil_of_length_eq_zero (h.trans hn), List.append_nil]
theorem queclear_z0 (F : Nat → Prop) (g : Nat) (A : Option Addr) (n c : Nat) (w : World) (HS : St w F [⟨g, 27, #[.slice A n c]⟩] w) (hn : n = 0) : Calls Tryd.prog 16 #[.pointer (some ⟨g, 0, none⟩)] w fun x w' => x = .returned (.slice none 0 0) ∧ St w F [⟨g, 27, #[.slice none 0 0]⟩] w' := by
  subst hn
  exact queclear_zero F g A c w HS
end Go.Proofs.YtnmaplgodimohaaDoor

/- The statement QueueNone: its walk. -/
set_option maxRecDepth 4000
namespace Go.Proofs.YtnmaplgodimohaaDoor
open Go Go.RowKit
end Go.Proofs.YtnmaplgodimohaaDoor

/- The statement QueueOrder: its walk. -/
set_option maxRecDepth 4000
namespace Go.Proofs.YtnmaplgodimohaaDoor
open Go Go.RowKit
theorem quord_out (A A2 : Option Addr) (n c m c2 : Nat) (w : World) (h : ¬ (n ≤ 100 ∧ n ≤ m)) : Calls Tryd.prog 5 #[.slice A n c, .slice A2 m c2] w fun x w' => x = .returned (.bool true) ∧ Below w.heap.size w w' := by
  have HS := St.nil w noF
  refine enter_en Tryd.func5 rfl Tryd.ntmps5 (Nat.le_of_ble_eq_true rfl) fun a0 (HA0 : En 105 [(0, .slice A n c), (1, .slice A2 m c2)] a0) => ?_
  refine sq_ <| rl_ <| wl_ <| p_ HA0 rfl rfl fun _ H1 => ln_ <| nx <| sq_ <| sq_ <| rl_ <| wl_ <| p_ H1 rfl rfl fun _ H2 => wl_ <| i_ H2 rfl (v := .int .i64 n) (dd_len rfl (H2.ev 12 rfl) Tryd.underlying45) fun _ H3 => ?_
  clear HA0 H1 H2
  by_cases hc5 : (100 : Int) < n
  ·
   refine wl_ <| i_ H3 rfl (dd_cmp rfl (H3.ev 13 rfl) rfl (gt_t hc5)) fun _ H6 => wl_ <| p_ H6 rfl rfl fun _ H7 => wl_ <| k_ H7 (wg_ H7 rfl rfl rfl rfl) rfl fun _ H8 => wl_ <| k_ H8 (wg_ H8 rfl rfl rfl rfl) rfl fun _ H9 => wl_ <| k_ H9 (wg_ H9 rfl rfl rfl rfl) rfl fun _ H10 => wl_ <| k_ H10 (wg_ H10 rfl rfl rfl rfl) rfl fun _ H11 => wl_ <| k_ H11 (wg_ H11 rfl rfl rfl rfl) rfl fun _ H12 => wl_ <| p_ H12 rfl rfl fun _ H13 => ?_
   clear H3 H6 H7 H8 H9 H10 H11
   refine ln_ <| nx <| ct_ H13 rfl <| sq_ <| rl_ <| wl_ <| c_ H13 rfl HS (dcs Tryd.func8 rfl (args0 ) (qwakes_any w) (.bool true)) fun _ HS14 _ H14 => wl_ <| p_ H14 rfl rfl fun _ H15 => ln_ <| nx <| wp_ret <| tr <| ret_run H15.env0 (res_t Tryd.results5 (H15.get 4 rfl)) <| ?_
   clear H12 H13 HS H14
   exact ⟨rfl, HS14.below⟩
  refine wl_ <| i_ H3 rfl (dd_cmp rfl (H3.ev 13 rfl) rfl (gt_f hc5)) fun _ H16 => wl_ <| p_ H16 rfl rfl fun _ H17 => wl_ <| ig H17 (wg_ H17 rfl rfl rfl rfl) rfl (dd_mv rfl (H17.ev 1 rfl)) fun _ H18 => wl_ <| ig H18 (wg_ H18 rfl rfl rfl rfl) rfl (v := .int .i64 m) (dd_len rfl (H18.ev 16 rfl) Tryd.underlying58) fun _ H19 => wl_ <| ig H19 (wg_ H19 rfl rfl rfl rfl) rfl (dd_mv rfl (H19.ev 0 rfl)) fun _ H20 => wl_ <| ig H20 (wg_ H20 rfl rfl rfl rfl) rfl (v := .int .i64 n) (dd_len rfl (H20.ev 18 rfl) Tryd.underlying45) fun _ H21 => wl_ <| ig H21 (wg_ H21 rfl rfl rfl rfl) rfl (dd_cmp rfl (H21.ev 17 rfl) (H21.ev 19 rfl) (lt_t (by omega))) fun _ H22 => wl_ <| p_ H22 rfl rfl fun _ H23 => ?_
  clear H3 H16 H17 H18 H19 H20 H21
  refine ln_ <| nx <| ct_ H23 rfl <| sq_ <| rl_ <| wl_ <| c_ H23 rfl HS (dcs Tryd.func8 rfl (args0 ) (qwakes_any w) (.bool true)) fun _ HS24 _ H24 => wl_ <| p_ H24 rfl rfl fun _ H25 => ln_ <| nx <| wp_ret <| tr <| ret_run H25.env0 (res_t Tryd.results5 (H25.get 4 rfl)) <| ?_
  clear H22 H23 HS H24
  exact ⟨rfl, HS24.below⟩
theorem quord_zero (A A2 : Option Addr) (c m c2 : Nat) (w : World) : Calls Tryd.prog 5 #[.slice A 0 c, .slice A2 m c2] w fun x w' => x = .returned (.bool true) ∧ Below w.heap.size w w' := by
  have HS := St.nil w noF
  refine enter_en Tryd.func5 rfl Tryd.ntmps5 (Nat.le_of_ble_eq_true rfl) fun a0 (HA0 : En 105 [(0, .slice A 0 c), (1, .slice A2 m c2)] a0) => ?_
  refine sq_ <| rl_ <| wl_ <| p_ HA0 rfl rfl fun _ H1 => ln_ <| nx <| sq_ <| sq_ <| rl_ <| wl_ <| p_ H1 rfl rfl fun _ H2 => wl_ <| i_ H2 rfl (v := .int .i64 0) (dd_len rfl (H2.ev 12 rfl) Tryd.underlying45) fun _ H3 => wl_ <| i_ H3 rfl (dd_cmp rfl (H3.ev 13 rfl) rfl (gt_f (by decide))) fun _ H4 => wl_ <| p_ H4 rfl rfl fun _ H5 => wl_ <| ig H5 (wg_ H5 rfl rfl rfl rfl) rfl (dd_mv rfl (H5.ev 1 rfl)) fun _ H6 => wl_ <| ig H6 (wg_ H6 rfl rfl rfl rfl) rfl (v := .int .i64 m) (dd_len rfl (H6.ev 16 rfl) Tryd.underlying58) fun _ H7 => wl_ <| ig H7 (wg_ H7 rfl rfl rfl rfl) rfl (dd_mv rfl (H7.ev 0 rfl)) fun _ H8 => ?_
  clear HA0 H1 H2 H3 H4 H5 H6
  refine wl_ <| ig H8 (wg_ H8 rfl rfl rfl rfl) rfl (v := .int .i64 0) (dd_len rfl (H8.ev 18 rfl) Tryd.underlying45) fun _ H9 => wl_ <| ig H9 (wg_ H9 rfl rfl rfl rfl) rfl (dd_cmp rfl (H9.ev 17 rfl) (H9.ev 19 rfl) (lt_f (by omega))) fun _ H10 => wl_ <| p_ H10 rfl rfl fun _ H11 => ln_ <| nx <| cf_ H11 rfl <| wp_skip <| nx <| sq_ <| rl_ <| wl_ <| i_ H11 rfl (v := .agg #[.slice none 0 0]) (dd_bld rfl (ps := []) (pr0) (Lz := [[.slice none 0 0]]) (by kernel_rfl) (lens_cons rfl (lens_nil)) (fit_nil) (cs := #[.slice none 0 0]) rfl) fun _ H12 => wl_ <| n_ H12 rfl (fun _ h => dd_box HS rfl (H12.ev 23 rfl) (cs := #[.slice none 0 0]) rfl h) fun g24 _ HS13 _ H13 => wl_ <| p_ H13 rfl rfl fun _ H14 => ln_ <| nx <| sq_ <| rl_ <| q_ H14 2 rfl fun _ H15 => ln_ <| nx <| sq_ <| sq_ <| rl_ <| wl_ <| p_ H15 rfl rfl fun _ H16 => ?_
  clear H7 H8 H9 H10 H11 HS H12 H13 H14
  refine ln_ <| nx <| wp_block <| wp_unr 1 <| unr_go <| sq_ <| sq_ <| rl_ <| q_ H16 2 rfl fun _ H17 => wl_ <| i_ H17 rfl (v := .int .i64 0) (dd_len rfl (H17.ev 26 rfl) Tryd.underlying45) fun _ H18 => wl_ <| i_ H18 rfl (dd_cmp rfl (H18.ev 25 rfl) (H18.ev 27 rfl) (lt_f (by decide))) fun _ H19 => ln_ <| ?_
  clear H15 H16 H17 H18
  have H20 := H19.sel [1, 0, 5, 6, 7, 8, 28] rfl
  refine nx <| cf_ H20 rfl <| wp_exit <| tx <| tx <| bx <| nx <| sq_ <| rl_ <| q_ H20 2 rfl fun _ H21 => ?_
  clear H19 H20
  refine wl_ <| d_ H21 rfl (R := fun v9 w9 => v9 = .slice none 0 0 ∧ St w noF [⟨g24, 27, #[.slice none 0 0]⟩] w9) (dc_ Tryd.func16 rfl (args1 (H21.ev 92 rfl)) (queclear_z0 _ g24 _ _ _ _ (ss HS13 [0]).frame (by omega)) (fun _ w9 ⟨he, hS⟩ => ⟨_, he, rfl, St.reframe (ss HS13 [0]) hS⟩)) ?_
  rintro _ W22 ⟨rfl, HS22⟩ a22 H22
  clear H21 HS13
  refine wl_ <| i_ H22 rfl (v := .slice none 0 0) (dd_appE (sz := 1) rfl (H22.ev 91 rfl) (H22.ev 93 rfl) (Nat.le_refl 0) Tryd.underlying45 (by kernel_rfl)) fun _ H23 => wl_ <| p_ H23 rfl rfl fun _ H24 => wl_ <| c_ H24 rfl HS22 (v := .bool true) (dc_ Tryd.func15 rfl (args2 (H24.ev 94 rfl) (H24.ev 95 rfl)) (keepints_any ([]) ([]) _ _ _ _ _ _ W22 (ints_none _) (ints_none _) (by omega)) (fun _ w9 h9 => ⟨_, h9.1, by rw [decide_eq_true rfl], h9.2⟩)) fun W25 HS25 _ H25 => wl_ <| p_ H25 rfl rfl fun _ H26 => wl_ <| ig H26 (wg_ H26 rfl rfl rfl rfl) rfl (dd_mv rfl (H26.ev 5 rfl)) fun _ H27 => wl_ <| cg H27 (wg_ H27 rfl rfl rfl rfl) rfl HS25 (dcs Tryd.func19 rfl (args1 (H27.ev 98 rfl)) (quelen_any g24 _ _ _ W25 (HS25.row 0 rfl)) (.int .i64 0)) fun W28 HS28 _ H28 => wl_ <| ig H28 (wg_ H28 rfl rfl rfl rfl) rfl (dd_cmp rfl (H28.ev 99 rfl) rfl (eq_t (by decide))) fun _ H29 => q_ H29 2 rfl fun _ H30 => ?_
  clear H22 H23 H24 HS22 H25 H26 H27 HS25 H28
  refine wl_ <| cg H30 (wg_ H30 rfl rfl rfl rfl) rfl HS28 (dcs Tryd.func8 rfl (args0 ) (qwakes_any W28) (.bool true)) fun _ HS31 _ H31 => q_ H31 2 rfl fun _ H32 => ln_ <| ?_
  clear H29 H30 HS28 H31
  have H33 := H32.sel [4] rfl
  refine nx <| wp_ret <| ret_run H33.env0 (res_t Tryd.results5 (H33.get 4 rfl)) <| ?_
  clear H32
  exact ⟨rfl, HS31.below⟩
set_option maxHeartbeats 1600000 in
theorem quord_walk (b o n c b2 o2 m c2 : Nat) (X : List Int) (Y : List Bool) (w : World) (h0 : 0 < n) (hn : n ≤ 100) (hm : n ≤ m) (hX : X.length = n) (hY : Y.length = m) (hbx : B64 X) (HI : ∀ W, Below w.heap.size w W → ∀ (k : Nat) (x : Int), X[k]? = some x → W.cell? ⟨b, o + k, none⟩ = some (.int .i64 x)) (HP : ∀ W, Below w.heap.size w W → ∀ (k : Nat) (x : Bool), Y[k]? = some x → W.cell? ⟨b2, o2 + k, none⟩ = some (.bool x)) : Calls Tryd.prog 5 #[.slice (some ⟨b, o, none⟩) n c, .slice (some ⟨b2, o2, none⟩) m c2] w fun x w' => x = .returned (.bool true) ∧ Below w.heap.size w w' := by
  have HS := St.nil w noF
  refine enter_en Tryd.func5 rfl Tryd.ntmps5 (Nat.le_of_ble_eq_true rfl) fun a0 (HA0 : En 105 [(0, .slice (some ⟨b, o, none⟩) n c), (1, .slice (some ⟨b2, o2, none⟩) m c2)] a0) => ?_
  refine sq_ <| rl_ <| wl_ <| p_ HA0 rfl rfl fun _ H1 => ln_ <| nx <| sq_ <| sq_ <| rl_ <| wl_ <| p_ H1 rfl rfl fun _ H2 => wl_ <| i_ H2 rfl (v := .int .i64 n) (dd_len rfl (H2.ev 12 rfl) Tryd.underlying45) fun _ H3 => wl_ <| i_ H3 rfl (dd_cmp rfl (H3.ev 13 rfl) rfl (gt_f (by omega))) fun _ H4 => wl_ <| p_ H4 rfl rfl fun _ H5 => wl_ <| ig H5 (wg_ H5 rfl rfl rfl rfl) rfl (dd_mv rfl (H5.ev 1 rfl)) fun _ H6 => wl_ <| ig H6 (wg_ H6 rfl rfl rfl rfl) rfl (v := .int .i64 m) (dd_len rfl (H6.ev 16 rfl) Tryd.underlying58) fun _ H7 => wl_ <| ig H7 (wg_ H7 rfl rfl rfl rfl) rfl (dd_mv rfl (H7.ev 0 rfl)) fun _ H8 => ?_
  clear HA0 H1 H2 H3 H4 H5 H6
  refine wl_ <| ig H8 (wg_ H8 rfl rfl rfl rfl) rfl (v := .int .i64 n) (dd_len rfl (H8.ev 18 rfl) Tryd.underlying45) fun a9 H9 => wl_ <| ig H9 (wg_ H9 rfl rfl rfl rfl) rfl (dd_cmp rfl (H9.ev 17 rfl) (H9.ev 19 rfl) (lt_f (by omega))) fun _ H10 => wl_ <| p_ H10 rfl rfl fun _ H11 => ln_ <| nx <| cf_ H11 rfl <| wp_skip <| nx <| sq_ <| rl_ <| wl_ <| i_ H11 rfl (v := .agg #[.slice none 0 0]) (dd_bld rfl (ps := []) (pr0) (Lz := [[.slice none 0 0]]) (by kernel_rfl) (lens_cons rfl (lens_nil)) (fit_nil) (cs := #[.slice none 0 0]) rfl) fun _ H12 => wl_ <| n_ H12 rfl (fun _ h => dd_box HS rfl (H12.ev 23 rfl) (cs := #[.slice none 0 0]) rfl h) fun g24 _ HS13 _ H13 => wl_ <| p_ H13 rfl rfl fun _ H14 => ln_ <| nx <| sq_ <| rl_ <| q_ H14 2 rfl fun _ H15 => ln_ <| nx <| sq_ <| sq_ <| rl_ <| wl_ <| p_ H15 rfl rfl fun _ H16 => ?_
  clear H7 H8 H9 H10 H11 HS H12 H13 H14
  refine ln_ <| nx <| wp_block <| ?_
  clear H15
  refine wp_loopG (ι := Nat) (fun i a9 w9 => ((i = 0) ∧ En 105 [(8, .int .i64 0), (7, .slice none 0 0), (6, .slice none 0 0), (5, .pointer (some ⟨g24, 0, none⟩)), (0, .slice (some ⟨b, o, none⟩) n c), (1, .slice (some ⟨b2, o2, none⟩) m c2)] a9 ∧ St w noF [⟨g24, 27, #[.slice none 0 0]⟩] w9) ∨ (∃ A9 : Option Addr, ∃ c9 : Nat, ∃ gw : Nat, ∃ cbw : Array Value, ∃ Wt : List Int, ∃ nW : Nat, ∃ gin : Nat, ∃ cin : Nat, ∃ cbin : Array Value, (Wt.length = nW) ∧ (1 ≤ nW ∧ nW ≤ 4 ∧ nW ≤ i ∧ i ≤ n) ∧ (B64 Wt) ∧ (∀ W, Row W gw 40 cbw → ItemsAt W A9 nW c9 (Wt.map idIt)) ∧ (OwnC cbin cin nW 1 (intsV Wt)) ∧ En 105 [(8, .int .i64 i), (7, .slice none 0 0), (6, .slice (some ⟨gin, 0, none⟩) nW cin), (5, .pointer (some ⟨g24, 0, none⟩)), (0, .slice (some ⟨b, o, none⟩) n c), (1, .slice (some ⟨b2, o2, none⟩) m c2)] a9 ∧ St w noF [⟨g24, 27, #[.slice A9 nW c9]⟩, ⟨gw, 40, cbw⟩, ⟨gin, 3, cbin⟩] w9) ∨ (∃ A9 : Option Addr, ∃ c9 : Nat, ∃ gw : Nat, ∃ cbw : Array Value, ∃ Wt : List Int, ∃ nW : Nat, ∃ gin : Nat, ∃ cin : Nat, ∃ cbin : Array Value, ∃ Out : List Int, ∃ nO : Nat, ∃ nI : Nat, ∃ gout : Nat, ∃ cout : Nat, ∃ cbout : Array Value, (Wt.length = nW) ∧ (Out.length = nO) ∧ (nI = nO + nW ∧ 1 ≤ nO ∧ nW ≤ 4 ∧ nI ≤ i ∧ i ≤ n) ∧ (B64 (Out ++ Wt)) ∧ (∀ W, Row W gw 40 cbw → ItemsAt W A9 nW c9 (Wt.map idIt)) ∧ (OwnC cbin cin nI 1 (intsV (Out ++ Wt))) ∧ (OwnC cbout cout nO 1 (intsV Out)) ∧ En 105 [(8, .int .i64 i), (7, .slice (some ⟨gout, 0, none⟩) nO cout), (6, .slice (some ⟨gin, 0, none⟩) nI cin), (5, .pointer (some ⟨g24, 0, none⟩)), (0, .slice (some ⟨b, o, none⟩) n c), (1, .slice (some ⟨b2, o2, none⟩) m c2)] a9 ∧ St w noF [⟨g24, 27, #[.slice A9 nW c9]⟩, ⟨gw, 40, cbw⟩, ⟨gin, 3, cbin⟩, ⟨gout, 3, cbout⟩] w9)) (fun i => n - i) (0) (.inl ⟨rfl, H16.sel [1, 0, 5, 6, 7, 8] rfl, ss HS13 [0]⟩) ?_
  clear H16 HS13
  rintro i aL17 wL17 (⟨hj, HL17, HSL17⟩ | ⟨A9, c9, gw, cbw, Wt, nW, gin, cin, cbin, hW, hj, HB, HX, Oin, HL17, HSL17⟩ | ⟨A9, c9, gw, cbw, Wt, nW, gin, cin, cbin, Out, nO, nI, gout, cout, cbout, hW, hO, hj, HB, HX, Oin, Oout, HL17, HSL17⟩)
  ·
   refine sq_ <| sq_ <| rl_ <| q_ HL17 2 rfl fun _ H18 => wl_ <| i_ H18 rfl (v := .int .i64 n) (dd_len rfl (H18.ev 26 rfl) Tryd.underlying45) fun _ H19 => wl_ <| i_ H19 rfl (dd_cmp rfl (H19.ev 25 rfl) (H19.ev 27 rfl) (lt_t (by omega))) fun _ H20 => ln_ <| nx <| ct_ H20 rfl <| wp_skip <| nx <| sq_ <| wp_block <| sq_ <| rl_ <| q_ H20 3 rfl fun _ H21 => ?_
   clear HL17 H18 H19 H20
   obtain ⟨x0, hx0⟩ : ∃ x, X[0]? = some x := ⟨_, List.getElem?_eq_getElem (by rw [hX]; omega)⟩
   refine wl_ <| i_ H21 rfl (xSo 1 (o + 0) rfl (H21.ev 32 rfl) (H21.ev 33 rfl)) fun _ H22 => wl_ <| i_ H22 rfl (dd_at rfl (H22.ev 34 rfl) (HI _ HSL17.below 0 _ hx0) Tryd.underlying3 rfl) fun _ H23 => wl_ <| i_ H23 rfl (v := .agg (catA [[.int .i64 x0], [.int .i64 1], [.string (⟨#[]⟩)], [.int .i64 0], bytesV (zer 32)])) (dd_bld rfl (ps := [(0, .int .i64 x0), (1, .int .i64 1)]) (pr1 (H23.ev 35 rfl) (pr1 rfl (pr0))) (Lz := [[.int .i64 0], [.int .i64 0], [.string (⟨#[]⟩)], [.int .i64 0], bytesV (zer 32)]) (by kernel_rfl) (lens_cons rfl (lens_cons rfl (lens_cons rfl (lens_cons rfl (lens_cons (len_bv (length_zer 32)) (lens_nil)))))) (fit_cons (i := 0) rfl rfl (fit_cons (i := 1) rfl rfl (fit_nil))) (cs := catA [[.int .i64 x0], [.int .i64 1], [.string (⟨#[]⟩)], [.int .i64 0], bytesV (zer 32)]) rfl) fun _ H24 => wl_ <| n_ H24 rfl (fun _ h => dd_lit1 HSL17 (z := .agg (catA [[.int .i64 0], [.int .i64 0], [.string (⟨#[]⟩)], [.int .i64 0], bytesV (zer 32)])) (sz := 36) rfl (H24.ev 36 rfl) Tryd.underlying25 (by kernel_rfl) (cat_size (lens_cons rfl (lens_cons rfl (lens_cons rfl (lens_cons rfl (lens_cons (len_bv (length_zer 32)) (lens_nil))))))) rfl rfl h) fun g37 _ HS25 _ H25 => ?_
   clear H21 H22 H23 HSL17 H24
   refine wl_ <| d_ H25 rfl (R := fun v9 w9 => ∃ gq27 : Nat, ∃ cq27 : Nat, ∃ cbq27 : Array Value, v9 = .int .i64 0 ∧ (OwnC cbq27 cq27 1 36 (itemsL (([x0]).map idIt))) ∧ St w noF [⟨g24, 27, #[.slice (some ⟨gq27, 0, none⟩) 1 cq27]⟩, ⟨gq27, 40, cbq27⟩, ⟨g37, 40, catA [[.int .i64 x0], [.int .i64 1], [.string (⟨#[]⟩)], [.int .i64 0], bytesV (zer 32)]⟩] w9) (dc_ Tryd.func11 rfl (args2 (H25.ev 31 rfl) (H25.ev 37 rfl)) (queadd_ids _ g24 _ _ 0 _ _ 1 ([]) x0 _ (ss HS25 [0]).frame (fun W9 k9 => (items_nil _ _ _)) (fun W9 k9 => (items_row (X := [idIt x0]) ((HS25.row 1 rfl).chg k9 (nin_row (S1 := selB [⟨g24, 27, #[.slice none 0 0]⟩, ⟨g37, 40, catA [[.int .i64 x0], [.int .i64 1], [.string (⟨#[]⟩)], [.int .i64 0], bytesV (zer 32)]⟩] [0]) (ss HS25 [0, 1]) 0 rfl)) (idIt_lit _) rfl (idIt_wf1 _))) (by omega) rfl) (fun _ w9 ⟨g9, c9, cb9, he, hO, hS⟩ => ⟨_, he, g9, c9, cb9, rfl, hO, St.reframe (ss HS25 [0, 1]) hS⟩)) ?_
   rintro _ W26 ⟨gq27, cq27, cbq27, rfl, Oq27, HS26⟩ a26 H26
   clear H25 HS25
   refine wl_ <| p_ H26 rfl rfl fun _ H28 => ln_ <| nx <| sq_ <| sq_ <| rl_ <| wl_ <| p_ H28 rfl rfl fun _ H29 => wl_ <| i_ H29 rfl (dd_cmp rfl (H29.ev 39 rfl) rfl (eq_t (by decide))) fun _ H30 => wl_ <| p_ H30 rfl rfl fun _ H31 => wl_ <| i_ H31 rfl (v := .int .i64 0) (dd_len rfl (H31.ev 41 rfl) Tryd.underlying45) fun _ H32 => wl_ <| p_ H32 rfl rfl fun _ H33 => wl_ <| i_ H33 rfl (v := .int .i64 0) (dd_len rfl (H33.ev 43 rfl) Tryd.underlying45) fun _ H34 => wl_ <| i_ H34 rfl (v := .int .i64 0) (dd_ari rfl (H34.ev 42 rfl) (H34.ev 44 rfl) rfl (by decide)) fun _ H35 => ?_
   clear H26 H28 H29 H30 H31 H32 H33
   refine wl_ <| i_ H35 rfl (dd_cmp rfl (H35.ev 45 rfl) rfl (lt_t (by decide))) fun _ H36 => wl_ <| i_ H36 rfl (v := .bool false) (dd_neb rfl (H36.ev 40 rfl) (H36.ev 46 rfl) Tryd.underlying4 rfl) fun _ H37 => ln_ <| ?_
   clear H34 H35 H36
   have H38 := H37.sel [1, 0, 5, 6, 7, 8, 9, 47] rfl
   refine nx <| cf_ H38 rfl <| wp_skip <| nx <| sq_ <| sq_ <| rl_ <| wl_ <| p_ H38 rfl rfl fun _ H39 => wl_ <| i_ H39 rfl (dd_cmp rfl (H39.ev 48 rfl) rfl (eq_t (by decide))) fun _ H40 => ln_ <| nx <| ct_ H40 rfl <| rl_ <| q_ H40 3 rfl fun _ H41 => wl_ <| i_ H41 rfl (xSo 1 (o + 0) rfl (H41.ev 51 rfl) (H41.ev 52 rfl)) fun _ H42 => wl_ <| i_ H42 rfl (dd_at rfl (H42.ev 53 rfl) (HI _ HS26.below 0 _ hx0) Tryd.underlying3 rfl) fun _ H43 => wl_ <| n_ H43 rfl (fun _ h => dd_lits HS26 #[.int .i64 x0] rfl (ps := [(0, .int .i64 x0)]) (pr1 (H43.ev 54 rfl) (pr0)) (z := .int .i64 0) (sz := 1) Tryd.underlying45 (by kernel_rfl) rfl rfl (by kernel_rfl) h) fun g55 _ HS44 _ H44 => wl_ <| a_ H44 rfl (S := fun g56_46 cb56_46 => [⟨g24, 27, #[.slice (some ⟨gq27, 0, none⟩) 1 cq27]⟩, ⟨gq27, 40, cbq27⟩, ⟨g37, 40, catA [[.int .i64 x0], [.int .i64 1], [.string (⟨#[]⟩)], [.int .i64 0], bytesV (zer 32)]⟩, ⟨g55, 3, #[.int .i64 x0]⟩, ⟨g56_46, 3, cb56_46⟩]) (fun g56_46 c56_46 => .slice (some ⟨g56_46, 0, none⟩) 1 c56_46) (T := fun _ c56_46 cb56_46 => OwnC cb56_46 c56_46 1 1 ([.int .i64 x0])) (fun _ h => dd_app0 HS44 rfl (H44.ev 50 rfl) (z := .int .i64 0) (bytes := 8) (sz := 1) Tryd.underlying45 (by kernel_rfl) rfl (by decide) ([.int .i64 x0]) (H44.ev 55 rfl) rfl (row_news (HS44.row 3 rfl) 0 (slab_whole _)) (ao_cons rfl ao_nil) (by unfold maxLen; omega) (by omega) h) fun g56_46 c56_46 cb56_46 W45 O56_46 HS45 _ H45 => wl_ <| p_ H45 rfl rfl fun _ H47 => ?_
   clear H37 H38 H39 H40 H41 H42 HS26 H43 HS44 H44
   refine ln_ <| nx <| sq_ <| sq_ <| rl_ <| q_ H47 2 rfl fun _ H48 => ?_
   clear H45 H47
   obtain ⟨y0, hy0⟩ : ∃ x, Y[0]? = some x := ⟨_, List.getElem?_eq_getElem (by rw [hY]; omega)⟩
   refine wl_ <| i_ H48 rfl (xSo 1 (o2 + 0) rfl (H48.ev 57 rfl) (H48.ev 58 rfl)) fun _ H49 => ?_
   clear H48
   cases hb51 : y0
   ·
    refine wl_ <| i_ H49 rfl (v := .bool false) (dd_at rfl (H49.ev 59 rfl) ((HP _ HS45.below 0 _ hy0).trans (by rw [hb51])) Tryd.underlying4 rfl) fun _ H52 => ln_ <| nx <| cf_ H52 rfl <| wp_skip <| nx <| sq_ <| rl_ <| wl_ <| p_ H52 rfl rfl fun _ H53 => wl_ <| c_ H53 rfl HS45 (dcs Tryd.func19 rfl (args1 (H53.ev 78 rfl)) (quelen_any g24 _ _ _ W45 (HS45.row 0 rfl)) (.int .i64 1)) fun W54 HS54 _ H54 => wl_ <| p_ H54 rfl rfl fun _ H55 => wl_ <| i_ H55 rfl (v := .int .i64 1) (dd_len rfl (H55.ev 80 rfl) Tryd.underlying45) fun _ H56 => wl_ <| p_ H56 rfl rfl fun _ H57 => wl_ <| i_ H57 rfl (v := .int .i64 0) (dd_len rfl (H57.ev 82 rfl) Tryd.underlying45) fun _ H58 => wl_ <| i_ H58 rfl (v := .int .i64 1) (dd_ari rfl (H58.ev 81 rfl) (H58.ev 83 rfl) rfl (by decide)) fun _ H59 => ?_
    clear H49 H52 H53 HS45 H54 H55 H56 H57
    refine wl_ <| i_ H59 rfl (dd_cmp rfl (H59.ev 79 rfl) (H59.ev 84 rfl) (ne_f (by decide))) fun _ H60 => wl_ <| p_ H60 rfl rfl fun _ H61 => wl_ <| ig H61 (wg_ H61 rfl rfl rfl rfl) rfl (dd_mv rfl (H61.ev 5 rfl)) fun _ H62 => wl_ <| cg H62 (wg_ H62 rfl rfl rfl rfl) rfl HS54 (dcs Tryd.func19 rfl (args1 (H62.ev 87 rfl)) (quelen_any g24 _ _ _ W54 (HS54.row 0 rfl)) (.int .i64 1)) fun _ HS63 _ H63 => wl_ <| ig H63 (wg_ H63 rfl rfl rfl rfl) rfl (dd_cmp rfl (H63.ev 88 rfl) rfl (gt_f (by decide))) fun _ H64 => wl_ <| p_ H64 rfl rfl fun _ H65 => ln_ <| ?_
    clear H58 H59 H60 H61 H62 HS54 H63 H64
    have H66 := H65.sel [1, 0, 5, 7, 8, 6, 90] rfl
    refine nx <| cf_ H66 rfl <| wp_skip <| bn <| nx <| rl_ <| wl_ <| p_ H66 rfl rfl fun _ H67 => wl_ <| i_ H67 rfl (v := .int .i64 1) (dd_ari rfl (H67.ev 29 rfl) rfl rfl (by decide)) fun _ H68 => wl_ <| p_ H68 rfl rfl fun _ H69 => ln_ <| ?_
    clear H65 H66 H67 H68
    have hE70 : [x0] = [x0] := rfl
    refine nx ⟨1, .inr (.inl ⟨(some ⟨gq27, 0, none⟩), cq27, gq27, cbq27, ([x0]), 1, g56_46, c56_46, cb56_46, rfl, (by omega), ((B64.one (hbx _ (List.mem_of_getElem? hx0))).eq hE70), (fun W9 r9 => (ids_own r9 Oq27 rfl)), (intsT (L := [x0]) O56_46 (by omega) hE70), H69.sel [1, 0, 5, 6, 7, 8] rfl, ss HS63 [0, 1, 4]⟩), (by omega)⟩
   refine wl_ <| i_ H49 rfl (v := .bool true) (dd_at rfl (H49.ev 59 rfl) ((HP _ HS45.below 0 _ hy0).trans (by rw [hb51])) Tryd.underlying4 rfl) fun _ H71 => ln_ <| nx <| ct_ H71 rfl <| sq_ <| rl_ <| wl_ <| p_ H71 rfl rfl fun _ H72 => ?_
   clear H49 H71
   refine wl_ <| d_ H72 rfl (R := fun v w9 => ∃ y74h, v = .tuple #[.agg (catA [[.int .i64 y74h], [.int .i64 1], [.string ⟨#[]⟩], [.int .i64 0], bytesV (zer 32)]), .bool true] ∧ ([x0] = y74h :: ([x0]).tail) ∧ Below W45.heap.size W45 w9) (dc_ Tryd.func18 rfl (args1 (H72.ev 62 rfl)) (quehead_ids g24 _ _ _ ([x0]) W45 (HS45.row 0 rfl) (ids_own (HS45.row 1 rfl) Oq27 rfl) (by omega)) (fun _ w9 ⟨y9, hy9, he, hb⟩ => ⟨_, he, y9, rfl, hy9, hb⟩)) ?_
   rintro _ W73 ⟨y74h, rfl, hy74, hb73⟩ a73 H73
   have HS73 := HS45.same hb73
   clear H72
   clear HS45 hb73
   refine wl_ <| p_ H73 rfl rfl fun _ H75 => wl_ <| i_ H75 rfl (v := .agg (catA [[.int .i64 y74h], [.int .i64 1], [.string ⟨#[]⟩], [.int .i64 0], bytesV (zer 32)])) (dd_ext rfl (H75.ev 61 rfl) rfl) fun _ H76 => wl_ <| i_ H76 rfl (v := .bool true) (dd_ext rfl (H76.ev 61 rfl) rfl) fun _ H77 => wl_ <| n_ H77 rfl (fun _ h => dd_new HS73 (catA [[.int .i64 0], [.int .i64 0], [.string (⟨#[]⟩)], [.int .i64 0], bytesV (zer 32)]) rfl (z := .agg (catA [[.int .i64 0], [.int .i64 0], [.string (⟨#[]⟩)], [.int .i64 0], bytesV (zer 32)])) (by kernel_rfl) rfl h) fun g10 _ HS78 _ H78 => wl_ <| t_ rfl (fun _ h => dd_setrow HS78 5 rfl rfl (H78.ev 10 rfl) (H78.ev 64 rfl) (by kernel_rfl) ((cat_size (lens_cons rfl (lens_cons rfl (lens_cons rfl (lens_cons rfl (lens_cons (len_bv (length_zer 32)) (lens_nil))))))) : (catA [[.int .i64 y74h], [.int .i64 1], [.string ⟨#[]⟩], [.int .i64 0], bytesV (zer 32)]).size = 36) ((cat_size (lens_cons rfl (lens_cons rfl (lens_cons rfl (lens_cons rfl (lens_cons (len_bv (length_zer 32)) (lens_nil))))))) : (catA [[.int .i64 0], [.int .i64 0], [.string (⟨#[]⟩)], [.int .i64 0], bytesV (zer 32)]).size = 36) (cat_one (ones_cons (ones_c rfl) (ones_cons (ones_c rfl) (ones_cons (ones_c rfl) (ones_cons (ones_c rfl) (ones_cons (one_bytesV _) (ones_nil))))))) h) fun _ HS79 => wl_ <| p_ H78 rfl rfl fun _ H80 => ln_ <| ?_
   clear H73 H75 H76 HS73 H77 HS78 H78
   have H81 := H80.sel [1, 0, 5, 7, 8, 6, 10, 11] rfl
   refine nx <| sq_ <| sq_ <| rl_ <| wl_ <| p_ H81 rfl rfl fun _ H82 => wl_ <| i_ H82 rfl (v := .bool false) (dd_nt rfl (H82.ev 66 rfl) rfl) fun _ H83 => wl_ <| p_ H83 rfl rfl fun _ H84 => wl_ <| ig H84 (wg_ H84 rfl rfl rfl rfl) rfl (dd_mv rfl (H84.ev 5 rfl)) fun _ H85 => ?_
   clear H80 H81 H82 H83 H84
   refine wl_ <| dr_ H85 (wg_ H85 rfl rfl rfl rfl) rfl (R := fun v9 w9 => v9 = .bool true ∧ St w noF [⟨g24, 27, #[.slice (tl1 (some ⟨gq27, 0, none⟩) cq27) 0 (cq27 - 1)]⟩, ⟨gq27, 40, cbq27⟩, ⟨g37, 40, catA [[.int .i64 x0], [.int .i64 1], [.string (⟨#[]⟩)], [.int .i64 0], bytesV (zer 32)]⟩, ⟨g55, 3, #[.int .i64 x0]⟩, ⟨g56_46, 3, cb56_46⟩, ⟨g10, 40, catA [[.int .i64 y74h], [.int .i64 1], [.string ⟨#[]⟩], [.int .i64 0], bytesV (zer 32)]⟩] w9) (dc_ Tryd.func13 rfl (args1 (H85.ev 69 rfl)) (quepop_S _ g24 _ 1 cq27 0 _ (ss HS79 [0]).frame (by omega)) (fun _ w9 ⟨he, hS⟩ => ⟨_, he, rfl, St.reframe (ss HS79 [0, 1, 2, 3, 4, 5]) hS⟩)) ?_
   rintro _ W86 ⟨rfl, HS86⟩ a86 H86
   clear H85 HS79
   refine wl_ <| ig H86 (wg_ H86 rfl rfl rfl rfl) rfl (v := .bool false) (dd_nt rfl (H86.ev 70 rfl) rfl) fun _ H87 => wl_ <| p_ H87 rfl rfl fun _ H88 => ln_ <| nx <| cf_ H88 rfl <| wp_skip <| nx <| rl_ <| wl_ <| p_ H88 rfl rfl fun _ H89 => wl_ <| i_ H89 rfl (xf 0 0 rfl (H89.ev 10 rfl)) fun _ H90 => wl_ <| i_ H90 rfl (dd_get HS86 5 0 rfl rfl (H90.ev 74 rfl) (cat_get (lens_cons rfl (lens_cons rfl (lens_cons rfl (lens_cons rfl (lens_cons (len_bv (length_zer 32)) (lens_nil)))))) 0 rfl rfl) Tryd.underlying3 rfl) fun _ H91 => wl_ <| n_ H91 rfl (fun _ h => dd_lits HS86 #[.int .i64 y74h] rfl (ps := [(0, .int .i64 y74h)]) (pr1 (H91.ev 75 rfl) (pr0)) (z := .int .i64 0) (sz := 1) Tryd.underlying45 (by kernel_rfl) rfl rfl (by kernel_rfl) h) fun g76 _ HS92 _ H92 => wl_ <| a_ H92 rfl (S := fun g77_94 cb77_94 => [⟨g24, 27, #[.slice (tl1 (some ⟨gq27, 0, none⟩) cq27) 0 (cq27 - 1)]⟩, ⟨gq27, 40, cbq27⟩, ⟨g37, 40, catA [[.int .i64 x0], [.int .i64 1], [.string (⟨#[]⟩)], [.int .i64 0], bytesV (zer 32)]⟩, ⟨g55, 3, #[.int .i64 x0]⟩, ⟨g56_46, 3, cb56_46⟩, ⟨g10, 40, catA [[.int .i64 y74h], [.int .i64 1], [.string ⟨#[]⟩], [.int .i64 0], bytesV (zer 32)]⟩, ⟨g76, 3, #[.int .i64 y74h]⟩, ⟨g77_94, 3, cb77_94⟩]) (fun g77_94 c77_94 => .slice (some ⟨g77_94, 0, none⟩) 1 c77_94) (T := fun _ c77_94 cb77_94 => OwnC cb77_94 c77_94 1 1 ([.int .i64 y74h])) (fun _ h => dd_app0 HS92 rfl (H92.ev 73 rfl) (z := .int .i64 0) (bytes := 8) (sz := 1) Tryd.underlying45 (by kernel_rfl) rfl (by decide) ([.int .i64 y74h]) (H92.ev 76 rfl) rfl (row_news (HS92.row 6 rfl) 0 (slab_whole _)) (ao_cons rfl ao_nil) (by unfold maxLen; omega) (by omega) h) fun g77_94 c77_94 cb77_94 W93 O77_94 HS93 _ H93 => wl_ <| p_ H93 rfl rfl fun _ H95 => ?_
   clear H86 H87 H88 H89 H90 HS86 H91 HS92 H92
   refine ln_ <| nx <| sq_ <| rl_ <| wl_ <| p_ H95 rfl rfl fun _ H96 => wl_ <| c_ H96 rfl HS93 (dcs Tryd.func19 rfl (args1 (H96.ev 78 rfl)) (quelen_any g24 _ _ _ W93 (HS93.row 0 rfl)) (.int .i64 0)) fun W97 HS97 _ H97 => wl_ <| p_ H97 rfl rfl fun _ H98 => wl_ <| i_ H98 rfl (v := .int .i64 1) (dd_len rfl (H98.ev 80 rfl) Tryd.underlying45) fun _ H99 => wl_ <| p_ H99 rfl rfl fun _ H100 => wl_ <| i_ H100 rfl (v := .int .i64 1) (dd_len rfl (H100.ev 82 rfl) Tryd.underlying45) fun _ H101 => wl_ <| i_ H101 rfl (v := .int .i64 0) (dd_ari rfl (H101.ev 81 rfl) (H101.ev 83 rfl) rfl (by decide)) fun _ H102 => wl_ <| i_ H102 rfl (dd_cmp rfl (H102.ev 79 rfl) (H102.ev 84 rfl) (ne_f (by decide))) fun _ H103 => ?_
   clear H93 H95 H96 HS93 H97 H98 H99 H100 H101
   refine wl_ <| p_ H103 rfl rfl fun _ H104 => wl_ <| ig H104 (wg_ H104 rfl rfl rfl rfl) rfl (dd_mv rfl (H104.ev 5 rfl)) fun _ H105 => wl_ <| cg H105 (wg_ H105 rfl rfl rfl rfl) rfl HS97 (dcs Tryd.func19 rfl (args1 (H105.ev 87 rfl)) (quelen_any g24 _ _ _ W97 (HS97.row 0 rfl)) (.int .i64 0)) fun _ HS106 _ H106 => wl_ <| ig H106 (wg_ H106 rfl rfl rfl rfl) rfl (dd_cmp rfl (H106.ev 88 rfl) rfl (gt_f (by decide))) fun _ H107 => wl_ <| p_ H107 rfl rfl fun _ H108 => ln_ <| ?_
   clear H102 H103 H104 H105 HS97 H106 H107
   have H109 := H108.sel [1, 0, 5, 8, 6, 7, 90] rfl
   refine nx <| cf_ H109 rfl <| wp_skip <| bn <| nx <| rl_ <| wl_ <| p_ H109 rfl rfl fun _ H110 => wl_ <| i_ H110 rfl (v := .int .i64 1) (dd_ari rfl (H110.ev 29 rfl) rfl rfl (by decide)) fun _ H111 => wl_ <| p_ H111 rfl rfl fun _ H112 => ln_ <| ?_
   clear H108 H109 H110 H111
   have hE113 : [x0] = ([y74h]) ++ (([x0]).tail) := hy74
   refine nx ⟨1, .inr (.inr (⟨(tl1 (some ⟨gq27, 0, none⟩) cq27), (cq27 - 1), gq27, cbq27, (([x0]).tail), 0, g56_46, c56_46, cb56_46, ([y74h]), 1, 1, g77_94, c77_94, cb77_94, (len_tl (n := 1) rfl (by omega)), rfl, (by omega), ((B64.one (hbx _ (List.mem_of_getElem? hx0))).eq hE113), (fun W9 r9 => (ids_tl (ids_own r9 Oq27 rfl) (by omega))), (intsT (L := [x0]) O56_46 (by omega) hE113), O77_94, H112.sel [1, 0, 5, 6, 7, 8] rfl, ss HS106 [0, 1, 4, 7]⟩)), (by omega)⟩
  ·
   refine sq_ <| sq_ <| rl_ <| q_ HL17 2 rfl fun _ H114 => wl_ <| i_ H114 rfl (v := .int .i64 n) (dd_len rfl (H114.ev 26 rfl) Tryd.underlying45) fun _ H115 => ?_
   clear HL17 H114
   by_cases hc117 : (i : Int) < n
   ·
    refine wl_ <| i_ H115 rfl (dd_cmp rfl (H115.ev 25 rfl) (H115.ev 27 rfl) (lt_t hc117)) fun _ H118 => ln_ <| nx <| ct_ H118 rfl <| wp_skip <| nx <| sq_ <| wp_block <| sq_ <| rl_ <| q_ H118 3 rfl fun _ H119 => ?_
    clear H115 H118
    obtain ⟨xi, hxi⟩ : ∃ x, X[i]? = some x := ⟨_, List.getElem?_eq_getElem (by rw [hX]; omega)⟩
    refine wl_ <| i_ H119 rfl (xSo 1 (o + i) rfl (H119.ev 32 rfl) (H119.ev 33 rfl)) fun _ H120 => wl_ <| i_ H120 rfl (dd_at rfl (H120.ev 34 rfl) (HI _ HSL17.below i _ hxi) Tryd.underlying3 rfl) fun _ H121 => wl_ <| i_ H121 rfl (v := .agg (catA [[.int .i64 xi], [.int .i64 1], [.string (⟨#[]⟩)], [.int .i64 0], bytesV (zer 32)])) (dd_bld rfl (ps := [(0, .int .i64 xi), (1, .int .i64 1)]) (pr1 (H121.ev 35 rfl) (pr1 rfl (pr0))) (Lz := [[.int .i64 0], [.int .i64 0], [.string (⟨#[]⟩)], [.int .i64 0], bytesV (zer 32)]) (by kernel_rfl) (lens_cons rfl (lens_cons rfl (lens_cons rfl (lens_cons rfl (lens_cons (len_bv (length_zer 32)) (lens_nil)))))) (fit_cons (i := 0) rfl rfl (fit_cons (i := 1) rfl rfl (fit_nil))) (cs := catA [[.int .i64 xi], [.int .i64 1], [.string (⟨#[]⟩)], [.int .i64 0], bytesV (zer 32)]) rfl) fun _ H122 => wl_ <| n_ H122 rfl (fun _ h => dd_lit1 HSL17 (z := .agg (catA [[.int .i64 0], [.int .i64 0], [.string (⟨#[]⟩)], [.int .i64 0], bytesV (zer 32)])) (sz := 36) rfl (H122.ev 36 rfl) Tryd.underlying25 (by kernel_rfl) (cat_size (lens_cons rfl (lens_cons rfl (lens_cons rfl (lens_cons rfl (lens_cons (len_bv (length_zer 32)) (lens_nil))))))) rfl rfl h) fun g37 W123 HS123 _ H123 => ?_
    clear H119 H120 H121 HSL17 H122
    by_cases hc125 : (nW : Int) < 4
    ·
     refine wl_ <| d_ H123 rfl (R := fun v9 w9 => ∃ gq127 : Nat, ∃ cq127 : Nat, ∃ cbq127 : Array Value, v9 = .int .i64 0 ∧ (OwnC cbq127 cq127 (nW + 1) 36 (itemsL ((Wt ++ [xi]).map idIt))) ∧ St w noF [⟨g24, 27, #[.slice (some ⟨gq127, 0, none⟩) (nW + 1) cq127]⟩, ⟨gq127, 40, cbq127⟩, ⟨gw, 40, cbw⟩, ⟨gin, 3, cbin⟩, ⟨g37, 40, catA [[.int .i64 xi], [.int .i64 1], [.string (⟨#[]⟩)], [.int .i64 0], bytesV (zer 32)]⟩] w9) (dc_ Tryd.func11 rfl (args2 (H123.ev 31 rfl) (H123.ev 37 rfl)) (queadd_ids _ g24 _ _ nW _ _ (nW + 1) Wt xi _ (ss HS123 [0]).frame (fun W9 k9 => (HX _ ((HS123.row 1 rfl).chg k9 (nin_row (S1 := selB [⟨g24, 27, #[.slice A9 nW c9]⟩, ⟨gw, 40, cbw⟩, ⟨gin, 3, cbin⟩, ⟨g37, 40, catA [[.int .i64 xi], [.int .i64 1], [.string (⟨#[]⟩)], [.int .i64 0], bytesV (zer 32)]⟩] [0]) (ss HS123 [0, 1, 2, 3]) 0 rfl)))) (fun W9 k9 => (items_row (X := [idIt xi]) ((HS123.row 3 rfl).chg k9 (nin_row (S1 := selB [⟨g24, 27, #[.slice A9 nW c9]⟩, ⟨gw, 40, cbw⟩, ⟨gin, 3, cbin⟩, ⟨g37, 40, catA [[.int .i64 xi], [.int .i64 1], [.string (⟨#[]⟩)], [.int .i64 0], bytesV (zer 32)]⟩] [0]) (ss HS123 [0, 1, 2, 3]) 2 rfl)) (idIt_lit _) rfl (idIt_wf1 _))) (by omega) rfl) (fun _ w9 ⟨g9, c9, cb9, he, hO, hS⟩ => ⟨_, he, g9, c9, cb9, rfl, hO, St.reframe (ss HS123 [0, 1, 2, 3]) hS⟩)) ?_
     rintro _ W126 ⟨gq127, cq127, cbq127, rfl, Oq127, HS126⟩ a126 H126
     clear H123 HS123
     refine wl_ <| p_ H126 rfl rfl fun _ H128 => ln_ <| nx <| sq_ <| sq_ <| rl_ <| wl_ <| p_ H128 rfl rfl fun _ H129 => wl_ <| i_ H129 rfl (dd_cmp rfl (H129.ev 39 rfl) rfl (eq_t (by decide))) fun _ H130 => wl_ <| p_ H130 rfl rfl fun _ H131 => wl_ <| i_ H131 rfl (v := .int .i64 nW) (dd_len rfl (H131.ev 41 rfl) Tryd.underlying45) fun _ H132 => wl_ <| p_ H132 rfl rfl fun _ H133 => wl_ <| i_ H133 rfl (v := .int .i64 0) (dd_len rfl (H133.ev 43 rfl) Tryd.underlying45) fun _ H134 => wl_ <| i_ H134 rfl (v := .int .i64 nW) (dd_ari rfl (H134.ev 42 rfl) (H134.ev 44 rfl) rfl (by rw [i64_id _ (by omega) (by omega)]; omega)) fun _ H135 => ?_
     clear H126 H128 H129 H130 H131 H132 H133
     refine wl_ <| i_ H135 rfl (dd_cmp rfl (H135.ev 45 rfl) rfl (lt_t hc125)) fun _ H136 => wl_ <| i_ H136 rfl (v := .bool false) (dd_neb rfl (H136.ev 40 rfl) (H136.ev 46 rfl) Tryd.underlying4 rfl) fun _ H137 => ln_ <| ?_
     clear H134 H135 H136
     have H138 := H137.sel [1, 0, 5, 6, 7, 8, 9, 47] rfl
     refine nx <| cf_ H138 rfl <| wp_skip <| nx <| sq_ <| sq_ <| rl_ <| wl_ <| p_ H138 rfl rfl fun _ H139 => wl_ <| i_ H139 rfl (dd_cmp rfl (H139.ev 48 rfl) rfl (eq_t (by decide))) fun _ H140 => ln_ <| nx <| ct_ H140 rfl <| rl_ <| q_ H140 3 rfl fun _ H141 => wl_ <| i_ H141 rfl (xSo 1 (o + i) rfl (H141.ev 51 rfl) (H141.ev 52 rfl)) fun _ H142 => wl_ <| i_ H142 rfl (dd_at rfl (H142.ev 53 rfl) (HI _ HS126.below i _ hxi) Tryd.underlying3 rfl) fun _ H143 => wl_ <| n_ H143 rfl (fun _ h => dd_lits HS126 #[.int .i64 xi] rfl (ps := [(0, .int .i64 xi)]) (pr1 (H143.ev 54 rfl) (pr0)) (z := .int .i64 0) (sz := 1) Tryd.underlying45 (by kernel_rfl) rfl rfl (by kernel_rfl) h) fun g55 _ HS144 _ H144 => wl_ <| a_ H144 rfl (S := fun g56_146 cb56_146 => [⟨g24, 27, #[.slice (some ⟨gq127, 0, none⟩) (nW + 1) cq127]⟩, ⟨gq127, 40, cbq127⟩, ⟨gw, 40, cbw⟩, ⟨g37, 40, catA [[.int .i64 xi], [.int .i64 1], [.string (⟨#[]⟩)], [.int .i64 0], bytesV (zer 32)]⟩, ⟨g55, 3, #[.int .i64 xi]⟩, ⟨g56_146, 3, cb56_146⟩]) (fun g56_146 c56_146 => .slice (some ⟨g56_146, 0, none⟩) (nW + 1) c56_146) (T := fun _ c56_146 cb56_146 => OwnC cb56_146 c56_146 (nW + 1) 1 ((intsV Wt) ++ [.int .i64 xi])) (fun _ h => dd_app HS144 3 rfl Oin rfl (H144.ev 50 rfl) (z := .int .i64 0) (bytes := 8) Tryd.underlying45 (by kernel_rfl) rfl (by decide) ([.int .i64 xi]) (H144.ev 55 rfl) rfl (row_news (HS144.row 5 rfl) 0 (slab_whole _)) (ao_cons rfl ao_nil) (by unfold maxLen; omega) (by omega) h) fun g56_146 c56_146 cb56_146 W145 O56_146 HS145 _ H145 => wl_ <| p_ H145 rfl rfl fun _ H147 => ?_
     clear H137 H138 H139 H140 H141 H142 HS126 H143 HS144 H144
     refine ln_ <| nx <| sq_ <| sq_ <| rl_ <| q_ H147 2 rfl fun _ H148 => ?_
     clear H145 H147
     obtain ⟨yi, hyi⟩ : ∃ x, Y[i]? = some x := ⟨_, List.getElem?_eq_getElem (by rw [hY]; omega)⟩
     refine wl_ <| i_ H148 rfl (xSo 1 (o2 + i) rfl (H148.ev 57 rfl) (H148.ev 58 rfl)) fun _ H149 => ?_
     clear H148
     cases hb151 : yi
     ·
      refine wl_ <| i_ H149 rfl (v := .bool false) (dd_at rfl (H149.ev 59 rfl) ((HP _ HS145.below i _ hyi).trans (by rw [hb151])) Tryd.underlying4 rfl) fun _ H152 => ln_ <| nx <| cf_ H152 rfl <| wp_skip <| nx <| sq_ <| rl_ <| wl_ <| p_ H152 rfl rfl fun _ H153 => wl_ <| c_ H153 rfl HS145 (dcs Tryd.func19 rfl (args1 (H153.ev 78 rfl)) (quelen_any g24 _ _ _ W145 (HS145.row 0 rfl)) (.int .i64 (nW + 1))) fun W154 HS154 _ H154 => wl_ <| p_ H154 rfl rfl fun _ H155 => wl_ <| i_ H155 rfl (v := .int .i64 (nW + 1)) (dd_len rfl (H155.ev 80 rfl) Tryd.underlying45) fun _ H156 => wl_ <| p_ H156 rfl rfl fun _ H157 => wl_ <| i_ H157 rfl (v := .int .i64 0) (dd_len rfl (H157.ev 82 rfl) Tryd.underlying45) fun _ H158 => wl_ <| i_ H158 rfl (v := .int .i64 (nW + 1)) (dd_ari rfl (H158.ev 81 rfl) (H158.ev 83 rfl) rfl (by rw [i64_id _ (by omega) (by omega)]; omega)) fun _ H159 => ?_
      clear H149 H152 H153 HS145 H154 H155 H156 H157
      refine wl_ <| i_ H159 rfl (dd_cmp rfl (H159.ev 79 rfl) (H159.ev 84 rfl) (ne_f rfl)) fun _ H160 => wl_ <| p_ H160 rfl rfl fun _ H161 => wl_ <| ig H161 (wg_ H161 rfl rfl rfl rfl) rfl (dd_mv rfl (H161.ev 5 rfl)) fun _ H162 => wl_ <| cg H162 (wg_ H162 rfl rfl rfl rfl) rfl HS154 (dcs Tryd.func19 rfl (args1 (H162.ev 87 rfl)) (quelen_any g24 _ _ _ W154 (HS154.row 0 rfl)) (.int .i64 (nW + 1))) fun _ HS163 _ H163 => wl_ <| ig H163 (wg_ H163 rfl rfl rfl rfl) rfl (dd_cmp rfl (H163.ev 88 rfl) rfl (gt_f (by omega))) fun _ H164 => wl_ <| p_ H164 rfl rfl fun _ H165 => ln_ <| ?_
      clear H158 H159 H160 H161 H162 HS154 H163 H164
      have H166 := H165.sel [1, 0, 5, 7, 8, 6, 90] rfl
      refine nx <| cf_ H166 rfl <| wp_skip <| bn <| nx <| rl_ <| wl_ <| p_ H166 rfl rfl fun _ H167 => wl_ <| i_ H167 rfl (v := .int .i64 (i + 1)) (dd_ari rfl (H167.ev 29 rfl) rfl rfl (i64_of (by first | omega | (have := bd_lo; omega)) (by omega))) fun _ H168 => wl_ <| p_ H168 rfl rfl fun _ H169 => ln_ <| ?_
      clear H165 H166 H167 H168
      have hE170 : Wt ++ [xi] = Wt ++ [xi] := rfl
      refine nx ⟨i + 1, .inr (.inl ⟨(some ⟨gq127, 0, none⟩), cq127, gq127, cbq127, (Wt ++ [xi]), (nW + 1), g56_146, c56_146, cb56_146, (len_snoc hW), (by omega), ((HB.snoc (hbx _ (List.mem_of_getElem? hxi))).eq hE170), (fun W9 r9 => (ids_own r9 Oq127 (len_snoc hW))), (intsS O56_146 (by omega) hE170), H169.sel [1, 0, 5, 6, 7, 8] rfl, ss HS163 [0, 1, 5]⟩), (by omega)⟩
     refine wl_ <| i_ H149 rfl (v := .bool true) (dd_at rfl (H149.ev 59 rfl) ((HP _ HS145.below i _ hyi).trans (by rw [hb151])) Tryd.underlying4 rfl) fun _ H171 => ln_ <| nx <| ct_ H171 rfl <| sq_ <| rl_ <| wl_ <| p_ H171 rfl rfl fun _ H172 => ?_
     clear H149 H171
     refine wl_ <| d_ H172 rfl (R := fun v w9 => ∃ y174h, v = .tuple #[.agg (catA [[.int .i64 y174h], [.int .i64 1], [.string ⟨#[]⟩], [.int .i64 0], bytesV (zer 32)]), .bool true] ∧ (Wt ++ [xi] = y174h :: (Wt ++ [xi]).tail) ∧ Below W145.heap.size W145 w9) (dc_ Tryd.func18 rfl (args1 (H172.ev 62 rfl)) (quehead_ids g24 _ _ _ (Wt ++ [xi]) W145 (HS145.row 0 rfl) (ids_own (HS145.row 1 rfl) Oq127 (len_snoc hW)) (by omega)) (fun _ w9 ⟨y9, hy9, he, hb⟩ => ⟨_, he, y9, rfl, hy9, hb⟩)) ?_
     rintro _ W173 ⟨y174h, rfl, hy174, hb173⟩ a173 H173
     have HS173 := HS145.same hb173
     clear H172
     clear HS145 hb173
     refine wl_ <| p_ H173 rfl rfl fun _ H175 => wl_ <| i_ H175 rfl (v := .agg (catA [[.int .i64 y174h], [.int .i64 1], [.string ⟨#[]⟩], [.int .i64 0], bytesV (zer 32)])) (dd_ext rfl (H175.ev 61 rfl) rfl) fun _ H176 => wl_ <| i_ H176 rfl (v := .bool true) (dd_ext rfl (H176.ev 61 rfl) rfl) fun _ H177 => wl_ <| n_ H177 rfl (fun _ h => dd_new HS173 (catA [[.int .i64 0], [.int .i64 0], [.string (⟨#[]⟩)], [.int .i64 0], bytesV (zer 32)]) rfl (z := .agg (catA [[.int .i64 0], [.int .i64 0], [.string (⟨#[]⟩)], [.int .i64 0], bytesV (zer 32)])) (by kernel_rfl) rfl h) fun g10 _ HS178 _ H178 => wl_ <| t_ rfl (fun _ h => dd_setrow HS178 6 rfl rfl (H178.ev 10 rfl) (H178.ev 64 rfl) (by kernel_rfl) ((cat_size (lens_cons rfl (lens_cons rfl (lens_cons rfl (lens_cons rfl (lens_cons (len_bv (length_zer 32)) (lens_nil))))))) : (catA [[.int .i64 y174h], [.int .i64 1], [.string ⟨#[]⟩], [.int .i64 0], bytesV (zer 32)]).size = 36) ((cat_size (lens_cons rfl (lens_cons rfl (lens_cons rfl (lens_cons rfl (lens_cons (len_bv (length_zer 32)) (lens_nil))))))) : (catA [[.int .i64 0], [.int .i64 0], [.string (⟨#[]⟩)], [.int .i64 0], bytesV (zer 32)]).size = 36) (cat_one (ones_cons (ones_c rfl) (ones_cons (ones_c rfl) (ones_cons (ones_c rfl) (ones_cons (ones_c rfl) (ones_cons (one_bytesV _) (ones_nil))))))) h) fun _ HS179 => wl_ <| p_ H178 rfl rfl fun _ H180 => ln_ <| ?_
     clear H173 H175 H176 HS173 H177 HS178 H178
     have H181 := H180.sel [1, 0, 5, 7, 8, 6, 10, 11] rfl
     refine nx <| sq_ <| sq_ <| rl_ <| wl_ <| p_ H181 rfl rfl fun _ H182 => wl_ <| i_ H182 rfl (v := .bool false) (dd_nt rfl (H182.ev 66 rfl) rfl) fun _ H183 => wl_ <| p_ H183 rfl rfl fun _ H184 => wl_ <| ig H184 (wg_ H184 rfl rfl rfl rfl) rfl (dd_mv rfl (H184.ev 5 rfl)) fun _ H185 => ?_
     clear H180 H181 H182 H183 H184
     refine wl_ <| dr_ H185 (wg_ H185 rfl rfl rfl rfl) rfl (R := fun v9 w9 => v9 = .bool true ∧ St w noF [⟨g24, 27, #[.slice (tl1 (some ⟨gq127, 0, none⟩) cq127) nW (cq127 - 1)]⟩, ⟨gq127, 40, cbq127⟩, ⟨gw, 40, cbw⟩, ⟨g37, 40, catA [[.int .i64 xi], [.int .i64 1], [.string (⟨#[]⟩)], [.int .i64 0], bytesV (zer 32)]⟩, ⟨g55, 3, #[.int .i64 xi]⟩, ⟨g56_146, 3, cb56_146⟩, ⟨g10, 40, catA [[.int .i64 y174h], [.int .i64 1], [.string ⟨#[]⟩], [.int .i64 0], bytesV (zer 32)]⟩] w9) (dc_ Tryd.func13 rfl (args1 (H185.ev 69 rfl)) (quepop_S _ g24 _ (nW + 1) cq127 nW _ (ss HS179 [0]).frame (by omega)) (fun _ w9 ⟨he, hS⟩ => ⟨_, he, rfl, St.reframe (ss HS179 [0, 1, 2, 3, 4, 5, 6]) hS⟩)) ?_
     rintro _ W186 ⟨rfl, HS186⟩ a186 H186
     clear H185 HS179
     refine wl_ <| ig H186 (wg_ H186 rfl rfl rfl rfl) rfl (v := .bool false) (dd_nt rfl (H186.ev 70 rfl) rfl) fun _ H187 => wl_ <| p_ H187 rfl rfl fun _ H188 => ln_ <| nx <| cf_ H188 rfl <| wp_skip <| nx <| rl_ <| wl_ <| p_ H188 rfl rfl fun _ H189 => wl_ <| i_ H189 rfl (xf 0 0 rfl (H189.ev 10 rfl)) fun _ H190 => wl_ <| i_ H190 rfl (dd_get HS186 6 0 rfl rfl (H190.ev 74 rfl) (cat_get (lens_cons rfl (lens_cons rfl (lens_cons rfl (lens_cons rfl (lens_cons (len_bv (length_zer 32)) (lens_nil)))))) 0 rfl rfl) Tryd.underlying3 rfl) fun _ H191 => wl_ <| n_ H191 rfl (fun _ h => dd_lits HS186 #[.int .i64 y174h] rfl (ps := [(0, .int .i64 y174h)]) (pr1 (H191.ev 75 rfl) (pr0)) (z := .int .i64 0) (sz := 1) Tryd.underlying45 (by kernel_rfl) rfl rfl (by kernel_rfl) h) fun g76 _ HS192 _ H192 => wl_ <| a_ H192 rfl (S := fun g77_194 cb77_194 => [⟨g24, 27, #[.slice (tl1 (some ⟨gq127, 0, none⟩) cq127) nW (cq127 - 1)]⟩, ⟨gq127, 40, cbq127⟩, ⟨gw, 40, cbw⟩, ⟨g37, 40, catA [[.int .i64 xi], [.int .i64 1], [.string (⟨#[]⟩)], [.int .i64 0], bytesV (zer 32)]⟩, ⟨g55, 3, #[.int .i64 xi]⟩, ⟨g56_146, 3, cb56_146⟩, ⟨g10, 40, catA [[.int .i64 y174h], [.int .i64 1], [.string ⟨#[]⟩], [.int .i64 0], bytesV (zer 32)]⟩, ⟨g76, 3, #[.int .i64 y174h]⟩, ⟨g77_194, 3, cb77_194⟩]) (fun g77_194 c77_194 => .slice (some ⟨g77_194, 0, none⟩) 1 c77_194) (T := fun _ c77_194 cb77_194 => OwnC cb77_194 c77_194 1 1 ([.int .i64 y174h])) (fun _ h => dd_app0 HS192 rfl (H192.ev 73 rfl) (z := .int .i64 0) (bytes := 8) (sz := 1) Tryd.underlying45 (by kernel_rfl) rfl (by decide) ([.int .i64 y174h]) (H192.ev 76 rfl) rfl (row_news (HS192.row 7 rfl) 0 (slab_whole _)) (ao_cons rfl ao_nil) (by unfold maxLen; omega) (by omega) h) fun g77_194 c77_194 cb77_194 W193 O77_194 HS193 _ H193 => wl_ <| p_ H193 rfl rfl fun _ H195 => ?_
     clear H186 H187 H188 H189 H190 HS186 H191 HS192 H192
     refine ln_ <| nx <| sq_ <| rl_ <| wl_ <| p_ H195 rfl rfl fun _ H196 => wl_ <| c_ H196 rfl HS193 (dcs Tryd.func19 rfl (args1 (H196.ev 78 rfl)) (quelen_any g24 _ _ _ W193 (HS193.row 0 rfl)) (.int .i64 nW)) fun W197 HS197 _ H197 => wl_ <| p_ H197 rfl rfl fun _ H198 => wl_ <| i_ H198 rfl (v := .int .i64 (nW + 1)) (dd_len rfl (H198.ev 80 rfl) Tryd.underlying45) fun _ H199 => wl_ <| p_ H199 rfl rfl fun _ H200 => wl_ <| i_ H200 rfl (v := .int .i64 1) (dd_len rfl (H200.ev 82 rfl) Tryd.underlying45) fun _ H201 => wl_ <| i_ H201 rfl (v := .int .i64 nW) (dd_ari rfl (H201.ev 81 rfl) (H201.ev 83 rfl) rfl (by rw [i64_id _ (by omega) (by omega)]; omega)) fun _ H202 => wl_ <| i_ H202 rfl (dd_cmp rfl (H202.ev 79 rfl) (H202.ev 84 rfl) (ne_f rfl)) fun _ H203 => ?_
     clear H193 H195 H196 HS193 H197 H198 H199 H200 H201
     refine wl_ <| p_ H203 rfl rfl fun _ H204 => wl_ <| ig H204 (wg_ H204 rfl rfl rfl rfl) rfl (dd_mv rfl (H204.ev 5 rfl)) fun _ H205 => wl_ <| cg H205 (wg_ H205 rfl rfl rfl rfl) rfl HS197 (dcs Tryd.func19 rfl (args1 (H205.ev 87 rfl)) (quelen_any g24 _ _ _ W197 (HS197.row 0 rfl)) (.int .i64 nW)) fun _ HS206 _ H206 => wl_ <| ig H206 (wg_ H206 rfl rfl rfl rfl) rfl (dd_cmp rfl (H206.ev 88 rfl) rfl (gt_f (by omega))) fun _ H207 => wl_ <| p_ H207 rfl rfl fun _ H208 => ln_ <| ?_
     clear H202 H203 H204 H205 HS197 H206 H207
     have H209 := H208.sel [1, 0, 5, 8, 6, 7, 90] rfl
     refine nx <| cf_ H209 rfl <| wp_skip <| bn <| nx <| rl_ <| wl_ <| p_ H209 rfl rfl fun _ H210 => wl_ <| i_ H210 rfl (v := .int .i64 (i + 1)) (dd_ari rfl (H210.ev 29 rfl) rfl rfl (i64_of (by first | omega | (have := bd_lo; omega)) (by omega))) fun _ H211 => wl_ <| p_ H211 rfl rfl fun _ H212 => ln_ <| ?_
     clear H208 H209 H210 H211
     have hE213 : Wt ++ [xi] = ([y174h]) ++ ((Wt ++ [xi]).tail) := hy174
     refine nx ⟨i + 1, .inr (.inr (⟨(tl1 (some ⟨gq127, 0, none⟩) cq127), (cq127 - 1), gq127, cbq127, ((Wt ++ [xi]).tail), nW, g56_146, c56_146, cb56_146, ([y174h]), 1, (nW + 1), g77_194, c77_194, cb77_194, (len_tl (len_snoc hW) (by omega)), rfl, (by omega), ((HB.snoc (hbx _ (List.mem_of_getElem? hxi))).eq hE213), (fun W9 r9 => (ids_tl (ids_own r9 Oq127 (len_snoc hW)) (by omega))), (intsS O56_146 (by omega) hE213), O77_194, H212.sel [1, 0, 5, 6, 7, 8] rfl, ss HS206 [0, 1, 5, 8]⟩)), (by omega)⟩
    refine wl_ <| c_ H123 rfl HS123 (dcs Tryd.func11 rfl (args2 (H123.ev 31 rfl) (H123.ev 37 rfl)) (queadd_full g24 _ _ _ _ _ _ W123 (HS123.row 0 rfl) (by omega) (by omega) (by omega)) (.int .i64 19)) fun W214 HS214 _ H214 => wl_ <| p_ H214 rfl rfl fun _ H215 => ln_ <| nx <| sq_ <| sq_ <| rl_ <| wl_ <| p_ H215 rfl rfl fun _ H216 => wl_ <| i_ H216 rfl (dd_cmp rfl (H216.ev 39 rfl) rfl (eq_f (by decide))) fun _ H217 => wl_ <| p_ H217 rfl rfl fun _ H218 => wl_ <| i_ H218 rfl (v := .int .i64 nW) (dd_len rfl (H218.ev 41 rfl) Tryd.underlying45) fun _ H219 => wl_ <| p_ H219 rfl rfl fun _ H220 => wl_ <| i_ H220 rfl (v := .int .i64 0) (dd_len rfl (H220.ev 43 rfl) Tryd.underlying45) fun _ H221 => ?_
    clear H123 HS123 H214 H215 H216 H217 H218 H219
    refine wl_ <| i_ H221 rfl (v := .int .i64 nW) (dd_ari rfl (H221.ev 42 rfl) (H221.ev 44 rfl) rfl (by rw [i64_id _ (by omega) (by omega)]; omega)) fun _ H222 => wl_ <| i_ H222 rfl (dd_cmp rfl (H222.ev 45 rfl) rfl (lt_f hc125)) fun _ H223 => wl_ <| i_ H223 rfl (v := .bool false) (dd_neb rfl (H223.ev 40 rfl) (H223.ev 46 rfl) Tryd.underlying4 rfl) fun _ H224 => ln_ <| ?_
    clear H220 H221 H222 H223
    have H225 := H224.sel [1, 0, 5, 6, 7, 8, 9, 47] rfl
    refine nx <| cf_ H225 rfl <| wp_skip <| nx <| sq_ <| sq_ <| rl_ <| wl_ <| p_ H225 rfl rfl fun _ H226 => wl_ <| i_ H226 rfl (dd_cmp rfl (H226.ev 48 rfl) rfl (eq_f (by decide))) fun _ H227 => ln_ <| nx <| cf_ H227 rfl <| wp_skip <| nx <| sq_ <| sq_ <| rl_ <| q_ H227 2 rfl fun _ H228 => ?_
    clear H224 H225 H226 H227
    obtain ⟨yi, hyi⟩ : ∃ x, Y[i]? = some x := ⟨_, List.getElem?_eq_getElem (by rw [hY]; omega)⟩
    refine wl_ <| i_ H228 rfl (xSo 1 (o2 + i) rfl (H228.ev 57 rfl) (H228.ev 58 rfl)) fun _ H229 => ?_
    clear H228
    cases hb231 : yi
    ·
     refine wl_ <| i_ H229 rfl (v := .bool false) (dd_at rfl (H229.ev 59 rfl) ((HP _ HS214.below i _ hyi).trans (by rw [hb231])) Tryd.underlying4 rfl) fun _ H232 => ln_ <| nx <| cf_ H232 rfl <| wp_skip <| nx <| sq_ <| rl_ <| wl_ <| p_ H232 rfl rfl fun _ H233 => wl_ <| c_ H233 rfl HS214 (dcs Tryd.func19 rfl (args1 (H233.ev 78 rfl)) (quelen_any g24 _ _ _ W214 (HS214.row 0 rfl)) (.int .i64 nW)) fun W234 HS234 _ H234 => wl_ <| p_ H234 rfl rfl fun _ H235 => wl_ <| i_ H235 rfl (v := .int .i64 nW) (dd_len rfl (H235.ev 80 rfl) Tryd.underlying45) fun _ H236 => wl_ <| p_ H236 rfl rfl fun _ H237 => wl_ <| i_ H237 rfl (v := .int .i64 0) (dd_len rfl (H237.ev 82 rfl) Tryd.underlying45) fun _ H238 => wl_ <| i_ H238 rfl (v := .int .i64 nW) (dd_ari rfl (H238.ev 81 rfl) (H238.ev 83 rfl) rfl (by rw [i64_id _ (by omega) (by omega)]; omega)) fun _ H239 => ?_
     clear H229 H232 H233 HS214 H234 H235 H236 H237
     refine wl_ <| i_ H239 rfl (dd_cmp rfl (H239.ev 79 rfl) (H239.ev 84 rfl) (ne_f rfl)) fun _ H240 => wl_ <| p_ H240 rfl rfl fun _ H241 => wl_ <| ig H241 (wg_ H241 rfl rfl rfl rfl) rfl (dd_mv rfl (H241.ev 5 rfl)) fun _ H242 => wl_ <| cg H242 (wg_ H242 rfl rfl rfl rfl) rfl HS234 (dcs Tryd.func19 rfl (args1 (H242.ev 87 rfl)) (quelen_any g24 _ _ _ W234 (HS234.row 0 rfl)) (.int .i64 nW)) fun _ HS243 _ H243 => wl_ <| ig H243 (wg_ H243 rfl rfl rfl rfl) rfl (dd_cmp rfl (H243.ev 88 rfl) rfl (gt_f (by omega))) fun _ H244 => wl_ <| p_ H244 rfl rfl fun _ H245 => ln_ <| ?_
     clear H238 H239 H240 H241 H242 HS234 H243 H244
     have H246 := H245.sel [1, 0, 5, 6, 7, 8, 90] rfl
     refine nx <| cf_ H246 rfl <| wp_skip <| bn <| nx <| rl_ <| wl_ <| p_ H246 rfl rfl fun _ H247 => wl_ <| i_ H247 rfl (v := .int .i64 (i + 1)) (dd_ari rfl (H247.ev 29 rfl) rfl rfl (i64_of (by first | omega | (have := bd_lo; omega)) (by omega))) fun _ H248 => wl_ <| p_ H248 rfl rfl fun _ H249 => ln_ <| ?_
     clear H245 H246 H247 H248
     have hE250 : Wt = Wt := rfl
     refine nx ⟨i + 1, .inr (.inl ⟨A9, c9, gw, cbw, Wt, nW, gin, cin, cbin, hW, (by omega), (HB.eq hE250), (fun W9 r9 => (HX _ r9)), (intsT Oin (by omega) hE250), H249.sel [1, 0, 5, 6, 7, 8] rfl, ss HS243 [0, 1, 2]⟩), (by omega)⟩
    refine wl_ <| i_ H229 rfl (v := .bool true) (dd_at rfl (H229.ev 59 rfl) ((HP _ HS214.below i _ hyi).trans (by rw [hb231])) Tryd.underlying4 rfl) fun _ H251 => ln_ <| nx <| ct_ H251 rfl <| sq_ <| rl_ <| wl_ <| p_ H251 rfl rfl fun _ H252 => ?_
    clear H229 H251
    refine wl_ <| d_ H252 rfl (R := fun v w9 => ∃ y254h, v = .tuple #[.agg (catA [[.int .i64 y254h], [.int .i64 1], [.string ⟨#[]⟩], [.int .i64 0], bytesV (zer 32)]), .bool true] ∧ (Wt = y254h :: (Wt).tail) ∧ Below W214.heap.size W214 w9) (dc_ Tryd.func18 rfl (args1 (H252.ev 62 rfl)) (quehead_ids g24 _ _ _ Wt W214 (HS214.row 0 rfl) (HX _ (HS214.row 1 rfl)) (by omega)) (fun _ w9 ⟨y9, hy9, he, hb⟩ => ⟨_, he, y9, rfl, hy9, hb⟩)) ?_
    rintro _ W253 ⟨y254h, rfl, hy254, hb253⟩ a253 H253
    have HS253 := HS214.same hb253
    clear H252
    clear HS214 hb253
    refine wl_ <| p_ H253 rfl rfl fun _ H255 => wl_ <| i_ H255 rfl (v := .agg (catA [[.int .i64 y254h], [.int .i64 1], [.string ⟨#[]⟩], [.int .i64 0], bytesV (zer 32)])) (dd_ext rfl (H255.ev 61 rfl) rfl) fun _ H256 => wl_ <| i_ H256 rfl (v := .bool true) (dd_ext rfl (H256.ev 61 rfl) rfl) fun _ H257 => wl_ <| n_ H257 rfl (fun _ h => dd_new HS253 (catA [[.int .i64 0], [.int .i64 0], [.string (⟨#[]⟩)], [.int .i64 0], bytesV (zer 32)]) rfl (z := .agg (catA [[.int .i64 0], [.int .i64 0], [.string (⟨#[]⟩)], [.int .i64 0], bytesV (zer 32)])) (by kernel_rfl) rfl h) fun g10 _ HS258 _ H258 => wl_ <| t_ rfl (fun _ h => dd_setrow HS258 4 rfl rfl (H258.ev 10 rfl) (H258.ev 64 rfl) (by kernel_rfl) ((cat_size (lens_cons rfl (lens_cons rfl (lens_cons rfl (lens_cons rfl (lens_cons (len_bv (length_zer 32)) (lens_nil))))))) : (catA [[.int .i64 y254h], [.int .i64 1], [.string ⟨#[]⟩], [.int .i64 0], bytesV (zer 32)]).size = 36) ((cat_size (lens_cons rfl (lens_cons rfl (lens_cons rfl (lens_cons rfl (lens_cons (len_bv (length_zer 32)) (lens_nil))))))) : (catA [[.int .i64 0], [.int .i64 0], [.string (⟨#[]⟩)], [.int .i64 0], bytesV (zer 32)]).size = 36) (cat_one (ones_cons (ones_c rfl) (ones_cons (ones_c rfl) (ones_cons (ones_c rfl) (ones_cons (ones_c rfl) (ones_cons (one_bytesV _) (ones_nil))))))) h) fun _ HS259 => wl_ <| p_ H258 rfl rfl fun _ H260 => ln_ <| nx <| sq_ <| sq_ <| rl_ <| wl_ <| p_ H260 rfl rfl fun _ H261 => wl_ <| i_ H261 rfl (v := .bool false) (dd_nt rfl (H261.ev 66 rfl) rfl) fun _ H262 => ?_
    clear H253 H255 H256 HS253 H257 HS258 H258 H260
    refine wl_ <| p_ H262 rfl rfl fun _ H263 => wl_ <| ig H263 (wg_ H263 rfl rfl rfl rfl) rfl (dd_mv rfl (H263.ev 5 rfl)) fun _ H264 => ?_
    clear H261 H262 H263
    refine wl_ <| dr_ H264 (wg_ H264 rfl rfl rfl rfl) rfl (R := fun v9 w9 => v9 = .bool true ∧ St w noF [⟨g24, 27, #[.slice (tl1 A9 c9) 3 (c9 - 1)]⟩, ⟨gw, 40, cbw⟩, ⟨gin, 3, cbin⟩, ⟨g37, 40, catA [[.int .i64 xi], [.int .i64 1], [.string (⟨#[]⟩)], [.int .i64 0], bytesV (zer 32)]⟩, ⟨g10, 40, catA [[.int .i64 y254h], [.int .i64 1], [.string ⟨#[]⟩], [.int .i64 0], bytesV (zer 32)]⟩] w9) (dc_ Tryd.func13 rfl (args1 (H264.ev 69 rfl)) (quepop_S _ g24 _ nW c9 3 _ (ss HS259 [0]).frame (by omega)) (fun _ w9 ⟨he, hS⟩ => ⟨_, he, rfl, St.reframe (ss HS259 [0, 1, 2, 3, 4]) hS⟩)) ?_
    rintro _ W265 ⟨rfl, HS265⟩ a265 H265
    clear H264 HS259
    refine wl_ <| ig H265 (wg_ H265 rfl rfl rfl rfl) rfl (v := .bool false) (dd_nt rfl (H265.ev 70 rfl) rfl) fun _ H266 => wl_ <| p_ H266 rfl rfl fun _ H267 => ln_ <| ?_
    clear H265 H266
    have H268 := H267.sel [1, 0, 5, 6, 7, 8, 10, 72] rfl
    refine nx <| cf_ H268 rfl <| wp_skip <| nx <| rl_ <| wl_ <| p_ H268 rfl rfl fun _ H269 => wl_ <| i_ H269 rfl (xf 0 0 rfl (H269.ev 10 rfl)) fun _ H270 => wl_ <| i_ H270 rfl (dd_get HS265 4 0 rfl rfl (H270.ev 74 rfl) (cat_get (lens_cons rfl (lens_cons rfl (lens_cons rfl (lens_cons rfl (lens_cons (len_bv (length_zer 32)) (lens_nil)))))) 0 rfl rfl) Tryd.underlying3 rfl) fun _ H271 => wl_ <| n_ H271 rfl (S := fun g76 => [⟨g24, 27, #[.slice (tl1 A9 c9) 3 (c9 - 1)]⟩, ⟨gw, 40, cbw⟩, ⟨gin, 3, cbin⟩, ⟨g37, 40, catA [[.int .i64 xi], [.int .i64 1], [.string (⟨#[]⟩)], [.int .i64 0], bytesV (zer 32)]⟩, ⟨g10, 40, catA [[.int .i64 y254h], [.int .i64 1], [.string ⟨#[]⟩], [.int .i64 0], bytesV (zer 32)]⟩, ⟨g76, 3, #[.int .i64 y254h]⟩]) (fun _ h => dd_lits HS265 #[.int .i64 y254h] rfl (ps := [(0, .int .i64 y254h)]) (pr1 (H271.ev 75 rfl) (pr0)) (z := .int .i64 0) (sz := 1) Tryd.underlying45 (by kernel_rfl) rfl rfl (by kernel_rfl) h) fun g76 _ HS272 _ H272 => wl_ <| a_ H272 rfl (fun g77_274 c77_274 => .slice (some ⟨g77_274, 0, none⟩) 1 c77_274) (T := fun _ c77_274 cb77_274 => OwnC cb77_274 c77_274 1 1 ([.int .i64 y254h])) (fun _ h => dd_app0 HS272 rfl (H272.ev 73 rfl) (z := .int .i64 0) (bytes := 8) (sz := 1) Tryd.underlying45 (by kernel_rfl) rfl (by decide) ([.int .i64 y254h]) (H272.ev 76 rfl) rfl (row_news (HS272.row 5 rfl) 0 (slab_whole _)) (ao_cons rfl ao_nil) (by unfold maxLen; omega) (by omega) h) fun g77_274 c77_274 cb77_274 W273 O77_274 HS273 _ H273 => wl_ <| p_ H273 rfl rfl fun _ H275 => ln_ <| nx <| sq_ <| rl_ <| wl_ <| p_ H275 rfl rfl fun _ H276 => wl_ <| c_ H276 rfl HS273 (dcs Tryd.func19 rfl (args1 (H276.ev 78 rfl)) (quelen_any g24 _ _ _ W273 (HS273.row 0 rfl)) (.int .i64 3)) fun W277 HS277 _ H277 => ?_
    clear H267 H268 H269 H270 HS265 H271 HS272 H272 H273 H275
    refine wl_ <| p_ H277 rfl rfl fun _ H278 => wl_ <| i_ H278 rfl (v := .int .i64 nW) (dd_len rfl (H278.ev 80 rfl) Tryd.underlying45) fun _ H279 => wl_ <| p_ H279 rfl rfl fun _ H280 => wl_ <| i_ H280 rfl (v := .int .i64 1) (dd_len rfl (H280.ev 82 rfl) Tryd.underlying45) fun _ H281 => wl_ <| i_ H281 rfl (v := .int .i64 3) (dd_ari rfl (H281.ev 81 rfl) (H281.ev 83 rfl) rfl (by rw [i64_id _ (by omega) (by omega)]; omega)) fun _ H282 => wl_ <| i_ H282 rfl (dd_cmp rfl (H282.ev 79 rfl) (H282.ev 84 rfl) (ne_f (by decide))) fun _ H283 => wl_ <| p_ H283 rfl rfl fun _ H284 => wl_ <| ig H284 (wg_ H284 rfl rfl rfl rfl) rfl (dd_mv rfl (H284.ev 5 rfl)) fun _ H285 => ?_
    clear H276 HS273 H277 H278 H279 H280 H281 H282 H283
    refine wl_ <| cg H285 (wg_ H285 rfl rfl rfl rfl) rfl HS277 (dcs Tryd.func19 rfl (args1 (H285.ev 87 rfl)) (quelen_any g24 _ _ _ W277 (HS277.row 0 rfl)) (.int .i64 3)) fun _ HS286 _ H286 => wl_ <| ig H286 (wg_ H286 rfl rfl rfl rfl) rfl (dd_cmp rfl (H286.ev 88 rfl) rfl (gt_f (by decide))) fun _ H287 => wl_ <| p_ H287 rfl rfl fun _ H288 => ln_ <| ?_
    clear H284 H285 HS277 H286 H287
    have H289 := H288.sel [1, 0, 5, 6, 8, 7, 90] rfl
    refine nx <| cf_ H289 rfl <| wp_skip <| bn <| nx <| rl_ <| wl_ <| p_ H289 rfl rfl fun _ H290 => wl_ <| i_ H290 rfl (v := .int .i64 (i + 1)) (dd_ari rfl (H290.ev 29 rfl) rfl rfl (i64_of (by first | omega | (have := bd_lo; omega)) (by omega))) fun _ H291 => wl_ <| p_ H291 rfl rfl fun _ H292 => ln_ <| ?_
    clear H288 H289 H290 H291
    have hE293 : Wt = ([y254h]) ++ ((Wt).tail) := hy254
    refine nx ⟨i + 1, .inr (.inr (⟨(tl1 A9 c9), (c9 - 1), gw, cbw, ((Wt).tail), 3, gin, cin, cbin, ([y254h]), 1, nW, g77_274, c77_274, cb77_274, (len_tl hW (by omega)), rfl, (by omega), (HB.eq hE293), (fun W9 r9 => (ids_tl (HX _ r9) (by omega))), (intsT Oin (by omega) hE293), O77_274, H292.sel [1, 0, 5, 6, 7, 8] rfl, ss HS286 [0, 1, 2, 6]⟩)), (by omega)⟩
   refine wl_ <| i_ H115 rfl (dd_cmp rfl (H115.ev 25 rfl) (H115.ev 27 rfl) (lt_f hc117)) fun _ H294 => ln_ <| nx <| cf_ H294 rfl <| wp_exit <| tx <| tx <| bx <| nx <| sq_ <| rl_ <| q_ H294 2 rfl fun _ H295 => ?_
   clear H115 H294
   refine wl_ <| d_ H295 rfl (R := fun v9 w9 => ∃ gi297 : Nat, ∃ ci297 : Nat, ∃ cbi297 : Array Value, v9 = .slice (some ⟨gi297, 0, none⟩) nW ci297 ∧ (OwnC cbi297 ci297 nW 1 (intsV Wt)) ∧ St w noF [⟨g24, 27, #[.slice none 0 0]⟩, ⟨gi297, 3, cbi297⟩, ⟨gw, 40, cbw⟩, ⟨gin, 3, cbin⟩] w9) (dc_ Tryd.func16 rfl (args1 (H295.ev 92 rfl)) (queclear_ids _ g24 _ nW _ Wt _ (ss HSL17 [0]).frame (fun W9 k9 => (HX _ ((HSL17.row 1 rfl).chg k9 (nin_row (S1 := selB [⟨g24, 27, #[.slice A9 nW c9]⟩, ⟨gw, 40, cbw⟩, ⟨gin, 3, cbin⟩] [0]) (ss HSL17 [0, 1, 2]) 0 rfl)))) (by omega) (by omega)) (fun _ w9 ⟨g9, c9, cb9, he, hO, hS⟩ => ⟨_, he, g9, c9, cb9, rfl, hO, St.reframe (ss HSL17 [0, 1, 2]) hS⟩)) ?_
   rintro _ W296 ⟨gi297, ci297, cbi297, rfl, Oi297, HS296⟩ a296 H296
   clear H295 HSL17
   refine wl_ <| a_ H296 rfl (fun g94_299 c94_299 => .slice (some ⟨g94_299, 0, none⟩) nW c94_299) (T := fun _ c94_299 cb94_299 => OwnC cb94_299 c94_299 nW 1 (intsV Wt)) (fun _ h => dd_app0 HS296 rfl (H296.ev 91 rfl) (z := .int .i64 0) (bytes := 8) (sz := 1) Tryd.underlying45 (by kernel_rfl) rfl (by decide) (intsV Wt) (H296.ev 93 rfl) (by rw [len_intsV, Nat.mul_one]; exact hW) (row_news (HS296.row 1 rfl) 0 (ints_take Oi297)) (one_intsV _) (by unfold maxLen; omega) (by omega) h (Nat.ble_eq_true_of_le (by omega))) fun g94_299 c94_299 cb94_299 W298 O94_299 HS298 _ H298 => wl_ <| p_ H298 rfl rfl fun _ H300 => wl_ <| c_ H300 rfl HS298 (v := .bool true) (dc_ Tryd.func15 rfl (args2 (H300.ev 94 rfl) (H300.ev 95 rfl)) (keepints_any Wt Wt _ _ _ _ _ _ W298 (ints_ownC (HS298.row 4 rfl) O94_299 HB) (ints_ownC (HS298.row 3 rfl) Oin HB) (by omega)) (fun _ w9 h9 => ⟨_, h9.1, by rw [decide_eq_true rfl], h9.2⟩)) fun W301 HS301 _ H301 => wl_ <| p_ H301 rfl rfl fun _ H302 => wl_ <| ig H302 (wg_ H302 rfl rfl rfl rfl) rfl (dd_mv rfl (H302.ev 5 rfl)) fun _ H303 => wl_ <| cg H303 (wg_ H303 rfl rfl rfl rfl) rfl HS301 (dcs Tryd.func19 rfl (args1 (H303.ev 98 rfl)) (quelen_any g24 _ _ _ W301 (HS301.row 0 rfl)) (.int .i64 0)) fun W304 HS304 _ H304 => wl_ <| ig H304 (wg_ H304 rfl rfl rfl rfl) rfl (dd_cmp rfl (H304.ev 99 rfl) rfl (eq_t (by decide))) fun _ H305 => q_ H305 2 rfl fun _ H306 => ?_
   clear HS296 H296 H298 H300 HS298 H301 H302 H303 HS301 H304
   refine wl_ <| cg H306 (wg_ H306 rfl rfl rfl rfl) rfl HS304 (dcs Tryd.func8 rfl (args0 ) (qwakes_any W304) (.bool true)) fun _ HS307 _ H307 => q_ H307 2 rfl fun _ H308 => ln_ <| ?_
   clear H305 H306 HS304 H307
   have H309 := H308.sel [4] rfl
   refine nx <| wp_ret <| ret_run H309.env0 (res_t Tryd.results5 (H309.get 4 rfl)) <| ?_
   clear H308
   exact ⟨rfl, HS307.below⟩
  refine sq_ <| sq_ <| rl_ <| q_ HL17 2 rfl fun _ H310 => wl_ <| i_ H310 rfl (v := .int .i64 n) (dd_len rfl (H310.ev 26 rfl) Tryd.underlying45) fun _ H311 => ?_
  clear HL17 H310
  by_cases hc313 : (i : Int) < n
  ·
   refine wl_ <| i_ H311 rfl (dd_cmp rfl (H311.ev 25 rfl) (H311.ev 27 rfl) (lt_t hc313)) fun _ H314 => ln_ <| nx <| ct_ H314 rfl <| wp_skip <| nx <| sq_ <| wp_block <| sq_ <| rl_ <| q_ H314 3 rfl fun _ H315 => ?_
   clear H311 H314
   obtain ⟨xi, hxi⟩ : ∃ x, X[i]? = some x := ⟨_, List.getElem?_eq_getElem (by rw [hX]; omega)⟩
   refine wl_ <| i_ H315 rfl (xSo 1 (o + i) rfl (H315.ev 32 rfl) (H315.ev 33 rfl)) fun _ H316 => wl_ <| i_ H316 rfl (dd_at rfl (H316.ev 34 rfl) (HI _ HSL17.below i _ hxi) Tryd.underlying3 rfl) fun _ H317 => wl_ <| i_ H317 rfl (v := .agg (catA [[.int .i64 xi], [.int .i64 1], [.string (⟨#[]⟩)], [.int .i64 0], bytesV (zer 32)])) (dd_bld rfl (ps := [(0, .int .i64 xi), (1, .int .i64 1)]) (pr1 (H317.ev 35 rfl) (pr1 rfl (pr0))) (Lz := [[.int .i64 0], [.int .i64 0], [.string (⟨#[]⟩)], [.int .i64 0], bytesV (zer 32)]) (by kernel_rfl) (lens_cons rfl (lens_cons rfl (lens_cons rfl (lens_cons rfl (lens_cons (len_bv (length_zer 32)) (lens_nil)))))) (fit_cons (i := 0) rfl rfl (fit_cons (i := 1) rfl rfl (fit_nil))) (cs := catA [[.int .i64 xi], [.int .i64 1], [.string (⟨#[]⟩)], [.int .i64 0], bytesV (zer 32)]) rfl) fun _ H318 => wl_ <| n_ H318 rfl (fun _ h => dd_lit1 HSL17 (z := .agg (catA [[.int .i64 0], [.int .i64 0], [.string (⟨#[]⟩)], [.int .i64 0], bytesV (zer 32)])) (sz := 36) rfl (H318.ev 36 rfl) Tryd.underlying25 (by kernel_rfl) (cat_size (lens_cons rfl (lens_cons rfl (lens_cons rfl (lens_cons rfl (lens_cons (len_bv (length_zer 32)) (lens_nil))))))) rfl rfl h) fun g37 W319 HS319 _ H319 => ?_
   clear H315 H316 H317 HSL17 H318
   by_cases hc321 : (nW : Int) < 4
   ·
    refine wl_ <| d_ H319 rfl (R := fun v9 w9 => ∃ gq323 : Nat, ∃ cq323 : Nat, ∃ cbq323 : Array Value, v9 = .int .i64 0 ∧ (OwnC cbq323 cq323 (nW + 1) 36 (itemsL ((Wt ++ [xi]).map idIt))) ∧ St w noF [⟨g24, 27, #[.slice (some ⟨gq323, 0, none⟩) (nW + 1) cq323]⟩, ⟨gq323, 40, cbq323⟩, ⟨gw, 40, cbw⟩, ⟨gin, 3, cbin⟩, ⟨gout, 3, cbout⟩, ⟨g37, 40, catA [[.int .i64 xi], [.int .i64 1], [.string (⟨#[]⟩)], [.int .i64 0], bytesV (zer 32)]⟩] w9) (dc_ Tryd.func11 rfl (args2 (H319.ev 31 rfl) (H319.ev 37 rfl)) (queadd_ids _ g24 _ _ nW _ _ (nW + 1) Wt xi _ (ss HS319 [0]).frame (fun W9 k9 => (HX _ ((HS319.row 1 rfl).chg k9 (nin_row (S1 := selB [⟨g24, 27, #[.slice A9 nW c9]⟩, ⟨gw, 40, cbw⟩, ⟨gin, 3, cbin⟩, ⟨gout, 3, cbout⟩, ⟨g37, 40, catA [[.int .i64 xi], [.int .i64 1], [.string (⟨#[]⟩)], [.int .i64 0], bytesV (zer 32)]⟩] [0]) (ss HS319 [0, 1, 2, 3, 4]) 0 rfl)))) (fun W9 k9 => (items_row (X := [idIt xi]) ((HS319.row 4 rfl).chg k9 (nin_row (S1 := selB [⟨g24, 27, #[.slice A9 nW c9]⟩, ⟨gw, 40, cbw⟩, ⟨gin, 3, cbin⟩, ⟨gout, 3, cbout⟩, ⟨g37, 40, catA [[.int .i64 xi], [.int .i64 1], [.string (⟨#[]⟩)], [.int .i64 0], bytesV (zer 32)]⟩] [0]) (ss HS319 [0, 1, 2, 3, 4]) 3 rfl)) (idIt_lit _) rfl (idIt_wf1 _))) (by omega) rfl) (fun _ w9 ⟨g9, c9, cb9, he, hO, hS⟩ => ⟨_, he, g9, c9, cb9, rfl, hO, St.reframe (ss HS319 [0, 1, 2, 3, 4]) hS⟩)) ?_
    rintro _ W322 ⟨gq323, cq323, cbq323, rfl, Oq323, HS322⟩ a322 H322
    clear H319 HS319
    refine wl_ <| p_ H322 rfl rfl fun _ H324 => ln_ <| nx <| sq_ <| sq_ <| rl_ <| wl_ <| p_ H324 rfl rfl fun _ H325 => wl_ <| i_ H325 rfl (dd_cmp rfl (H325.ev 39 rfl) rfl (eq_t (by decide))) fun _ H326 => wl_ <| p_ H326 rfl rfl fun _ H327 => wl_ <| i_ H327 rfl (v := .int .i64 nI) (dd_len rfl (H327.ev 41 rfl) Tryd.underlying45) fun _ H328 => wl_ <| p_ H328 rfl rfl fun _ H329 => wl_ <| i_ H329 rfl (v := .int .i64 nO) (dd_len rfl (H329.ev 43 rfl) Tryd.underlying45) fun _ H330 => wl_ <| i_ H330 rfl (v := .int .i64 nW) (dd_ari rfl (H330.ev 42 rfl) (H330.ev 44 rfl) rfl (by rw [i64_id _ (by omega) (by omega)]; omega)) fun _ H331 => ?_
    clear H322 H324 H325 H326 H327 H328 H329
    refine wl_ <| i_ H331 rfl (dd_cmp rfl (H331.ev 45 rfl) rfl (lt_t hc321)) fun _ H332 => wl_ <| i_ H332 rfl (v := .bool false) (dd_neb rfl (H332.ev 40 rfl) (H332.ev 46 rfl) Tryd.underlying4 rfl) fun _ H333 => ln_ <| ?_
    clear H330 H331 H332
    have H334 := H333.sel [1, 0, 5, 6, 7, 8, 9, 47] rfl
    refine nx <| cf_ H334 rfl <| wp_skip <| nx <| sq_ <| sq_ <| rl_ <| wl_ <| p_ H334 rfl rfl fun _ H335 => wl_ <| i_ H335 rfl (dd_cmp rfl (H335.ev 48 rfl) rfl (eq_t (by decide))) fun _ H336 => ln_ <| nx <| ct_ H336 rfl <| rl_ <| q_ H336 3 rfl fun _ H337 => wl_ <| i_ H337 rfl (xSo 1 (o + i) rfl (H337.ev 51 rfl) (H337.ev 52 rfl)) fun _ H338 => wl_ <| i_ H338 rfl (dd_at rfl (H338.ev 53 rfl) (HI _ HS322.below i _ hxi) Tryd.underlying3 rfl) fun _ H339 => wl_ <| n_ H339 rfl (fun _ h => dd_lits HS322 #[.int .i64 xi] rfl (ps := [(0, .int .i64 xi)]) (pr1 (H339.ev 54 rfl) (pr0)) (z := .int .i64 0) (sz := 1) Tryd.underlying45 (by kernel_rfl) rfl rfl (by kernel_rfl) h) fun g55 _ HS340 _ H340 => wl_ <| a_ H340 rfl (S := fun g56_342 cb56_342 => [⟨g24, 27, #[.slice (some ⟨gq323, 0, none⟩) (nW + 1) cq323]⟩, ⟨gq323, 40, cbq323⟩, ⟨gw, 40, cbw⟩, ⟨gout, 3, cbout⟩, ⟨g37, 40, catA [[.int .i64 xi], [.int .i64 1], [.string (⟨#[]⟩)], [.int .i64 0], bytesV (zer 32)]⟩, ⟨g55, 3, #[.int .i64 xi]⟩, ⟨g56_342, 3, cb56_342⟩]) (fun g56_342 c56_342 => .slice (some ⟨g56_342, 0, none⟩) (nI + 1) c56_342) (T := fun _ c56_342 cb56_342 => OwnC cb56_342 c56_342 (nI + 1) 1 ((intsV (Out ++ Wt)) ++ [.int .i64 xi])) (fun _ h => dd_app HS340 3 rfl Oin rfl (H340.ev 50 rfl) (z := .int .i64 0) (bytes := 8) Tryd.underlying45 (by kernel_rfl) rfl (by decide) ([.int .i64 xi]) (H340.ev 55 rfl) rfl (row_news (HS340.row 6 rfl) 0 (slab_whole _)) (ao_cons rfl ao_nil) (by unfold maxLen; omega) (by omega) h) fun g56_342 c56_342 cb56_342 W341 O56_342 HS341 _ H341 => wl_ <| p_ H341 rfl rfl fun _ H343 => ?_
    clear H333 H334 H335 H336 H337 H338 HS322 H339 HS340 H340
    refine ln_ <| nx <| sq_ <| sq_ <| rl_ <| q_ H343 2 rfl fun _ H344 => ?_
    clear H341 H343
    obtain ⟨yi, hyi⟩ : ∃ x, Y[i]? = some x := ⟨_, List.getElem?_eq_getElem (by rw [hY]; omega)⟩
    refine wl_ <| i_ H344 rfl (xSo 1 (o2 + i) rfl (H344.ev 57 rfl) (H344.ev 58 rfl)) fun _ H345 => ?_
    clear H344
    cases hb347 : yi
    ·
     refine wl_ <| i_ H345 rfl (v := .bool false) (dd_at rfl (H345.ev 59 rfl) ((HP _ HS341.below i _ hyi).trans (by rw [hb347])) Tryd.underlying4 rfl) fun _ H348 => ln_ <| nx <| cf_ H348 rfl <| wp_skip <| nx <| sq_ <| rl_ <| wl_ <| p_ H348 rfl rfl fun _ H349 => wl_ <| c_ H349 rfl HS341 (dcs Tryd.func19 rfl (args1 (H349.ev 78 rfl)) (quelen_any g24 _ _ _ W341 (HS341.row 0 rfl)) (.int .i64 (nW + 1))) fun W350 HS350 _ H350 => wl_ <| p_ H350 rfl rfl fun _ H351 => wl_ <| i_ H351 rfl (v := .int .i64 (nI + 1)) (dd_len rfl (H351.ev 80 rfl) Tryd.underlying45) fun _ H352 => wl_ <| p_ H352 rfl rfl fun _ H353 => wl_ <| i_ H353 rfl (v := .int .i64 nO) (dd_len rfl (H353.ev 82 rfl) Tryd.underlying45) fun _ H354 => wl_ <| i_ H354 rfl (v := .int .i64 (nW + 1)) (dd_ari rfl (H354.ev 81 rfl) (H354.ev 83 rfl) rfl (by rw [i64_id _ (by omega) (by omega)]; omega)) fun _ H355 => ?_
     clear H345 H348 H349 HS341 H350 H351 H352 H353
     refine wl_ <| i_ H355 rfl (dd_cmp rfl (H355.ev 79 rfl) (H355.ev 84 rfl) (ne_f rfl)) fun _ H356 => wl_ <| p_ H356 rfl rfl fun _ H357 => wl_ <| ig H357 (wg_ H357 rfl rfl rfl rfl) rfl (dd_mv rfl (H357.ev 5 rfl)) fun _ H358 => wl_ <| cg H358 (wg_ H358 rfl rfl rfl rfl) rfl HS350 (dcs Tryd.func19 rfl (args1 (H358.ev 87 rfl)) (quelen_any g24 _ _ _ W350 (HS350.row 0 rfl)) (.int .i64 (nW + 1))) fun _ HS359 _ H359 => wl_ <| ig H359 (wg_ H359 rfl rfl rfl rfl) rfl (dd_cmp rfl (H359.ev 88 rfl) rfl (gt_f (by omega))) fun _ H360 => wl_ <| p_ H360 rfl rfl fun _ H361 => ln_ <| ?_
     clear H354 H355 H356 H357 H358 HS350 H359 H360
     have H362 := H361.sel [1, 0, 5, 7, 8, 6, 90] rfl
     refine nx <| cf_ H362 rfl <| wp_skip <| bn <| nx <| rl_ <| wl_ <| p_ H362 rfl rfl fun _ H363 => wl_ <| i_ H363 rfl (v := .int .i64 (i + 1)) (dd_ari rfl (H363.ev 29 rfl) rfl rfl (i64_of (by first | omega | (have := bd_lo; omega)) (by omega))) fun _ H364 => wl_ <| p_ H364 rfl rfl fun _ H365 => ln_ <| ?_
     clear H361 H362 H363 H364
     have hE366 : (Out ++ Wt) ++ [xi] = (Out) ++ (Wt ++ [xi]) := (List.append_assoc _ _ _)
     refine nx ⟨i + 1, .inr (.inr (⟨(some ⟨gq323, 0, none⟩), cq323, gq323, cbq323, (Wt ++ [xi]), (nW + 1), g56_342, c56_342, cb56_342, Out, nO, (nI + 1), gout, cout, cbout, (len_snoc hW), hO, (by omega), ((HB.snoc (hbx _ (List.mem_of_getElem? hxi))).eq hE366), (fun W9 r9 => (ids_own r9 Oq323 (len_snoc hW))), (intsS O56_342 (by omega) hE366), Oout, H365.sel [1, 0, 5, 6, 7, 8] rfl, ss HS359 [0, 1, 6, 3]⟩)), (by omega)⟩
    refine wl_ <| i_ H345 rfl (v := .bool true) (dd_at rfl (H345.ev 59 rfl) ((HP _ HS341.below i _ hyi).trans (by rw [hb347])) Tryd.underlying4 rfl) fun _ H367 => ln_ <| nx <| ct_ H367 rfl <| sq_ <| rl_ <| wl_ <| p_ H367 rfl rfl fun _ H368 => ?_
    clear H345 H367
    refine wl_ <| d_ H368 rfl (R := fun v w9 => ∃ y370h, v = .tuple #[.agg (catA [[.int .i64 y370h], [.int .i64 1], [.string ⟨#[]⟩], [.int .i64 0], bytesV (zer 32)]), .bool true] ∧ (Wt ++ [xi] = y370h :: (Wt ++ [xi]).tail) ∧ Below W341.heap.size W341 w9) (dc_ Tryd.func18 rfl (args1 (H368.ev 62 rfl)) (quehead_ids g24 _ _ _ (Wt ++ [xi]) W341 (HS341.row 0 rfl) (ids_own (HS341.row 1 rfl) Oq323 (len_snoc hW)) (by omega)) (fun _ w9 ⟨y9, hy9, he, hb⟩ => ⟨_, he, y9, rfl, hy9, hb⟩)) ?_
    rintro _ W369 ⟨y370h, rfl, hy370, hb369⟩ a369 H369
    have HS369 := HS341.same hb369
    clear H368
    clear HS341 hb369
    refine wl_ <| p_ H369 rfl rfl fun _ H371 => wl_ <| i_ H371 rfl (v := .agg (catA [[.int .i64 y370h], [.int .i64 1], [.string ⟨#[]⟩], [.int .i64 0], bytesV (zer 32)])) (dd_ext rfl (H371.ev 61 rfl) rfl) fun _ H372 => wl_ <| i_ H372 rfl (v := .bool true) (dd_ext rfl (H372.ev 61 rfl) rfl) fun _ H373 => wl_ <| n_ H373 rfl (fun _ h => dd_new HS369 (catA [[.int .i64 0], [.int .i64 0], [.string (⟨#[]⟩)], [.int .i64 0], bytesV (zer 32)]) rfl (z := .agg (catA [[.int .i64 0], [.int .i64 0], [.string (⟨#[]⟩)], [.int .i64 0], bytesV (zer 32)])) (by kernel_rfl) rfl h) fun g10 _ HS374 _ H374 => wl_ <| t_ rfl (fun _ h => dd_setrow HS374 7 rfl rfl (H374.ev 10 rfl) (H374.ev 64 rfl) (by kernel_rfl) ((cat_size (lens_cons rfl (lens_cons rfl (lens_cons rfl (lens_cons rfl (lens_cons (len_bv (length_zer 32)) (lens_nil))))))) : (catA [[.int .i64 y370h], [.int .i64 1], [.string ⟨#[]⟩], [.int .i64 0], bytesV (zer 32)]).size = 36) ((cat_size (lens_cons rfl (lens_cons rfl (lens_cons rfl (lens_cons rfl (lens_cons (len_bv (length_zer 32)) (lens_nil))))))) : (catA [[.int .i64 0], [.int .i64 0], [.string (⟨#[]⟩)], [.int .i64 0], bytesV (zer 32)]).size = 36) (cat_one (ones_cons (ones_c rfl) (ones_cons (ones_c rfl) (ones_cons (ones_c rfl) (ones_cons (ones_c rfl) (ones_cons (one_bytesV _) (ones_nil))))))) h) fun _ HS375 => wl_ <| p_ H374 rfl rfl fun _ H376 => ln_ <| ?_
    clear H369 H371 H372 HS369 H373 HS374 H374
    have H377 := H376.sel [1, 0, 5, 7, 8, 6, 10, 11] rfl
    refine nx <| sq_ <| sq_ <| rl_ <| wl_ <| p_ H377 rfl rfl fun _ H378 => wl_ <| i_ H378 rfl (v := .bool false) (dd_nt rfl (H378.ev 66 rfl) rfl) fun _ H379 => wl_ <| p_ H379 rfl rfl fun _ H380 => wl_ <| ig H380 (wg_ H380 rfl rfl rfl rfl) rfl (dd_mv rfl (H380.ev 5 rfl)) fun _ H381 => ?_
    clear H376 H377 H378 H379 H380
    refine wl_ <| dr_ H381 (wg_ H381 rfl rfl rfl rfl) rfl (R := fun v9 w9 => v9 = .bool true ∧ St w noF [⟨g24, 27, #[.slice (tl1 (some ⟨gq323, 0, none⟩) cq323) nW (cq323 - 1)]⟩, ⟨gq323, 40, cbq323⟩, ⟨gw, 40, cbw⟩, ⟨gout, 3, cbout⟩, ⟨g37, 40, catA [[.int .i64 xi], [.int .i64 1], [.string (⟨#[]⟩)], [.int .i64 0], bytesV (zer 32)]⟩, ⟨g55, 3, #[.int .i64 xi]⟩, ⟨g56_342, 3, cb56_342⟩, ⟨g10, 40, catA [[.int .i64 y370h], [.int .i64 1], [.string ⟨#[]⟩], [.int .i64 0], bytesV (zer 32)]⟩] w9) (dc_ Tryd.func13 rfl (args1 (H381.ev 69 rfl)) (quepop_S _ g24 _ (nW + 1) cq323 nW _ (ss HS375 [0]).frame (by omega)) (fun _ w9 ⟨he, hS⟩ => ⟨_, he, rfl, St.reframe (ss HS375 [0, 1, 2, 3, 4, 5, 6, 7]) hS⟩)) ?_
    rintro _ W382 ⟨rfl, HS382⟩ a382 H382
    clear H381 HS375
    refine wl_ <| ig H382 (wg_ H382 rfl rfl rfl rfl) rfl (v := .bool false) (dd_nt rfl (H382.ev 70 rfl) rfl) fun _ H383 => wl_ <| p_ H383 rfl rfl fun _ H384 => ln_ <| nx <| cf_ H384 rfl <| wp_skip <| nx <| rl_ <| wl_ <| p_ H384 rfl rfl fun _ H385 => wl_ <| i_ H385 rfl (xf 0 0 rfl (H385.ev 10 rfl)) fun _ H386 => wl_ <| i_ H386 rfl (dd_get HS382 7 0 rfl rfl (H386.ev 74 rfl) (cat_get (lens_cons rfl (lens_cons rfl (lens_cons rfl (lens_cons rfl (lens_cons (len_bv (length_zer 32)) (lens_nil)))))) 0 rfl rfl) Tryd.underlying3 rfl) fun _ H387 => wl_ <| n_ H387 rfl (fun _ h => dd_lits HS382 #[.int .i64 y370h] rfl (ps := [(0, .int .i64 y370h)]) (pr1 (H387.ev 75 rfl) (pr0)) (z := .int .i64 0) (sz := 1) Tryd.underlying45 (by kernel_rfl) rfl rfl (by kernel_rfl) h) fun g76 _ HS388 _ H388 => wl_ <| a_ H388 rfl (S := fun g77_390 cb77_390 => [⟨g24, 27, #[.slice (tl1 (some ⟨gq323, 0, none⟩) cq323) nW (cq323 - 1)]⟩, ⟨gq323, 40, cbq323⟩, ⟨gw, 40, cbw⟩, ⟨g37, 40, catA [[.int .i64 xi], [.int .i64 1], [.string (⟨#[]⟩)], [.int .i64 0], bytesV (zer 32)]⟩, ⟨g55, 3, #[.int .i64 xi]⟩, ⟨g56_342, 3, cb56_342⟩, ⟨g10, 40, catA [[.int .i64 y370h], [.int .i64 1], [.string ⟨#[]⟩], [.int .i64 0], bytesV (zer 32)]⟩, ⟨g76, 3, #[.int .i64 y370h]⟩, ⟨g77_390, 3, cb77_390⟩]) (fun g77_390 c77_390 => .slice (some ⟨g77_390, 0, none⟩) (nO + 1) c77_390) (T := fun _ c77_390 cb77_390 => OwnC cb77_390 c77_390 (nO + 1) 1 ((intsV Out) ++ [.int .i64 y370h])) (fun _ h => dd_app HS388 3 rfl Oout rfl (H388.ev 73 rfl) (z := .int .i64 0) (bytes := 8) Tryd.underlying45 (by kernel_rfl) rfl (by decide) ([.int .i64 y370h]) (H388.ev 76 rfl) rfl (row_news (HS388.row 8 rfl) 0 (slab_whole _)) (ao_cons rfl ao_nil) (by unfold maxLen; omega) (by omega) h) fun g77_390 c77_390 cb77_390 W389 O77_390 HS389 _ H389 => wl_ <| p_ H389 rfl rfl fun _ H391 => ?_
    clear H382 H383 H384 H385 H386 HS382 H387 HS388 H388
    refine ln_ <| nx <| sq_ <| rl_ <| wl_ <| p_ H391 rfl rfl fun _ H392 => wl_ <| c_ H392 rfl HS389 (dcs Tryd.func19 rfl (args1 (H392.ev 78 rfl)) (quelen_any g24 _ _ _ W389 (HS389.row 0 rfl)) (.int .i64 nW)) fun W393 HS393 _ H393 => wl_ <| p_ H393 rfl rfl fun _ H394 => wl_ <| i_ H394 rfl (v := .int .i64 (nI + 1)) (dd_len rfl (H394.ev 80 rfl) Tryd.underlying45) fun _ H395 => wl_ <| p_ H395 rfl rfl fun _ H396 => wl_ <| i_ H396 rfl (v := .int .i64 (nO + 1)) (dd_len rfl (H396.ev 82 rfl) Tryd.underlying45) fun _ H397 => wl_ <| i_ H397 rfl (v := .int .i64 nW) (dd_ari rfl (H397.ev 81 rfl) (H397.ev 83 rfl) rfl (by rw [i64_id _ (by omega) (by omega)]; omega)) fun _ H398 => wl_ <| i_ H398 rfl (dd_cmp rfl (H398.ev 79 rfl) (H398.ev 84 rfl) (ne_f rfl)) fun _ H399 => ?_
    clear H389 H391 H392 HS389 H393 H394 H395 H396 H397
    refine wl_ <| p_ H399 rfl rfl fun _ H400 => wl_ <| ig H400 (wg_ H400 rfl rfl rfl rfl) rfl (dd_mv rfl (H400.ev 5 rfl)) fun _ H401 => wl_ <| cg H401 (wg_ H401 rfl rfl rfl rfl) rfl HS393 (dcs Tryd.func19 rfl (args1 (H401.ev 87 rfl)) (quelen_any g24 _ _ _ W393 (HS393.row 0 rfl)) (.int .i64 nW)) fun _ HS402 _ H402 => wl_ <| ig H402 (wg_ H402 rfl rfl rfl rfl) rfl (dd_cmp rfl (H402.ev 88 rfl) rfl (gt_f (by omega))) fun _ H403 => wl_ <| p_ H403 rfl rfl fun _ H404 => ln_ <| ?_
    clear H398 H399 H400 H401 HS393 H402 H403
    have H405 := H404.sel [1, 0, 5, 8, 6, 7, 90] rfl
    refine nx <| cf_ H405 rfl <| wp_skip <| bn <| nx <| rl_ <| wl_ <| p_ H405 rfl rfl fun _ H406 => wl_ <| i_ H406 rfl (v := .int .i64 (i + 1)) (dd_ari rfl (H406.ev 29 rfl) rfl rfl (i64_of (by first | omega | (have := bd_lo; omega)) (by omega))) fun _ H407 => wl_ <| p_ H407 rfl rfl fun _ H408 => ln_ <| ?_
    clear H404 H405 H406 H407
    have hE409 : (Out ++ Wt) ++ [xi] = (Out ++ [y370h]) ++ ((Wt ++ [xi]).tail) := ((List.append_assoc _ _ _).trans (pop_eq hy370))
    refine nx ⟨i + 1, .inr (.inr (⟨(tl1 (some ⟨gq323, 0, none⟩) cq323), (cq323 - 1), gq323, cbq323, ((Wt ++ [xi]).tail), nW, g56_342, c56_342, cb56_342, (Out ++ [y370h]), (nO + 1), (nI + 1), g77_390, c77_390, cb77_390, (len_tl (len_snoc hW) (by omega)), (len_snoc hO), (by omega), ((HB.snoc (hbx _ (List.mem_of_getElem? hxi))).eq hE409), (fun W9 r9 => (ids_tl (ids_own r9 Oq323 (len_snoc hW)) (by omega))), (intsS O56_342 (by omega) hE409), (intsS O77_390 rfl rfl), H408.sel [1, 0, 5, 6, 7, 8] rfl, ss HS402 [0, 1, 5, 8]⟩)), (by omega)⟩
   refine wl_ <| c_ H319 rfl HS319 (dcs Tryd.func11 rfl (args2 (H319.ev 31 rfl) (H319.ev 37 rfl)) (queadd_full g24 _ _ _ _ _ _ W319 (HS319.row 0 rfl) (by omega) (by omega) (by omega)) (.int .i64 19)) fun W410 HS410 _ H410 => wl_ <| p_ H410 rfl rfl fun _ H411 => ln_ <| nx <| sq_ <| sq_ <| rl_ <| wl_ <| p_ H411 rfl rfl fun _ H412 => wl_ <| i_ H412 rfl (dd_cmp rfl (H412.ev 39 rfl) rfl (eq_f (by decide))) fun _ H413 => wl_ <| p_ H413 rfl rfl fun _ H414 => wl_ <| i_ H414 rfl (v := .int .i64 nI) (dd_len rfl (H414.ev 41 rfl) Tryd.underlying45) fun _ H415 => wl_ <| p_ H415 rfl rfl fun _ H416 => wl_ <| i_ H416 rfl (v := .int .i64 nO) (dd_len rfl (H416.ev 43 rfl) Tryd.underlying45) fun _ H417 => ?_
   clear H319 HS319 H410 H411 H412 H413 H414 H415
   refine wl_ <| i_ H417 rfl (v := .int .i64 nW) (dd_ari rfl (H417.ev 42 rfl) (H417.ev 44 rfl) rfl (by rw [i64_id _ (by omega) (by omega)]; omega)) fun _ H418 => wl_ <| i_ H418 rfl (dd_cmp rfl (H418.ev 45 rfl) rfl (lt_f hc321)) fun _ H419 => wl_ <| i_ H419 rfl (v := .bool false) (dd_neb rfl (H419.ev 40 rfl) (H419.ev 46 rfl) Tryd.underlying4 rfl) fun _ H420 => ln_ <| ?_
   clear H416 H417 H418 H419
   have H421 := H420.sel [1, 0, 5, 6, 7, 8, 9, 47] rfl
   refine nx <| cf_ H421 rfl <| wp_skip <| nx <| sq_ <| sq_ <| rl_ <| wl_ <| p_ H421 rfl rfl fun _ H422 => wl_ <| i_ H422 rfl (dd_cmp rfl (H422.ev 48 rfl) rfl (eq_f (by decide))) fun _ H423 => ln_ <| nx <| cf_ H423 rfl <| wp_skip <| nx <| sq_ <| sq_ <| rl_ <| q_ H423 2 rfl fun _ H424 => ?_
   clear H420 H421 H422 H423
   obtain ⟨yi, hyi⟩ : ∃ x, Y[i]? = some x := ⟨_, List.getElem?_eq_getElem (by rw [hY]; omega)⟩
   refine wl_ <| i_ H424 rfl (xSo 1 (o2 + i) rfl (H424.ev 57 rfl) (H424.ev 58 rfl)) fun _ H425 => ?_
   clear H424
   cases hb427 : yi
   ·
    refine wl_ <| i_ H425 rfl (v := .bool false) (dd_at rfl (H425.ev 59 rfl) ((HP _ HS410.below i _ hyi).trans (by rw [hb427])) Tryd.underlying4 rfl) fun _ H428 => ln_ <| nx <| cf_ H428 rfl <| wp_skip <| nx <| sq_ <| rl_ <| wl_ <| p_ H428 rfl rfl fun _ H429 => wl_ <| c_ H429 rfl HS410 (dcs Tryd.func19 rfl (args1 (H429.ev 78 rfl)) (quelen_any g24 _ _ _ W410 (HS410.row 0 rfl)) (.int .i64 nW)) fun W430 HS430 _ H430 => wl_ <| p_ H430 rfl rfl fun _ H431 => wl_ <| i_ H431 rfl (v := .int .i64 nI) (dd_len rfl (H431.ev 80 rfl) Tryd.underlying45) fun _ H432 => wl_ <| p_ H432 rfl rfl fun _ H433 => wl_ <| i_ H433 rfl (v := .int .i64 nO) (dd_len rfl (H433.ev 82 rfl) Tryd.underlying45) fun _ H434 => wl_ <| i_ H434 rfl (v := .int .i64 nW) (dd_ari rfl (H434.ev 81 rfl) (H434.ev 83 rfl) rfl (by rw [i64_id _ (by omega) (by omega)]; omega)) fun _ H435 => ?_
    clear H425 H428 H429 HS410 H430 H431 H432 H433
    refine wl_ <| i_ H435 rfl (dd_cmp rfl (H435.ev 79 rfl) (H435.ev 84 rfl) (ne_f rfl)) fun _ H436 => wl_ <| p_ H436 rfl rfl fun _ H437 => wl_ <| ig H437 (wg_ H437 rfl rfl rfl rfl) rfl (dd_mv rfl (H437.ev 5 rfl)) fun _ H438 => wl_ <| cg H438 (wg_ H438 rfl rfl rfl rfl) rfl HS430 (dcs Tryd.func19 rfl (args1 (H438.ev 87 rfl)) (quelen_any g24 _ _ _ W430 (HS430.row 0 rfl)) (.int .i64 nW)) fun _ HS439 _ H439 => wl_ <| ig H439 (wg_ H439 rfl rfl rfl rfl) rfl (dd_cmp rfl (H439.ev 88 rfl) rfl (gt_f (by omega))) fun _ H440 => wl_ <| p_ H440 rfl rfl fun _ H441 => ln_ <| ?_
    clear H434 H435 H436 H437 H438 HS430 H439 H440
    have H442 := H441.sel [1, 0, 5, 6, 7, 8, 90] rfl
    refine nx <| cf_ H442 rfl <| wp_skip <| bn <| nx <| rl_ <| wl_ <| p_ H442 rfl rfl fun _ H443 => wl_ <| i_ H443 rfl (v := .int .i64 (i + 1)) (dd_ari rfl (H443.ev 29 rfl) rfl rfl (i64_of (by first | omega | (have := bd_lo; omega)) (by omega))) fun _ H444 => wl_ <| p_ H444 rfl rfl fun _ H445 => ln_ <| ?_
    clear H441 H442 H443 H444
    have hE446 : Out ++ Wt = (Out) ++ (Wt) := rfl
    refine nx ⟨i + 1, .inr (.inr (⟨A9, c9, gw, cbw, Wt, nW, gin, cin, cbin, Out, nO, nI, gout, cout, cbout, hW, hO, (by omega), (HB.eq hE446), (fun W9 r9 => (HX _ r9)), (intsT Oin (by omega) hE446), Oout, H445.sel [1, 0, 5, 6, 7, 8] rfl, ss HS439 [0, 1, 2, 3]⟩)), (by omega)⟩
   refine wl_ <| i_ H425 rfl (v := .bool true) (dd_at rfl (H425.ev 59 rfl) ((HP _ HS410.below i _ hyi).trans (by rw [hb427])) Tryd.underlying4 rfl) fun _ H447 => ln_ <| nx <| ct_ H447 rfl <| sq_ <| rl_ <| wl_ <| p_ H447 rfl rfl fun _ H448 => ?_
   clear H425 H447
   refine wl_ <| d_ H448 rfl (R := fun v w9 => ∃ y450h, v = .tuple #[.agg (catA [[.int .i64 y450h], [.int .i64 1], [.string ⟨#[]⟩], [.int .i64 0], bytesV (zer 32)]), .bool true] ∧ (Wt = y450h :: (Wt).tail) ∧ Below W410.heap.size W410 w9) (dc_ Tryd.func18 rfl (args1 (H448.ev 62 rfl)) (quehead_ids g24 _ _ _ Wt W410 (HS410.row 0 rfl) (HX _ (HS410.row 1 rfl)) (by omega)) (fun _ w9 ⟨y9, hy9, he, hb⟩ => ⟨_, he, y9, rfl, hy9, hb⟩)) ?_
   rintro _ W449 ⟨y450h, rfl, hy450, hb449⟩ a449 H449
   have HS449 := HS410.same hb449
   clear H448
   clear HS410 hb449
   refine wl_ <| p_ H449 rfl rfl fun _ H451 => wl_ <| i_ H451 rfl (v := .agg (catA [[.int .i64 y450h], [.int .i64 1], [.string ⟨#[]⟩], [.int .i64 0], bytesV (zer 32)])) (dd_ext rfl (H451.ev 61 rfl) rfl) fun _ H452 => wl_ <| i_ H452 rfl (v := .bool true) (dd_ext rfl (H452.ev 61 rfl) rfl) fun _ H453 => wl_ <| n_ H453 rfl (fun _ h => dd_new HS449 (catA [[.int .i64 0], [.int .i64 0], [.string (⟨#[]⟩)], [.int .i64 0], bytesV (zer 32)]) rfl (z := .agg (catA [[.int .i64 0], [.int .i64 0], [.string (⟨#[]⟩)], [.int .i64 0], bytesV (zer 32)])) (by kernel_rfl) rfl h) fun g10 _ HS454 _ H454 => wl_ <| t_ rfl (fun _ h => dd_setrow HS454 5 rfl rfl (H454.ev 10 rfl) (H454.ev 64 rfl) (by kernel_rfl) ((cat_size (lens_cons rfl (lens_cons rfl (lens_cons rfl (lens_cons rfl (lens_cons (len_bv (length_zer 32)) (lens_nil))))))) : (catA [[.int .i64 y450h], [.int .i64 1], [.string ⟨#[]⟩], [.int .i64 0], bytesV (zer 32)]).size = 36) ((cat_size (lens_cons rfl (lens_cons rfl (lens_cons rfl (lens_cons rfl (lens_cons (len_bv (length_zer 32)) (lens_nil))))))) : (catA [[.int .i64 0], [.int .i64 0], [.string (⟨#[]⟩)], [.int .i64 0], bytesV (zer 32)]).size = 36) (cat_one (ones_cons (ones_c rfl) (ones_cons (ones_c rfl) (ones_cons (ones_c rfl) (ones_cons (ones_c rfl) (ones_cons (one_bytesV _) (ones_nil))))))) h) fun _ HS455 => wl_ <| p_ H454 rfl rfl fun _ H456 => ln_ <| nx <| sq_ <| sq_ <| rl_ <| wl_ <| p_ H456 rfl rfl fun _ H457 => wl_ <| i_ H457 rfl (v := .bool false) (dd_nt rfl (H457.ev 66 rfl) rfl) fun _ H458 => ?_
   clear H449 H451 H452 HS449 H453 HS454 H454 H456
   refine wl_ <| p_ H458 rfl rfl fun _ H459 => wl_ <| ig H459 (wg_ H459 rfl rfl rfl rfl) rfl (dd_mv rfl (H459.ev 5 rfl)) fun _ H460 => ?_
   clear H457 H458 H459
   refine wl_ <| dr_ H460 (wg_ H460 rfl rfl rfl rfl) rfl (R := fun v9 w9 => v9 = .bool true ∧ St w noF [⟨g24, 27, #[.slice (tl1 A9 c9) 3 (c9 - 1)]⟩, ⟨gw, 40, cbw⟩, ⟨gin, 3, cbin⟩, ⟨gout, 3, cbout⟩, ⟨g37, 40, catA [[.int .i64 xi], [.int .i64 1], [.string (⟨#[]⟩)], [.int .i64 0], bytesV (zer 32)]⟩, ⟨g10, 40, catA [[.int .i64 y450h], [.int .i64 1], [.string ⟨#[]⟩], [.int .i64 0], bytesV (zer 32)]⟩] w9) (dc_ Tryd.func13 rfl (args1 (H460.ev 69 rfl)) (quepop_S _ g24 _ nW c9 3 _ (ss HS455 [0]).frame (by omega)) (fun _ w9 ⟨he, hS⟩ => ⟨_, he, rfl, St.reframe (ss HS455 [0, 1, 2, 3, 4, 5]) hS⟩)) ?_
   rintro _ W461 ⟨rfl, HS461⟩ a461 H461
   clear H460 HS455
   refine wl_ <| ig H461 (wg_ H461 rfl rfl rfl rfl) rfl (v := .bool false) (dd_nt rfl (H461.ev 70 rfl) rfl) fun _ H462 => wl_ <| p_ H462 rfl rfl fun _ H463 => ln_ <| ?_
   clear H461 H462
   have H464 := H463.sel [1, 0, 5, 6, 7, 8, 10, 72] rfl
   refine nx <| cf_ H464 rfl <| wp_skip <| nx <| rl_ <| wl_ <| p_ H464 rfl rfl fun _ H465 => wl_ <| i_ H465 rfl (xf 0 0 rfl (H465.ev 10 rfl)) fun _ H466 => wl_ <| i_ H466 rfl (dd_get HS461 5 0 rfl rfl (H466.ev 74 rfl) (cat_get (lens_cons rfl (lens_cons rfl (lens_cons rfl (lens_cons rfl (lens_cons (len_bv (length_zer 32)) (lens_nil)))))) 0 rfl rfl) Tryd.underlying3 rfl) fun _ H467 => wl_ <| n_ H467 rfl (S := fun g76 => [⟨g24, 27, #[.slice (tl1 A9 c9) 3 (c9 - 1)]⟩, ⟨gw, 40, cbw⟩, ⟨gin, 3, cbin⟩, ⟨gout, 3, cbout⟩, ⟨g37, 40, catA [[.int .i64 xi], [.int .i64 1], [.string (⟨#[]⟩)], [.int .i64 0], bytesV (zer 32)]⟩, ⟨g10, 40, catA [[.int .i64 y450h], [.int .i64 1], [.string ⟨#[]⟩], [.int .i64 0], bytesV (zer 32)]⟩, ⟨g76, 3, #[.int .i64 y450h]⟩]) (fun _ h => dd_lits HS461 #[.int .i64 y450h] rfl (ps := [(0, .int .i64 y450h)]) (pr1 (H467.ev 75 rfl) (pr0)) (z := .int .i64 0) (sz := 1) Tryd.underlying45 (by kernel_rfl) rfl rfl (by kernel_rfl) h) fun g76 _ HS468 _ H468 => wl_ <| a_ H468 rfl (fun g77_470 c77_470 => .slice (some ⟨g77_470, 0, none⟩) (nO + 1) c77_470) (T := fun _ c77_470 cb77_470 => OwnC cb77_470 c77_470 (nO + 1) 1 ((intsV Out) ++ [.int .i64 y450h])) (fun _ h => dd_app HS468 3 rfl Oout rfl (H468.ev 73 rfl) (z := .int .i64 0) (bytes := 8) Tryd.underlying45 (by kernel_rfl) rfl (by decide) ([.int .i64 y450h]) (H468.ev 76 rfl) rfl (row_news (HS468.row 6 rfl) 0 (slab_whole _)) (ao_cons rfl ao_nil) (by unfold maxLen; omega) (by omega) h) fun g77_470 c77_470 cb77_470 W469 O77_470 HS469 _ H469 => wl_ <| p_ H469 rfl rfl fun _ H471 => ln_ <| nx <| sq_ <| rl_ <| wl_ <| p_ H471 rfl rfl fun _ H472 => wl_ <| c_ H472 rfl HS469 (dcs Tryd.func19 rfl (args1 (H472.ev 78 rfl)) (quelen_any g24 _ _ _ W469 (HS469.row 0 rfl)) (.int .i64 3)) fun W473 HS473 _ H473 => ?_
   clear H463 H464 H465 H466 HS461 H467 HS468 H468 H469 H471
   refine wl_ <| p_ H473 rfl rfl fun _ H474 => wl_ <| i_ H474 rfl (v := .int .i64 nI) (dd_len rfl (H474.ev 80 rfl) Tryd.underlying45) fun _ H475 => wl_ <| p_ H475 rfl rfl fun _ H476 => wl_ <| i_ H476 rfl (v := .int .i64 (nO + 1)) (dd_len rfl (H476.ev 82 rfl) Tryd.underlying45) fun _ H477 => wl_ <| i_ H477 rfl (v := .int .i64 3) (dd_ari rfl (H477.ev 81 rfl) (H477.ev 83 rfl) rfl (by rw [i64_id _ (by omega) (by omega)]; omega)) fun _ H478 => wl_ <| i_ H478 rfl (dd_cmp rfl (H478.ev 79 rfl) (H478.ev 84 rfl) (ne_f (by decide))) fun _ H479 => wl_ <| p_ H479 rfl rfl fun _ H480 => wl_ <| ig H480 (wg_ H480 rfl rfl rfl rfl) rfl (dd_mv rfl (H480.ev 5 rfl)) fun _ H481 => ?_
   clear H472 HS469 H473 H474 H475 H476 H477 H478 H479
   refine wl_ <| cg H481 (wg_ H481 rfl rfl rfl rfl) rfl HS473 (dcs Tryd.func19 rfl (args1 (H481.ev 87 rfl)) (quelen_any g24 _ _ _ W473 (HS473.row 0 rfl)) (.int .i64 3)) fun _ HS482 _ H482 => wl_ <| ig H482 (wg_ H482 rfl rfl rfl rfl) rfl (dd_cmp rfl (H482.ev 88 rfl) rfl (gt_f (by decide))) fun _ H483 => wl_ <| p_ H483 rfl rfl fun _ H484 => ln_ <| ?_
   clear H480 H481 HS473 H482 H483
   have H485 := H484.sel [1, 0, 5, 6, 8, 7, 90] rfl
   refine nx <| cf_ H485 rfl <| wp_skip <| bn <| nx <| rl_ <| wl_ <| p_ H485 rfl rfl fun _ H486 => wl_ <| i_ H486 rfl (v := .int .i64 (i + 1)) (dd_ari rfl (H486.ev 29 rfl) rfl rfl (i64_of (by first | omega | (have := bd_lo; omega)) (by omega))) fun _ H487 => wl_ <| p_ H487 rfl rfl fun _ H488 => ln_ <| ?_
   clear H484 H485 H486 H487
   have hE489 : Out ++ Wt = (Out ++ [y450h]) ++ ((Wt).tail) := (pop_eq hy450)
   refine nx ⟨i + 1, .inr (.inr (⟨(tl1 A9 c9), (c9 - 1), gw, cbw, ((Wt).tail), 3, gin, cin, cbin, (Out ++ [y450h]), (nO + 1), nI, g77_470, c77_470, cb77_470, (len_tl hW (by omega)), (len_snoc hO), (by omega), (HB.eq hE489), (fun W9 r9 => (ids_tl (HX _ r9) (by omega))), (intsT Oin (by omega) hE489), (intsS O77_470 rfl rfl), H488.sel [1, 0, 5, 6, 7, 8] rfl, ss HS482 [0, 1, 2, 6]⟩)), (by omega)⟩
  refine wl_ <| i_ H311 rfl (dd_cmp rfl (H311.ev 25 rfl) (H311.ev 27 rfl) (lt_f hc313)) fun _ H490 => ln_ <| nx <| cf_ H490 rfl <| wp_exit <| tx <| tx <| bx <| nx <| sq_ <| rl_ <| q_ H490 2 rfl fun _ H491 => ?_
  clear H311 H490
  by_cases hc493 : (nW : Int) = 0
  ·
   refine wl_ <| d_ H491 rfl (R := fun v9 w9 => v9 = .slice none 0 0 ∧ St w noF [⟨g24, 27, #[.slice none 0 0]⟩, ⟨gw, 40, cbw⟩, ⟨gin, 3, cbin⟩, ⟨gout, 3, cbout⟩] w9) (dc_ Tryd.func16 rfl (args1 (H491.ev 92 rfl)) (queclear_z0 _ g24 _ _ _ _ (ss HSL17 [0]).frame (by omega)) (fun _ w9 ⟨he, hS⟩ => ⟨_, he, rfl, St.reframe (ss HSL17 [0, 1, 2, 3]) hS⟩)) ?_
   rintro _ W494 ⟨rfl, HS494⟩ a494 H494
   clear H491 HSL17
   refine wl_ <| i_ H494 rfl (v := .slice (some ⟨gout, 0, none⟩) nO cout) (dd_appE (sz := 1) rfl (H494.ev 91 rfl) (H494.ev 93 rfl) Oout.le Tryd.underlying45 (by kernel_rfl)) fun _ H495 => wl_ <| p_ H495 rfl rfl fun _ H496 => wl_ <| c_ H496 rfl HS494 (v := .bool true) (dc_ Tryd.func15 rfl (args2 (H496.ev 94 rfl) (H496.ev 95 rfl)) (keepints_any Out (Out ++ Wt) _ _ _ _ _ _ W494 (ints_ownC (HS494.row 3 rfl) Oout HB.left) (ints_ownC (HS494.row 2 rfl) Oin HB) (by omega)) (fun _ w9 h9 => ⟨_, h9.1, by rw [decide_eq_true (out_all hW (by omega))], h9.2⟩)) fun W497 HS497 _ H497 => wl_ <| p_ H497 rfl rfl fun _ H498 => wl_ <| ig H498 (wg_ H498 rfl rfl rfl rfl) rfl (dd_mv rfl (H498.ev 5 rfl)) fun _ H499 => wl_ <| cg H499 (wg_ H499 rfl rfl rfl rfl) rfl HS497 (dcs Tryd.func19 rfl (args1 (H499.ev 98 rfl)) (quelen_any g24 _ _ _ W497 (HS497.row 0 rfl)) (.int .i64 0)) fun W500 HS500 _ H500 => wl_ <| ig H500 (wg_ H500 rfl rfl rfl rfl) rfl (dd_cmp rfl (H500.ev 99 rfl) rfl (eq_t (by decide))) fun _ H501 => q_ H501 2 rfl fun _ H502 => ?_
   clear H494 H495 H496 HS494 H497 H498 H499 HS497 H500
   refine wl_ <| cg H502 (wg_ H502 rfl rfl rfl rfl) rfl HS500 (dcs Tryd.func8 rfl (args0 ) (qwakes_any W500) (.bool true)) fun _ HS503 _ H503 => q_ H503 2 rfl fun _ H504 => ln_ <| ?_
   clear H501 H502 HS500 H503
   have H505 := H504.sel [4] rfl
   refine nx <| wp_ret <| ret_run H505.env0 (res_t Tryd.results5 (H505.get 4 rfl)) <| ?_
   clear H504
   exact ⟨rfl, HS503.below⟩
  refine wl_ <| d_ H491 rfl (R := fun v9 w9 => ∃ gi507 : Nat, ∃ ci507 : Nat, ∃ cbi507 : Array Value, v9 = .slice (some ⟨gi507, 0, none⟩) nW ci507 ∧ (OwnC cbi507 ci507 nW 1 (intsV Wt)) ∧ St w noF [⟨g24, 27, #[.slice none 0 0]⟩, ⟨gi507, 3, cbi507⟩, ⟨gw, 40, cbw⟩, ⟨gin, 3, cbin⟩, ⟨gout, 3, cbout⟩] w9) (dc_ Tryd.func16 rfl (args1 (H491.ev 92 rfl)) (queclear_ids _ g24 _ nW _ Wt _ (ss HSL17 [0]).frame (fun W9 k9 => (HX _ ((HSL17.row 1 rfl).chg k9 (nin_row (S1 := selB [⟨g24, 27, #[.slice A9 nW c9]⟩, ⟨gw, 40, cbw⟩, ⟨gin, 3, cbin⟩, ⟨gout, 3, cbout⟩] [0]) (ss HSL17 [0, 1, 2, 3]) 0 rfl)))) (by omega) (by omega)) (fun _ w9 ⟨g9, c9, cb9, he, hO, hS⟩ => ⟨_, he, g9, c9, cb9, rfl, hO, St.reframe (ss HSL17 [0, 1, 2, 3]) hS⟩)) ?_
  rintro _ W506 ⟨gi507, ci507, cbi507, rfl, Oi507, HS506⟩ a506 H506
  clear H491 HSL17
  refine wl_ <| a_ H506 rfl (fun g94_509 c94_509 => .slice (some ⟨g94_509, 0, none⟩) (nO + nW) c94_509) (T := fun _ c94_509 cb94_509 => OwnC cb94_509 c94_509 (nO + nW) 1 ((intsV Out) ++ intsV Wt)) (fun _ h => dd_app HS506 4 rfl Oout rfl (H506.ev 91 rfl) (z := .int .i64 0) (bytes := 8) Tryd.underlying45 (by kernel_rfl) rfl (by decide) (intsV Wt) (H506.ev 93 rfl) (by rw [len_intsV, Nat.mul_one]; exact hW) (row_news (HS506.row 1 rfl) 0 (ints_take Oi507)) (one_intsV _) (by unfold maxLen; omega) (by omega) h) fun g94_509 c94_509 cb94_509 W508 O94_509 HS508 _ H508 => wl_ <| p_ H508 rfl rfl fun _ H510 => wl_ <| c_ H510 rfl HS508 (v := .bool true) (dc_ Tryd.func15 rfl (args2 (H510.ev 94 rfl) (H510.ev 95 rfl)) (keepints_any (Out ++ Wt) (Out ++ Wt) _ _ _ _ _ _ W508 (ints_ownC (HS508.row 4 rfl) (intsA O94_509 rfl rfl) HB) (ints_ownC (HS508.row 3 rfl) Oin HB) (by omega)) (fun _ w9 h9 => ⟨_, h9.1, by rw [decide_eq_true rfl], h9.2⟩)) fun W511 HS511 _ H511 => wl_ <| p_ H511 rfl rfl fun _ H512 => wl_ <| ig H512 (wg_ H512 rfl rfl rfl rfl) rfl (dd_mv rfl (H512.ev 5 rfl)) fun _ H513 => wl_ <| cg H513 (wg_ H513 rfl rfl rfl rfl) rfl HS511 (dcs Tryd.func19 rfl (args1 (H513.ev 98 rfl)) (quelen_any g24 _ _ _ W511 (HS511.row 0 rfl)) (.int .i64 0)) fun W514 HS514 _ H514 => wl_ <| ig H514 (wg_ H514 rfl rfl rfl rfl) rfl (dd_cmp rfl (H514.ev 99 rfl) rfl (eq_t (by decide))) fun _ H515 => q_ H515 2 rfl fun _ H516 => ?_
  clear HS506 H506 H508 H510 HS508 H511 H512 H513 HS511 H514
  refine wl_ <| cg H516 (wg_ H516 rfl rfl rfl rfl) rfl HS514 (dcs Tryd.func8 rfl (args0 ) (qwakes_any W514) (.bool true)) fun _ HS517 _ H517 => q_ H517 2 rfl fun _ H518 => ln_ <| ?_
  clear H515 H516 HS514 H517
  have H519 := H518.sel [4] rfl
  refine nx <| wp_ret <| ret_run H519.env0 (res_t Tryd.results5 (H519.get 4 rfl)) <| ?_
  clear H518
  exact ⟨rfl, HS517.below⟩
theorem quord_any (A A2 : Option Addr) (n c m c2 : Nat) (X : List Int) (Y : List Bool) (w : World) (hi : IntsAt w (.slice A n c) X) (hp : BoolsAt w (.slice A2 m c2) Y) : Calls Tryd.prog 5 #[.slice A n c, .slice A2 m c2] w fun x w' => x = .returned (.bool true) ∧ Below w.heap.size w w' := by
  by_cases h : n ≤ 100 ∧ n ≤ m
  · by_cases h0 : n = 0
    · subst h0
      exact quord_zero A A2 c m c2 w
    · have hl := ints_len hi
      obtain ⟨hl2, _⟩ := bools_len hp
      obtain ⟨b, o, _, _, rfl, _⟩ := ints_get hi (k := 0) (by omega)
      obtain ⟨b2, o2, _, _, rfl, _⟩ := bools_get hp (k := 0) (by omega)
      exact quord_walk b o n c b2 o2 m c2 X Y w (by omega) h.1 h.2 hl hl2 hi.bnds (fun W hb => hi.cells hb) (fun W hb => hp.cells hb)
  · exact quord_out A A2 n c m c2 w h
end Go.Proofs.YtnmaplgodimohaaDoor

/- The statement QueueOrder, of numbers and choices as they are handed in. -/
set_option maxRecDepth 4000
namespace Go.Proofs.YtnmaplgodimohaaDoor
open Go Go.RowKit
theorem quord_all (A : Option Addr) (n c : Nat) (X : List Int) (A2 : Option Addr) (m c2 : Nat) (Y : List Bool) (w : World) (hi : IntsAt w (.slice A n c) X) (hp : BoolsAt w (.slice A2 m c2) Y) : Calls Tryd.prog 5 #[.slice A n c, .slice A2 m c2] w fun x w' => x = .returned (.bool true) ∧ Below w.heap.size w w' := quord_any A A2 n c m c2 X Y w hi hp
end Go.Proofs.YtnmaplgodimohaaDoor

/- Slices of numbers and of choices as arguments: opened. No function of the program is named here. -/
set_option maxRecDepth 4000
namespace Go.Proofs.YtnmaplgodimohaaDoor
open Go Go.ChangeShapes Go.WideShapes Go.ChangeAt Go.RowKit
theorem cellsOI : Tryd.prog.cellsOf 3 = 1 := by kernel_rfl
theorem cellsOB : Tryd.prog.cellsOf 4 = 1 := by kernel_rfl
theorem open_ids {H : Type} {enc : TypeId × Value → H} {W : World} {r : Reach} {base : Nat} {v : Value} {d : DataW H} {ps : List MemPlace} (hval : Value.okWide Tryd.prog W r base 45 v)
    (h : DataW.Trod enc Tryd.prog W 0 (fun _ => true) true 45 v d ps) (hlt : ∀ x ∈ ps, x.block < W.heap.size) : ∃ A n c l, v = .slice A n c ∧ IntsAt W (.slice A n c) l := by
  obtain ⟨A, c, l, e, hx⟩ := open_argSl Tryd.underlying45 (opens_sl Tryd.underlying45 cellsOI (by decide) (opens_int Tryd.underlying3)) hval h hlt
  exact ⟨A, _, c, l, e, hx⟩
theorem open_pops {H : Type} {enc : TypeId × Value → H} {W : World} {r : Reach} {base : Nat} {v : Value} {d : DataW H} {ps : List MemPlace} (hval : Value.okWide Tryd.prog W r base 58 v)
    (h : DataW.Trod enc Tryd.prog W 0 (fun _ => true) true 58 v d ps) (hlt : ∀ x ∈ ps, x.block < W.heap.size) : ∃ A n c l, v = .slice A n c ∧ BoolsAt W (.slice A n c) l := by
  obtain ⟨A, c, l, e, hx⟩ := open_argSl Tryd.underlying58 (opens_sl Tryd.underlying58 cellsOB (by decide) (opens_bool Tryd.underlying4)) hval h hlt
  exact ⟨A, _, c, l, e, hx⟩
end Go.Proofs.YtnmaplgodimohaaDoor
