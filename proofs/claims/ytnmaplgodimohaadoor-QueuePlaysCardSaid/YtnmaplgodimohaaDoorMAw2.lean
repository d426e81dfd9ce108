/- Merged: QueFn QueZero QueWk QueWl QueRep QueRef QueIds QueSteps QuNone QuPlay. -/
import Derived.Laws.StructEq
import Derived.Test.YtnmaplgodimohaaDoorMAw1
import Derived.Test.YtnmaplgodimohaaDoorMGen0
/- What waits: its functions. -/
set_option maxRecDepth 4000
namespace Go.Proofs.YtnmaplgodimohaaDoor
open Go Go.RowKit
theorem quelen_any (g : Nat) (A : Option Addr) (n c : Nat) (w : World) (hr : Row w g 27 #[.slice A n c]) : Calls Tryd.prog 19 #[.pointer (some ⟨g, 0, none⟩)] w fun x w' => x = .returned (.int .i64 (n : Int)) ∧ Below w.heap.size w w' := by
  have HS := St.nil w noF
  have HR : ∀ W, Below w.heap.size w W → Row W g 27 #[.slice A n c] := fun W hb => hr.call hb
  refine enter_en Tryd.func19 rfl Tryd.ntmps19 (Nat.le_of_ble_eq_true rfl) fun a0 (HA0 : En 10 [(0, .pointer (some ⟨g, 0, none⟩))] a0) => ?_
  refine sq_ <| rl_ <| wl_ <| p_ HA0 rfl rfl fun _ H1 => ln_ <| nx <| sq_ <| sq_ <| rl_ <| wl_ <| p_ H1 rfl rfl fun _ H2 => wl_ <| i_ H2 rfl (v := .bool false) (dd_eqp rfl (H2.ev 3 rfl) rfl Tryd.underlying24 rfl) fun _ H3 => ln_ <| nx <| cf_ H3 rfl <| wp_skip <| nx <| sq_ <| rl_ <| wl_ <| p_ H3 rfl rfl fun _ H4 => wl_ <| i_ H4 rfl (dd_nilc rfl (H4.ev 5 rfl)) fun _ H5 => wl_ <| i_ H5 rfl (xf 0 0 rfl (H5.ev 6 rfl)) fun _ H6 => wl_ <| i_ H6 rfl (dd_getR (HR _ HS.below) rfl (H6.ev 7 rfl) rfl Tryd.underlying25 rfl) fun _ H7 => wl_ <| i_ H7 rfl (v := .int .i64 n) (dd_len rfl (H7.ev 8 rfl) Tryd.underlying25) fun _ H8 => ?_
  clear HA0 H1 H2 H3 H4 H5 H6
  refine wl_ <| p_ H8 rfl rfl fun _ H9 => ln_ <| nx <| wp_ret <| ret_run H9.env0 (res_t Tryd.results19 (H9.get 2 rfl)) <| ?_
  clear H7 H8
  exact ⟨rfl, HS.below⟩
theorem quehead_some (g b o n c : Nat) (X : List It) (w : World) (hr : Row w g 27 #[.slice (some ⟨b, o, none⟩) n c]) (hi : ItemsAt w (some ⟨b, o, none⟩) n c X) (h0 : CAt w b o (itemsL X)) (hn : 0 < n) : Calls Tryd.prog 18 #[.pointer (some ⟨g, 0, none⟩)] w fun x w' => ∃ y, X[0]? = some y ∧ x = .returned (.tuple #[.agg (catA [[.int .i64 y.1], [.int .i64 y.2.1], [.string (strB y.2.2.1)], [.int .i64 y.2.2.2.1], bytesV y.2.2.2.2]), .bool true]) ∧ Below w.heap.size w w' := by
  have HS := St.nil w noF
  have HR : ∀ W, Below w.heap.size w W → Row W g 27 #[.slice (some ⟨b, o, none⟩) n c] := fun W hb => hr.call hb
  have HE : ∀ W, Below w.heap.size w W → CAt W b o (itemsL X) := fun W hb => h0.call hb
  refine enter_en Tryd.func18 rfl Tryd.ntmps18 (Nat.le_of_ble_eq_true rfl) fun a0 (HA0 : En 14 [(0, .pointer (some ⟨g, 0, none⟩))] a0) => ?_
  refine sq_ <| rl_ <| wl_ <| n_ HA0 rfl (fun _ h => dd_new HS (catA [[.int .i64 0], [.int .i64 0], [.string (⟨#[]⟩)], [.int .i64 0], bytesV (zer 32)]) rfl (z := .agg (catA [[.int .i64 0], [.int .i64 0], [.string (⟨#[]⟩)], [.int .i64 0], bytesV (zer 32)])) (by kernel_rfl) rfl h) fun _ W1 HS1 _ H1 => wl_ <| p_ H1 rfl rfl fun _ H2 => ln_ <| nx <| sq_ <| sq_ <| rl_ <| wl_ <| p_ H2 rfl rfl fun _ H3 => wl_ <| c_ H3 rfl HS1 (dcs Tryd.func19 rfl (args1 (H3.ev 4 rfl)) (quelen_any g _ _ _ W1 (HR _ HS1.below)) (.int .i64 n)) fun _ HS4 _ H4 => wl_ <| i_ H4 rfl (dd_cmp rfl (H4.ev 5 rfl) rfl (eq_f (by omega))) fun _ H5 => ln_ <| nx <| cf_ H5 rfl <| wp_skip <| nx <| sq_ <| rl_ <| wl_ <| p_ H5 rfl rfl fun _ H6 => wl_ <| i_ H6 rfl (dd_nilc rfl (H6.ev 8 rfl)) fun _ H7 => wl_ <| i_ H7 rfl (xf 0 0 rfl (H7.ev 9 rfl)) fun _ H8 => ?_
  clear HS HA0 H1 H2 H3 HS1 H4 H5 H6
  refine wl_ <| i_ H8 rfl (dd_getR (HR _ HS4.below) rfl (H8.ev 10 rfl) rfl Tryd.underlying25 rfl) fun _ H9 => wl_ <| i_ H9 rfl (xSo 36 (o + 0 * 36) rfl (H9.ev 11 rfl) rfl) fun _ H10 => ?_
  clear H7 H8 H9
  obtain ⟨x0, hx0⟩ : ∃ x, X[0]? = some x := ⟨_, List.getElem?_eq_getElem (by rw [hi.len]; omega)⟩
  have hw0 := hi.wf x0 (List.mem_of_getElem? hx0)
  refine wl_ <| i_ H10 rfl (v := .agg (catA [[.int .i64 x0.1], [.int .i64 x0.2.1], [.string (strB x0.2.2.1)], [.int .i64 x0.2.2.2.1], bytesV x0.2.2.2.2])) (dd_atN rfl (H10.ev 12 rfl) (item_all (HE _ HS4.below) hi.wf hx0) Tryd.underlying40 rfl (by show _ = some (catA [[.int .i64 x0.1], [.int .i64 x0.2.1], [.string (strB x0.2.2.1)], [.int .i64 x0.2.2.2.1], bytesV x0.2.2.2.2]).toList.length; rw [show (catA [[.int .i64 x0.1], [.int .i64 x0.2.1], [.string (strB x0.2.2.1)], [.int .i64 x0.2.2.2.1], bytesV x0.2.2.2.2]).toList.length = 36 from (Array.length_toList).trans (cat_size (lens_cons rfl (lens_cons rfl (lens_cons rfl (lens_cons rfl (lens_cons (len_bv hw0) (lens_nil)))))))]; kernel_rfl)) fun _ H11 => wl_ <| t_ rfl (fun _ h => dd_setrow HS4 0 rfl rfl (H11.ev 2 rfl) (H11.ev 13 rfl) (by kernel_rfl) ((cat_size (lens_cons rfl (lens_cons rfl (lens_cons rfl (lens_cons rfl (lens_cons (len_bv hw0) (lens_nil))))))) : (catA [[.int .i64 x0.1], [.int .i64 x0.2.1], [.string (strB x0.2.2.1)], [.int .i64 x0.2.2.2.1], bytesV x0.2.2.2.2]).size = 36) ((cat_size (lens_cons rfl (lens_cons rfl (lens_cons rfl (lens_cons rfl (lens_cons (len_bv (length_zer 32)) (lens_nil))))))) : (catA [[.int .i64 0], [.int .i64 0], [.string (⟨#[]⟩)], [.int .i64 0], bytesV (zer 32)]).size = 36) (cat_one (ones_cons (ones_c rfl) (ones_cons (ones_c rfl) (ones_cons (ones_c rfl) (ones_cons (ones_c rfl) (ones_cons (one_bytesV _) (ones_nil))))))) h) fun _ HS12 => wl_ <| p_ H11 rfl rfl fun _ H13 => ln_ <| nx <| wp_ret <| ret_run H13.env0 (res_ct Tryd.results18 (H13.get 2 rfl) (HS12.row 0 rfl) Tryd.underlying40 rfl (by rw [show (catA [[.int .i64 x0.1], [.int .i64 x0.2.1], [.string (strB x0.2.2.1)], [.int .i64 x0.2.2.2.1], bytesV x0.2.2.2.2]).size = 36 from (cat_size (lens_cons rfl (lens_cons rfl (lens_cons rfl (lens_cons rfl (lens_cons (len_bv hw0) (lens_nil)))))))]; kernel_rfl) (H13.get 3 rfl)) <| ?_
  clear H10 HS4 H11
  exact ⟨x0, hx0, rfl, HS12.below⟩
theorem quehead_none (g : Nat) (A : Option Addr) (c : Nat) (w : World) (hr : Row w g 27 #[.slice A 0 c]) : Calls Tryd.prog 18 #[.pointer (some ⟨g, 0, none⟩)] w fun x w' => x = .returned (.tuple #[.agg (catA [[.int .i64 0], [.int .i64 0], [.string ⟨#[]⟩], [.int .i64 0], bytesV (zer 32)]), .bool false]) ∧ Below w.heap.size w w' := by
  have HS := St.nil w noF
  have HR : ∀ W, Below w.heap.size w W → Row W g 27 #[.slice A 0 c] := fun W hb => hr.call hb
  refine enter_en Tryd.func18 rfl Tryd.ntmps18 (Nat.le_of_ble_eq_true rfl) fun a0 (HA0 : En 14 [(0, .pointer (some ⟨g, 0, none⟩))] a0) => ?_
  refine sq_ <| rl_ <| wl_ <| n_ HA0 rfl (fun _ h => dd_new HS (catA [[.int .i64 0], [.int .i64 0], [.string (⟨#[]⟩)], [.int .i64 0], bytesV (zer 32)]) rfl (z := .agg (catA [[.int .i64 0], [.int .i64 0], [.string (⟨#[]⟩)], [.int .i64 0], bytesV (zer 32)])) (by kernel_rfl) rfl h) fun _ W1 HS1 _ H1 => wl_ <| p_ H1 rfl rfl fun _ H2 => ln_ <| nx <| sq_ <| sq_ <| rl_ <| wl_ <| p_ H2 rfl rfl fun _ H3 => wl_ <| c_ H3 rfl HS1 (dcs Tryd.func19 rfl (args1 (H3.ev 4 rfl)) (quelen_any g _ _ _ W1 (HR _ HS1.below)) (.int .i64 0)) fun _ HS4 _ H4 => wl_ <| i_ H4 rfl (dd_cmp rfl (H4.ev 5 rfl) rfl (eq_t (by decide))) fun _ H5 => ln_ <| nx <| ct_ H5 rfl <| sq_ <| rl_ <| wl_ <| i_ H5 rfl (v := .agg (catA [[.int .i64 0], [.int .i64 0], [.string (⟨#[]⟩)], [.int .i64 0], bytesV (zer 32)])) (dd_bld rfl (ps := []) (pr0) (Lz := [[.int .i64 0], [.int .i64 0], [.string (⟨#[]⟩)], [.int .i64 0], bytesV (zer 32)]) (by kernel_rfl) (lens_cons rfl (lens_cons rfl (lens_cons rfl (lens_cons rfl (lens_cons (len_bv (length_zer 32)) (lens_nil)))))) (fit_nil) (cs := catA [[.int .i64 0], [.int .i64 0], [.string (⟨#[]⟩)], [.int .i64 0], bytesV (zer 32)]) rfl) fun _ H6 => wl_ <| t_ rfl (fun _ h => dd_setrow HS4 0 rfl rfl (H6.ev 2 rfl) (H6.ev 7 rfl) (by kernel_rfl) ((cat_size (lens_cons rfl (lens_cons rfl (lens_cons rfl (lens_cons rfl (lens_cons (len_bv (length_zer 32)) (lens_nil))))))) : (catA [[.int .i64 0], [.int .i64 0], [.string (⟨#[]⟩)], [.int .i64 0], bytesV (zer 32)]).size = 36) ((cat_size (lens_cons rfl (lens_cons rfl (lens_cons rfl (lens_cons rfl (lens_cons (len_bv (length_zer 32)) (lens_nil))))))) : (catA [[.int .i64 0], [.int .i64 0], [.string (⟨#[]⟩)], [.int .i64 0], bytesV (zer 32)]).size = 36) (cat_one (ones_cons (ones_c rfl) (ones_cons (ones_c rfl) (ones_cons (ones_c rfl) (ones_cons (ones_c rfl) (ones_cons (one_bytesV _) (ones_nil))))))) h) fun _ HS7 => wl_ <| p_ H6 rfl rfl fun _ H8 => ?_
  clear HS HA0 H1 H2 H3 HS1 H4 H5 HS4
  refine ln_ <| nx <| wp_ret <| tr <| ret_run H8.env0 (res_ct Tryd.results18 (H8.get 2 rfl) (HS7.row 0 rfl) Tryd.underlying40 rfl (by rw [show (catA [[.int .i64 0], [.int .i64 0], [.string (⟨#[]⟩)], [.int .i64 0], bytesV (zer 32)]).size = 36 from (cat_size (lens_cons rfl (lens_cons rfl (lens_cons rfl (lens_cons rfl (lens_cons (len_bv (length_zer 32)) (lens_nil)))))))]; kernel_rfl) (H8.get 3 rfl)) <| ?_
  clear H6
  exact ⟨rfl, HS7.below⟩
theorem quepop_some (F : Nat → Prop) (g b o n c : Nat) (w : World) (HS : St w F [⟨g, 27, #[.slice (some ⟨b, o, none⟩) n c]⟩] w) (hn : 0 < n) (hc : 1 < c) (_ : n ≤ c) : Calls Tryd.prog 13 #[.pointer (some ⟨g, 0, none⟩)] w fun x w' => x = .returned (.bool true) ∧ St w F [⟨g, 27, #[.slice (some ⟨b, o + 36, none⟩) (n - 1) (c - 1)]⟩] w' := by
  refine enter_en Tryd.func13 rfl Tryd.ntmps13 (Nat.le_of_ble_eq_true rfl) fun a0 (HA0 : En 14 [(0, .pointer (some ⟨g, 0, none⟩))] a0) => ?_
  refine sq_ <| rl_ <| wl_ <| p_ HA0 rfl rfl fun _ H1 => ln_ <| nx <| sq_ <| sq_ <| rl_ <| wl_ <| p_ H1 rfl rfl fun _ H2 => wl_ <| c_ H2 rfl HS (dcs Tryd.func19 rfl (args1 (H2.ev 3 rfl)) (quelen_any g _ _ _ w (HS.row 0 rfl)) (.int .i64 n)) fun _ HS3 _ H3 => wl_ <| i_ H3 rfl (dd_cmp rfl (H3.ev 4 rfl) rfl (eq_f (by omega))) fun _ H4 => ln_ <| nx <| cf_ H4 rfl <| wp_skip <| nx <| sq_ <| rl_ <| q_ H4 2 rfl fun _ H5 => wl_ <| i_ H5 rfl (dd_nilc rfl (H5.ev 7 rfl)) fun _ H6 => wl_ <| i_ H6 rfl (xf 0 0 rfl (H6.ev 8 rfl)) fun _ H7 => wl_ <| i_ H7 rfl (dd_get HS3 0 0 rfl rfl (H7.ev 9 rfl) rfl Tryd.underlying25 rfl) fun _ H8 => ?_
  clear HA0 H1 H2 HS H3 H4 H5 H6
  refine wl_ <| i_ H8 rfl (v := .slice (some ⟨b, o + 36, none⟩) (n - 1) (c - 1)) (dd_sll (l := 1) (sz := 36) (j := o + 36) (n' := n - 1) (c' := c - 1) rfl (H8.ev 10 rfl) rfl (by kernel_rfl) (by omega) (by omega) rfl rfl rfl) fun _ H9 => wl_ <| i_ H9 rfl (dd_nilc rfl (H9.ev 6 rfl)) fun _ H10 => wl_ <| i_ H10 rfl (xf 0 0 rfl (H10.ev 12 rfl)) fun _ H11 => wl_ <| t_ rfl (fun _ h => dd_put (cs := #[.slice (some ⟨b, o + 36, none⟩) (n - 1) (c - 1)]) HS3 0 0 rfl rfl (H11.ev 13 rfl) (H11.ev 11 rfl) (by kernel_rfl) rfl rfl rfl rfl h) fun _ HS12 => ln_ <| nx <| sq_ <| rl_ <| wl_ <| p_ H11 rfl rfl fun _ H13 => ln_ <| nx <| wp_ret <| ret_run H13.env0 (res_t Tryd.results13 (H13.get 2 rfl)) <| ?_
  clear H7 H8 H9 H10 HS3 H11
  exact ⟨rfl, ss HS12 [0]⟩
theorem quepop_none (g : Nat) (A : Option Addr) (c : Nat) (w : World) (hr : Row w g 27 #[.slice A 0 c]) : Calls Tryd.prog 13 #[.pointer (some ⟨g, 0, none⟩)] w fun x w' => x = .returned (.bool false) ∧ Below w.heap.size w w' := by
  have HS := St.nil w noF
  have HR : ∀ W, Below w.heap.size w W → Row W g 27 #[.slice A 0 c] := fun W hb => hr.call hb
  refine enter_en Tryd.func13 rfl Tryd.ntmps13 (Nat.le_of_ble_eq_true rfl) fun a0 (HA0 : En 14 [(0, .pointer (some ⟨g, 0, none⟩))] a0) => ?_
  refine sq_ <| rl_ <| wl_ <| p_ HA0 rfl rfl fun _ H1 => ln_ <| nx <| sq_ <| sq_ <| rl_ <| wl_ <| p_ H1 rfl rfl fun _ H2 => wl_ <| c_ H2 rfl HS (dcs Tryd.func19 rfl (args1 (H2.ev 3 rfl)) (quelen_any g _ _ _ w (HR _ HS.below)) (.int .i64 0)) fun _ HS3 _ H3 => wl_ <| i_ H3 rfl (dd_cmp rfl (H3.ev 4 rfl) rfl (eq_t (by decide))) fun _ H4 => ln_ <| nx <| ct_ H4 rfl <| sq_ <| rl_ <| wl_ <| p_ H4 rfl rfl fun _ H5 => ln_ <| nx <| wp_ret <| tr <| ret_run H5.env0 (res_t Tryd.results13 (H5.get 2 rfl)) <| ?_
  clear HA0 H1 H2 HS H3 H4
  exact ⟨rfl, HS3.below⟩
theorem queadd_full (g : Nat) (A B : Option Addr) (n c m d : Nat) (w : World) (hr : Row w g 27 #[.slice A n c]) (hf : 4 < n + m) (hn : n ≤ 1000) (_ : m ≤ 1000000000) : Calls Tryd.prog 11 #[.pointer (some ⟨g, 0, none⟩), .slice B m d] w fun x w' => x = .returned (.int .i64 19) ∧ Below w.heap.size w w' := by
  have HS := St.nil w noF
  have HR : ∀ W, Below w.heap.size w W → Row W g 27 #[.slice A n c] := fun W hb => hr.call hb
  refine enter_en Tryd.func11 rfl Tryd.ntmps11 (Nat.le_of_ble_eq_true rfl) fun a0 (HA0 : En 26 [(0, .pointer (some ⟨g, 0, none⟩)), (1, .slice B m d)] a0) => ?_
  refine sq_ <| rl_ <| wl_ <| p_ HA0 rfl rfl fun _ H1 => ln_ <| nx <| sq_ <| sq_ <| rl_ <| wl_ <| p_ H1 rfl rfl fun _ H2 => wl_ <| i_ H2 rfl (v := .bool false) (dd_eqp rfl (H2.ev 5 rfl) rfl Tryd.underlying24 rfl) fun _ H3 => ln_ <| nx <| cf_ H3 rfl <| wp_skip <| nx <| sq_ <| sq_ <| rl_ <| wl_ <| p_ H3 rfl rfl fun _ H4 => wl_ <| i_ H4 rfl (v := .int .i64 m) (dd_len rfl (H4.ev 7 rfl) Tryd.underlying25) fun _ H5 => wl_ <| p_ H5 rfl rfl fun _ H6 => wl_ <| i_ H6 rfl (dd_nilc rfl (H6.ev 9 rfl)) fun _ H7 => wl_ <| i_ H7 rfl (xf 0 0 rfl (H7.ev 10 rfl)) fun _ H8 => ?_
  clear HA0 H1 H2 H3 H4 H5 H6
  refine wl_ <| i_ H8 rfl (dd_getR (HR _ HS.below) rfl (H8.ev 11 rfl) rfl Tryd.underlying25 rfl) fun _ H9 => wl_ <| i_ H9 rfl (v := .int .i64 n) (dd_len rfl (H9.ev 12 rfl) Tryd.underlying25) fun _ H10 => wl_ <| i_ H10 rfl (v := .int .i64 (4 - (n : Int))) (dd_ari rfl rfl (H10.ev 13 rfl) rfl (i64_of (by omega) (by omega))) fun _ H11 => wl_ <| i_ H11 rfl (dd_cmp rfl (H11.ev 8 rfl) (H11.ev 14 rfl) (gt_t (by omega))) fun _ H12 => ln_ <| nx <| ct_ H12 rfl <| sq_ <| rl_ <| wl_ <| p_ H12 rfl rfl fun _ H13 => ln_ <| nx <| wp_ret <| tr <| ret_run H13.env0 (res_t Tryd.results11 (H13.get 4 rfl)) <| ?_
  clear H7 H8 H9 H10 H11 H12
  exact ⟨rfl, HS.below⟩
set_option maxHeartbeats 800000 in
theorem queadd_some (F : Nat → Prop) (g : Nat) (A B : Option Addr) (n c m d : Nat) (X Y : List It) (w : World) (HS : St w F [⟨g, 27, #[.slice A n c]⟩] w) (H1 : ∀ W, Chg F w W → ItemsAt W A n c X) (H2 : ∀ W, Chg F w W → ItemsAt W B m d Y) (hf : n + m ≤ 4) (h0 : 0 < n + m) : Calls Tryd.prog 11 #[.pointer (some ⟨g, 0, none⟩), .slice B m d] w fun x w' => ∃ g' c' cb', x = .returned (.int .i64 0) ∧ OwnC cb' c' (n + m) 36 (itemsL (X ++ Y)) ∧ St w F [⟨g, 27, #[.slice (some ⟨g', 0, none⟩) (n + m) c']⟩, ⟨g', 40, cb'⟩] w' := by
  refine enter_en Tryd.func11 rfl Tryd.ntmps11 (Nat.le_of_ble_eq_true rfl) fun a0 (HA0 : En 26 [(0, .pointer (some ⟨g, 0, none⟩)), (1, .slice B m d)] a0) => ?_
  refine sq_ <| rl_ <| wl_ <| p_ HA0 rfl rfl fun _ H1 => ln_ <| nx <| sq_ <| sq_ <| rl_ <| wl_ <| p_ H1 rfl rfl fun _ H2 => wl_ <| i_ H2 rfl (v := .bool false) (dd_eqp rfl (H2.ev 5 rfl) rfl Tryd.underlying24 rfl) fun _ H3 => ln_ <| nx <| cf_ H3 rfl <| wp_skip <| nx <| sq_ <| sq_ <| rl_ <| wl_ <| p_ H3 rfl rfl fun _ H4 => wl_ <| i_ H4 rfl (v := .int .i64 m) (dd_len rfl (H4.ev 7 rfl) Tryd.underlying25) fun _ H5 => wl_ <| p_ H5 rfl rfl fun _ H6 => wl_ <| i_ H6 rfl (dd_nilc rfl (H6.ev 9 rfl)) fun _ H7 => wl_ <| i_ H7 rfl (xf 0 0 rfl (H7.ev 10 rfl)) fun _ H8 => ?_
  clear HA0 H1 H2 H3 H4 H5 H6
  refine wl_ <| i_ H8 rfl (dd_get HS 0 0 rfl rfl (H8.ev 11 rfl) rfl Tryd.underlying25 rfl) fun _ H9 => wl_ <| i_ H9 rfl (v := .int .i64 n) (dd_len rfl (H9.ev 12 rfl) Tryd.underlying25) fun _ H10 => wl_ <| i_ H10 rfl (v := .int .i64 (4 - (n : Int))) (dd_ari rfl rfl (H10.ev 13 rfl) rfl (i64_of (by omega) (by omega))) fun _ H11 => wl_ <| i_ H11 rfl (dd_cmp rfl (H11.ev 8 rfl) (H11.ev 14 rfl) (gt_f (by omega))) fun _ H12 => ln_ <| nx <| cf_ H12 rfl <| wp_skip <| nx <| sq_ <| rl_ <| q_ H12 2 rfl fun _ H13 => wl_ <| i_ H13 rfl (dd_nilc rfl (H13.ev 17 rfl)) fun _ H14 => wl_ <| i_ H14 rfl (xf 0 0 rfl (H14.ev 18 rfl)) fun _ H15 => wl_ <| i_ H15 rfl (dd_get HS 0 0 rfl rfl (H15.ev 19 rfl) rfl Tryd.underlying25 rfl) fun _ H16 => ?_
  clear H7 H8 H9 H10 H11 H12 H13 H14
  refine wl_ <| p_ H16 rfl rfl fun _ H17 => wl_ <| n_ H17 rfl (fun _ h => dd_lits HS #[.slice A n c, .slice B m d] rfl (ps := [(0, .slice A n c), (1, .slice B m d)]) (pr1 (H17.ev 20 rfl) (pr1 (H17.ev 21 rfl) (pr0))) (z := .slice none 0 0) (sz := 1) Tryd.underlying71 (by kernel_rfl) rfl rfl (by kernel_rfl) h) fun g22 W18 HS18 _ H18 => ?_
  clear H15 H16 HS H17
  refine wl_ <| d_ H18 rfl (R := fun v w9 => ∃ gc20 cc20 cbc20, v = .slice (some ⟨gc20, 0, none⟩) (n + m) cc20 ∧ (W18.heap.size ≤ gc20) ∧ (Row w9 gc20 40 cbc20) ∧ (OwnC cbc20 cc20 (n + m) 36 (itemsL (X ++ Y))) ∧ Below W18.heap.size W18 w9) (dc_ Tryd.func23 rfl (args1 (H18.ev 22 rfl)) (concatQ_any _ _ _ _ _ _ _ X Y W18 (HS18.row 1 rfl) (H1 _ HS18.chg) (H2 _ HS18.chg) (by omega) (by omega) (by omega)) (fun _ w9 ⟨g9, c9, cb9, he, h1, h2, h3, hb⟩ => ⟨_, he, g9, c9, cb9, rfl, h1, h2, h3, hb⟩)) ?_
  rintro _ W19 ⟨gc20, cc20, cbc20, rfl, hg20, hr20, Oc20, hb19⟩ a19 H19
  have HS19 := HS18.same hb19
  clear H18
  have HS19j : St w F [⟨g, 27, #[.slice A n c]⟩, ⟨g22, 25, #[.slice A n c, .slice B m d]⟩, ⟨gc20, 40, cbc20⟩] W19 := HS18.joins hb19 hr20 hg20
  clear HS19 hr20 hg20
  clear HS18 hb19
  refine wl_ <| i_ H19 rfl (dd_nilc rfl (H19.ev 16 rfl)) fun _ H21 => wl_ <| i_ H21 rfl (xf 0 0 rfl (H21.ev 24 rfl)) fun _ H22 => wl_ <| t_ rfl (fun _ h => dd_put (cs := #[.slice (some ⟨gc20, 0, none⟩) (n + m) cc20]) HS19j 0 0 rfl rfl (H22.ev 25 rfl) (H22.ev 23 rfl) (by kernel_rfl) rfl rfl rfl rfl h) fun _ HS23 => ln_ <| ?_
  clear H19 H21 HS19j
  have H24 := H22.sel [] rfl
  refine nx <| sq_ <| rl_ <| wl_ <| p_ H24 rfl rfl fun _ H25 => ln_ <| nx <| wp_ret <| ret_run H25.env0 (res_t Tryd.results11 (H25.get 4 rfl)) <| ?_
  clear H22 H24
  exact ⟨gc20, cc20, cbc20, rfl, Oc20, ss HS23 [0, 2]⟩
theorem puts_1 {qb : List (BitVec 8)} {y : It} (h : y.2.1 = 1) : putsE qb y = placeE (decLT qb) y.2.2.1 y.2.2.2.1 ∧ putsP qb y = writeP (decLT qb) y.2.2.1 y.2.2.2.1 y.2.2.2.2 := ⟨if_pos h, if_pos h⟩
theorem puts_2 {qb : List (BitVec 8)} {y : It} (h : y.2.1 = 2) : putsE qb y = makeE (decLT qb) y.2.2.1 y.2.2.2.1 ∧ putsP qb y = makeP (decLT qb) y.2.2.1 y.2.2.2.1 := by
  unfold putsE putsP; rw [if_neg (by omega), if_pos h, if_neg (by omega), if_pos h]; exact ⟨rfl, rfl⟩
theorem puts_3 {qb : List (BitVec 8)} {y : It} (h : y.2.1 = 3) : putsE qb y = goneE (decLT qb) y.2.2.1 ∧ putsP qb y = goneP (decLT qb) y.2.2.1 := by
  unfold putsE putsP; rw [if_neg (by omega), if_neg (by omega), if_pos h, if_neg (by omega), if_neg (by omega), if_pos h]; exact ⟨rfl, rfl⟩
theorem puts_no {qb : List (BitVec 8)} {y : It} (h1 : ¬ y.2.1 = 1) (h2 : ¬ y.2.1 = 2) (h3 : ¬ y.2.1 = 3) : putsE qb y = 1 ∧ putsP qb y = [] := by
  unfold putsE putsP; rw [if_neg h1, if_neg h2, if_neg h3, if_neg h1, if_neg h2, if_neg h3]; exact ⟨rfl, rfl⟩
set_option maxHeartbeats 800000 in
theorem queputs_any (y : It) (qb : List (BitVec 8)) (w : World) (hy : y.2.2.2.2.length = 32) (hqb : qb.length = 32) (hnm : y.2.2.1.length ≤ maxLen) : Calls Tryd.prog 20 #[.agg (catA [[.int .i64 y.1], [.int .i64 y.2.1], [.string (strB y.2.2.1)], [.int .i64 y.2.2.2.1], bytesV y.2.2.2.2]), .agg (bs qb)] w fun x w' => ∃ v, x = .returned (.tuple #[v, .int .i64 (putsE qb y)]) ∧ w'.ownsRow w.heap.size 70 33 v (putsP qb y).length ((putsP qb y).map pcell).flatten ∧ Below w.heap.size w w' := by
  have HS := St.nil w noF
  refine enter_en Tryd.func20 rfl Tryd.ntmps20 (Nat.le_of_ble_eq_true rfl) fun a0 (HA0 : En 38 [(0, .agg (catA [[.int .i64 y.1], [.int .i64 y.2.1], [.string (strB y.2.2.1)], [.int .i64 y.2.2.2.1], bytesV y.2.2.2.2])), (1, .agg (bs qb))] a0) => ?_
  refine sq_ <| rl_ <| wl_ <| n_ HA0 rfl (fun _ h => dd_box HS rfl (HA0.ev 0 rfl) (cs := (catA [[.int .i64 y.1], [.int .i64 y.2.1], [.string (strB y.2.2.1)], [.int .i64 y.2.2.2.1], bytesV y.2.2.2.2])) rfl h) fun _ _ HS1 _ H1 => wl_ <| n_ H1 rfl (fun _ h => dd_box HS1 rfl (H1.ev 1 rfl) (cs := (bs qb)) rfl h) fun _ W2 HS2 _ H2 => q_ H2 2 rfl fun _ H3 => ln_ <| nx <| sq_ <| sq_ <| rl_ <| wl_ <| i_ H3 rfl (xf 1 1 rfl (H3.ev 2 rfl)) fun _ H4 => wl_ <| i_ H4 rfl (dd_get HS2 0 1 rfl rfl (H4.ev 6 rfl) (cat_get (lens_cons rfl (lens_cons rfl (lens_cons rfl (lens_cons rfl (lens_cons (len_bv hy) (lens_nil)))))) 1 rfl rfl) Tryd.underlying3 rfl) fun _ H5 => ln_ <| nx <| wp_block <| sq_ <| rl_ <| ?_
  clear HS HA0 HS1 H1 H2 H3 H4
  by_cases hc7 : (y.2.1 : Int) = 1
  ·
   refine wl_ <| i_ H5 rfl (dd_cmp rfl (H5.ev 7 rfl) rfl (eq_t hc7)) fun _ H8 => wl_ <| p_ H8 rfl rfl fun _ H9 => ln_ <| nx <| ct_ H9 rfl <| sq_ <| rl_ <| wl_ <| i_ H9 rfl (v := .agg (bs qb)) (dd_load HS2 1 0 rfl rfl (H9.ev 3 rfl) (slab_whole _) Tryd.underlying36 rfl (by rw [show (bs qb).size = 32 from ((size_bs _).trans hqb)]; kernel_rfl)) fun _ H10 => wl_ <| i_ H10 rfl (xf 2 2 rfl (H10.ev 2 rfl)) fun _ H11 => wl_ <| i_ H11 rfl (dd_get HS2 0 2 rfl rfl (H11.ev 11 rfl) (cat_get (lens_cons rfl (lens_cons rfl (lens_cons rfl (lens_cons rfl (lens_cons (len_bv hy) (lens_nil)))))) 2 rfl rfl) Tryd.underlying9 rfl) fun _ H12 => wl_ <| i_ H12 rfl (xf 3 3 rfl (H12.ev 2 rfl)) fun _ H13 => wl_ <| i_ H13 rfl (dd_get HS2 0 3 rfl rfl (H13.ev 13 rfl) (cat_get (lens_cons rfl (lens_cons rfl (lens_cons rfl (lens_cons rfl (lens_cons (len_bv hy) (lens_nil)))))) 3 rfl rfl) Tryd.underlying3 rfl) fun _ H14 => wl_ <| i_ H14 rfl (xf 4 4 rfl (H14.ev 2 rfl)) fun _ H15 => ?_
   clear H5 H8 H9 H10 H11 H12 H13
   refine wl_ <| i_ H15 rfl (v := .agg (bs y.2.2.2.2)) (dd_load HS2 0 4 rfl rfl (H15.ev 15 rfl) (cat_slab1 (lens_cons rfl (lens_cons rfl (lens_cons rfl (lens_cons rfl (lens_cons (len_bv hy) (lens_nil)))))) 4 rfl rfl) Tryd.underlying36 rfl (by rw [show (bs y.2.2.2.2).size = 32 from ((size_bs _).trans hy)]; kernel_rfl)) fun _ H16 => ?_
   clear H14 H15
   refine wl_ <| d_ H16 rfl (R := fun v w9 => ∃ vp, v = .tuple #[vp, .int .i64 (placeE (decLT qb) y.2.2.1 y.2.2.2.1)] ∧ (w9.ownsRow W2.heap.size 70 33 vp (writeP (decLT qb) y.2.2.1 y.2.2.2.1 y.2.2.2.2).length ((writeP (decLT qb) y.2.2.1 y.2.2.2.1 y.2.2.2.2).map pcell).flatten) ∧ Below W2.heap.size W2 w9) (dc_ Tryd.func24 rfl (args4 (H16.ev 10 rfl) (H16.ev 12 rfl) (H16.ev 14 rfl) (H16.ev 16 rfl)) (write_any qb y.2.2.1 y.2.2.2.2 y.2.2.2.1 W2 hqb hy) (fun _ w9 ⟨v9, he, ho, hb⟩ => ⟨_, he, v9, rfl, ho, hb⟩)) ?_
   rintro _ W17 ⟨vp, rfl, hp, hb17⟩ a17 H17
   have HS17 := HS2.same hb17
   clear H16
   have hbw := HS2.below
   clear HS2 hb17
   refine wl_ <| i_ H17 rfl (v := vp) (dd_ext rfl (H17.ev 17 rfl) rfl) fun _ H19 => wl_ <| i_ H19 rfl (v := .int .i64 (placeE (decLT qb) y.2.2.1 y.2.2.2.1)) (dd_ext rfl (H19.ev 17 rfl) rfl) fun _ H20 => q_ H20 2 rfl fun _ H21 => ln_ <| ?_
   clear H17 H19 H20
   have H22 := H21.sel [4, 5] rfl
   refine nx <| wp_ret <| br_ <| tr <| ret_run H22.env0 (res_tt Tryd.results20 (H22.get 4 rfl) (H22.get 5 rfl)) <| ?_
   clear H21
   have hE := puts_1 (qb := qb) hc7
   exact ⟨vp, by rw [hE.1], by rw [hE.2]; exact own_mono hp hbw.size, HS17.below⟩
  refine wl_ <| i_ H5 rfl (dd_cmp rfl (H5.ev 7 rfl) rfl (eq_f hc7)) fun _ H23 => wl_ <| p_ H23 rfl rfl fun _ H24 => ln_ <| nx <| cf_ H24 rfl <| sq_ <| rl_ <| ?_
  clear H5 H23
  by_cases hc26 : (y.2.1 : Int) = 2
  ·
   refine wl_ <| i_ H24 rfl (dd_cmp rfl (H24.ev 7 rfl) rfl (eq_t hc26)) fun _ H27 => wl_ <| p_ H27 rfl rfl fun _ H28 => ln_ <| nx <| ct_ H28 rfl <| sq_ <| rl_ <| wl_ <| i_ H28 rfl (v := .agg (bs qb)) (dd_load HS2 1 0 rfl rfl (H28.ev 3 rfl) (slab_whole _) Tryd.underlying36 rfl (by rw [show (bs qb).size = 32 from ((size_bs _).trans hqb)]; kernel_rfl)) fun _ H29 => wl_ <| i_ H29 rfl (xf 2 2 rfl (H29.ev 2 rfl)) fun _ H30 => wl_ <| i_ H30 rfl (dd_get HS2 0 2 rfl rfl (H30.ev 23 rfl) (cat_get (lens_cons rfl (lens_cons rfl (lens_cons rfl (lens_cons rfl (lens_cons (len_bv hy) (lens_nil)))))) 2 rfl rfl) Tryd.underlying9 rfl) fun _ H31 => wl_ <| i_ H31 rfl (xf 3 3 rfl (H31.ev 2 rfl)) fun _ H32 => wl_ <| i_ H32 rfl (dd_get HS2 0 3 rfl rfl (H32.ev 25 rfl) (cat_get (lens_cons rfl (lens_cons rfl (lens_cons rfl (lens_cons rfl (lens_cons (len_bv hy) (lens_nil)))))) 3 rfl rfl) Tryd.underlying3 rfl) fun _ H33 => ?_
   clear H24 H27 H28 H29 H30 H31 H32
   refine wl_ <| d_ H33 rfl (R := fun v w9 => ∃ vp, v = .tuple #[vp, .int .i64 (makeE (decLT qb) y.2.2.1 y.2.2.2.1)] ∧ (w9.ownsRow W2.heap.size 70 33 vp (makeP (decLT qb) y.2.2.1 y.2.2.2.1).length ((makeP (decLT qb) y.2.2.1 y.2.2.2.1).map pcell).flatten) ∧ Below W2.heap.size W2 w9) (dc_ Tryd.func25 rfl (args3 (H33.ev 22 rfl) (H33.ev 24 rfl) (H33.ev 26 rfl)) (make_any qb y.2.2.1 y.2.2.2.1 W2 hqb hnm) (fun _ w9 ⟨v9, he, ho, hb⟩ => ⟨_, he, v9, rfl, ho, hb⟩)) ?_
   rintro _ W34 ⟨vp, rfl, hp, hb34⟩ a34 H34
   have HS34 := HS2.same hb34
   clear H33
   have hbw := HS2.below
   clear HS2 hb34
   refine wl_ <| i_ H34 rfl (v := vp) (dd_ext rfl (H34.ev 27 rfl) rfl) fun _ H36 => wl_ <| i_ H36 rfl (v := .int .i64 (makeE (decLT qb) y.2.2.1 y.2.2.2.1)) (dd_ext rfl (H36.ev 27 rfl) rfl) fun _ H37 => q_ H37 2 rfl fun _ H38 => ln_ <| ?_
   clear H34 H36 H37
   have H39 := H38.sel [4, 5] rfl
   refine nx <| wp_ret <| br_ <| tr <| ret_run H39.env0 (res_tt Tryd.results20 (H39.get 4 rfl) (H39.get 5 rfl)) <| ?_
   clear H38
   have hE := puts_2 (qb := qb) hc26
   exact ⟨vp, by rw [hE.1], by rw [hE.2]; exact own_mono hp hbw.size, HS34.below⟩
  refine wl_ <| i_ H24 rfl (dd_cmp rfl (H24.ev 7 rfl) rfl (eq_f hc26)) fun _ H40 => wl_ <| p_ H40 rfl rfl fun _ H41 => ln_ <| nx <| cf_ H41 rfl <| sq_ <| rl_ <| ?_
  clear H24 H40
  by_cases hc43 : (y.2.1 : Int) = 3
  ·
   refine wl_ <| i_ H41 rfl (dd_cmp rfl (H41.ev 7 rfl) rfl (eq_t hc43)) fun _ H44 => wl_ <| p_ H44 rfl rfl fun _ H45 => ln_ <| nx <| ct_ H45 rfl <| sq_ <| rl_ <| wl_ <| i_ H45 rfl (v := .agg (bs qb)) (dd_load HS2 1 0 rfl rfl (H45.ev 3 rfl) (slab_whole _) Tryd.underlying36 rfl (by rw [show (bs qb).size = 32 from ((size_bs _).trans hqb)]; kernel_rfl)) fun _ H46 => wl_ <| i_ H46 rfl (xf 2 2 rfl (H46.ev 2 rfl)) fun _ H47 => wl_ <| i_ H47 rfl (dd_get HS2 0 2 rfl rfl (H47.ev 33 rfl) (cat_get (lens_cons rfl (lens_cons rfl (lens_cons rfl (lens_cons rfl (lens_cons (len_bv hy) (lens_nil)))))) 2 rfl rfl) Tryd.underlying9 rfl) fun _ H48 => ?_
   clear H41 H44 H45 H46 H47
   refine wl_ <| d_ H48 rfl (R := fun v w9 => ∃ vp, v = .tuple #[vp, .int .i64 (goneE (decLT qb) y.2.2.1)] ∧ (w9.ownsRow W2.heap.size 70 33 vp (goneP (decLT qb) y.2.2.1).length ((goneP (decLT qb) y.2.2.1).map pcell).flatten) ∧ Below W2.heap.size W2 w9) (dc_ Tryd.func26 rfl (args2 (H48.ev 32 rfl) (H48.ev 34 rfl)) (gone_any qb y.2.2.1 W2 hqb) (fun _ w9 ⟨v9, he, ho, hb⟩ => ⟨_, he, v9, rfl, ho, hb⟩)) ?_
   rintro _ W49 ⟨vp, rfl, hp, hb49⟩ a49 H49
   have HS49 := HS2.same hb49
   clear H48
   have hbw := HS2.below
   clear HS2 hb49
   refine wl_ <| i_ H49 rfl (v := vp) (dd_ext rfl (H49.ev 35 rfl) rfl) fun _ H51 => wl_ <| i_ H51 rfl (v := .int .i64 (goneE (decLT qb) y.2.2.1)) (dd_ext rfl (H51.ev 35 rfl) rfl) fun _ H52 => q_ H52 2 rfl fun _ H53 => ln_ <| ?_
   clear H49 H51 H52
   have H54 := H53.sel [4, 5] rfl
   refine nx <| wp_ret <| br_ <| tr <| ret_run H54.env0 (res_tt Tryd.results20 (H54.get 4 rfl) (H54.get 5 rfl)) <| ?_
   clear H53
   have hE := puts_3 (qb := qb) hc43
   exact ⟨vp, by rw [hE.1], by rw [hE.2]; exact own_mono hp hbw.size, HS49.below⟩
  refine wl_ <| i_ H41 rfl (dd_cmp rfl (H41.ev 7 rfl) rfl (eq_f hc43)) fun _ H55 => wl_ <| p_ H55 rfl rfl fun _ H56 => ln_ <| nx <| cf_ H56 rfl <| wp_skip <| bn <| nx <| sq_ <| rl_ <| q_ H56 2 rfl fun _ H57 => ln_ <| nx <| wp_ret <| ret_run H57.env0 (res_tt Tryd.results20 (H57.get 4 rfl) (H57.get 5 rfl)) <| ?_
  clear H41 H55 H56
  have hE := puts_no (qb := qb) hc7 hc26 hc43
  exact ⟨_, by rw [hE.1], by rw [hE.2]; exact World.ownsRow_nil _ _ _ _, HS2.below⟩
end Go.Proofs.YtnmaplgodimohaaDoor

/- The concat of two empty slices; nothing that is added to nothing. -/
set_option maxRecDepth 4000
namespace Go.Proofs.YtnmaplgodimohaaDoor
open Go Go.RowKit
theorem dd_appZ {P : Program} {o : Oper} {a : Act} {w : World} {e t : TypeId} {s x : Operand} {A : Option Addr} {c2 sz : Nat} (ho : o.op = .call { callee := .builtin .append, args := #[s, x], argTypes := #[t, t] }) (hs : a.eval s = .slice none 0 0) (hx : a.eval x = .slice A 0 c2) (ht : P.underlying t = some (.slice e)) (hi : (P.info? e).map (fun i => i.size) = some sz) : (execOp a.eval o).run P w = .ok (.value (.slice none 0 0)) w := by
  obtain ⟨i, hi1, hi2⟩ := Option.map_eq_some_iff.1 hi
  cases A <;> simp [execOp, ho, resolve, invoke, builtin, hs, hx, Builtin.append_, run_underlying ht, sizeOf, typeInfo, hi1, Builtin.lenOf, Builtin.firstCells, loadCells, loadCellsFrom]
theorem growQ_nil (w : World) : Calls Tryd.prog 30 #[.slice none 0 0, .int .i64 0] w fun x w' => x = .returned (.slice none 0 0) ∧ Below w.heap.size w w' := by
  have HS := St.nil w noF
  refine enter_en Tryd.func30 rfl Tryd.ntmps30 (Nat.le_of_ble_eq_true rfl) fun a0 (HA0 : En 27 [(0, .slice none 0 0), (1, .int .i64 0)] a0) => ?_
  refine sq_ <| rl_ <| wl_ <| p_ HA0 rfl rfl fun _ H1 => ln_ <| nx <| sq_ <| sq_ <| rl_ <| wl_ <| p_ H1 rfl rfl fun _ H2 => wl_ <| i_ H2 rfl (dd_cmp rfl (H2.ev 5 rfl) rfl (lt_f (by decide))) fun _ H3 => ln_ <| nx <| cf_ H3 rfl <| wp_skip <| nx <| sq_ <| sq_ <| rl_ <| q_ H3 2 rfl fun _ H4 => wl_ <| i_ H4 rfl (v := .int .i64 0) (dd_cap rfl (H4.ev 9 rfl) Tryd.underlying25) fun _ H5 => wl_ <| p_ H5 rfl rfl fun _ H6 => wl_ <| i_ H6 rfl (v := .int .i64 0) (dd_len rfl (H6.ev 11 rfl) Tryd.underlying25) fun _ H7 => wl_ <| i_ H7 rfl (v := .int .i64 0) (dd_ari rfl (H7.ev 10 rfl) (H7.ev 12 rfl) rfl (by decide)) fun _ H8 => ?_
  clear HA0 H1 H2 H3 H4 H5 H6
  refine wl_ <| i_ H8 rfl (v := .int .i64 0) (dd_ari rfl (H8.ev 8 rfl) (H8.ev 13 rfl) rfl (by decide)) fun _ H9 => wl_ <| p_ H9 rfl rfl fun _ H10 => ln_ <| nx <| sq_ <| rl_ <| wl_ <| p_ H10 rfl rfl fun _ H11 => wl_ <| i_ H11 rfl (dd_cmp rfl (H11.ev 15 rfl) rfl (gt_f (by decide))) fun _ H12 => ln_ <| nx <| cf_ H12 rfl <| wp_skip <| nx <| sq_ <| rl_ <| q_ H12 2 rfl fun _ H13 => ln_ <| nx <| wp_ret <| ret_run H13.env0 (res_t Tryd.results30 (H13.get 4 rfl)) <| ?_
  clear H7 H8 H9 H10 H11 H12
  exact ⟨rfl, HS.below⟩
set_option maxHeartbeats 800000 in
theorem concatQ_nil (g : Nat) (A1 A2 : Option Addr) (c1 c2 : Nat) (w : World) (hr : Row w g 25 #[.slice A1 0 c1, .slice A2 0 c2]) : Calls Tryd.prog 23 #[.slice (some ⟨g, 0, none⟩) 2 2] w fun x w' => x = .returned (.slice none 0 0) ∧ Below w.heap.size w w' := by
  have HS := St.nil w noF
  have HR : ∀ W, Below w.heap.size w W → Row W g 25 #[.slice A1 0 c1, .slice A2 0 c2] := fun W hb => hr.call hb
  refine enter_en Tryd.func23 rfl Tryd.ntmps23 (Nat.le_of_ble_eq_true rfl) fun a0 (HA0 : En 36 [(0, .slice (some ⟨g, 0, none⟩) 2 2)] a0) => ?_
  refine sq_ <| rl_ <| wl_ <| p_ HA0 rfl rfl fun _ H1 => ln_ <| nx <| sq_ <| rl_ <| wl_ <| p_ H1 rfl rfl fun _ H2 => ln_ <| nx <| sq_ <| sq_ <| rl_ <| wl_ <| p_ H2 rfl rfl fun _ H3 => wl_ <| i_ H3 rfl (v := .int .i64 2) (dd_len rfl (H3.ev 9 rfl) Tryd.underlying71) fun _ H4 => wl_ <| p_ H4 rfl rfl fun _ H5 => ln_ <| nx <| wp_block <| wp_unr 3 <| unr_go <| sq_ <| rl_ <| wl_ <| i_ H5 rfl (dd_cmp rfl (H5.ev 11 rfl) (H5.ev 10 rfl) (lt_t (by decide))) fun _ H6 => ln_ <| nx <| sq_ <| ct_ H6 rfl <| wp_skip <| nx <| sq_ <| wp_block <| sq_ <| rl_ <| wl_ <| i_ H6 rfl (xS 1 0 rfl (H6.ev 9 rfl) (H6.ev 11 rfl)) fun _ H7 => wl_ <| i_ H7 rfl (dd_getR (HR _ HS.below) rfl (H7.ev 13 rfl) rfl Tryd.underlying25 rfl) fun _ H8 => ?_
  clear HA0 H1 H2 H3 H4 H5 H6
  refine wl_ <| p_ H8 rfl rfl fun _ H9 => ln_ <| nx <| sq_ <| rl_ <| q_ H9 2 rfl fun _ H10 => wl_ <| i_ H10 rfl (v := .int .i64 0) (dd_len rfl (H10.ev 16 rfl) Tryd.underlying25) fun _ H11 => wl_ <| i_ H11 rfl (v := .int .i64 0) (dd_ari rfl (H11.ev 15 rfl) (H11.ev 17 rfl) rfl (by decide)) fun _ H12 => wl_ <| p_ H12 rfl rfl fun _ H13 => ln_ <| nx <| sq_ <| rl_ <| wl_ <| p_ H13 rfl rfl fun _ H14 => wl_ <| i_ H14 rfl (dd_cmp rfl (H14.ev 19 rfl) rfl (lt_f (by decide))) fun _ H15 => ln_ <| nx <| cf_ H15 rfl <| wp_skip <| bn <| nx <| rl_ <| wl_ <| i_ H15 rfl (v := .int .i64 1) (dd_ari rfl (H15.ev 11 rfl) rfl rfl (by decide)) fun _ H16 => ?_
  clear H7 H8 H9 H10 H11 H12 H13 H14
  refine wl_ <| p_ H16 rfl rfl fun _ H17 => ln_ <| nx <| unr_go <| sq_ <| rl_ <| wl_ <| i_ H17 rfl (dd_cmp rfl (H17.ev 11 rfl) (H17.ev 10 rfl) (lt_t (by decide))) fun _ H18 => ln_ <| nx <| sq_ <| ct_ H18 rfl <| wp_skip <| nx <| sq_ <| wp_block <| sq_ <| rl_ <| wl_ <| i_ H18 rfl (xS 1 1 rfl (H18.ev 9 rfl) (H18.ev 11 rfl)) fun _ H19 => wl_ <| i_ H19 rfl (dd_getR (HR _ HS.below) rfl (H19.ev 13 rfl) rfl Tryd.underlying25 rfl) fun _ H20 => wl_ <| p_ H20 rfl rfl fun _ H21 => ln_ <| nx <| sq_ <| rl_ <| q_ H21 2 rfl fun _ H22 => wl_ <| i_ H22 rfl (v := .int .i64 0) (dd_len rfl (H22.ev 16 rfl) Tryd.underlying25) fun _ H23 => wl_ <| i_ H23 rfl (v := .int .i64 0) (dd_ari rfl (H23.ev 15 rfl) (H23.ev 17 rfl) rfl (by decide)) fun _ H24 => ?_
  clear H15 H16 H17 H18 H19 H20 H21 H22
  refine wl_ <| p_ H24 rfl rfl fun _ H25 => ln_ <| nx <| sq_ <| rl_ <| wl_ <| p_ H25 rfl rfl fun _ H26 => wl_ <| i_ H26 rfl (dd_cmp rfl (H26.ev 19 rfl) rfl (lt_f (by decide))) fun _ H27 => ln_ <| nx <| cf_ H27 rfl <| wp_skip <| bn <| nx <| rl_ <| wl_ <| i_ H27 rfl (v := .int .i64 2) (dd_ari rfl (H27.ev 11 rfl) rfl rfl (by decide)) fun _ H28 => wl_ <| p_ H28 rfl rfl fun _ H29 => ln_ <| nx <| unr_go <| sq_ <| rl_ <| wl_ <| i_ H29 rfl (dd_cmp rfl (H29.ev 11 rfl) (H29.ev 10 rfl) (lt_f (by decide))) fun _ H30 => ln_ <| nx <| sq_ <| cf_ H30 rfl <| wp_exit <| tx <| tx <| bx <| nx <| sq_ <| rl_ <| wl_ <| p_ H30 rfl rfl fun _ H31 => wl_ <| c_ H31 rfl HS (dcs Tryd.func30 rfl (args2 (show _ = (.slice none 0 0 : Value) from rfl) (H31.ev 23 rfl)) (growQ_nil w) (.slice none 0 0)) fun _ HS32 _ H32 => ?_
  clear H23 H24 H25 H26 H27 H28 H29 H30
  refine wl_ <| p_ H32 rfl rfl fun _ H33 => ln_ <| ?_
  clear H31 HS H32
  have H34 := H33.sel [0, 6] rfl
  refine nx <| sq_ <| sq_ <| rl_ <| wl_ <| p_ H34 rfl rfl fun _ H35 => wl_ <| i_ H35 rfl (v := .int .i64 2) (dd_len rfl (H35.ev 25 rfl) Tryd.underlying71) fun _ H36 => wl_ <| p_ H36 rfl rfl fun _ H37 => ln_ <| nx <| wp_block <| wp_unr 3 <| unr_go <| sq_ <| rl_ <| wl_ <| i_ H37 rfl (dd_cmp rfl (H37.ev 27 rfl) (H37.ev 26 rfl) (lt_t (by decide))) fun _ H38 => ln_ <| nx <| sq_ <| ct_ H38 rfl <| wp_skip <| nx <| sq_ <| wp_block <| sq_ <| rl_ <| wl_ <| i_ H38 rfl (xS 1 0 rfl (H38.ev 25 rfl) (H38.ev 27 rfl)) fun _ H39 => wl_ <| i_ H39 rfl (dd_getR (HR _ HS32.below) rfl (H39.ev 29 rfl) rfl Tryd.underlying25 rfl) fun _ H40 => wl_ <| p_ H40 rfl rfl fun _ H41 => ln_ <| nx <| rl_ <| q_ H41 2 rfl fun _ H42 => ?_
  clear H33 H34 H35 H36 H37 H38 H39 H40
  refine wl_ <| i_ H42 rfl (v := .slice none 0 0) (dd_appZ (sz := 36) rfl (H42.ev 31 rfl) (H42.ev 32 rfl) Tryd.underlying25 (by kernel_rfl)) fun _ H43 => wl_ <| p_ H43 rfl rfl fun _ H44 => ln_ <| bn <| nx <| rl_ <| wl_ <| i_ H44 rfl (v := .int .i64 1) (dd_ari rfl (H44.ev 27 rfl) rfl rfl (by decide)) fun _ H45 => wl_ <| p_ H45 rfl rfl fun _ H46 => ln_ <| nx <| unr_go <| sq_ <| rl_ <| wl_ <| i_ H46 rfl (dd_cmp rfl (H46.ev 27 rfl) (H46.ev 26 rfl) (lt_t (by decide))) fun _ H47 => ln_ <| nx <| sq_ <| ct_ H47 rfl <| wp_skip <| nx <| sq_ <| wp_block <| sq_ <| rl_ <| wl_ <| i_ H47 rfl (xS 1 1 rfl (H47.ev 25 rfl) (H47.ev 27 rfl)) fun _ H48 => wl_ <| i_ H48 rfl (dd_getR (HR _ HS32.below) rfl (H48.ev 29 rfl) rfl Tryd.underlying25 rfl) fun _ H49 => wl_ <| p_ H49 rfl rfl fun _ H50 => ?_
  clear H41 H42 H43 H44 H45 H46 H47 H48
  refine ln_ <| nx <| rl_ <| q_ H50 2 rfl fun _ H51 => wl_ <| i_ H51 rfl (v := .slice none 0 0) (dd_appZ (sz := 36) rfl (H51.ev 31 rfl) (H51.ev 32 rfl) Tryd.underlying25 (by kernel_rfl)) fun _ H52 => wl_ <| p_ H52 rfl rfl fun _ H53 => ln_ <| bn <| nx <| rl_ <| wl_ <| i_ H53 rfl (v := .int .i64 2) (dd_ari rfl (H53.ev 27 rfl) rfl rfl (by decide)) fun _ H54 => wl_ <| p_ H54 rfl rfl fun _ H55 => ln_ <| nx <| unr_go <| sq_ <| rl_ <| wl_ <| i_ H55 rfl (dd_cmp rfl (H55.ev 27 rfl) (H55.ev 26 rfl) (lt_f (by decide))) fun _ H56 => ln_ <| nx <| sq_ <| cf_ H56 rfl <| wp_exit <| tx <| tx <| bx <| nx <| sq_ <| rl_ <| q_ H56 2 rfl fun _ H57 => ln_ <| nx <| wp_ret <| ret_run H57.env0 (res_t Tryd.results23 (H57.get 2 rfl)) <| ?_
  clear H49 H50 H51 H52 H53 H54 H55 H56
  exact ⟨rfl, HS32.below⟩
theorem queadd_zero (F : Nat → Prop) (g : Nat) (A B : Option Addr) (c d : Nat) (w : World) (HS : St w F [⟨g, 27, #[.slice A 0 c]⟩] w) : Calls Tryd.prog 11 #[.pointer (some ⟨g, 0, none⟩), .slice B 0 d] w fun x w' => x = .returned (.int .i64 0) ∧ St w F [⟨g, 27, #[.slice none 0 0]⟩] w' := by
  refine enter_en Tryd.func11 rfl Tryd.ntmps11 (Nat.le_of_ble_eq_true rfl) fun a0 (HA0 : En 26 [(0, .pointer (some ⟨g, 0, none⟩)), (1, .slice B 0 d)] a0) => ?_
  refine sq_ <| rl_ <| wl_ <| p_ HA0 rfl rfl fun _ H1 => ln_ <| nx <| sq_ <| sq_ <| rl_ <| wl_ <| p_ H1 rfl rfl fun _ H2 => wl_ <| i_ H2 rfl (v := .bool false) (dd_eqp rfl (H2.ev 5 rfl) rfl Tryd.underlying24 rfl) fun _ H3 => ln_ <| nx <| cf_ H3 rfl <| wp_skip <| nx <| sq_ <| sq_ <| rl_ <| wl_ <| p_ H3 rfl rfl fun _ H4 => wl_ <| i_ H4 rfl (v := .int .i64 0) (dd_len rfl (H4.ev 7 rfl) Tryd.underlying25) fun _ H5 => wl_ <| p_ H5 rfl rfl fun _ H6 => wl_ <| i_ H6 rfl (dd_nilc rfl (H6.ev 9 rfl)) fun _ H7 => wl_ <| i_ H7 rfl (xf 0 0 rfl (H7.ev 10 rfl)) fun _ H8 => ?_
  clear HA0 H1 H2 H3 H4 H5 H6
  refine wl_ <| i_ H8 rfl (dd_get HS 0 0 rfl rfl (H8.ev 11 rfl) rfl Tryd.underlying25 rfl) fun _ H9 => wl_ <| i_ H9 rfl (v := .int .i64 0) (dd_len rfl (H9.ev 12 rfl) Tryd.underlying25) fun _ H10 => wl_ <| i_ H10 rfl (v := .int .i64 4) (dd_ari rfl rfl (H10.ev 13 rfl) rfl (by decide)) fun _ H11 => wl_ <| i_ H11 rfl (dd_cmp rfl (H11.ev 8 rfl) (H11.ev 14 rfl) (gt_f (by decide))) fun _ H12 => ln_ <| nx <| cf_ H12 rfl <| wp_skip <| nx <| sq_ <| rl_ <| q_ H12 2 rfl fun _ H13 => wl_ <| i_ H13 rfl (dd_nilc rfl (H13.ev 17 rfl)) fun _ H14 => wl_ <| i_ H14 rfl (xf 0 0 rfl (H14.ev 18 rfl)) fun _ H15 => wl_ <| i_ H15 rfl (dd_get HS 0 0 rfl rfl (H15.ev 19 rfl) rfl Tryd.underlying25 rfl) fun _ H16 => ?_
  clear H7 H8 H9 H10 H11 H12 H13 H14
  refine wl_ <| p_ H16 rfl rfl fun _ H17 => wl_ <| n_ H17 rfl (fun _ h => dd_lits HS #[.slice A 0 c, .slice B 0 d] rfl (ps := [(0, .slice A 0 c), (1, .slice B 0 d)]) (pr1 (H17.ev 20 rfl) (pr1 (H17.ev 21 rfl) (pr0))) (z := .slice none 0 0) (sz := 1) Tryd.underlying71 (by kernel_rfl) rfl rfl (by kernel_rfl) h) fun _ W18 HS18 _ H18 => wl_ <| c_ H18 rfl HS18 (dcs Tryd.func23 rfl (args1 (H18.ev 22 rfl)) (concatQ_nil _ _ _ _ _ W18 (HS18.row 1 rfl)) (.slice none 0 0)) fun _ HS19 _ H19 => wl_ <| i_ H19 rfl (dd_nilc rfl (H19.ev 16 rfl)) fun _ H20 => wl_ <| i_ H20 rfl (xf 0 0 rfl (H20.ev 24 rfl)) fun _ H21 => wl_ <| t_ rfl (fun _ h => dd_put (cs := #[.slice none 0 0]) HS19 0 0 rfl rfl (H21.ev 25 rfl) (H21.ev 23 rfl) (by kernel_rfl) rfl rfl rfl rfl h) fun _ HS22 => ln_ <| ?_
  clear H15 H16 HS H17 H18 HS18 H19 H20 HS19
  have H23 := H21.sel [] rfl
  refine nx <| sq_ <| rl_ <| wl_ <| p_ H23 rfl rfl fun _ H24 => ln_ <| nx <| wp_ret <| ret_run H24.env0 (res_t Tryd.results11 (H24.get 4 rfl)) <| ?_
  clear H21 H23
  exact ⟨rfl, ss HS22 [0]⟩
def tl1 (A : Option Addr) (c : Nat) : Option Addr := if c = 1 then A else A.map (·.add 36)
theorem dd_slt {P : Program} {o : Oper} {a : Act} {w : World} {t : TypeId} {x lo : Operand} {A : Option Addr} {n c : Nat} {k : IntKind} (ho : o.op = .slice t x (some lo) none none) (hx : a.eval x = .slice A n c) (hl : a.eval lo = .int k 1) (ht : slOf P t = some 36) (h1 : 1 ≤ n)
    : (execOp a.eval o).run P w = .ok (.value (.slice (tl1 A c) (n - 1) (c - 1))) w := by
  unfold slOf at ht
  cases hu : P.underlying t with
  | none => rw [hu] at ht; cases ht
  | some d =>
    rw [hu] at ht
    cases d with
    | slice e =>
      simp only at ht
      cases hq : P.info? e with
      | none => rw [hq] at ht; cases ht
      | some inf =>
        rw [hq] at ht
        simp only [Option.map_some, Option.some.injEq] at ht
        have e1 : (1 : Int) ≤ (n : Int) := by omega
        simp [execOp, ho, hx, hl, Instr.sliceAt, run_underlying hu, Instr.slice, Instr.sliceBounds, Instr.sliceBound, asIntOf, sizeOf, typeInfo, hq, e1, ht, tl1]
    | _ => simp only at ht; cases ht
theorem ItemsAt.tl {w : World} {A : Option Addr} {n c : Nat} {X : List It} (h : ItemsAt w A n c X) (hn : 0 < n) : ItemsAt w (tl1 A c) (n - 1) (c - 1) X.tail := by
  have hl := h.len
  have hc := h.cap
  refine ⟨by rw [List.length_tail, hl], by omega, fun x hx => h.wf x (List.mem_of_mem_tail hx), fun h1 => ?_⟩
  obtain ⟨b, o, rfl, h2⟩ := h.at_ (by omega)
  refine ⟨b, o + 36, by unfold tl1; rw [if_neg (by omega)]; rfl, ?_⟩
  cases X with
  | nil => exact absurd hl (by simp; omega)
  | cons x X =>
    rw [show x :: X = [x] ++ X from rfl, items_app] at h2
    exact h2.post (n := 36) (len_items (n := 1) (fun y hy => by rw [List.mem_singleton] at hy; subst hy; exact h.wf y (List.mem_cons_self ..)) rfl)
theorem quepop_any (F : Nat → Prop) (g : Nat) (A : Option Addr) (n c : Nat) (w : World) (HS : St w F [⟨g, 27, #[.slice A n c]⟩] w) (hn : 0 < n) : Calls Tryd.prog 13 #[.pointer (some ⟨g, 0, none⟩)] w fun x w' => x = .returned (.bool true) ∧ St w F [⟨g, 27, #[.slice (tl1 A c) (n - 1) (c - 1)]⟩] w' := by
  refine enter_en Tryd.func13 rfl Tryd.ntmps13 (Nat.le_of_ble_eq_true rfl) fun a0 (HA0 : En 14 [(0, .pointer (some ⟨g, 0, none⟩))] a0) => ?_
  refine sq_ <| rl_ <| wl_ <| p_ HA0 rfl rfl fun _ H1 => ln_ <| nx <| sq_ <| sq_ <| rl_ <| wl_ <| p_ H1 rfl rfl fun _ H2 => wl_ <| c_ H2 rfl HS (dcs Tryd.func19 rfl (args1 (H2.ev 3 rfl)) (quelen_any g _ _ _ w (HS.row 0 rfl)) (.int .i64 n)) fun _ HS3 _ H3 => wl_ <| i_ H3 rfl (dd_cmp rfl (H3.ev 4 rfl) rfl (eq_f (by omega))) fun _ H4 => ln_ <| nx <| cf_ H4 rfl <| wp_skip <| nx <| sq_ <| rl_ <| q_ H4 2 rfl fun _ H5 => wl_ <| i_ H5 rfl (dd_nilc rfl (H5.ev 7 rfl)) fun _ H6 => wl_ <| i_ H6 rfl (xf 0 0 rfl (H6.ev 8 rfl)) fun _ H7 => wl_ <| i_ H7 rfl (dd_get HS3 0 0 rfl rfl (H7.ev 9 rfl) rfl Tryd.underlying25 rfl) fun _ H8 => ?_
  clear HA0 H1 H2 HS H3 H4 H5 H6
  refine wl_ <| i_ H8 rfl (v := .slice (tl1 A c) (n - 1) (c - 1)) (dd_slt rfl (H8.ev 10 rfl) rfl (by kernel_rfl) (by omega)) fun _ H9 => wl_ <| i_ H9 rfl (dd_nilc rfl (H9.ev 6 rfl)) fun _ H10 => wl_ <| i_ H10 rfl (xf 0 0 rfl (H10.ev 12 rfl)) fun _ H11 => wl_ <| t_ rfl (fun _ h => dd_put (cs := #[.slice (tl1 A c) (n - 1) (c - 1)]) HS3 0 0 rfl rfl (H11.ev 13 rfl) (H11.ev 11 rfl) (by kernel_rfl) rfl rfl rfl rfl h) fun _ HS12 => ln_ <| nx <| sq_ <| rl_ <| wl_ <| p_ H11 rfl rfl fun _ H13 => ln_ <| nx <| wp_ret <| ret_run H13.env0 (res_t Tryd.results13 (H13.get 2 rfl)) <| ?_
  clear H7 H8 H9 H10 HS3 H11
  exact ⟨rfl, ss HS12 [0]⟩
end Go.Proofs.YtnmaplgodimohaaDoor

/- The statements' own functions of what waits. -/
set_option maxRecDepth 4000
namespace Go.Proofs.YtnmaplgodimohaaDoor
open Go Go.RowKit
theorem ids_1 {X : List It} {x : It} {cb : Array Value} {c : Nat} (h : X[0]? = some x) (O : OwnC cb c 1 1 [.int .i64 x.1]) : OwnC cb c 1 1 (intsV ((X.take 1).map (·.1))) := by
  obtain ⟨h1, h2⟩ := List.getElem?_eq_some_iff.1 h
  rw [show X.take 1 = [x] by rw [List.take_succ_eq_append_getElem h1, List.take_zero, h2]; rfl]; exact O
theorem ids_S {X : List It} {j : Nat} {x : It} {cb : Array Value} {c : Nat} (h : X[j]? = some x) (O : OwnC cb c (j + 1) 1 (intsV ((X.take j).map (·.1)) ++ [.int .i64 x.1])) : OwnC cb c (j + 1) 1 (intsV ((X.take (j + 1)).map (·.1))) := by
  obtain ⟨h1, h2⟩ := List.getElem?_eq_some_iff.1 h
  rw [List.take_succ_eq_append_getElem h1, h2, List.map_append, show intsV (List.map (·.1) (X.take j) ++ List.map (·.1) [x]) = intsV (List.map (·.1) (X.take j)) ++ [.int .i64 x.1] by simp [intsV]]; exact O
set_option maxHeartbeats 800000 in
theorem queclear_any (F : Nat → Prop) (g b o n c : Nat) (X : List It) (w : World) (HS : St w F [⟨g, 27, #[.slice (some ⟨b, o, none⟩) n c]⟩] w) (hi : ItemsAt w (some ⟨b, o, none⟩) n c X) (HE : ∀ W, Chg F w W → CAt W b o (itemsL X)) (h0 : 0 < n) (hm : n ≤ 1000) : Calls Tryd.prog 16 #[.pointer (some ⟨g, 0, none⟩)] w fun x w' => ∃ g' c' cb', x = .returned (.slice (some ⟨g', 0, none⟩) n c') ∧ OwnC cb' c' n 1 (intsV (X.map (·.1))) ∧ St w F [⟨g, 27, #[.slice none 0 0]⟩, ⟨g', 3, cb'⟩] w' := by
  refine enter_en Tryd.func16 rfl Tryd.ntmps16 (Nat.le_of_ble_eq_true rfl) fun a0 (HA0 : En 27 [(0, .pointer (some ⟨g, 0, none⟩))] a0) => ?_
  refine sq_ <| rl_ <| wl_ <| p_ HA0 rfl rfl fun _ H1 => ln_ <| nx <| sq_ <| sq_ <| rl_ <| wl_ <| p_ H1 rfl rfl fun _ H2 => wl_ <| i_ H2 rfl (v := .bool false) (dd_eqp rfl (H2.ev 6 rfl) rfl Tryd.underlying24 rfl) fun _ H3 => ln_ <| nx <| cf_ H3 rfl <| wp_skip <| nx <| sq_ <| rl_ <| wl_ <| p_ H3 rfl rfl fun _ H4 => ln_ <| nx <| sq_ <| sq_ <| rl_ <| wl_ <| p_ H4 rfl rfl fun _ H5 => wl_ <| i_ H5 rfl (dd_nilc rfl (H5.ev 8 rfl)) fun _ H6 => wl_ <| i_ H6 rfl (xf 0 0 rfl (H6.ev 9 rfl)) fun _ H7 => wl_ <| i_ H7 rfl (dd_get HS 0 0 rfl rfl (H7.ev 10 rfl) rfl Tryd.underlying25 rfl) fun _ H8 => ?_
  clear HA0 H1 H2 H3 H4 H5 H6
  refine wl_ <| i_ H8 rfl (v := .int .i64 n) (dd_len rfl (H8.ev 11 rfl) Tryd.underlying25) fun a9 H9 => wl_ <| p_ H9 rfl rfl fun _ H10 => ln_ <| nx <| wp_block <| ?_
  clear H7 H8 H9
  refine wp_loop1 (ι := Nat) (fun j1 a9 w9 => ∃ gi1 : Nat, ∃ ci1 : Nat, ∃ cbi1 : Array Value, (1 ≤ j1 ∧ j1 ≤ n) ∧ (OwnC cbi1 ci1 j1 1 (intsV ((X.take j1).map (·.1)))) ∧ En 27 [(13, .int .i64 j1), (12, .int .i64 n), (11, .slice (some ⟨b, o, none⟩) n c), (3, .slice (some ⟨gi1, 0, none⟩) j1 ci1), (0, .pointer (some ⟨g, 0, none⟩))] a9 ∧ St w F [⟨g, 27, #[.slice (some ⟨b, o, none⟩) n c]⟩, ⟨gi1, 3, cbi1⟩] w9) (fun j1 => n - j1) (1) ?_ ?_
  ·
   refine sq_ <| rl_ <| wl_ <| i_ H10 rfl (dd_cmp rfl (H10.ev 13 rfl) (H10.ev 12 rfl) (lt_t (by omega))) fun _ H12 => ln_ <| nx <| sq_ <| ct_ H12 rfl <| wp_skip <| nx <| sq_ <| wp_block <| sq_ <| rl_ <| wl_ <| i_ H12 rfl (xSo 36 (o + 0 * 36) rfl (H12.ev 11 rfl) (H12.ev 13 rfl)) fun _ H13 => ?_
   clear H10 H12
   obtain ⟨x0, hx0⟩ : ∃ x, X[0]? = some x := ⟨_, List.getElem?_eq_getElem (by rw [hi.len]; omega)⟩
   have hw0 := hi.wf x0 (List.mem_of_getElem? hx0)
   refine wl_ <| i_ H13 rfl (v := .agg (catA [[.int .i64 x0.1], [.int .i64 x0.2.1], [.string (strB x0.2.2.1)], [.int .i64 x0.2.2.2.1], bytesV x0.2.2.2.2])) (dd_atN rfl (H13.ev 15 rfl) (item_all (HE _ HS.chg) hi.wf hx0) Tryd.underlying40 rfl (by show _ = some (catA [[.int .i64 x0.1], [.int .i64 x0.2.1], [.string (strB x0.2.2.1)], [.int .i64 x0.2.2.2.1], bytesV x0.2.2.2.2]).toList.length; rw [show (catA [[.int .i64 x0.1], [.int .i64 x0.2.1], [.string (strB x0.2.2.1)], [.int .i64 x0.2.2.2.1], bytesV x0.2.2.2.2]).toList.length = 36 from (Array.length_toList).trans (cat_size (lens_cons rfl (lens_cons rfl (lens_cons rfl (lens_cons rfl (lens_cons (len_bv hw0) (lens_nil)))))))]; kernel_rfl)) fun _ H14 => wl_ <| n_ H14 rfl (fun _ h => dd_new HS (catA [[.int .i64 0], [.int .i64 0], [.string (⟨#[]⟩)], [.int .i64 0], bytesV (zer 32)]) rfl (z := .agg (catA [[.int .i64 0], [.int .i64 0], [.string (⟨#[]⟩)], [.int .i64 0], bytesV (zer 32)])) (by kernel_rfl) rfl h) fun g5 _ HS15 _ H15 => wl_ <| t_ rfl (fun _ h => dd_setrow HS15 1 rfl rfl (H15.ev 5 rfl) (H15.ev 16 rfl) (by kernel_rfl) ((cat_size (lens_cons rfl (lens_cons rfl (lens_cons rfl (lens_cons rfl (lens_cons (len_bv hw0) (lens_nil))))))) : (catA [[.int .i64 x0.1], [.int .i64 x0.2.1], [.string (strB x0.2.2.1)], [.int .i64 x0.2.2.2.1], bytesV x0.2.2.2.2]).size = 36) ((cat_size (lens_cons rfl (lens_cons rfl (lens_cons rfl (lens_cons rfl (lens_cons (len_bv (length_zer 32)) (lens_nil))))))) : (catA [[.int .i64 0], [.int .i64 0], [.string (⟨#[]⟩)], [.int .i64 0], bytesV (zer 32)]).size = 36) (cat_one (ones_cons (ones_c rfl) (ones_cons (ones_c rfl) (ones_cons (ones_c rfl) (ones_cons (ones_c rfl) (ones_cons (one_bytesV _) (ones_nil))))))) h) fun _ HS16 => ln_ <| nx <| rl_ <| wl_ <| p_ H15 rfl rfl fun _ H17 => wl_ <| i_ H17 rfl (xf 0 0 rfl (H17.ev 5 rfl)) fun _ H18 => wl_ <| i_ H18 rfl (dd_get HS16 1 0 rfl rfl (H18.ev 18 rfl) (cat_get (lens_cons rfl (lens_cons rfl (lens_cons rfl (lens_cons rfl (lens_cons (len_bv hw0) (lens_nil)))))) 0 rfl rfl) Tryd.underlying3 rfl) fun _ H19 => wl_ <| n_ H19 rfl (fun _ h => dd_lits HS16 #[.int .i64 x0.1] rfl (ps := [(0, .int .i64 x0.1)]) (pr1 (H19.ev 19 rfl) (pr0)) (z := .int .i64 0) (sz := 1) Tryd.underlying45 (by kernel_rfl) rfl rfl (by kernel_rfl) h) fun g20 _ HS20 _ H20 => wl_ <| a_ H20 rfl (S := fun g21_22 cb21_22 => [⟨g, 27, #[.slice (some ⟨b, o, none⟩) n c]⟩, ⟨g5, 40, catA [[.int .i64 x0.1], [.int .i64 x0.2.1], [.string (strB x0.2.2.1)], [.int .i64 x0.2.2.2.1], bytesV x0.2.2.2.2]⟩, ⟨g20, 3, #[.int .i64 x0.1]⟩, ⟨g21_22, 3, cb21_22⟩]) (fun g21_22 c21_22 => .slice (some ⟨g21_22, 0, none⟩) 1 c21_22) (T := fun _ c21_22 cb21_22 => OwnC cb21_22 c21_22 1 1 ([.int .i64 x0.1])) (fun _ h => dd_app0 HS20 rfl (H20.ev 17 rfl) (z := .int .i64 0) (bytes := 8) (sz := 1) Tryd.underlying45 (by kernel_rfl) rfl (by decide) ([.int .i64 x0.1]) (H20.ev 20 rfl) rfl (row_news (HS20.row 2 rfl) 0 (slab_whole _)) (ao_cons rfl ao_nil) (by unfold maxLen; omega) (by omega) h) fun g21_22 c21_22 cb21_22 _ O21_22 HS21 _ H21 => ?_
   clear H13 HS H14 HS15 H15 H17 H18 HS16 H19
   refine wl_ <| p_ H21 rfl rfl fun _ H23 => ln_ <| bn <| nx <| rl_ <| wl_ <| i_ H23 rfl (v := .int .i64 1) (dd_ari rfl (H23.ev 13 rfl) rfl rfl (by decide)) fun _ H24 => wl_ <| p_ H24 rfl rfl fun _ H25 => ln_ <| ?_
   clear HS20 H20 H21 H23 H24
   have H26 := H25.sel [0, 11, 12, 3, 13] rfl
   clear H25
   exact nx ⟨g21_22, c21_22, cb21_22, (by omega), (ids_1 hx0 O21_22), H26.sel [0, 3, 11, 12, 13] rfl, ss HS21 [0, 3]⟩
  clear H10 HS
  rintro j1 aL11 wL11 ⟨gi1, ci1, cbi1, hj, Oi1, HL11, HSL11⟩
  refine sq_ <| rl_ <| ?_
  by_cases hc28 : (j1 : Int) < n
  ·
   refine wl_ <| i_ HL11 rfl (dd_cmp rfl (HL11.ev 13 rfl) (HL11.ev 12 rfl) (lt_t hc28)) fun _ H29 => ln_ <| nx <| sq_ <| ct_ H29 rfl <| wp_skip <| nx <| sq_ <| wp_block <| sq_ <| rl_ <| wl_ <| i_ H29 rfl (xSo 36 (o + j1 * 36) rfl (H29.ev 11 rfl) (H29.ev 13 rfl)) fun _ H30 => ?_
   clear HL11 H29
   obtain ⟨xj1, hxj1⟩ : ∃ x, X[j1]? = some x := ⟨_, List.getElem?_eq_getElem (by rw [hi.len]; omega)⟩
   have hwj1 := hi.wf xj1 (List.mem_of_getElem? hxj1)
   refine wl_ <| i_ H30 rfl (v := .agg (catA [[.int .i64 xj1.1], [.int .i64 xj1.2.1], [.string (strB xj1.2.2.1)], [.int .i64 xj1.2.2.2.1], bytesV xj1.2.2.2.2])) (dd_atN rfl (H30.ev 15 rfl) (item_all (HE _ HSL11.chg) hi.wf hxj1) Tryd.underlying40 rfl (by show _ = some (catA [[.int .i64 xj1.1], [.int .i64 xj1.2.1], [.string (strB xj1.2.2.1)], [.int .i64 xj1.2.2.2.1], bytesV xj1.2.2.2.2]).toList.length; rw [show (catA [[.int .i64 xj1.1], [.int .i64 xj1.2.1], [.string (strB xj1.2.2.1)], [.int .i64 xj1.2.2.2.1], bytesV xj1.2.2.2.2]).toList.length = 36 from (Array.length_toList).trans (cat_size (lens_cons rfl (lens_cons rfl (lens_cons rfl (lens_cons rfl (lens_cons (len_bv hwj1) (lens_nil)))))))]; kernel_rfl)) fun _ H31 => wl_ <| n_ H31 rfl (fun _ h => dd_new HSL11 (catA [[.int .i64 0], [.int .i64 0], [.string (⟨#[]⟩)], [.int .i64 0], bytesV (zer 32)]) rfl (z := .agg (catA [[.int .i64 0], [.int .i64 0], [.string (⟨#[]⟩)], [.int .i64 0], bytesV (zer 32)])) (by kernel_rfl) rfl h) fun g5 _ HS32 _ H32 => wl_ <| t_ rfl (fun _ h => dd_setrow HS32 2 rfl rfl (H32.ev 5 rfl) (H32.ev 16 rfl) (by kernel_rfl) ((cat_size (lens_cons rfl (lens_cons rfl (lens_cons rfl (lens_cons rfl (lens_cons (len_bv hwj1) (lens_nil))))))) : (catA [[.int .i64 xj1.1], [.int .i64 xj1.2.1], [.string (strB xj1.2.2.1)], [.int .i64 xj1.2.2.2.1], bytesV xj1.2.2.2.2]).size = 36) ((cat_size (lens_cons rfl (lens_cons rfl (lens_cons rfl (lens_cons rfl (lens_cons (len_bv (length_zer 32)) (lens_nil))))))) : (catA [[.int .i64 0], [.int .i64 0], [.string (⟨#[]⟩)], [.int .i64 0], bytesV (zer 32)]).size = 36) (cat_one (ones_cons (ones_c rfl) (ones_cons (ones_c rfl) (ones_cons (ones_c rfl) (ones_cons (ones_c rfl) (ones_cons (one_bytesV _) (ones_nil))))))) h) fun _ HS33 => ln_ <| nx <| rl_ <| wl_ <| p_ H32 rfl rfl fun _ H34 => wl_ <| i_ H34 rfl (xf 0 0 rfl (H34.ev 5 rfl)) fun _ H35 => wl_ <| i_ H35 rfl (dd_get HS33 2 0 rfl rfl (H35.ev 18 rfl) (cat_get (lens_cons rfl (lens_cons rfl (lens_cons rfl (lens_cons rfl (lens_cons (len_bv hwj1) (lens_nil)))))) 0 rfl rfl) Tryd.underlying3 rfl) fun _ H36 => wl_ <| n_ H36 rfl (fun _ h => dd_lits HS33 #[.int .i64 xj1.1] rfl (ps := [(0, .int .i64 xj1.1)]) (pr1 (H36.ev 19 rfl) (pr0)) (z := .int .i64 0) (sz := 1) Tryd.underlying45 (by kernel_rfl) rfl rfl (by kernel_rfl) h) fun g20 _ HS37 _ H37 => wl_ <| a_ H37 rfl (S := fun g21_39 cb21_39 => [⟨g, 27, #[.slice (some ⟨b, o, none⟩) n c]⟩, ⟨g5, 40, catA [[.int .i64 xj1.1], [.int .i64 xj1.2.1], [.string (strB xj1.2.2.1)], [.int .i64 xj1.2.2.2.1], bytesV xj1.2.2.2.2]⟩, ⟨g20, 3, #[.int .i64 xj1.1]⟩, ⟨g21_39, 3, cb21_39⟩]) (fun g21_39 c21_39 => .slice (some ⟨g21_39, 0, none⟩) (j1 + 1) c21_39) (T := fun _ c21_39 cb21_39 => OwnC cb21_39 c21_39 (j1 + 1) 1 ((intsV ((X.take j1).map (·.1))) ++ [.int .i64 xj1.1])) (fun _ h => dd_app HS37 1 rfl Oi1 rfl (H37.ev 17 rfl) (z := .int .i64 0) (bytes := 8) Tryd.underlying45 (by kernel_rfl) rfl (by decide) ([.int .i64 xj1.1]) (H37.ev 20 rfl) rfl (row_news (HS37.row 3 rfl) 0 (slab_whole _)) (ao_cons rfl ao_nil) (by unfold maxLen; omega) (by omega) h) fun g21_39 c21_39 cb21_39 _ O21_39 HS38 _ H38 => ?_
   clear H30 HSL11 H31 HS32 H32 H34 H35 HS33 H36
   refine wl_ <| p_ H38 rfl rfl fun _ H40 => ln_ <| bn <| nx <| rl_ <| wl_ <| i_ H40 rfl (v := .int .i64 (j1 + 1)) (dd_ari rfl (H40.ev 13 rfl) rfl rfl (i64_of (by first | omega | (have := bd_lo; omega)) (by omega))) fun _ H41 => wl_ <| p_ H41 rfl rfl fun _ H42 => ln_ <| ?_
   clear HS37 H37 H38 H40 H41
   refine nx ⟨j1 + 1, ⟨g21_39, c21_39, cb21_39, (by omega), (ids_S hxj1 O21_39), H42.sel [0, 3, 11, 12, 13] rfl, ss HS38 [0, 3]⟩, (by omega)⟩
  refine wl_ <| i_ HL11 rfl (dd_cmp rfl (HL11.ev 13 rfl) (HL11.ev 12 rfl) (lt_f hc28)) fun _ H43 => ln_ <| nx <| sq_ <| cf_ H43 rfl <| wp_exit <| tx <| tx <| bx <| nx <| sq_ <| rl_ <| wl_ <| p_ H43 rfl rfl fun _ H44 => wl_ <| i_ H44 rfl (dd_nilc rfl (H44.ev 23 rfl)) fun _ H45 => wl_ <| i_ H45 rfl (xf 0 0 rfl (H45.ev 24 rfl)) fun _ H46 => wl_ <| t_ rfl (fun _ h => dd_put (cs := #[.slice none 0 0]) HSL11 0 0 rfl rfl (H46.ev 25 rfl) rfl (by kernel_rfl) rfl rfl rfl rfl h) fun _ HS47 => ln_ <| nx <| sq_ <| rl_ <| q_ H46 2 rfl fun _ H48 => ln_ <| nx <| wp_ret <| ret_run H48.env0 (res_t Tryd.results16 (H48.get 2 rfl)) <| ?_
  clear HL11 H43 H44 H45 HSL11 H46
  obtain rfl : j1 = n := by omega
  exact ⟨gi1, ci1, cbi1, rfl, (by have h9 := Oi1; rw [show X.take j1 = X from by rw [← hi.len]; exact List.take_length] at h9; exact h9), ss HS47 [0, 1]⟩
def fairI (X : List It) : Bool := (X.all fun (x : It) => decide (x.2.2.1.length ≤ 100)) && decide (X.length ≤ 20)
theorem qfair_no {X : List It} {k : Nat} {x : It} (h : X[k]? = some x) (hb : ¬ x.2.2.1.length ≤ 100) : fairI X = false := by
  cases hf : fairI X with
  | false => rfl
  | true =>
    unfold fairI at hf
    rw [Bool.and_eq_true, List.all_eq_true] at hf
    exact absurd (of_decide_eq_true (hf.1 _ (List.mem_of_getElem? h))) hb
theorem qfair_yes {X : List It} (h : ∀ (j : Nat) (x : It), X[j]? = some x → x.2.2.1.length ≤ 100) (hn : X.length ≤ 20) : fairI X = true := by
  unfold fairI
  rw [Bool.and_eq_true, List.all_eq_true]
  refine ⟨fun x hx => ?_, decide_eq_true hn⟩
  obtain ⟨j, hj⟩ := List.getElem?_of_mem hx
  exact decide_eq_true (h j x hj)
theorem qfair_many {X : List It} (hn : ¬ X.length ≤ 20) : fairI X = false := by unfold fairI; rw [decide_eq_false hn, Bool.and_false]
theorem qfair_pos (b o n c : Nat) (X : List It) (w : World) (hi : ItemsAt w (some ⟨b, o, none⟩) n c X) (h0 : CAt w b o (itemsL X)) (hm : n ≤ maxLen) : Calls Tryd.prog 9 #[.slice (some ⟨b, o, none⟩) n c] w fun x w' => x = .returned (.bool (fairI X)) ∧ Below w.heap.size w w' := by
  unfold maxLen at hm
  have HS := St.nil w noF
  have HE : ∀ W, Below w.heap.size w W → CAt W b o (itemsL X) := fun W hb => h0.call hb
  refine enter_en Tryd.func9 rfl Tryd.ntmps9 (Nat.le_of_ble_eq_true rfl) fun a0 (HA0 : En 20 [(0, .slice (some ⟨b, o, none⟩) n c)] a0) => ?_
  refine sq_ <| rl_ <| wl_ <| p_ HA0 rfl rfl fun _ H1 => ln_ <| nx <| sq_ <| sq_ <| rl_ <| wl_ <| p_ H1 rfl rfl fun _ H2 => ln_ <| nx <| wp_block <| ?_
  clear HA0 H1
  refine wp_loopG (ι := Nat) (fun i a9 w9 => (i ≤ n) ∧ (∀ (j : Nat) (x : It), j < i → X[j]? = some x → x.2.2.1.length ≤ 100) ∧ En 20 [(3, .int .i64 i), (0, .slice (some ⟨b, o, none⟩) n c)] a9 ∧ St w noF [] w9) (fun i => n - i) (0) ⟨(Nat.zero_le _), (fun j x hj => absurd hj (Nat.not_lt_zero _)), H2.sel [0, 3] rfl, ss HS []⟩ ?_
  clear H2 HS
  rintro i aL3 wL3 ⟨hj, hok, HL3, HSL3⟩
  refine sq_ <| sq_ <| rl_ <| q_ HL3 2 rfl fun _ H4 => wl_ <| i_ H4 rfl (v := .int .i64 n) (dd_len rfl (H4.ev 5 rfl) Tryd.underlying25) fun _ H5 => ?_
  clear HL3 H4
  by_cases hc7 : (i : Int) < n
  ·
   refine wl_ <| i_ H5 rfl (dd_cmp rfl (H5.ev 4 rfl) (H5.ev 6 rfl) (lt_t hc7)) fun _ H8 => ln_ <| nx <| ct_ H8 rfl <| wp_skip <| nx <| sq_ <| wp_block <| sq_ <| rl_ <| q_ H8 2 rfl fun a9 H9 => wl_ <| i_ H9 rfl (xSo 36 (o + i * 36) rfl (H9.ev 10 rfl) (H9.ev 11 rfl)) fun _ H10 => wl_ <| i_ H10 rfl (xf 2 (o + i * 36 + 2) rfl (H10.ev 12 rfl)) fun _ H11 => ?_
   clear H5 H8 H9 H10
   obtain ⟨xi, hxi⟩ : ∃ x, X[i]? = some x := ⟨_, List.getElem?_eq_getElem (by rw [hi.len]; omega)⟩
   have hwi := hi.wf xi (List.mem_of_getElem? hxi)
   refine wl_ <| i_ H11 rfl (dd_at rfl (H11.ev 13 rfl) (item_nm (HE _ HSL3.below) hi.wf hxi) Tryd.underlying9 rfl) fun _ H12 => wl_ <| i_ H12 rfl (v := .int .i64 xi.2.2.1.length) (dd_lens rfl (H12.ev 14 rfl) Tryd.underlying9 (by rw [strB_size])) fun _ H13 => ?_
   clear H11 H12
   by_cases hc15 : (100 : Int) < xi.2.2.1.length
   ·
    refine wl_ <| i_ H13 rfl (dd_cmp rfl (H13.ev 15 rfl) rfl (gt_t hc15)) fun _ H16 => ln_ <| nx <| ct_ H16 rfl <| sq_ <| rl_ <| wl_ <| p_ H16 rfl rfl fun _ H17 => ln_ <| nx <| wp_ret <| br_ <| tr <| tr <| br_ <| tr <| ret_run H17.env0 (res_t Tryd.results9 (H17.get 2 rfl)) <| ?_
    clear H13 H16
    exact ⟨by rw [qfair_no hxi (by omega)], HSL3.below⟩
   refine wl_ <| i_ H13 rfl (dd_cmp rfl (H13.ev 15 rfl) rfl (gt_f hc15)) fun _ H18 => ln_ <| nx <| cf_ H18 rfl <| wp_skip <| bn <| nx <| rl_ <| wl_ <| p_ H18 rfl rfl fun _ H19 => wl_ <| i_ H19 rfl (v := .int .i64 (i + 1)) (dd_ari rfl (H19.ev 8 rfl) rfl rfl (i64_of (by first | omega | (have := bd_lo; omega)) (by omega))) fun _ H20 => wl_ <| p_ H20 rfl rfl fun _ H21 => ln_ <| ?_
   clear H13 H18 H19 H20
   refine nx ⟨i + 1, ⟨(by omega), (fun j x hj hx => (Nat.lt_succ_iff_lt_or_eq.1 hj).elim (fun h8 => hok j x h8 hx) (fun h8 => by rw [h8, hxi] at hx; injection hx with hx; rw [← hx]; omega)), H21.sel [0, 3] rfl, ss HSL3 []⟩, (by omega)⟩
  refine wl_ <| i_ H5 rfl (dd_cmp rfl (H5.ev 4 rfl) (H5.ev 6 rfl) (lt_f hc7)) fun _ H22 => ln_ <| nx <| cf_ H22 rfl <| wp_exit <| tx <| tx <| bx <| nx <| sq_ <| rl_ <| wl_ <| p_ H22 rfl rfl fun _ H23 => wl_ <| i_ H23 rfl (v := .int .i64 n) (dd_len rfl (H23.ev 17 rfl) Tryd.underlying25) fun _ H24 => ?_
  clear H5 H22 H23
  by_cases hc26 : (n : Int) ≤ 20
  ·
   refine wl_ <| i_ H24 rfl (dd_cmp rfl (H24.ev 18 rfl) rfl (le_t hc26)) fun _ H27 => wl_ <| p_ H27 rfl rfl fun _ H28 => ln_ <| nx <| wp_ret <| ret_run H28.env0 (res_t Tryd.results9 (H28.get 2 rfl)) <| ?_
   clear H24 H27
   exact ⟨by rw [qfair_yes (X := X) (fun j x hx => hok j x (by have := (List.getElem?_eq_some_iff.1 hx).1; have := hi.len; omega) hx) (by rw [hi.len]; omega)], HSL3.below⟩
  refine wl_ <| i_ H24 rfl (dd_cmp rfl (H24.ev 18 rfl) rfl (le_f hc26)) fun _ H29 => wl_ <| p_ H29 rfl rfl fun _ H30 => ln_ <| nx <| wp_ret <| ret_run H30.env0 (res_t Tryd.results9 (H30.get 2 rfl)) <| ?_
  clear H24 H29
  exact ⟨by rw [qfair_many (X := X) (by rw [hi.len]; omega)], HSL3.below⟩
theorem qfair_zero (A : Option Addr) (c : Nat) (w : World) : Calls Tryd.prog 9 #[.slice A 0 c] w fun x w' => x = .returned (.bool (fairI [])) ∧ Below w.heap.size w w' := by
  have HS := St.nil w noF
  refine enter_en Tryd.func9 rfl Tryd.ntmps9 (Nat.le_of_ble_eq_true rfl) fun a0 (HA0 : En 20 [(0, .slice A 0 c)] a0) => ?_
  refine sq_ <| rl_ <| wl_ <| p_ HA0 rfl rfl fun _ H1 => ln_ <| nx <| sq_ <| sq_ <| rl_ <| wl_ <| p_ H1 rfl rfl fun _ H2 => ln_ <| nx <| wp_block <| wp_unr 1 <| unr_go <| sq_ <| sq_ <| rl_ <| q_ H2 2 rfl fun _ H3 => wl_ <| i_ H3 rfl (v := .int .i64 0) (dd_len rfl (H3.ev 5 rfl) Tryd.underlying25) fun _ H4 => wl_ <| i_ H4 rfl (dd_cmp rfl (H4.ev 4 rfl) (H4.ev 6 rfl) (lt_f (by decide))) fun _ H5 => ln_ <| nx <| cf_ H5 rfl <| wp_exit <| tx <| tx <| bx <| nx <| sq_ <| rl_ <| wl_ <| p_ H5 rfl rfl fun _ H6 => wl_ <| i_ H6 rfl (v := .int .i64 0) (dd_len rfl (H6.ev 17 rfl) Tryd.underlying25) fun _ H7 => wl_ <| i_ H7 rfl (dd_cmp rfl (H7.ev 18 rfl) rfl (le_t (by decide))) fun _ H8 => ?_
  clear HA0 H1 H2 H3 H4 H5 H6
  refine wl_ <| p_ H8 rfl rfl fun _ H9 => ln_ <| nx <| wp_ret <| ret_run H9.env0 (res_t Tryd.results9 (H9.get 2 rfl)) <| ?_
  clear H7 H8
  exact ⟨rfl, HS.below⟩
theorem qfair_any (A : Option Addr) (n c : Nat) (X : List It) (w : World) (hi : ItemsAt w A n c X) (hm : n ≤ maxLen) : Calls Tryd.prog 9 #[.slice A n c] w fun x w' => x = .returned (.bool (fairI X)) ∧ Below w.heap.size w w' := by
  by_cases h0 : n = 0
  · subst h0
    obtain rfl : X = [] := List.eq_nil_of_length_eq_zero hi.len
    exact qfair_zero A c w
  · obtain ⟨b, o, rfl, h1⟩ := hi.at_ h0
    exact qfair_pos b o n c X w hi h1 hm
theorem qown_any (y : It) (w : World) (hy : y.2.2.2.2.length = 32) : Calls Tryd.prog 10 #[.agg (catA [[.int .i64 y.1], [.int .i64 y.2.1], [.string (strB y.2.2.1)], [.int .i64 y.2.2.2.1], bytesV y.2.2.2.2])] w fun x w' => x = .returned (.agg (catA [[.int .i64 y.1], [.int .i64 y.2.1], [.string (strB y.2.2.1)], [.int .i64 y.2.2.2.1], bytesV y.2.2.2.2])) ∧ Below w.heap.size w w' := by
  have HS := St.nil w noF
  refine enter_en Tryd.func10 rfl Tryd.ntmps10 (Nat.le_of_ble_eq_true rfl) fun a0 (HA0 : En 14 [(0, .agg (catA [[.int .i64 y.1], [.int .i64 y.2.1], [.string (strB y.2.2.1)], [.int .i64 y.2.2.2.1], bytesV y.2.2.2.2]))] a0) => ?_
  refine sq_ <| rl_ <| wl_ <| n_ HA0 rfl (fun _ h => dd_box HS rfl (HA0.ev 0 rfl) (cs := (catA [[.int .i64 y.1], [.int .i64 y.2.1], [.string (strB y.2.2.1)], [.int .i64 y.2.2.2.1], bytesV y.2.2.2.2])) rfl h) fun _ _ HS1 _ H1 => wl_ <| n_ H1 rfl (fun _ h => dd_new HS1 (catA [[.int .i64 0], [.int .i64 0], [.string (⟨#[]⟩)], [.int .i64 0], bytesV (zer 32)]) rfl (z := .agg (catA [[.int .i64 0], [.int .i64 0], [.string (⟨#[]⟩)], [.int .i64 0], bytesV (zer 32)])) (by kernel_rfl) rfl h) fun _ _ HS2 _ H2 => ln_ <| nx <| sq_ <| rl_ <| wl_ <| i_ H2 rfl (xf 0 0 rfl (H2.ev 1 rfl)) fun _ H3 => wl_ <| i_ H3 rfl (dd_get HS2 0 0 rfl rfl (H3.ev 3 rfl) (cat_get (lens_cons rfl (lens_cons rfl (lens_cons rfl (lens_cons rfl (lens_cons (len_bv hy) (lens_nil)))))) 0 rfl rfl) Tryd.underlying3 rfl) fun _ H4 => wl_ <| i_ H4 rfl (xf 1 1 rfl (H4.ev 1 rfl)) fun _ H5 => wl_ <| i_ H5 rfl (dd_get HS2 0 1 rfl rfl (H5.ev 5 rfl) (cat_get (lens_cons rfl (lens_cons rfl (lens_cons rfl (lens_cons rfl (lens_cons (len_bv hy) (lens_nil)))))) 1 rfl rfl) Tryd.underlying3 rfl) fun _ H6 => wl_ <| i_ H6 rfl (xf 2 2 rfl (H6.ev 1 rfl)) fun _ H7 => wl_ <| i_ H7 rfl (dd_get HS2 0 2 rfl rfl (H7.ev 7 rfl) (cat_get (lens_cons rfl (lens_cons rfl (lens_cons rfl (lens_cons rfl (lens_cons (len_bv hy) (lens_nil)))))) 2 rfl rfl) Tryd.underlying9 rfl) fun _ H8 => ?_
  clear HS HA0 HS1 H1 H2 H3 H4 H5 H6
  refine wl_ <| i_ H8 rfl (xf 3 3 rfl (H8.ev 1 rfl)) fun _ H9 => wl_ <| i_ H9 rfl (dd_get HS2 0 3 rfl rfl (H9.ev 9 rfl) (cat_get (lens_cons rfl (lens_cons rfl (lens_cons rfl (lens_cons rfl (lens_cons (len_bv hy) (lens_nil)))))) 3 rfl rfl) Tryd.underlying3 rfl) fun _ H10 => wl_ <| i_ H10 rfl (xf 4 4 rfl (H10.ev 1 rfl)) fun _ H11 => wl_ <| i_ H11 rfl (v := .agg (bs y.2.2.2.2)) (dd_load HS2 0 4 rfl rfl (H11.ev 11 rfl) (cat_slab1 (lens_cons rfl (lens_cons rfl (lens_cons rfl (lens_cons rfl (lens_cons (len_bv hy) (lens_nil)))))) 4 rfl rfl) Tryd.underlying36 rfl (by rw [show (bs y.2.2.2.2).size = 32 from ((size_bs _).trans hy)]; kernel_rfl)) fun _ H12 => wl_ <| i_ H12 rfl (v := .agg (catA [[.int .i64 y.1], [.int .i64 y.2.1], [.string (strB y.2.2.1)], [.int .i64 y.2.2.2.1], bytesV y.2.2.2.2])) (dd_bld rfl (ps := [(0, .int .i64 y.1), (1, .int .i64 y.2.1), (2, .string (strB y.2.2.1)), (3, .int .i64 y.2.2.2.1), (4, .agg (bs y.2.2.2.2))]) (pr1 (H12.ev 4 rfl) (pr1 (H12.ev 6 rfl) (pr1 (H12.ev 8 rfl) (pr1 (H12.ev 10 rfl) (pr1 (H12.ev 12 rfl) (pr0)))))) (Lz := [[.int .i64 0], [.int .i64 0], [.string (⟨#[]⟩)], [.int .i64 0], bytesV (zer 32)]) (by kernel_rfl) (lens_cons rfl (lens_cons rfl (lens_cons rfl (lens_cons rfl (lens_cons (len_bv (length_zer 32)) (lens_nil)))))) (fit_cons (i := 0) rfl rfl (fit_cons (i := 1) rfl rfl (fit_cons (i := 2) rfl rfl (fit_cons (i := 3) rfl rfl (fit_cons (i := 4) rfl ((size_bs _).trans hy) (fit_nil)))))) (cs := catA [[.int .i64 y.1], [.int .i64 y.2.1], [.string (strB y.2.2.1)], [.int .i64 y.2.2.2.1], bytesV y.2.2.2.2]) rfl) fun _ H13 => wl_ <| t_ rfl (fun _ h => dd_setrow HS2 1 rfl rfl (H13.ev 2 rfl) (H13.ev 13 rfl) (by kernel_rfl) ((cat_size (lens_cons rfl (lens_cons rfl (lens_cons rfl (lens_cons rfl (lens_cons (len_bv hy) (lens_nil))))))) : (catA [[.int .i64 y.1], [.int .i64 y.2.1], [.string (strB y.2.2.1)], [.int .i64 y.2.2.2.1], bytesV y.2.2.2.2]).size = 36) ((cat_size (lens_cons rfl (lens_cons rfl (lens_cons rfl (lens_cons rfl (lens_cons (len_bv (length_zer 32)) (lens_nil))))))) : (catA [[.int .i64 0], [.int .i64 0], [.string (⟨#[]⟩)], [.int .i64 0], bytesV (zer 32)]).size = 36) (cat_one (ones_cons (ones_c rfl) (ones_cons (ones_c rfl) (ones_cons (ones_c rfl) (ones_cons (ones_c rfl) (ones_cons (one_bytesV _) (ones_nil))))))) h) fun _ HS14 => ln_ <| nx <| wp_ret <| ret_run H13.env0 (res_c Tryd.results10 (H13.get 2 rfl) (HS14.row 1 rfl) Tryd.underlying38 rfl (by rw [show (catA [[.int .i64 y.1], [.int .i64 y.2.1], [.string (strB y.2.2.1)], [.int .i64 y.2.2.2.1], bytesV y.2.2.2.2]).size = 36 from (cat_size (lens_cons rfl (lens_cons rfl (lens_cons rfl (lens_cons rfl (lens_cons (len_bv hy) (lens_nil)))))))]; kernel_rfl)) <| ?_
  clear H7 H8 H9 H10 H11 H12 HS2
  exact ⟨rfl, HS14.below⟩
end Go.Proofs.YtnmaplgodimohaaDoor

/- The statements' wakes of what waits. -/
set_option maxRecDepth 4000
namespace Go.Proofs.YtnmaplgodimohaaDoor
open Go Go.RowKit
theorem plc36 {n i s : Nat} (h : (List.replicate n 36)[i]? = some s) : some (i * 36, 36) = some (((List.replicate n 36).take i).sum, s) := by
  rw [List.getElem?_replicate] at h
  split at h
  · injection h with h
    subst h
    rw [List.take_replicate, List.sum_replicate_nat, Nat.min_eq_left (by omega)]
  · cases h
def zqv : Value := .agg zitm
theorem base2 : ((Array.range (2 * 36)).map (zqv.cells[· % zqv.cells.size]!)) = catA (List.replicate 2 zitm.toList) := by kernel_rfl
theorem base3 : ((Array.range (3 * 36)).map (zqv.cells[· % zqv.cells.size]!)) = catA (List.replicate 3 zitm.toList) := by kernel_rfl
theorem items_lit {L : List (List Value)} {X : List It} (h : L = X.map itcell) : (catA L).toList = itemsL X := by subst h; rfl
def wka : It := (5, 2, [97#8, 98#8], 1, zer 32)
def wkb : It := (0, 4, [], 0, zer 32)
theorem wka_len : wka.2.2.2.2.length = 32 := length_zer 32
theorem wka_wf1 : wfI [wka] := fun x hx => by rw [List.mem_singleton] at hx; subst hx; exact wka_len
theorem wka_wf2 : wfI [wka, wka] := wfI_app (l := [wka]) wka_wf1 wka_wf1
theorem wka_at {w : World} {b : Nat} (h : CAt w b 0 (itemsL ([] ++ [wka, wka]))) : CAt w b 36 (itemsL [wka]) := by
  rw [show ([] ++ [wka, wka] : List It) = [wka] ++ [wka] from rfl, items_app] at h
  exact h.post (n := 36) (len_items (n := 1) wka_wf1 rfl)
theorem wka_E : putsE (zer 32) wka = 0 := by
  rw [(puts_2 (qb := zer 32) (y := wka) rfl).1, wk_z2]; decide +kernel
theorem wka_P : (putsP (zer 32) wka).length = 2 := by
  rw [(puts_2 (qb := zer 32) (y := wka) rfl).2, wk_z2]; decide +kernel
theorem one5 : ∀ x ∈ [(5 : Int)], -9223372036854775808 ≤ x ∧ x < 9223372036854775808 := fun x hx => by rw [List.mem_singleton] at hx; subst hx; decide
theorem itm_parts (x : It) (hx : x.2.2.2.2.length = 32) : (catA [[.int .i64 x.1], [.int .i64 x.2.1], [.string (strB x.2.2.1)], [.int .i64 x.2.2.2.1], bytesV x.2.2.2.2])[0]? = some (.int .i64 x.1) ∧ (catA [[.int .i64 x.1], [.int .i64 x.2.1], [.string (strB x.2.2.1)], [.int .i64 x.2.2.2.1], bytesV x.2.2.2.2])[1]? = some (.int .i64 x.2.1) ∧ (catA [[.int .i64 x.1], [.int .i64 x.2.1], [.string (strB x.2.2.1)], [.int .i64 x.2.2.2.1], bytesV x.2.2.2.2])[2]? = some (.string (strB x.2.2.1)) ∧ (catA [[.int .i64 x.1], [.int .i64 x.2.1], [.string (strB x.2.2.1)], [.int .i64 x.2.2.2.1], bytesV x.2.2.2.2])[3]? = some (.int .i64 x.2.2.2.1) ∧ (catA [[.int .i64 x.1], [.int .i64 x.2.1], [.string (strB x.2.2.1)], [.int .i64 x.2.2.2.1], bytesV x.2.2.2.2]).extract 4 36 = bs x.2.2.2.2 := by
  have L := lens_cons (rfl : ([.int .i64 x.1] : List Value).length = 1) (lens_cons (rfl : ([.int .i64 x.2.1] : List Value).length = 1) (lens_cons (rfl : ([.string (strB x.2.2.1)] : List Value).length = 1) (lens_cons (rfl : ([.int .i64 x.2.2.2.1] : List Value).length = 1) (lens_cons (len_bv hx) lens_nil))))
  have h4 := cat_slab1 L 4 (off := 4) (l := bytesV x.2.2.2.2) rfl rfl
  refine ⟨rfl, rfl, rfl, rfl, ?_⟩
  apply Array.toList_inj.1
  rw [Array.toList_extract, List.extract_eq_take_drop]
  rw [List.size_toArray, len_bytesV, hx] at h4
  exact h4
theorem eql_itm (x y : It) (hx : x.2.2.2.2.length = 32) (hy : y.2.2.2.2.length = 32) (w : World) : (Op.equalIn 10000 40 (.agg (catA [[.int .i64 x.1], [.int .i64 x.2.1], [.string (strB x.2.2.1)], [.int .i64 x.2.2.2.1], bytesV x.2.2.2.2])) (.agg (catA [[.int .i64 y.1], [.int .i64 y.2.1], [.string (strB y.2.2.1)], [.int .i64 y.2.2.2.1], bytesV y.2.2.2.2]))).run Tryd.prog w = .ok (decide (x = y)) w := by
  have hS : Tryd.prog.underlying 40 = some (.struct (Tryd.prog.fieldsOf 40)) := by kernel_rfl
  have e : decide (x = y) = (x.1 == y.1 && (x.2.1 == y.2.1 && (((strB x.2.2.1).toList == (strB y.2.2.1).toList) && (x.2.2.2.1 == y.2.2.2.1 && decide (x.2.2.2.2 = y.2.2.2.2))))) := by
    rw [str_beq]
    obtain ⟨x1, x2, x3, x4, x5⟩ := x
    obtain ⟨y1, y2, y3, y4, y5⟩ := y
    by_cases h1 : x1 = y1 <;> by_cases h2 : x2 = y2 <;> by_cases h3 : x3 = y3 <;> by_cases h4 : x4 = y4 <;> by_cases h5 : x5 = y5 <;> simp [h1, h2, h3, h4, h5]
  have q2 : ∀ w, (Op.equalIn 9999 36 (.agg (bs x.2.2.2.2)) (.agg (bs y.2.2.2.2))).run Tryd.prog w = .ok (decide (x.2.2.2.2 = y.2.2.2.2)) w := fun w => equal_bytesD 9997 36 32 x.2.2.2.2 y.2.2.2.2 hx hy Tryd.underlying36 w
  have u1 := Tryd.underlying3
  have u3 := Tryd.underlying9
  obtain ⟨a1, a2, a3, a4, a5⟩ := itm_parts x hx
  obtain ⟨b1, b2, b3, b4, b5⟩ := itm_parts y hy
  rw [e, show (10000 : Nat) = 9999 + 1 from rfl, run_equalIn_agg w 9999 40 _ _ hS (by kernel_rfl)]
  clear e
  generalize decide (x.2.2.2.2 = y.2.2.2.2) = D2 at *
  generalize catA [[.int .i64 x.1], [.int .i64 x.2.1], [.string (strB x.2.2.1)], [.int .i64 x.2.2.2.1], bytesV x.2.2.2.2] = X at *
  generalize catA [[.int .i64 y.1], [.int .i64 y.2.1], [.string (strB y.2.2.1)], [.int .i64 y.2.2.2.1], bytesV y.2.2.2.2] = Y at *
  generalize strB x.2.2.1 = s at *
  generalize strB y.2.2.1 = s' at *
  simp only [Program.fieldsOf, Tryd.underlying40]
  go_simp
  cases D2 <;> by_cases h1 : x.1 = y.1 <;> by_cases h2 : x.2.1 = y.2.1 <;> by_cases h3 : s.toList = s'.toList <;> by_cases h4 : x.2.2.2.1 = y.2.2.2.1 <;> simp_all
set_option maxHeartbeats 1600000 in
theorem qwakes_any (w : World) : Calls Tryd.prog 8 #[] w fun x w' => x = .returned (.bool true) ∧ Below w.heap.size w w' := by
  have HS := St.nil w noF
  refine enter_en Tryd.func8 rfl Tryd.ntmps8 (Nat.le_of_ble_eq_true rfl) fun a0 (HA0 : En 83 [] a0) => ?_
  refine sq_ <| rl_ <| wl_ <| p_ HA0 rfl rfl fun _ H1 => ln_ <| nx <| sq_ <| rl_ <| wl_ <| i_ H1 rfl (v := .agg #[.slice none 0 0]) (dd_bld rfl (ps := []) (pr0) (Lz := [[.slice none 0 0]]) (by kernel_rfl) (lens_cons rfl (lens_nil)) (fit_nil) (cs := #[.slice none 0 0]) rfl) fun _ H2 => wl_ <| n_ H2 rfl (fun _ h => dd_box HS rfl (H2.ev 9 rfl) (cs := #[.slice none 0 0]) rfl h) fun g10 _ HS3 _ H3 => wl_ <| p_ H3 rfl rfl fun _ H4 => ln_ <| nx <| sq_ <| rl_ <| wl_ <| i_ H4 rfl (v := .agg (catA [[.int .i64 5], [.int .i64 2], [.string (⟨#[97, 98]⟩)], [.int .i64 1], bytesV (zer 32)])) (dd_bld rfl (ps := [(0, .int .i64 5), (1, .int .i64 2), (2, .string (⟨#[97, 98]⟩)), (3, .int .i64 1)]) (pr1 rfl (pr1 rfl (pr1 rfl (pr1 rfl (pr0))))) (Lz := [[.int .i64 0], [.int .i64 0], [.string (⟨#[]⟩)], [.int .i64 0], bytesV (zer 32)]) (by kernel_rfl) (lens_cons rfl (lens_cons rfl (lens_cons rfl (lens_cons rfl (lens_cons (len_bv (length_zer 32)) (lens_nil)))))) (fit_cons (i := 0) rfl rfl (fit_cons (i := 1) rfl rfl (fit_cons (i := 2) rfl rfl (fit_cons (i := 3) rfl rfl (fit_nil))))) (cs := catA [[.int .i64 5], [.int .i64 2], [.string (⟨#[97, 98]⟩)], [.int .i64 1], bytesV (zer 32)]) rfl) fun _ H5 => wl_ <| n_ H5 rfl (fun _ h => dd_new HS3 (catA [[.int .i64 0], [.int .i64 0], [.string (⟨#[]⟩)], [.int .i64 0], bytesV (zer 32)]) rfl (z := .agg (catA [[.int .i64 0], [.int .i64 0], [.string (⟨#[]⟩)], [.int .i64 0], bytesV (zer 32)])) (by kernel_rfl) rfl h) fun g2 _ HS6 _ H6 => wl_ <| t_ rfl (fun _ h => dd_setrow HS6 1 rfl rfl (H6.ev 2 rfl) (H6.ev 11 rfl) (by kernel_rfl) ((cat_size (lens_cons rfl (lens_cons rfl (lens_cons rfl (lens_cons rfl (lens_cons (len_bv (length_zer 32)) (lens_nil))))))) : (catA [[.int .i64 5], [.int .i64 2], [.string (⟨#[97, 98]⟩)], [.int .i64 1], bytesV (zer 32)]).size = 36) ((cat_size (lens_cons rfl (lens_cons rfl (lens_cons rfl (lens_cons rfl (lens_cons (len_bv (length_zer 32)) (lens_nil))))))) : (catA [[.int .i64 0], [.int .i64 0], [.string (⟨#[]⟩)], [.int .i64 0], bytesV (zer 32)]).size = 36) (cat_one (ones_cons (ones_c rfl) (ones_cons (ones_c rfl) (ones_cons (ones_c rfl) (ones_cons (ones_c rfl) (ones_cons (one_bytesV _) (ones_nil))))))) h) fun _ HS7 => ln_ <| nx <| sq_ <| sq_ <| rl_ <| wl_ <| p_ H6 rfl rfl fun _ H8 => ?_
  clear HA0 H1 HS H2 H3 H4 HS3 H5 HS6
  refine wl_ <| i_ H8 rfl (v := .agg (catA [[.int .i64 5], [.int .i64 2], [.string (⟨#[97, 98]⟩)], [.int .i64 1], bytesV (zer 32)])) (dd_load HS7 1 0 rfl rfl (H8.ev 2 rfl) (slab_whole _) Tryd.underlying40 rfl (by rw [show (catA [[.int .i64 5], [.int .i64 2], [.string (⟨#[97, 98]⟩)], [.int .i64 1], bytesV (zer 32)]).size = 36 from (cat_size (lens_cons rfl (lens_cons rfl (lens_cons rfl (lens_cons rfl (lens_cons (len_bv (length_zer 32)) (lens_nil)))))))]; kernel_rfl)) fun _ H9 => wl_ <| i_ H9 rfl (v := .agg (catA [[.int .i64 5], [.int .i64 2], [.string (⟨#[97, 98]⟩)], [.int .i64 1], bytesV (zer 32)])) (dd_load HS7 1 0 rfl rfl (H9.ev 2 rfl) (slab_whole _) Tryd.underlying40 rfl (by rw [show (catA [[.int .i64 5], [.int .i64 2], [.string (⟨#[97, 98]⟩)], [.int .i64 1], bytesV (zer 32)]).size = 36 from (cat_size (lens_cons rfl (lens_cons rfl (lens_cons rfl (lens_cons rfl (lens_cons (len_bv (length_zer 32)) (lens_nil)))))))]; kernel_rfl)) fun _ H10 => wl_ <| n_ H10 rfl (fun _ h => dd_lits HS7 (catA [(catA [[.int .i64 5], [.int .i64 2], [.string (⟨#[97, 98]⟩)], [.int .i64 1], bytesV (zer 32)]).toList, (catA [[.int .i64 5], [.int .i64 2], [.string (⟨#[97, 98]⟩)], [.int .i64 1], bytesV (zer 32)]).toList]) rfl (ps := [(0, .agg (catA [[.int .i64 5], [.int .i64 2], [.string (⟨#[97, 98]⟩)], [.int .i64 1], bytesV (zer 32)])), (1, .agg (catA [[.int .i64 5], [.int .i64 2], [.string (⟨#[97, 98]⟩)], [.int .i64 1], bytesV (zer 32)]))]) (pr1 (H10.ev 13 rfl) (pr1 (H10.ev 14 rfl) (pr0))) (z := .agg (catA [[.int .i64 0], [.int .i64 0], [.string (⟨#[]⟩)], [.int .i64 0], bytesV (zer 32)])) (sz := 36) Tryd.underlying25 (by kernel_rfl) rfl rfl ((congrArg (fun b9 => Instr.fill (fun i => some (i * 36, 36)) b9 [(0, .agg (catA [[.int .i64 5], [.int .i64 2], [.string (⟨#[97, 98]⟩)], [.int .i64 1], bytesV (zer 32)])), (1, .agg (catA [[.int .i64 5], [.int .i64 2], [.string (⟨#[97, 98]⟩)], [.int .i64 1], bytesV (zer 32)]))]) base2).trans (fill_segs _ [(0, .agg (catA [[.int .i64 5], [.int .i64 2], [.string (⟨#[97, 98]⟩)], [.int .i64 1], bytesV (zer 32)])), (1, .agg (catA [[.int .i64 5], [.int .i64 2], [.string (⟨#[97, 98]⟩)], [.int .i64 1], bytesV (zer 32)]))] (List.replicate 2 zitm.toList) (List.replicate 2 36) rfl (fun i s h => plc36 h) (fit_cons (i := 0) rfl (cat_size (lens_cons rfl (lens_cons rfl (lens_cons rfl (lens_cons rfl (lens_cons (len_bv (length_zer 32)) (lens_nil))))))) (fit_cons (i := 1) rfl (cat_size (lens_cons rfl (lens_cons rfl (lens_cons rfl (lens_cons rfl (lens_cons (len_bv (length_zer 32)) (lens_nil))))))) (fit_nil))))) h) fun g15 _ HS11 _ H11 => ?_
  clear H6 H8 H9 HS7 H10
  refine wl_ <| d_ H11 rfl (R := fun v9 w9 => ∃ gq13 : Nat, ∃ cq13 : Nat, ∃ cbq13 : Array Value, v9 = .int .i64 0 ∧ (OwnC cbq13 cq13 2 36 (itemsL ([] ++ [wka, wka]))) ∧ St w noF [⟨g10, 27, #[.slice (some ⟨gq13, 0, none⟩) 2 cq13]⟩, ⟨gq13, 40, cbq13⟩, ⟨g2, 40, catA [[.int .i64 5], [.int .i64 2], [.string (⟨#[97, 98]⟩)], [.int .i64 1], bytesV (zer 32)]⟩, ⟨g15, 40, catA [(catA [[.int .i64 5], [.int .i64 2], [.string (⟨#[97, 98]⟩)], [.int .i64 1], bytesV (zer 32)]).toList, (catA [[.int .i64 5], [.int .i64 2], [.string (⟨#[97, 98]⟩)], [.int .i64 1], bytesV (zer 32)]).toList]⟩] w9) (dc_ Tryd.func11 rfl (args2 (H11.ev 12 rfl) (H11.ev 15 rfl)) (queadd_some _ g10 _ _ 0 _ 2 _ ([]) ([wka, wka]) _ (ss HS11 [0]).frame (fun W9 k9 => items_nil _ _ _) (fun W9 k9 => (items_row (X := [wka, wka]) ((HS11.row 2 rfl).chg k9 (nin_row (S1 := selB [⟨g10, 27, #[.slice none 0 0]⟩, ⟨g2, 40, catA [[.int .i64 5], [.int .i64 2], [.string (⟨#[97, 98]⟩)], [.int .i64 1], bytesV (zer 32)]⟩, ⟨g15, 40, catA [(catA [[.int .i64 5], [.int .i64 2], [.string (⟨#[97, 98]⟩)], [.int .i64 1], bytesV (zer 32)]).toList, (catA [[.int .i64 5], [.int .i64 2], [.string (⟨#[97, 98]⟩)], [.int .i64 1], bytesV (zer 32)]).toList]⟩] [0]) (ss HS11 [0, 1, 2]) 1 rfl)) (items_lit rfl) rfl wka_wf2)) (by decide) (by decide)) (fun _ w9 ⟨g9, c9, cb9, he, hO, hS⟩ => ⟨_, he, g9, c9, cb9, rfl, hO, St.reframe (ss HS11 [0, 1, 2]) hS⟩)) ?_
  rintro _ W12 ⟨gq13, cq13, cbq13, rfl, Oq13, HS12⟩ a12 H12
  clear H11 HS11
  refine wl_ <| i_ H12 rfl (dd_cmp rfl (H12.ev 16 rfl) rfl (ne_f (by decide))) fun _ H14 => wl_ <| p_ H14 rfl rfl fun _ H15 => wl_ <| ig H15 (wg_ H15 rfl rfl rfl rfl) rfl (dd_mv rfl (H15.ev 1 rfl)) fun _ H16 => wl_ <| ig H16 (wg_ H16 rfl rfl rfl rfl) rfl (v := .agg (catA [[.int .i64 5], [.int .i64 2], [.string (⟨#[97, 98]⟩)], [.int .i64 1], bytesV (zer 32)])) (dd_load HS12 2 0 rfl rfl (H16.ev 2 rfl) (slab_whole _) Tryd.underlying40 rfl (by rw [show (catA [[.int .i64 5], [.int .i64 2], [.string (⟨#[97, 98]⟩)], [.int .i64 1], bytesV (zer 32)]).size = 36 from (cat_size (lens_cons rfl (lens_cons rfl (lens_cons rfl (lens_cons rfl (lens_cons (len_bv (length_zer 32)) (lens_nil)))))))]; kernel_rfl)) fun _ H17 => wl_ <| ig H17 (wg_ H17 rfl rfl rfl rfl) rfl (v := .agg (catA [[.int .i64 5], [.int .i64 2], [.string (⟨#[97, 98]⟩)], [.int .i64 1], bytesV (zer 32)])) (dd_load HS12 2 0 rfl rfl (H17.ev 2 rfl) (slab_whole _) Tryd.underlying40 rfl (by rw [show (catA [[.int .i64 5], [.int .i64 2], [.string (⟨#[97, 98]⟩)], [.int .i64 1], bytesV (zer 32)]).size = 36 from (cat_size (lens_cons rfl (lens_cons rfl (lens_cons rfl (lens_cons rfl (lens_cons (len_bv (length_zer 32)) (lens_nil)))))))]; kernel_rfl)) fun _ H18 => wl_ <| ig H18 (wg_ H18 rfl rfl rfl rfl) rfl (v := .agg (catA [[.int .i64 5], [.int .i64 2], [.string (⟨#[97, 98]⟩)], [.int .i64 1], bytesV (zer 32)])) (dd_load HS12 2 0 rfl rfl (H18.ev 2 rfl) (slab_whole _) Tryd.underlying40 rfl (by rw [show (catA [[.int .i64 5], [.int .i64 2], [.string (⟨#[97, 98]⟩)], [.int .i64 1], bytesV (zer 32)]).size = 36 from (cat_size (lens_cons rfl (lens_cons rfl (lens_cons rfl (lens_cons rfl (lens_cons (len_bv (length_zer 32)) (lens_nil)))))))]; kernel_rfl)) fun _ H19 => wl_ <| ng H19 (wg_ H19 rfl rfl rfl rfl) rfl (S := fun g23 => [⟨g10, 27, #[.slice (some ⟨gq13, 0, none⟩) 2 cq13]⟩, ⟨gq13, 40, cbq13⟩, ⟨g2, 40, catA [[.int .i64 5], [.int .i64 2], [.string (⟨#[97, 98]⟩)], [.int .i64 1], bytesV (zer 32)]⟩, ⟨g15, 40, catA [(catA [[.int .i64 5], [.int .i64 2], [.string (⟨#[97, 98]⟩)], [.int .i64 1], bytesV (zer 32)]).toList, (catA [[.int .i64 5], [.int .i64 2], [.string (⟨#[97, 98]⟩)], [.int .i64 1], bytesV (zer 32)]).toList]⟩, ⟨g23, 40, catA [(catA [[.int .i64 5], [.int .i64 2], [.string (⟨#[97, 98]⟩)], [.int .i64 1], bytesV (zer 32)]).toList, (catA [[.int .i64 5], [.int .i64 2], [.string (⟨#[97, 98]⟩)], [.int .i64 1], bytesV (zer 32)]).toList, (catA [[.int .i64 5], [.int .i64 2], [.string (⟨#[97, 98]⟩)], [.int .i64 1], bytesV (zer 32)]).toList]⟩]) (fun _ h => dd_lits HS12 (catA [(catA [[.int .i64 5], [.int .i64 2], [.string (⟨#[97, 98]⟩)], [.int .i64 1], bytesV (zer 32)]).toList, (catA [[.int .i64 5], [.int .i64 2], [.string (⟨#[97, 98]⟩)], [.int .i64 1], bytesV (zer 32)]).toList, (catA [[.int .i64 5], [.int .i64 2], [.string (⟨#[97, 98]⟩)], [.int .i64 1], bytesV (zer 32)]).toList]) rfl (ps := [(0, .agg (catA [[.int .i64 5], [.int .i64 2], [.string (⟨#[97, 98]⟩)], [.int .i64 1], bytesV (zer 32)])), (1, .agg (catA [[.int .i64 5], [.int .i64 2], [.string (⟨#[97, 98]⟩)], [.int .i64 1], bytesV (zer 32)])), (2, .agg (catA [[.int .i64 5], [.int .i64 2], [.string (⟨#[97, 98]⟩)], [.int .i64 1], bytesV (zer 32)]))]) (pr1 (H19.ev 20 rfl) (pr1 (H19.ev 21 rfl) (pr1 (H19.ev 22 rfl) (pr0)))) (z := .agg (catA [[.int .i64 0], [.int .i64 0], [.string (⟨#[]⟩)], [.int .i64 0], bytesV (zer 32)])) (sz := 36) Tryd.underlying25 (by kernel_rfl) rfl rfl ((congrArg (fun b9 => Instr.fill (fun i => some (i * 36, 36)) b9 [(0, .agg (catA [[.int .i64 5], [.int .i64 2], [.string (⟨#[97, 98]⟩)], [.int .i64 1], bytesV (zer 32)])), (1, .agg (catA [[.int .i64 5], [.int .i64 2], [.string (⟨#[97, 98]⟩)], [.int .i64 1], bytesV (zer 32)])), (2, .agg (catA [[.int .i64 5], [.int .i64 2], [.string (⟨#[97, 98]⟩)], [.int .i64 1], bytesV (zer 32)]))]) base3).trans (fill_segs _ [(0, .agg (catA [[.int .i64 5], [.int .i64 2], [.string (⟨#[97, 98]⟩)], [.int .i64 1], bytesV (zer 32)])), (1, .agg (catA [[.int .i64 5], [.int .i64 2], [.string (⟨#[97, 98]⟩)], [.int .i64 1], bytesV (zer 32)])), (2, .agg (catA [[.int .i64 5], [.int .i64 2], [.string (⟨#[97, 98]⟩)], [.int .i64 1], bytesV (zer 32)]))] (List.replicate 3 zitm.toList) (List.replicate 3 36) rfl (fun i s h => plc36 h) (fit_cons (i := 0) rfl (cat_size (lens_cons rfl (lens_cons rfl (lens_cons rfl (lens_cons rfl (lens_cons (len_bv (length_zer 32)) (lens_nil))))))) (fit_cons (i := 1) rfl (cat_size (lens_cons rfl (lens_cons rfl (lens_cons rfl (lens_cons rfl (lens_cons (len_bv (length_zer 32)) (lens_nil))))))) (fit_cons (i := 2) rfl (cat_size (lens_cons rfl (lens_cons rfl (lens_cons rfl (lens_cons rfl (lens_cons (len_bv (length_zer 32)) (lens_nil))))))) (fit_nil)))))) h) fun g23 W20 HS20 _ H20 => wl_ <| cg H20 (wg_ H20 rfl rfl rfl rfl) rfl HS20 (dcs Tryd.func11 rfl (args2 (H20.ev 19 rfl) (H20.ev 23 rfl)) (queadd_full g10 _ _ _ _ _ _ W20 (HS20.row 0 rfl) (by decide) (by decide) (by decide)) (.int .i64 19)) fun W21 HS21 _ H21 => ?_
  clear H12 H14 H15 H16 H17 H18 HS12 H19
  refine wl_ <| ig H21 (wg_ H21 rfl rfl rfl rfl) rfl (dd_cmp rfl (H21.ev 24 rfl) rfl (ne_f (by decide))) fun _ H22 => q_ H22 2 rfl fun _ H23 => wl_ <| ig H23 (wg_ H23 rfl rfl rfl rfl) rfl (dd_mv rfl (H23.ev 1 rfl)) fun _ H24 => wl_ <| cg H24 (wg_ H24 rfl rfl rfl rfl) rfl HS21 (dcs Tryd.func19 rfl (args1 (H24.ev 28 rfl)) (quelen_any g10 _ _ _ W21 (HS21.row 0 rfl)) (.int .i64 2)) fun W25 HS25 _ H25 => wl_ <| ig H25 (wg_ H25 rfl rfl rfl rfl) rfl (dd_cmp rfl (H25.ev 29 rfl) rfl (ne_f (by decide))) fun _ H26 => wl_ <| p_ H26 rfl rfl fun _ H27 => ln_ <| ?_
  clear H20 HS20 H21 H22 H23 H24 HS21 H25 H26
  have H28 := H27.sel [1, 2, 31] rfl
  refine nx <| cf_ H28 rfl <| wp_skip <| nx <| sq_ <| rl_ <| wl_ <| p_ H28 rfl rfl fun _ H29 => wl_ <| c_ H29 rfl HS25 (v := .tuple #[.agg (catA [[.int .i64 wka.1], [.int .i64 wka.2.1], [.string (strB wka.2.2.1)], [.int .i64 wka.2.2.2.1], bytesV wka.2.2.2.2]), .bool true]) (dc_ Tryd.func18 rfl (args1 (H29.ev 33 rfl)) (quehead_some g10 _ _ _ _ ([] ++ [wka, wka]) W25 (HS25.row 0 rfl) (items_own (HS25.row 1 rfl) Oq13 rfl wka_wf2) (cat_own (HS25.row 1 rfl) Oq13) (by decide)) (fun _ w9 ⟨y9, hy9, he, hb⟩ => by obtain rfl : wka = y9 := (by injection (show some wka = some y9 from hy9)); exact ⟨_, he, rfl, hb⟩)) fun _ HS30 _ H30 => wl_ <| p_ H30 rfl rfl fun _ H31 => wl_ <| i_ H31 rfl (v := .agg (catA [[.int .i64 wka.1], [.int .i64 wka.2.1], [.string (strB wka.2.2.1)], [.int .i64 wka.2.2.2.1], bytesV wka.2.2.2.2])) (dd_ext rfl (H31.ev 32 rfl) rfl) fun _ H32 => wl_ <| i_ H32 rfl (v := .bool true) (dd_ext rfl (H32.ev 32 rfl) rfl) fun _ H33 => wl_ <| n_ H33 rfl (fun _ h => dd_new HS30 (catA [[.int .i64 0], [.int .i64 0], [.string (⟨#[]⟩)], [.int .i64 0], bytesV (zer 32)]) rfl (z := .agg (catA [[.int .i64 0], [.int .i64 0], [.string (⟨#[]⟩)], [.int .i64 0], bytesV (zer 32)])) (by kernel_rfl) rfl h) fun g3 _ HS34 _ H34 => wl_ <| t_ rfl (fun _ h => dd_setrow HS34 5 rfl rfl (H34.ev 3 rfl) (H34.ev 35 rfl) (by kernel_rfl) ((cat_size (lens_cons rfl (lens_cons rfl (lens_cons rfl (lens_cons rfl (lens_cons (len_bv wka_len) (lens_nil))))))) : (catA [[.int .i64 wka.1], [.int .i64 wka.2.1], [.string (strB wka.2.2.1)], [.int .i64 wka.2.2.2.1], bytesV wka.2.2.2.2]).size = 36) ((cat_size (lens_cons rfl (lens_cons rfl (lens_cons rfl (lens_cons rfl (lens_cons (len_bv (length_zer 32)) (lens_nil))))))) : (catA [[.int .i64 0], [.int .i64 0], [.string (⟨#[]⟩)], [.int .i64 0], bytesV (zer 32)]).size = 36) (cat_one (ones_cons (ones_c rfl) (ones_cons (ones_c rfl) (ones_cons (ones_c rfl) (ones_cons (ones_c rfl) (ones_cons (one_bytesV _) (ones_nil))))))) h) fun W35 HS35 => wl_ <| p_ H34 rfl rfl fun _ H36 => ?_
  clear H27 H28 H29 HS25 H30 H31 H32 HS30 H33 HS34
  refine ln_ <| nx <| sq_ <| rl_ <| wl_ <| i_ H36 rfl (v := .agg (catA [[.int .i64 5], [.int .i64 2], [.string (⟨#[97, 98]⟩)], [.int .i64 1], bytesV (zer 32)])) (dd_load HS35 2 0 rfl rfl (H36.ev 2 rfl) (slab_whole _) Tryd.underlying40 rfl (by rw [show (catA [[.int .i64 5], [.int .i64 2], [.string (⟨#[97, 98]⟩)], [.int .i64 1], bytesV (zer 32)]).size = 36 from (cat_size (lens_cons rfl (lens_cons rfl (lens_cons rfl (lens_cons rfl (lens_cons (len_bv (length_zer 32)) (lens_nil)))))))]; kernel_rfl)) fun _ H37 => wl_ <| i_ H37 rfl (v := .agg (bs (zer 32))) (dd_bldk rfl (ps := []) (pr0) (cs := bs (zer 32)) (by kernel_rfl)) fun _ H38 => ?_
  clear H34 H36 H37
  refine wl_ <| d_ H38 rfl (R := fun v w9 => ∃ Ap cp, v = .tuple #[.slice Ap 2 cp, .int .i64 0] ∧ Below W35.heap.size W35 w9) (dc_ Tryd.func20 rfl (args2 (H38.ev 38 rfl) (H38.ev 39 rfl)) (queputs_any wka (zer 32) W35 wka_len (length_zer 32) (by decide)) (fun _ w9 ⟨v9, he, ho, hb⟩ => by rw [wka_E] at he; rw [wka_P] at ho; obtain ⟨g9, c9, cb9, rfl, _⟩ := ownc_pos ho (by decide); exact ⟨_, he, _, c9, rfl, hb⟩)) ?_
  rintro _ W39 ⟨Ap, cp, rfl, hb39⟩ a39 H39
  have HS39 := HS35.same hb39
  clear H38
  clear HS35 hb39
  refine wl_ <| p_ H39 rfl rfl fun _ H40 => wl_ <| i_ H40 rfl (v := .slice Ap 2 cp) (dd_ext rfl (H40.ev 37 rfl) rfl) fun _ H41 => wl_ <| i_ H41 rfl (v := .int .i64 0) (dd_ext rfl (H41.ev 37 rfl) rfl) fun _ H42 => q_ H42 2 rfl fun _ H43 => ln_ <| nx <| sq_ <| rl_ <| wl_ <| i_ H43 rfl (v := .agg (catA [[.int .i64 0], [.int .i64 4], [.string (⟨#[]⟩)], [.int .i64 0], bytesV (zer 32)])) (dd_bld rfl (ps := [(1, .int .i64 4)]) (pr1 rfl (pr0)) (Lz := [[.int .i64 0], [.int .i64 0], [.string (⟨#[]⟩)], [.int .i64 0], bytesV (zer 32)]) (by kernel_rfl) (lens_cons rfl (lens_cons rfl (lens_cons rfl (lens_cons rfl (lens_cons (len_bv (length_zer 32)) (lens_nil)))))) (fit_cons (i := 1) rfl rfl (fit_nil)) (cs := catA [[.int .i64 0], [.int .i64 4], [.string (⟨#[]⟩)], [.int .i64 0], bytesV (zer 32)]) rfl) fun _ H44 => wl_ <| i_ H44 rfl (v := .agg (bs (zer 32))) (dd_bldk rfl (ps := []) (pr0) (cs := bs (zer 32)) (by kernel_rfl)) fun _ H45 => ?_
  clear H39 H40 H41 H42 H43 H44
  refine wl_ <| d_ H45 rfl (R := fun v w9 => ∃ vq, v = .tuple #[vq, .int .i64 1] ∧ Below W39.heap.size W39 w9) (dc_ Tryd.func20 rfl (args2 (H45.ev 44 rfl) (H45.ev 45 rfl)) (queputs_any wkb (zer 32) W39 (length_zer 32) (length_zer 32) (by decide)) (fun _ w9 ⟨v9, he, ho, hb⟩ => ⟨_, he, v9, rfl, hb⟩)) ?_
  rintro _ W46 ⟨vq, rfl, hb46⟩ a46 H46
  have HS46 := HS39.same hb46
  clear H45
  clear HS39 hb46
  refine wl_ <| p_ H46 rfl rfl fun _ H47 => wl_ <| i_ H47 rfl (v := vq) (dd_ext rfl (H47.ev 43 rfl) rfl) fun _ H48 => wl_ <| i_ H48 rfl (v := .int .i64 1) (dd_ext rfl (H48.ev 43 rfl) rfl) fun _ H49 => q_ H49 2 rfl fun _ H50 => ln_ <| ?_
  clear H46 H47 H48 H49
  have H51 := H50.sel [1, 2, 3, 4, 5, 6, 8] rfl
  refine nx <| sq_ <| rl_ <| q_ H51 2 rfl fun _ H52 => wl_ <| ig H52 (wg_ H52 rfl rfl rfl rfl) rfl (v := .agg (catA [[.int .i64 wka.1], [.int .i64 wka.2.1], [.string (strB wka.2.2.1)], [.int .i64 wka.2.2.2.1], bytesV wka.2.2.2.2])) (dd_load HS46 5 0 rfl rfl (H52.ev 3 rfl) (slab_whole _) Tryd.underlying40 rfl (by rw [show (catA [[.int .i64 wka.1], [.int .i64 wka.2.1], [.string (strB wka.2.2.1)], [.int .i64 wka.2.2.2.1], bytesV wka.2.2.2.2]).size = 36 from (cat_size (lens_cons rfl (lens_cons rfl (lens_cons rfl (lens_cons rfl (lens_cons (len_bv wka_len) (lens_nil)))))))]; kernel_rfl)) fun _ H53 => wl_ <| ig H53 (wg_ H53 rfl rfl rfl rfl) rfl (v := .agg (catA [[.int .i64 5], [.int .i64 2], [.string (⟨#[97, 98]⟩)], [.int .i64 1], bytesV (zer 32)])) (dd_load HS46 2 0 rfl rfl (H53.ev 2 rfl) (slab_whole _) Tryd.underlying40 rfl (by rw [show (catA [[.int .i64 5], [.int .i64 2], [.string (⟨#[97, 98]⟩)], [.int .i64 1], bytesV (zer 32)]).size = 36 from (cat_size (lens_cons rfl (lens_cons rfl (lens_cons rfl (lens_cons rfl (lens_cons (len_bv (length_zer 32)) (lens_nil)))))))]; kernel_rfl)) fun _ H54 => wl_ <| ig H54 (wg_ H54 rfl rfl rfl rfl) rfl (v := .bool true) (dd_eqa (b := true) rfl (H54.ev 51 rfl) (H54.ev 52 rfl) (by kernel_rfl) (fun w => by have h9 := eql_itm wka wka wka_len wka_len w; rw [decide_eq_true rfl] at h9; exact h9)) fun _ H55 => q_ H55 2 rfl fun _ H56 => wl_ <| ig H56 (wg_ H56 rfl rfl rfl rfl) rfl (dd_mv rfl (H56.ev 6 rfl)) fun _ H57 => wl_ <| ig H57 (wg_ H57 rfl rfl rfl rfl) rfl (dd_cmp rfl (H57.ev 56 rfl) rfl (eq_t (by decide))) fun _ H58 => q_ H58 2 rfl fun _ H59 => ?_
  clear H50 H51 H52 H53 H54 H55 H56 H57
  refine wl_ <| ig H59 (wg_ H59 rfl rfl rfl rfl) rfl (dd_mv rfl (H59.ev 5 rfl)) fun _ H60 => wl_ <| ig H60 (wg_ H60 rfl rfl rfl rfl) rfl (v := .int .i64 2) (dd_len rfl (H60.ev 60 rfl) Tryd.underlying51) fun _ H61 => wl_ <| ig H61 (wg_ H61 rfl rfl rfl rfl) rfl (dd_cmp rfl (H61.ev 61 rfl) rfl (eq_t (by decide))) fun _ H62 => q_ H62 2 rfl fun _ H63 => wl_ <| ig H63 (wg_ H63 rfl rfl rfl rfl) rfl (dd_mv rfl (H63.ev 8 rfl)) fun _ H64 => wl_ <| ig H64 (wg_ H64 rfl rfl rfl rfl) rfl (dd_cmp rfl (H64.ev 65 rfl) rfl (eq_t (by decide))) fun _ H65 => q_ H65 2 rfl fun _ H66 => wl_ <| ig H66 (wg_ H66 rfl rfl rfl rfl) rfl (dd_mv rfl (H66.ev 1 rfl)) fun _ H67 => ?_
  clear H58 H59 H60 H61 H62 H63 H64 H65
  clear H66
  have hlegq13 := Oq13.le
  refine wl_ <| dr_ H67 (wg_ H67 rfl rfl rfl rfl) rfl (R := fun v9 w9 => v9 = .bool true ∧ St w noF [⟨g10, 27, #[.slice (some ⟨gq13, 36, none⟩) 1 (cq13 - 1)]⟩, ⟨gq13, 40, cbq13⟩, ⟨g2, 40, catA [[.int .i64 5], [.int .i64 2], [.string (⟨#[97, 98]⟩)], [.int .i64 1], bytesV (zer 32)]⟩, ⟨g15, 40, catA [(catA [[.int .i64 5], [.int .i64 2], [.string (⟨#[97, 98]⟩)], [.int .i64 1], bytesV (zer 32)]).toList, (catA [[.int .i64 5], [.int .i64 2], [.string (⟨#[97, 98]⟩)], [.int .i64 1], bytesV (zer 32)]).toList]⟩, ⟨g23, 40, catA [(catA [[.int .i64 5], [.int .i64 2], [.string (⟨#[97, 98]⟩)], [.int .i64 1], bytesV (zer 32)]).toList, (catA [[.int .i64 5], [.int .i64 2], [.string (⟨#[97, 98]⟩)], [.int .i64 1], bytesV (zer 32)]).toList, (catA [[.int .i64 5], [.int .i64 2], [.string (⟨#[97, 98]⟩)], [.int .i64 1], bytesV (zer 32)]).toList]⟩, ⟨g3, 40, catA [[.int .i64 wka.1], [.int .i64 wka.2.1], [.string (strB wka.2.2.1)], [.int .i64 wka.2.2.2.1], bytesV wka.2.2.2.2]⟩] w9) (dc_ Tryd.func13 rfl (args1 (H67.ev 69 rfl)) (quepop_some _ g10 gq13 0 2 cq13 _ (ss HS46 [0]).frame (by omega) (by omega) (by omega)) (fun _ w9 ⟨he, hS⟩ => ⟨_, he, rfl, St.reframe (ss HS46 [0, 1, 2, 3, 4, 5]) hS⟩)) ?_
  rintro _ W68 ⟨rfl, HS68⟩ a68 H68
  clear H67 HS46
  refine q_ H68 2 rfl fun _ H69 => wl_ <| ig H69 (wg_ H69 rfl rfl rfl rfl) rfl (dd_mv rfl (H69.ev 1 rfl)) fun _ H70 => ?_
  clear H68 H69
  refine wl_ <| dr_ H70 (wg_ H70 rfl rfl rfl rfl) rfl (R := fun v9 w9 => ∃ gi72 : Nat, ∃ ci72 : Nat, ∃ cbi72 : Array Value, v9 = .slice (some ⟨gi72, 0, none⟩) 1 ci72 ∧ (OwnC cbi72 ci72 1 1 (intsV ([wka].map (·.1)))) ∧ St w noF [⟨g10, 27, #[.slice none 0 0]⟩, ⟨gi72, 3, cbi72⟩, ⟨gq13, 40, cbq13⟩, ⟨g2, 40, catA [[.int .i64 5], [.int .i64 2], [.string (⟨#[97, 98]⟩)], [.int .i64 1], bytesV (zer 32)]⟩, ⟨g15, 40, catA [(catA [[.int .i64 5], [.int .i64 2], [.string (⟨#[97, 98]⟩)], [.int .i64 1], bytesV (zer 32)]).toList, (catA [[.int .i64 5], [.int .i64 2], [.string (⟨#[97, 98]⟩)], [.int .i64 1], bytesV (zer 32)]).toList]⟩, ⟨g23, 40, catA [(catA [[.int .i64 5], [.int .i64 2], [.string (⟨#[97, 98]⟩)], [.int .i64 1], bytesV (zer 32)]).toList, (catA [[.int .i64 5], [.int .i64 2], [.string (⟨#[97, 98]⟩)], [.int .i64 1], bytesV (zer 32)]).toList, (catA [[.int .i64 5], [.int .i64 2], [.string (⟨#[97, 98]⟩)], [.int .i64 1], bytesV (zer 32)]).toList]⟩, ⟨g3, 40, catA [[.int .i64 wka.1], [.int .i64 wka.2.1], [.string (strB wka.2.2.1)], [.int .i64 wka.2.2.2.1], bytesV wka.2.2.2.2]⟩] w9) (dc_ Tryd.func16 rfl (args1 (H70.ev 73 rfl)) (queclear_any _ g10 gq13 36 1 _ [wka] _ (ss HS68 [0]).frame ⟨rfl, by omega, wka_wf1, fun _ => ⟨_, _, rfl, wka_at (cat_own (HS68.row 1 rfl) Oq13)⟩⟩ (fun W9 k9 => wka_at (cat_own ((HS68.row 1 rfl).chg k9 (nin_row (S1 := selB [⟨g10, 27, #[.slice (some ⟨gq13, 36, none⟩) 1 (cq13 - 1)]⟩, ⟨gq13, 40, cbq13⟩, ⟨g2, 40, catA [[.int .i64 5], [.int .i64 2], [.string (⟨#[97, 98]⟩)], [.int .i64 1], bytesV (zer 32)]⟩, ⟨g15, 40, catA [(catA [[.int .i64 5], [.int .i64 2], [.string (⟨#[97, 98]⟩)], [.int .i64 1], bytesV (zer 32)]).toList, (catA [[.int .i64 5], [.int .i64 2], [.string (⟨#[97, 98]⟩)], [.int .i64 1], bytesV (zer 32)]).toList]⟩, ⟨g23, 40, catA [(catA [[.int .i64 5], [.int .i64 2], [.string (⟨#[97, 98]⟩)], [.int .i64 1], bytesV (zer 32)]).toList, (catA [[.int .i64 5], [.int .i64 2], [.string (⟨#[97, 98]⟩)], [.int .i64 1], bytesV (zer 32)]).toList, (catA [[.int .i64 5], [.int .i64 2], [.string (⟨#[97, 98]⟩)], [.int .i64 1], bytesV (zer 32)]).toList]⟩, ⟨g3, 40, catA [[.int .i64 wka.1], [.int .i64 wka.2.1], [.string (strB wka.2.2.1)], [.int .i64 wka.2.2.2.1], bytesV wka.2.2.2.2]⟩] [0]) (ss HS68 [0, 1, 2, 3, 4, 5]) 0 rfl)) Oq13)) (by decide) (by decide)) (fun _ w9 ⟨g9, c9, cb9, he, hO, hS⟩ => ⟨_, he, g9, c9, cb9, rfl, hO, St.reframe (ss HS68 [0, 1, 2, 3, 4, 5]) hS⟩)) ?_
  rintro _ W71 ⟨gi72, ci72, cbi72, rfl, Oi72, HS71⟩ a71 H71
  clear H70 HS68
  refine wl_ <| ng H71 (wg_ H71 rfl rfl rfl rfl) rfl (fun _ h => dd_lits HS71 #[.int .i64 5] rfl (ps := [(0, .int .i64 5)]) (pr1 rfl (pr0)) (z := .int .i64 0) (sz := 1) Tryd.underlying45 (by kernel_rfl) rfl rfl (by kernel_rfl) h) fun _ W73 HS73 _ H73 => wl_ <| cg H73 (wg_ H73 rfl rfl rfl rfl) rfl HS73 (v := .bool true) (dc_ Tryd.func15 rfl (args2 (H73.ev 74 rfl) (H73.ev 75 rfl)) (keepints_any [5] [5] _ _ _ _ _ _ W73 (ints_own (base := 0) (ownc_to (HS73.row 1 rfl) Oi72 (Nat.zero_le _)) one5) (ints_own (base := 0) (ownc_to (HS73.row 7 rfl) (⟨Nat.le_refl _, by decide, rfl, rfl, rfl⟩ : OwnC #[.int .i64 5] 1 1 1 (intsV [5])) (Nat.zero_le _)) one5) (by decide)) (fun _ w9 h9 => ⟨_, h9.1, by rw [decide_eq_true rfl], h9.2⟩)) fun W74 HS74 _ H74 => q_ H74 2 rfl fun _ H75 => wl_ <| ig H75 (wg_ H75 rfl rfl rfl rfl) rfl (dd_mv rfl (H75.ev 1 rfl)) fun _ H76 => wl_ <| cg H76 (wg_ H76 rfl rfl rfl rfl) rfl HS74 (dcs Tryd.func13 rfl (args1 (H76.ev 79 rfl)) (quepop_none g10 _ _ W74 (HS74.row 0 rfl)) (.bool false)) fun _ HS77 _ H77 => wl_ <| ig H77 (wg_ H77 rfl rfl rfl rfl) rfl (v := .bool true) (dd_nt rfl (H77.ev 80 rfl) rfl) fun _ H78 => q_ H78 2 rfl fun _ H79 => ln_ <| ?_
  clear HS71 H71 H73 HS73 H74 H75 H76 HS74 H77 H78
  have H80 := H79.sel [0] rfl
  refine nx <| wp_ret <| ret_run H80.env0 (res_t Tryd.results8 (H80.get 0 rfl)) <| ?_
  clear H79
  exact ⟨rfl, HS77.below⟩
end Go.Proofs.YtnmaplgodimohaaDoor

/- Copies of one item that wait. -/
set_option maxRecDepth 4000
namespace Go.Proofs.YtnmaplgodimohaaDoor
open Go Go.RowKit
theorem ItemsAt.cat {w : World} {b o n c : Nat} {X : List It} (h : ItemsAt w (some ⟨b, o, none⟩) n c X) (hn : n ≠ 0) : CAt w b o (itemsL X) := by
  obtain ⟨b9, o9, e, h2⟩ := h.at_ hn
  injection e with e; injection e with e1 e2; subst e1 e2; exact h2
theorem queadd_as (F : Nat → Prop) (g : Nat) (A B : Option Addr) (n c m d : Nat) (X Y : List It) (N : Nat) (Z : List It) (w : World) (HS : St w F [⟨g, 27, #[.slice A n c]⟩] w) (H1 : ∀ W, Chg F w W → ItemsAt W A n c X) (H2 : ∀ W, Chg F w W → ItemsAt W B m d Y) (hf : n + m ≤ 4) (h0 : 0 < n + m) (hN : n + m = N) (hZ : X ++ Y = Z) : Calls Tryd.prog 11 #[.pointer (some ⟨g, 0, none⟩), .slice B m d] w fun x w' => ∃ g' c' cb', x = .returned (.int .i64 0) ∧ OwnC cb' c' N 36 (itemsL Z) ∧ St w F [⟨g, 27, #[.slice (some ⟨g', 0, none⟩) N c']⟩, ⟨g', 40, cb'⟩] w' := by
  subst hN hZ; exact queadd_some F g A B n c m d X Y w HS H1 H2 hf h0
end Go.Proofs.YtnmaplgodimohaaDoor

/- The document's queue. -/
set_option maxRecDepth 4000
namespace Go.Proofs.YtnmaplgodimohaaDoor
open Go Go.RowKit
set_option maxHeartbeats 800000 in
theorem rqadd_some (F : Nat → Prop) (g : Nat) (A B : Option Addr) (n c m d : Nat) (X Y : List It) (w : World) (HS : St w F [⟨g, 31, #[.slice A n c]⟩] w) (H1 : ∀ W, Chg F w W → ItemsAt W A n c X) (H2 : ∀ W, Chg F w W → ItemsAt W B m d Y) (hf : n + m ≤ 4) : Calls Tryd.prog 12 #[.pointer (some ⟨g, 0, none⟩), .slice B m d] w fun x w' => ∃ g' c' cb', x = .returned (.int .i64 0) ∧ OwnC cb' c' (n + m) 36 (itemsL (X ++ Y)) ∧ St w F [⟨g, 31, #[.slice (some ⟨g', 0, none⟩) (n + m) c']⟩, ⟨g', 38, cb'⟩] w' := by
  refine enter_en Tryd.func12 rfl Tryd.ntmps12 (Nat.le_of_ble_eq_true rfl) fun a0 (HA0 : En 25 [(0, .pointer (some ⟨g, 0, none⟩)), (1, .slice B m d)] a0) => ?_
  refine sq_ <| rl_ <| wl_ <| p_ HA0 rfl rfl fun _ H1 => ln_ <| nx <| sq_ <| sq_ <| rl_ <| wl_ <| p_ H1 rfl rfl fun _ H2 => wl_ <| i_ H2 rfl (dd_nilc rfl (H2.ev 5 rfl)) fun _ H3 => wl_ <| i_ H3 rfl (xf 0 0 rfl (H3.ev 6 rfl)) fun _ H4 => wl_ <| i_ H4 rfl (dd_get HS 0 0 rfl rfl (H4.ev 7 rfl) rfl Tryd.underlying29 rfl) fun _ H5 => wl_ <| i_ H5 rfl (v := .int .i64 n) (dd_len rfl (H5.ev 8 rfl) Tryd.underlying29) fun _ H6 => wl_ <| p_ H6 rfl rfl fun _ H7 => wl_ <| i_ H7 rfl (v := .int .i64 m) (dd_len rfl (H7.ev 10 rfl) Tryd.underlying29) fun _ H8 => ?_
  clear HA0 H1 H2 H3 H4 H5 H6
  refine wl_ <| i_ H8 rfl (v := .int .i64 (n + m)) (dd_ari rfl (H8.ev 9 rfl) (H8.ev 11 rfl) rfl (i64_of (by first | omega | (have := bd_lo; omega)) (by omega))) fun _ H9 => wl_ <| i_ H9 rfl (dd_cmp rfl (H9.ev 12 rfl) rfl (gt_f (by omega))) fun _ H10 => ln_ <| nx <| cf_ H10 rfl <| wp_skip <| nx <| sq_ <| rl_ <| wl_ <| p_ H10 rfl rfl fun _ H11 => wl_ <| n_ H11 rfl (A := fun g15 => .slice (some ⟨g15, 0, none⟩) 0 0) (fun _ h => dd_lit0 HS rfl rfl Tryd.underlying29 (sz := 36) (by kernel_rfl) h) fun g15 _ HS12 _ H12 => wl_ <| p_ H12 rfl rfl fun _ H13 => wl_ <| i_ H13 rfl (dd_nilc rfl (H13.ev 16 rfl)) fun _ H14 => wl_ <| i_ H14 rfl (xf 0 0 rfl (H14.ev 17 rfl)) fun _ H15 => wl_ <| i_ H15 rfl (dd_get HS12 0 0 rfl rfl (H15.ev 18 rfl) rfl Tryd.underlying29 rfl) fun _ H16 => ?_
  clear H7 H8 H9 H10 HS H11 H12 H13 H14
  refine wl_ <| a_ H16 rfl (fun g20_18 c20_18 => .slice (some ⟨g20_18, 0, none⟩) (0 + n) c20_18) (T := fun _ c20_18 cb20_18 => OwnC cb20_18 c20_18 (0 + n) 36 (itemsL X)) (fun _ h => dd_appX HS12 1 rfl (ownc_nil0 36) rfl (H16.ev 15 rfl) (z := .agg (catA [[.int .i64 0], [.int .i64 0], [.string (⟨#[]⟩)], [.int .i64 0], bytesV (zer 32)])) (bytes := 72) Tryd.underlying29 (by kernel_rfl) rfl (by decide) (itemsL X) (H16.ev 19 rfl) (len_items (H1 _ HS12.chg).wf (H1 _ HS12.chg).len) (fun h9 => (H1 _ HS12.chg).at_ h9) (one_items _) (by unfold maxLen; omega) (by omega) h) fun g20_18 c20_18 cb20_18 _ O20_18 HS17 _ H17 => wl_ <| p_ H17 rfl rfl fun _ H19 => wl_ <| a_ H19 rfl (S := fun g22_21 cb22_21 => [⟨g, 31, #[.slice A n c]⟩, ⟨g22_21, 38, cb22_21⟩]) (fun g22_21 c22_21 => .slice (some ⟨g22_21, 0, none⟩) (0 + n + m) c22_21) (T := fun _ c22_21 cb22_21 => OwnC cb22_21 c22_21 (0 + n + m) 36 (itemsL X ++ itemsL Y)) (fun _ h => dd_appX HS17 1 rfl O20_18 rfl (H19.ev 20 rfl) (z := .agg (catA [[.int .i64 0], [.int .i64 0], [.string (⟨#[]⟩)], [.int .i64 0], bytesV (zer 32)])) (bytes := 72) Tryd.underlying29 (by kernel_rfl) rfl (by decide) (itemsL Y) (H19.ev 21 rfl) (len_items (H2 _ HS17.chg).wf (H2 _ HS17.chg).len) (fun h9 => (H2 _ HS17.chg).at_ h9) (one_items _) (by unfold maxLen; omega) (by omega) h) fun g22_21 c22_21 cb22_21 _ O22_21 HS20 _ H20 => wl_ <| i_ H20 rfl (dd_nilc rfl (H20.ev 14 rfl)) fun _ H22 => wl_ <| i_ H22 rfl (xf 0 0 rfl (H22.ev 23 rfl)) fun _ H23 => wl_ <| t_ rfl (fun _ h => dd_put (cs := #[.slice (some ⟨g22_21, 0, none⟩) (0 + n + m) c22_21]) HS20 0 0 rfl rfl (H23.ev 24 rfl) (H23.ev 22 rfl) (by kernel_rfl) rfl rfl rfl rfl h) fun _ HS24 => ln_ <| ?_
  clear H15 HS12 H16 H17 HS17 H19 H20 H22 HS20
  have H25 := H23.sel [] rfl
  refine nx <| sq_ <| rl_ <| wl_ <| p_ H25 rfl rfl fun _ H26 => ln_ <| nx <| wp_ret <| ret_run H26.env0 (res_t Tryd.results12 (H26.get 4 rfl)) <| ?_
  clear H23 H25
  rw [Nat.zero_add] at *
  exact ⟨g22_21, c22_21, cb22_21, rfl, (by have h9 := O22_21; simpa [itemsL] using h9), ss HS24 [0, 1]⟩
theorem rqadd_full (g : Nat) (A B : Option Addr) (n c m d : Nat) (w : World) (hr : Row w g 31 #[.slice A n c]) (hf : 4 < n + m) (hn : n ≤ 1000) (_ : m ≤ 1000000000) : Calls Tryd.prog 12 #[.pointer (some ⟨g, 0, none⟩), .slice B m d] w fun x w' => x = .returned (.int .i64 19) ∧ Below w.heap.size w w' := by
  have HS := St.nil w noF
  have HR : ∀ W, Below w.heap.size w W → Row W g 31 #[.slice A n c] := fun W hb => hr.call hb
  refine enter_en Tryd.func12 rfl Tryd.ntmps12 (Nat.le_of_ble_eq_true rfl) fun a0 (HA0 : En 25 [(0, .pointer (some ⟨g, 0, none⟩)), (1, .slice B m d)] a0) => ?_
  refine sq_ <| rl_ <| wl_ <| p_ HA0 rfl rfl fun _ H1 => ln_ <| nx <| sq_ <| sq_ <| rl_ <| wl_ <| p_ H1 rfl rfl fun _ H2 => wl_ <| i_ H2 rfl (dd_nilc rfl (H2.ev 5 rfl)) fun _ H3 => wl_ <| i_ H3 rfl (xf 0 0 rfl (H3.ev 6 rfl)) fun _ H4 => wl_ <| i_ H4 rfl (dd_getR (HR _ HS.below) rfl (H4.ev 7 rfl) rfl Tryd.underlying29 rfl) fun _ H5 => wl_ <| i_ H5 rfl (v := .int .i64 n) (dd_len rfl (H5.ev 8 rfl) Tryd.underlying29) fun _ H6 => wl_ <| p_ H6 rfl rfl fun _ H7 => wl_ <| i_ H7 rfl (v := .int .i64 m) (dd_len rfl (H7.ev 10 rfl) Tryd.underlying29) fun _ H8 => ?_
  clear HA0 H1 H2 H3 H4 H5 H6
  refine wl_ <| i_ H8 rfl (v := .int .i64 (n + m)) (dd_ari rfl (H8.ev 9 rfl) (H8.ev 11 rfl) rfl (i64_of (by first | omega | (have := bd_lo; omega)) (by omega))) fun _ H9 => wl_ <| i_ H9 rfl (dd_cmp rfl (H9.ev 12 rfl) rfl (gt_t (by omega))) fun _ H10 => ln_ <| nx <| ct_ H10 rfl <| sq_ <| rl_ <| wl_ <| p_ H10 rfl rfl fun _ H11 => ln_ <| nx <| wp_ret <| tr <| ret_run H11.env0 (res_t Tryd.results12 (H11.get 4 rfl)) <| ?_
  clear H7 H8 H9 H10
  exact ⟨rfl, HS.below⟩
theorem rqpop_none (g : Nat) (A : Option Addr) (c : Nat) (w : World) (hr : Row w g 31 #[.slice A 0 c]) : Calls Tryd.prog 14 #[.pointer (some ⟨g, 0, none⟩)] w fun x w' => x = .returned (.bool false) ∧ Below w.heap.size w w' := by
  have HS := St.nil w noF
  have HR : ∀ W, Below w.heap.size w W → Row W g 31 #[.slice A 0 c] := fun W hb => hr.call hb
  refine enter_en Tryd.func14 rfl Tryd.ntmps14 (Nat.le_of_ble_eq_true rfl) fun a0 (HA0 : En 19 [(0, .pointer (some ⟨g, 0, none⟩))] a0) => ?_
  refine sq_ <| rl_ <| wl_ <| p_ HA0 rfl rfl fun _ H1 => ln_ <| nx <| sq_ <| sq_ <| rl_ <| wl_ <| p_ H1 rfl rfl fun _ H2 => wl_ <| i_ H2 rfl (dd_nilc rfl (H2.ev 3 rfl)) fun _ H3 => wl_ <| i_ H3 rfl (xf 0 0 rfl (H3.ev 4 rfl)) fun _ H4 => wl_ <| i_ H4 rfl (dd_getR (HR _ HS.below) rfl (H4.ev 5 rfl) rfl Tryd.underlying29 rfl) fun _ H5 => wl_ <| i_ H5 rfl (v := .int .i64 0) (dd_len rfl (H5.ev 6 rfl) Tryd.underlying29) fun _ H6 => wl_ <| i_ H6 rfl (dd_cmp rfl (H6.ev 7 rfl) rfl (eq_t (by decide))) fun _ H7 => ln_ <| nx <| ct_ H7 rfl <| sq_ <| rl_ <| wl_ <| p_ H7 rfl rfl fun _ H8 => ?_
  clear HA0 H1 H2 H3 H4 H5 H6
  refine ln_ <| nx <| wp_ret <| tr <| ret_run H8.env0 (res_t Tryd.results14 (H8.get 2 rfl)) <| ?_
  clear H7
  exact ⟨rfl, HS.below⟩
set_option maxHeartbeats 800000 in
theorem rqpop_some (F : Nat → Prop) (g : Nat) (A : Option Addr) (n c : Nat) (X : List It) (w : World) (HS : St w F [⟨g, 31, #[.slice A n c]⟩] w) (H1 : ∀ W, Chg F w W → ItemsAt W A n c X) (hn : 0 < n) (hm : n ≤ 1000) : Calls Tryd.prog 14 #[.pointer (some ⟨g, 0, none⟩)] w fun x w' => ∃ g' c' cb', x = .returned (.bool true) ∧ OwnC cb' c' (n - 1) 36 (itemsL X.tail) ∧ St w F [⟨g, 31, #[.slice (some ⟨g', 0, none⟩) (n - 1) c']⟩, ⟨g', 38, cb'⟩] w' := by
  refine enter_en Tryd.func14 rfl Tryd.ntmps14 (Nat.le_of_ble_eq_true rfl) fun a0 (HA0 : En 19 [(0, .pointer (some ⟨g, 0, none⟩))] a0) => ?_
  refine sq_ <| rl_ <| wl_ <| p_ HA0 rfl rfl fun _ H1 => ln_ <| nx <| sq_ <| sq_ <| rl_ <| wl_ <| p_ H1 rfl rfl fun _ H2 => wl_ <| i_ H2 rfl (dd_nilc rfl (H2.ev 3 rfl)) fun _ H3 => wl_ <| i_ H3 rfl (xf 0 0 rfl (H3.ev 4 rfl)) fun _ H4 => wl_ <| i_ H4 rfl (dd_get HS 0 0 rfl rfl (H4.ev 5 rfl) rfl Tryd.underlying29 rfl) fun _ H5 => wl_ <| i_ H5 rfl (v := .int .i64 n) (dd_len rfl (H5.ev 6 rfl) Tryd.underlying29) fun _ H6 => wl_ <| i_ H6 rfl (dd_cmp rfl (H6.ev 7 rfl) rfl (eq_f (by omega))) fun _ H7 => ln_ <| nx <| cf_ H7 rfl <| wp_skip <| nx <| sq_ <| rl_ <| wl_ <| p_ H7 rfl rfl fun _ H8 => ?_
  clear HA0 H1 H2 H3 H4 H5 H6
  refine wl_ <| n_ H8 rfl (A := fun g10 => .slice (some ⟨g10, 0, none⟩) 0 0) (fun _ h => dd_lit0 HS rfl rfl Tryd.underlying29 (sz := 36) (by kernel_rfl) h) fun g10 _ HS9 _ H9 => wl_ <| p_ H9 rfl rfl fun _ H10 => wl_ <| i_ H10 rfl (dd_nilc rfl (H10.ev 11 rfl)) fun _ H11 => wl_ <| i_ H11 rfl (xf 0 0 rfl (H11.ev 12 rfl)) fun _ H12 => wl_ <| i_ H12 rfl (dd_get HS9 0 0 rfl rfl (H12.ev 13 rfl) rfl Tryd.underlying29 rfl) fun _ H13 => wl_ <| i_ H13 rfl (v := .slice (tl1 A c) (n - 1) (c - 1)) (dd_slt rfl (H13.ev 14 rfl) rfl (by kernel_rfl) (by omega)) fun _ H14 => wl_ <| a_ H14 rfl (fun g16_16 c16_16 => .slice (some ⟨g16_16, 0, none⟩) (0 + (n - 1)) c16_16) (T := fun _ c16_16 cb16_16 => OwnC cb16_16 c16_16 (0 + (n - 1)) 36 (itemsL X.tail)) (fun _ h => dd_appX HS9 1 rfl (ownc_nil0 36) rfl (H14.ev 10 rfl) (z := .agg (catA [[.int .i64 0], [.int .i64 0], [.string (⟨#[]⟩)], [.int .i64 0], bytesV (zer 32)])) (bytes := 72) Tryd.underlying29 (by kernel_rfl) rfl (by decide) (itemsL X.tail) (H14.ev 15 rfl) (len_items ((H1 _ HS9.chg).tl hn).wf ((H1 _ HS9.chg).tl hn).len) (fun h9 => ((H1 _ HS9.chg).tl hn).at_ h9) (one_items _) (by unfold maxLen; omega) (by omega) h) fun g16_16 c16_16 cb16_16 _ O16_16 HS15 _ H15 => wl_ <| i_ H15 rfl (dd_nilc rfl (H15.ev 9 rfl)) fun _ H17 => ?_
  clear H7 HS H8 H9 H10 H11 H12 H13 HS9 H14
  refine wl_ <| i_ H17 rfl (xf 0 0 rfl (H17.ev 17 rfl)) fun _ H18 => wl_ <| t_ rfl (fun _ h => dd_put (cs := #[.slice (some ⟨g16_16, 0, none⟩) (0 + (n - 1)) c16_16]) HS15 0 0 rfl rfl (H18.ev 18 rfl) (H18.ev 16 rfl) (by kernel_rfl) rfl rfl rfl rfl h) fun _ HS19 => ln_ <| ?_
  clear H15 H17 HS15
  have H20 := H18.sel [] rfl
  refine nx <| sq_ <| rl_ <| wl_ <| p_ H20 rfl rfl fun _ H21 => ln_ <| nx <| wp_ret <| ret_run H21.env0 (res_t Tryd.results14 (H21.get 2 rfl)) <| ?_
  clear H18 H20
  rw [Nat.zero_add] at *
  exact ⟨g16_16, c16_16, cb16_16, rfl, (by have h9 := O16_16; simpa [itemsL] using h9), ss HS19 [0, 1]⟩
set_option maxHeartbeats 800000 in
theorem rqclear_any (F : Nat → Prop) (g b o n c : Nat) (X : List It) (w : World) (HS : St w F [⟨g, 31, #[.slice (some ⟨b, o, none⟩) n c]⟩] w) (hi : ItemsAt w (some ⟨b, o, none⟩) n c X) (HE : ∀ W, Chg F w W → CAt W b o (itemsL X)) (h0 : 0 < n) (hm : n ≤ 1000) : Calls Tryd.prog 17 #[.pointer (some ⟨g, 0, none⟩)] w fun x w' => ∃ g' c' cb', x = .returned (.slice (some ⟨g', 0, none⟩) n c') ∧ OwnC cb' c' n 1 (intsV (X.map (·.1))) ∧ St w F [⟨g, 31, #[.slice none 0 0]⟩, ⟨g', 3, cb'⟩] w' := by
  refine enter_en Tryd.func17 rfl Tryd.ntmps17 (Nat.le_of_ble_eq_true rfl) fun a0 (HA0 : En 29 [(0, .pointer (some ⟨g, 0, none⟩))] a0) => ?_
  refine sq_ <| rl_ <| wl_ <| p_ HA0 rfl rfl fun _ H1 => ln_ <| nx <| sq_ <| rl_ <| wl_ <| p_ H1 rfl rfl fun _ H2 => ln_ <| nx <| sq_ <| sq_ <| rl_ <| wl_ <| p_ H2 rfl rfl fun _ H3 => ln_ <| nx <| wp_block <| ?_
  clear HA0 H1 H2
  refine wp_loop1 (ι := Nat) (fun j1 a9 w9 => ∃ gi1 : Nat, ∃ ci1 : Nat, ∃ cbi1 : Array Value, (1 ≤ j1 ∧ j1 ≤ n) ∧ (OwnC cbi1 ci1 j1 1 (intsV ((X.take j1).map (·.1)))) ∧ En 29 [(4, .int .i64 j1), (3, .slice (some ⟨gi1, 0, none⟩) j1 ci1), (0, .pointer (some ⟨g, 0, none⟩))] a9 ∧ St w F [⟨g, 31, #[.slice (some ⟨b, o, none⟩) n c]⟩, ⟨gi1, 3, cbi1⟩] w9) (fun j1 => n - j1) (1) ?_ ?_
  ·
   refine sq_ <| sq_ <| rl_ <| q_ H3 2 rfl fun _ H5 => wl_ <| i_ H5 rfl (dd_nilc rfl (H5.ev 6 rfl)) fun _ H6 => wl_ <| i_ H6 rfl (xf 0 0 rfl (H6.ev 7 rfl)) fun _ H7 => wl_ <| i_ H7 rfl (dd_get HS 0 0 rfl rfl (H7.ev 8 rfl) rfl Tryd.underlying29 rfl) fun _ H8 => wl_ <| i_ H8 rfl (v := .int .i64 n) (dd_len rfl (H8.ev 9 rfl) Tryd.underlying29) fun a9 H9 => wl_ <| i_ H9 rfl (dd_cmp rfl (H9.ev 5 rfl) (H9.ev 10 rfl) (lt_t (by omega))) fun _ H10 => ln_ <| nx <| ct_ H10 rfl <| wp_skip <| nx <| sq_ <| wp_block <| rl_ <| q_ H10 2 rfl fun _ H11 => wl_ <| i_ H11 rfl (dd_nilc rfl (H11.ev 15 rfl)) fun _ H12 => ?_
   clear H3 H5 H6 H7 H8 H9 H10
   refine wl_ <| i_ H12 rfl (xf 0 0 rfl (H12.ev 16 rfl)) fun _ H13 => wl_ <| i_ H13 rfl (dd_get HS 0 0 rfl rfl (H13.ev 17 rfl) rfl Tryd.underlying29 rfl) fun _ H14 => wl_ <| p_ H14 rfl rfl fun _ H15 => wl_ <| i_ H15 rfl (xSo 36 (o + 0 * 36) rfl (H15.ev 18 rfl) (H15.ev 19 rfl)) fun _ H16 => wl_ <| i_ H16 rfl (xf 0 (o + 0 * 36) rfl (H16.ev 20 rfl)) fun _ H17 => ?_
   clear H11 H12 H13 H14 H15 H16
   obtain ⟨x0, hx0⟩ : ∃ x, X[0]? = some x := ⟨_, List.getElem?_eq_getElem (by rw [hi.len]; omega)⟩
   have hw0 := hi.wf x0 (List.mem_of_getElem? hx0)
   refine wl_ <| i_ H17 rfl (dd_at rfl (H17.ev 21 rfl) (item_id (HE _ HS.chg) hi.wf hx0) Tryd.underlying3 rfl) fun _ H18 => wl_ <| n_ H18 rfl (fun _ h => dd_lits HS #[.int .i64 x0.1] rfl (ps := [(0, .int .i64 x0.1)]) (pr1 (H18.ev 22 rfl) (pr0)) (z := .int .i64 0) (sz := 1) Tryd.underlying45 (by kernel_rfl) rfl rfl (by kernel_rfl) h) fun g23 _ HS19 _ H19 => wl_ <| a_ H19 rfl (fun g24_21 c24_21 => .slice (some ⟨g24_21, 0, none⟩) 1 c24_21) (T := fun _ c24_21 cb24_21 => OwnC cb24_21 c24_21 1 1 ([.int .i64 x0.1])) (fun _ h => dd_app0 HS19 rfl (H19.ev 14 rfl) (z := .int .i64 0) (bytes := 8) (sz := 1) Tryd.underlying45 (by kernel_rfl) rfl (by decide) ([.int .i64 x0.1]) (H19.ev 23 rfl) rfl (row_news (HS19.row 1 rfl) 0 (slab_whole _)) (ao_cons rfl ao_nil) (by unfold maxLen; omega) (by omega) h) fun g24_21 c24_21 cb24_21 _ O24_21 HS20 _ H20 => wl_ <| p_ H20 rfl rfl fun _ H22 => ln_ <| ?_
   clear H17 HS H18 HS19 H19 H20
   have H23 := H22.sel [0, 4, 3] rfl
   refine bn <| nx <| rl_ <| wl_ <| p_ H23 rfl rfl fun _ H24 => wl_ <| i_ H24 rfl (v := .int .i64 1) (dd_ari rfl (H24.ev 12 rfl) rfl rfl (by decide)) fun _ H25 => wl_ <| p_ H25 rfl rfl fun _ H26 => ln_ <| ?_
   clear H22 H23 H24 H25
   exact nx ⟨g24_21, c24_21, cb24_21, (by omega), (ids_1 hx0 O24_21), H26.sel [0, 3, 4] rfl, ss HS20 [0, 2]⟩
  clear H3 HS
  rintro j1 aL4 wL4 ⟨gi1, ci1, cbi1, hj, Oi1, HL4, HSL4⟩
  refine sq_ <| sq_ <| rl_ <| q_ HL4 2 rfl fun _ H27 => wl_ <| i_ H27 rfl (dd_nilc rfl (H27.ev 6 rfl)) fun _ H28 => wl_ <| i_ H28 rfl (xf 0 0 rfl (H28.ev 7 rfl)) fun _ H29 => wl_ <| i_ H29 rfl (dd_get HSL4 0 0 rfl rfl (H29.ev 8 rfl) rfl Tryd.underlying29 rfl) fun _ H30 => wl_ <| i_ H30 rfl (v := .int .i64 n) (dd_len rfl (H30.ev 9 rfl) Tryd.underlying29) fun _ H31 => ?_
  clear HL4 H27 H28 H29 H30
  by_cases hc33 : (j1 : Int) < n
  ·
   refine wl_ <| i_ H31 rfl (dd_cmp rfl (H31.ev 5 rfl) (H31.ev 10 rfl) (lt_t hc33)) fun _ H34 => ln_ <| nx <| ct_ H34 rfl <| wp_skip <| nx <| sq_ <| wp_block <| rl_ <| q_ H34 2 rfl fun _ H35 => wl_ <| i_ H35 rfl (dd_nilc rfl (H35.ev 15 rfl)) fun _ H36 => wl_ <| i_ H36 rfl (xf 0 0 rfl (H36.ev 16 rfl)) fun _ H37 => wl_ <| i_ H37 rfl (dd_get HSL4 0 0 rfl rfl (H37.ev 17 rfl) rfl Tryd.underlying29 rfl) fun _ H38 => wl_ <| p_ H38 rfl rfl fun _ H39 => wl_ <| i_ H39 rfl (xSo 36 (o + j1 * 36) rfl (H39.ev 18 rfl) (H39.ev 19 rfl)) fun _ H40 => wl_ <| i_ H40 rfl (xf 0 (o + j1 * 36) rfl (H40.ev 20 rfl)) fun _ H41 => ?_
   clear H31 H34 H35 H36 H37 H38 H39
   clear H40
   obtain ⟨xj1, hxj1⟩ : ∃ x, X[j1]? = some x := ⟨_, List.getElem?_eq_getElem (by rw [hi.len]; omega)⟩
   have hwj1 := hi.wf xj1 (List.mem_of_getElem? hxj1)
   refine wl_ <| i_ H41 rfl (dd_at rfl (H41.ev 21 rfl) (item_id (HE _ HSL4.chg) hi.wf hxj1) Tryd.underlying3 rfl) fun _ H42 => wl_ <| n_ H42 rfl (fun _ h => dd_lits HSL4 #[.int .i64 xj1.1] rfl (ps := [(0, .int .i64 xj1.1)]) (pr1 (H42.ev 22 rfl) (pr0)) (z := .int .i64 0) (sz := 1) Tryd.underlying45 (by kernel_rfl) rfl rfl (by kernel_rfl) h) fun g23 _ HS43 _ H43 => wl_ <| a_ H43 rfl (fun g24_45 c24_45 => .slice (some ⟨g24_45, 0, none⟩) (j1 + 1) c24_45) (T := fun _ c24_45 cb24_45 => OwnC cb24_45 c24_45 (j1 + 1) 1 ((intsV ((X.take j1).map (·.1))) ++ [.int .i64 xj1.1])) (fun _ h => dd_app HS43 1 rfl Oi1 rfl (H43.ev 14 rfl) (z := .int .i64 0) (bytes := 8) Tryd.underlying45 (by kernel_rfl) rfl (by decide) ([.int .i64 xj1.1]) (H43.ev 23 rfl) rfl (row_news (HS43.row 2 rfl) 0 (slab_whole _)) (ao_cons rfl ao_nil) (by unfold maxLen; omega) (by omega) h) fun g24_45 c24_45 cb24_45 _ O24_45 HS44 _ H44 => wl_ <| p_ H44 rfl rfl fun _ H46 => ln_ <| ?_
   clear H41 HSL4 H42 HS43 H43 H44
   have H47 := H46.sel [0, 4, 3] rfl
   refine bn <| nx <| rl_ <| wl_ <| p_ H47 rfl rfl fun _ H48 => wl_ <| i_ H48 rfl (v := .int .i64 (j1 + 1)) (dd_ari rfl (H48.ev 12 rfl) rfl rfl (i64_of (by first | omega | (have := bd_lo; omega)) (by omega))) fun _ H49 => wl_ <| p_ H49 rfl rfl fun _ H50 => ln_ <| ?_
   clear H46 H47 H48 H49
   refine nx ⟨j1 + 1, ⟨g24_45, c24_45, cb24_45, (by omega), (ids_S hxj1 O24_45), H50.sel [0, 3, 4] rfl, ss HS44 [0, 2]⟩, (by omega)⟩
  refine wl_ <| i_ H31 rfl (dd_cmp rfl (H31.ev 5 rfl) (H31.ev 10 rfl) (lt_f hc33)) fun _ H51 => ln_ <| nx <| cf_ H51 rfl <| wp_exit <| tx <| tx <| bx <| nx <| sq_ <| rl_ <| wl_ <| p_ H51 rfl rfl fun _ H52 => wl_ <| i_ H52 rfl (dd_nilc rfl (H52.ev 25 rfl)) fun _ H53 => wl_ <| i_ H53 rfl (xf 0 0 rfl (H53.ev 26 rfl)) fun _ H54 => wl_ <| t_ rfl (fun _ h => dd_put (cs := #[.slice none 0 0]) HSL4 0 0 rfl rfl (H54.ev 27 rfl) rfl (by kernel_rfl) rfl rfl rfl rfl h) fun _ HS55 => ln_ <| nx <| sq_ <| rl_ <| q_ H54 2 rfl fun _ H56 => ln_ <| nx <| wp_ret <| ret_run H56.env0 (res_t Tryd.results17 (H56.get 2 rfl)) <| ?_
  clear H31 H51 H52 H53 HSL4 H54
  obtain rfl : j1 = n := by omega
  exact ⟨gi1, ci1, cbi1, rfl, (by have h9 := Oi1; rw [show X.take j1 = X from by rw [← hi.len]; exact List.take_length] at h9; exact h9), ss HS55 [0, 1]⟩
theorem queclear_zero (F : Nat → Prop) (g : Nat) (A : Option Addr) (c : Nat) (w : World) (HS : St w F [⟨g, 27, #[.slice A 0 c]⟩] w) : Calls Tryd.prog 16 #[.pointer (some ⟨g, 0, none⟩)] w fun x w' => x = .returned (.slice none 0 0) ∧ St w F [⟨g, 27, #[.slice none 0 0]⟩] w' := by
  refine enter_en Tryd.func16 rfl Tryd.ntmps16 (Nat.le_of_ble_eq_true rfl) fun a0 (HA0 : En 27 [(0, .pointer (some ⟨g, 0, none⟩))] a0) => ?_
  refine sq_ <| rl_ <| wl_ <| p_ HA0 rfl rfl fun _ H1 => ln_ <| nx <| sq_ <| sq_ <| rl_ <| wl_ <| p_ H1 rfl rfl fun _ H2 => wl_ <| i_ H2 rfl (v := .bool false) (dd_eqp rfl (H2.ev 6 rfl) rfl Tryd.underlying24 rfl) fun _ H3 => ln_ <| nx <| cf_ H3 rfl <| wp_skip <| nx <| sq_ <| rl_ <| wl_ <| p_ H3 rfl rfl fun _ H4 => ln_ <| nx <| sq_ <| sq_ <| rl_ <| wl_ <| p_ H4 rfl rfl fun _ H5 => wl_ <| i_ H5 rfl (dd_nilc rfl (H5.ev 8 rfl)) fun _ H6 => wl_ <| i_ H6 rfl (xf 0 0 rfl (H6.ev 9 rfl)) fun _ H7 => wl_ <| i_ H7 rfl (dd_get HS 0 0 rfl rfl (H7.ev 10 rfl) rfl Tryd.underlying25 rfl) fun _ H8 => ?_
  clear HA0 H1 H2 H3 H4 H5 H6
  refine wl_ <| i_ H8 rfl (v := .int .i64 0) (dd_len rfl (H8.ev 11 rfl) Tryd.underlying25) fun _ H9 => wl_ <| p_ H9 rfl rfl fun _ H10 => ln_ <| nx <| wp_block <| wp_unr 1 <| unr_go <| sq_ <| rl_ <| wl_ <| i_ H10 rfl (dd_cmp rfl (H10.ev 13 rfl) (H10.ev 12 rfl) (lt_f (by decide))) fun _ H11 => ln_ <| nx <| sq_ <| cf_ H11 rfl <| wp_exit <| tx <| tx <| bx <| nx <| sq_ <| rl_ <| wl_ <| p_ H11 rfl rfl fun _ H12 => wl_ <| i_ H12 rfl (dd_nilc rfl (H12.ev 23 rfl)) fun _ H13 => wl_ <| i_ H13 rfl (xf 0 0 rfl (H13.ev 24 rfl)) fun _ H14 => wl_ <| t_ rfl (fun _ h => dd_put (cs := #[.slice none 0 0]) HS 0 0 rfl rfl (H14.ev 25 rfl) rfl (by kernel_rfl) rfl rfl rfl rfl h) fun _ HS15 => ln_ <| nx <| sq_ <| rl_ <| q_ H14 2 rfl fun _ H16 => ?_
  clear H7 H8 H9 H10 H11 H12 H13 HS
  refine ln_ <| nx <| wp_ret <| ret_run H16.env0 (res_t Tryd.results16 (H16.get 2 rfl)) <| ?_
  clear H14
  exact ⟨rfl, ss HS15 [0]⟩
theorem rqclear_zero (F : Nat → Prop) (g : Nat) (A : Option Addr) (c : Nat) (w : World) (HS : St w F [⟨g, 31, #[.slice A 0 c]⟩] w) : Calls Tryd.prog 17 #[.pointer (some ⟨g, 0, none⟩)] w fun x w' => x = .returned (.slice none 0 0) ∧ St w F [⟨g, 31, #[.slice none 0 0]⟩] w' := by
  refine enter_en Tryd.func17 rfl Tryd.ntmps17 (Nat.le_of_ble_eq_true rfl) fun a0 (HA0 : En 29 [(0, .pointer (some ⟨g, 0, none⟩))] a0) => ?_
  refine sq_ <| rl_ <| wl_ <| p_ HA0 rfl rfl fun _ H1 => ln_ <| nx <| sq_ <| rl_ <| wl_ <| p_ H1 rfl rfl fun _ H2 => ln_ <| nx <| sq_ <| sq_ <| rl_ <| wl_ <| p_ H2 rfl rfl fun _ H3 => ln_ <| nx <| wp_block <| wp_unr 1 <| unr_go <| sq_ <| sq_ <| rl_ <| q_ H3 2 rfl fun _ H4 => wl_ <| i_ H4 rfl (dd_nilc rfl (H4.ev 6 rfl)) fun _ H5 => wl_ <| i_ H5 rfl (xf 0 0 rfl (H5.ev 7 rfl)) fun _ H6 => wl_ <| i_ H6 rfl (dd_get HS 0 0 rfl rfl (H6.ev 8 rfl) rfl Tryd.underlying29 rfl) fun _ H7 => wl_ <| i_ H7 rfl (v := .int .i64 0) (dd_len rfl (H7.ev 9 rfl) Tryd.underlying29) fun _ H8 => ?_
  clear HA0 H1 H2 H3 H4 H5 H6
  refine wl_ <| i_ H8 rfl (dd_cmp rfl (H8.ev 5 rfl) (H8.ev 10 rfl) (lt_f (by decide))) fun _ H9 => ln_ <| nx <| cf_ H9 rfl <| wp_exit <| tx <| tx <| bx <| nx <| sq_ <| rl_ <| wl_ <| p_ H9 rfl rfl fun _ H10 => wl_ <| i_ H10 rfl (dd_nilc rfl (H10.ev 25 rfl)) fun _ H11 => wl_ <| i_ H11 rfl (xf 0 0 rfl (H11.ev 26 rfl)) fun _ H12 => wl_ <| t_ rfl (fun _ h => dd_put (cs := #[.slice none 0 0]) HS 0 0 rfl rfl (H12.ev 27 rfl) rfl (by kernel_rfl) rfl rfl rfl rfl h) fun _ HS13 => ln_ <| nx <| sq_ <| rl_ <| q_ H12 2 rfl fun _ H14 => ln_ <| nx <| wp_ret <| ret_run H14.env0 (res_t Tryd.results17 (H14.get 2 rfl)) <| ?_
  clear H7 H8 H9 H10 H11 HS H12
  exact ⟨rfl, ss HS13 [0]⟩
end Go.Proofs.YtnmaplgodimohaaDoor

/- Items that wait, told by their ids. -/
set_option maxRecDepth 4000
namespace Go.Proofs.YtnmaplgodimohaaDoor
open Go Go.RowKit
theorem quepop_S (F : Nat → Prop) (g : Nat) (A : Option Addr) (n c m : Nat) (w : World) (HS : St w F [⟨g, 27, #[.slice A n c]⟩] w) (hn : n = m + 1) : Calls Tryd.prog 13 #[.pointer (some ⟨g, 0, none⟩)] w fun x w' => x = .returned (.bool true) ∧ St w F [⟨g, 27, #[.slice (tl1 A c) m (c - 1)]⟩] w' := by
  subst hn
  exact quepop_any F g A (m + 1) c w HS (by omega)
theorem ints_ownC {w : World} {g c n : Nat} {cb : Array Value} {L : List Int} (hr : Row w g 3 cb) (O : OwnC cb c n 1 (intsV L)) (hl : ∀ x ∈ L, -9223372036854775808 ≤ x ∧ x < 9223372036854775808) : IntsAt w (.slice (some ⟨g, 0, none⟩) n c) L :=
  ints_own (base := 0) (ownc_to hr O (Nat.zero_le _)) hl
theorem IntsAt.cells {w W : World} {b o n c : Nat} {X : List Int} (h : IntsAt w (.slice (some ⟨b, o, none⟩) n c) X) (hb : Below w.heap.size w W) : ∀ (k : Nat) (x : Int), X[k]? = some x → W.cell? ⟨b, o + k, none⟩ = some (.int .i64 x) := fun k x hx => by
  obtain ⟨b', o', x', h1, h2, _, h4, _⟩ := ints_get (h.below hb (Nat.le_refl _)) (List.getElem?_eq_some_iff.1 hx).1
  injection h2 with h2; injection h2 with h2 h3; subst h2 h3
  rw [hx] at h1; injection h1 with h1; subst h1; exact h4
def BoolsAt (w : World) (v : Value) (l : List Bool) : Prop := rdSl 1 rdBool w [v] l
theorem bools_get {w : World} {A : Option Addr} {n c : Nat} {l : List Bool} (h : BoolsAt w (.slice A n c) l) {k : Nat} (hk : k < l.length) : ∃ b o x, l[k]? = some x ∧ A = some ⟨b, o, none⟩ ∧ w.cell? ⟨b, o + k, none⟩ = some (.bool x) := by
  obtain ⟨A', c', e1, _, _, _, h5⟩ := h
  have e1 : Value.slice A n c = .slice A' l.length c' := by simpa using e1
  injection e1 with e1 _ _
  subst e1
  obtain ⟨b, o, h6, h7, h8⟩ := h5 (by rintro rfl; simp at hk)
  obtain ⟨x, hx⟩ : ∃ x, l[k]? = some x := ⟨_, List.getElem?_eq_getElem hk⟩
  obtain ⟨ds, _, h10, h11⟩ := h8 k x hx
  have h11 : ds = [.bool x] := h11
  subst h11
  have h12 := h10 0 _ rfl
  rw [Nat.mul_one] at h12
  exact ⟨b, o, x, hx, h6, h12⟩
theorem BoolsAt.below {w w' : World} {v : Value} {l : List Bool} {B : Nat} (h : BoolsAt w v l) (hb : Below B w w') (hB : w.heap.size ≤ B) : BoolsAt w' v l := stays_sl stays_bool B w w' _ _ h hb hB
theorem BoolsAt.cells {w W : World} {b o n c : Nat} {X : List Bool} (h : BoolsAt w (.slice (some ⟨b, o, none⟩) n c) X) (hb : Below w.heap.size w W) : ∀ (k : Nat) (x : Bool), X[k]? = some x → W.cell? ⟨b, o + k, none⟩ = some (.bool x) := fun k x hx => by
  obtain ⟨b', o', x', h1, h2, h4⟩ := bools_get (h.below hb (Nat.le_refl _)) (List.getElem?_eq_some_iff.1 hx).1
  injection h2 with h2; injection h2 with h2 h3; subst h2 h3
  rw [hx] at h1; injection h1 with h1; subst h1; exact h4
def B64 (L : List Int) : Prop := ∀ x ∈ L, -9223372036854775808 ≤ x ∧ x < 9223372036854775808
theorem B64.snoc {L : List Int} {x : Int} (h : B64 L) (hx : -9223372036854775808 ≤ x ∧ x < 9223372036854775808) : B64 (L ++ [x]) := fun y hy => (List.mem_append.1 hy).elim (h y) (fun h1 => by rw [List.mem_singleton] at h1; subst h1; exact hx)
theorem B64.one {x : Int} (hx : -9223372036854775808 ≤ x ∧ x < 9223372036854775808) : B64 [x] := fun y hy => by rw [List.mem_singleton] at hy; subst hy; exact hx
theorem ints_none (w : World) : IntsAt w (.slice none 0 0) [] := ⟨none, 0, rfl, Nat.le_refl _, fun _ => rfl, Nat.zero_le _, fun h => absurd rfl h⟩
end Go.Proofs.YtnmaplgodimohaaDoor

/- Steps of what waits, opened; Add, Pop, Clear of both, whatever the slices. -/
set_option maxRecDepth 4000
namespace Go.Proofs.YtnmaplgodimohaaDoor
open Go Go.ChangeShapes Go.WideShapes Go.ChangeAt Go.RowKit
theorem eql_ritm (x y : It) (hx : x.2.2.2.2.length = 32) (hy : y.2.2.2.2.length = 32) (w : World) : (Op.equalIn 10000 38 (.agg (catA [[.int .i64 x.1], [.int .i64 x.2.1], [.string (strB x.2.2.1)], [.int .i64 x.2.2.2.1], bytesV x.2.2.2.2])) (.agg (catA [[.int .i64 y.1], [.int .i64 y.2.1], [.string (strB y.2.2.1)], [.int .i64 y.2.2.2.1], bytesV y.2.2.2.2]))).run Tryd.prog w = .ok (decide (x = y)) w := by
  have hS : Tryd.prog.underlying 38 = some (.struct (Tryd.prog.fieldsOf 38)) := by kernel_rfl
  have e : decide (x = y) = (x.1 == y.1 && (x.2.1 == y.2.1 && (((strB x.2.2.1).toList == (strB y.2.2.1).toList) && (x.2.2.2.1 == y.2.2.2.1 && decide (x.2.2.2.2 = y.2.2.2.2))))) := by
    rw [str_beq]
    obtain ⟨x1, x2, x3, x4, x5⟩ := x
    obtain ⟨y1, y2, y3, y4, y5⟩ := y
    by_cases h1 : x1 = y1 <;> by_cases h2 : x2 = y2 <;> by_cases h3 : x3 = y3 <;> by_cases h4 : x4 = y4 <;> by_cases h5 : x5 = y5 <;> simp [h1, h2, h3, h4, h5]
  have q2 : ∀ w, (Op.equalIn 9999 36 (.agg (bs x.2.2.2.2)) (.agg (bs y.2.2.2.2))).run Tryd.prog w = .ok (decide (x.2.2.2.2 = y.2.2.2.2)) w := fun w => equal_bytesD 9997 36 32 x.2.2.2.2 y.2.2.2.2 hx hy Tryd.underlying36 w
  have u1 := Tryd.underlying3
  have u3 := Tryd.underlying9
  obtain ⟨a1, a2, a3, a4, a5⟩ := itm_parts x hx
  obtain ⟨b1, b2, b3, b4, b5⟩ := itm_parts y hy
  rw [e, show (10000 : Nat) = 9999 + 1 from rfl, run_equalIn_agg w 9999 38 _ _ hS (by kernel_rfl)]
  clear e
  generalize decide (x.2.2.2.2 = y.2.2.2.2) = D2 at *
  generalize catA [[.int .i64 x.1], [.int .i64 x.2.1], [.string (strB x.2.2.1)], [.int .i64 x.2.2.2.1], bytesV x.2.2.2.2] = X at *
  generalize catA [[.int .i64 y.1], [.int .i64 y.2.1], [.string (strB y.2.2.1)], [.int .i64 y.2.2.2.1], bytesV y.2.2.2.2] = Y at *
  generalize strB x.2.2.1 = s at *
  generalize strB y.2.2.1 = s' at *
  simp only [Program.fieldsOf, Tryd.underlying38]
  go_simp
  cases D2 <;> by_cases h1 : x.1 = y.1 <;> by_cases h2 : x.2.1 = y.2.1 <;> by_cases h3 : s.toList = s'.toList <;> by_cases h4 : x.2.2.2.1 = y.2.2.2.1 <;> simp_all
theorem bounds_i64Q {n : Int} (h : (Lit.int .i64 n).wf = true) : -9223372036854775808 ≤ n ∧ n < 9223372036854775808 := by
  simp only [Lit.wf, Bool.and_eq_true, decide_eq_true_eq] at h
  have h1 : IntKind.i64.min = -9223372036854775808 := by decide
  have h2 : IntKind.i64.max = 9223372036854775807 := by decide
  omega
noncomputable def unB (s : ByteArray) : List (BitVec 8) := (strB_all s).choose
theorem strB_unB (s : ByteArray) : s = strB (unB s) := (strB_all s).choose_spec
abbrev Ri := Int × Int × ByteArray × Int × List (BitVec 8)
noncomputable def toIt (x : Ri) : It := (x.1, x.2.1, unB x.2.2.1, x.2.2.2.1, x.2.2.2.2)
theorem ri_cells {w : World} {ds : List Value} {x : Ri} (h : rdItm w ds x) : ds = itcell (toIt x) ∧ (toIt x).2.2.2.2.length = 32 ∧ -9223372036854775808 ≤ (toIt x).1 ∧ (toIt x).1 < 9223372036854775808 := by
  obtain ⟨⟨i, k, s, n, q, _⟩, h, rfl⟩ := h
  obtain ⟨c0, d0, rfl, _, ⟨rfl, hi⟩, c1, d1, rfl, _, ⟨rfl, _⟩, c2, d2, rfl, _, ⟨rfl, _⟩, c3, d3, rfl, _, ⟨rfl, _⟩, c4, d4, rfl, _, ⟨rfl, hq⟩, h4⟩ := h
  have h4 : d4 = [] := h4
  subst h4
  refine ⟨?_, hq, bounds_i64Q hi⟩
  show _ = [[Value.int .i64 i], [.int .i64 k], [.string (strB (unB s))], [.int .i64 n], bytesV q].flatten
  rw [← strB_unB s]
  simp
theorem items_rd {w : World} {A : Option Addr} {n c : Nat} {l : List Ri} (h : rdSl 36 rdItm w [.slice A n c] l) : ItemsAt w A n c (l.map toIt) ∧ B64 ((l.map toIt).map (·.1)) ∧ n ≤ maxLen := by
  obtain ⟨A', c', h1, h2, h3, hml, h5⟩ := h
  have h1 : Value.slice A n c = .slice A' l.length c' := by simpa using h1
  injection h1 with e1 e2 e3
  subst e1 e2 e3
  have key : ∀ x ∈ l, (toIt x).2.2.2.2.length = 32 ∧ -9223372036854775808 ≤ (toIt x).1 ∧ (toIt x).1 < 9223372036854775808 := fun x hx => by
    obtain ⟨b, o, _, _, h8⟩ := h5 (by intro e; subst e; cases hx)
    obtain ⟨k, hk⟩ := List.getElem?_of_mem hx
    obtain ⟨ds, _, _, h10⟩ := h8 k x hk
    exact (ri_cells h10).2
  have hw : wfI (l.map toIt) := fun y hy => by
    obtain ⟨x, hx, rfl⟩ := List.mem_map.1 hy
    exact (key x hx).1
  refine ⟨⟨List.length_map .., h2, hw, fun hn => ?_⟩, fun y hy => ?_, hml⟩
  · obtain ⟨b, o, h6, h7, h8⟩ := h5 (by rintro rfl; exact hn rfl)
    refine ⟨b, o, h6, h7, fun j v hv => ?_⟩
    have hj : j < l.length * 36 := by rw [← len_items hw (List.length_map ..)]; exact (List.getElem?_eq_some_iff.1 hv).1
    obtain ⟨k, m, hm, rfl⟩ : ∃ k m, m < 36 ∧ j = k * 36 + m := ⟨j / 36, j % 36, Nat.mod_lt _ (by decide), by omega⟩
    obtain ⟨x, hxk⟩ : ∃ x, l[k]? = some x := ⟨_, List.getElem?_eq_getElem (by omega)⟩
    obtain ⟨ds, _, h9, h10⟩ := h8 k x hxk
    rw [(ri_cells h10).1] at h9
    unfold itemsL at hv
    rw [flat_get (sz := 36) ((l.map toIt).map itcell) (fun c hc => by
      obtain ⟨y, hy, rfl⟩ := List.mem_map.1 hc
      exact len_itcell (hw y hy)) k m (itcell (toIt x)) (by rw [List.getElem?_map, List.getElem?_map, hxk]; rfl) hm] at hv
    rw [← Nat.add_assoc]
    exact h9 m v hv
  · obtain ⟨x, hx, rfl⟩ := List.mem_map.1 hy
    obtain ⟨z, hz, rfl⟩ := List.mem_map.1 hx
    exact (key z hz).2
def rdStepQ : Rd (Int × List Ri) := rdMap (fun x => (x.1, x.2.1)) (rdCons 1 (rdInt .i64) (rdCons 1 (rdSl 36 rdItm) rdNil))
def StepsQ (w : World) (v : Value) (l : List (Int × List Ri)) : Prop := rdSl 2 rdStepQ w [v] l
theorem stepsQ_len {w : World} {A : Option Addr} {n c : Nat} {l : List (Int × List Ri)} (h : StepsQ w (.slice A n c) l) : l.length = n := by
  obtain ⟨A', c', e1, _⟩ := h
  have e1 : Value.slice A n c = .slice A' l.length c' := by simpa using e1
  injection e1 with _ e1 _
  exact e1.symm
theorem stepsQ_get {w : World} {A : Option Addr} {n c : Nat} {l : List (Int × List Ri)} (h : StepsQ w (.slice A n c) l) {k : Nat} (hk : k < n) :
    ∃ b o kd B m d Y, A = some ⟨b, o, none⟩ ∧ CAt w b (o + k * 2) [.int .i64 kd, .slice B m d] ∧ ItemsAt w B m d Y ∧ B64 (Y.map (·.1)) ∧ m ≤ maxLen := by
  have hl := stepsQ_len h
  obtain ⟨A', c', e1, _, _, _, h5⟩ := h
  have e1 : Value.slice A n c = .slice A' l.length c' := by simpa using e1
  injection e1 with e1 _ _
  subst e1
  obtain ⟨b, o, h6, h7, h8⟩ := h5 (by rintro rfl; simp at hl; omega)
  obtain ⟨x, hx⟩ : ∃ x, l[k]? = some x := ⟨_, List.getElem?_eq_getElem (by omega)⟩
  obtain ⟨ds, _, h10, h11⟩ := h8 k x hx
  obtain ⟨⟨kd, Y, _⟩, h, rfl⟩ := h11
  obtain ⟨c0, d0, rfl, _, ⟨rfl, _⟩, c1, d1, rfl, _, h1, h2⟩ := h
  have h2 : d1 = [] := h2
  subst h2
  obtain ⟨B, d, rfl, _⟩ := id h1
  have h3 := items_rd h1
  exact ⟨b, o, kd, B, _, d, _, h6, ⟨h7, h10⟩, h3.1, h3.2.1, h3.2.2⟩
theorem cellsQSl : Tryd.prog.cellsOf 25 = 1 := by kernel_rfl
theorem cellsQI2 : Tryd.prog.cellsOf 40 = 36 := by kernel_rfl
theorem cellsQSt : Tryd.prog.cellsOf 33 = 2 := by kernel_rfl
theorem opens_stepQ : Opens Tryd.prog 33 rdStepQ :=
  opens_map (opens_struct Tryd.underlying33 (by kernel_rfl) (opensF_cons rfl cellsQI (opens_int Tryd.underlying3) (opensF_cons rfl cellsQSl (opens_sl Tryd.underlying25 cellsQI2 (by decide) opens_itm) opensF_nil)))
theorem open_stepsQ {H : Type} {enc : TypeId × Value → H} {W : World} {r : Reach} {base : Nat} {v : Value} {d : DataW H} {ps : List MemPlace} (hval : Value.okWide Tryd.prog W r base 22 v)
    (h : DataW.Trod enc Tryd.prog W 0 (fun _ => true) true 22 v d ps) (hlt : ∀ x ∈ ps, x.block < W.heap.size) : ∃ A n c l, v = .slice A n c ∧ StepsQ W (.slice A n c) l := by
  obtain ⟨A, c, l, e, hx⟩ := open_argSl Tryd.underlying22 (opens_sl Tryd.underlying22 cellsQSt (by decide) opens_stepQ) hval h hlt
  exact ⟨A, _, c, l, e, hx⟩
theorem its_1 {X : List It} {x : It} {cb : Array Value} {c : Nat} (h : X[0]? = some x) (O : OwnC cb c 1 36 (itcell x)) : OwnC cb c 1 36 (itemsL (X.take 1)) := by
  obtain ⟨h1, h2⟩ := List.getElem?_eq_some_iff.1 h
  rw [show X.take 1 = [x] by rw [List.take_succ_eq_append_getElem h1, List.take_zero, h2]; rfl, items_one]; exact O
theorem its_S {X : List It} {j : Nat} {x : It} {cb : Array Value} {c : Nat} (h : X[j]? = some x) (O : OwnC cb c (j + 1) 36 (itemsL (X.take j) ++ itemsL [x])) : OwnC cb c (j + 1) 36 (itemsL (X.take (j + 1))) := by
  obtain ⟨h1, h2⟩ := List.getElem?_eq_some_iff.1 h
  rw [List.take_succ_eq_append_getElem h1, h2, items_app]; exact O
theorem its_all {X Y : List It} {m j : Nat} (h : Y.length = m) (hj : j = m) : X ++ Y.take j = X ++ Y := by subst hj h; rw [List.take_length]
theorem its_none {X Y : List It} {m : Nat} (h : Y.length = m) (hm : m = 0) : X ++ [] = X ++ Y := by subst hm; rw [List.eq_nil_of_length_eq_zero h]
theorem len_take' {Y : List It} {m j : Nat} (h : Y.length = m) (hj : j ≤ m) : (Y.take j).length = j := by rw [List.length_take, h]; omega
theorem wfI_take {Y : List It} {j : Nat} (h : wfI Y) : wfI (Y.take j) := fun x hx => h x (List.mem_of_mem_take hx)
theorem wfI_tail {Y : List It} (h : wfI Y) : wfI Y.tail := fun x hx => h x (List.mem_of_mem_tail hx)
theorem len_tlI {L : List It} {n m : Nat} (h : L.length = n) (hn : n = m + 1) : L.tail.length = m := by rw [List.length_tail, h]; omega
theorem len_appI {X Y : List It} {n m N : Nat} (h : X.length = n) (k : Y.length = m) (hN : n + m = N) : (X ++ Y).length = N := by rw [List.length_append, h, k, hN]
theorem B64.appI {X Y : List It} (h : B64 (X.map (·.1))) (k : B64 (Y.map (·.1))) : B64 ((X ++ Y).map (·.1)) := fun x hx => by
  rw [List.map_append] at hx
  exact (List.mem_append.1 hx).elim (h x) (k x)
theorem B64.tailI {X : List It} (h : B64 (X.map (·.1))) : B64 (X.tail.map (·.1)) := fun x hx => by
  rw [List.map_tail] at hx
  exact h x (List.mem_of_mem_tail hx)
theorem B64.nil : B64 [] := fun x hx => by cases hx
theorem cat_of {w : World} {A : Option Addr} {n c b o : Nat} {X : List It} (h : ItemsAt w A n c X) (hA : A = some ⟨b, o, none⟩) (hn : n ≠ 0) : CAt w b o (itemsL X) := by
  obtain ⟨b', o', e, h2⟩ := h.at_ hn
  rw [hA] at e
  injection e with e; injection e with e1 e2; subst e1 e2; exact h2
theorem CAt.news1 {w : World} {b o : Nat} {x : It} (h : CAt w b o (itemsL [x])) : ∀ (j : Nat) (u : Value), (itcell x)[j]? = some u → w.cell? ((⟨b, o, none⟩ : Addr).add j) = some u := by
  rw [items_one] at h
  exact h.news
theorem fair_len {Y : List It} {m : Nat} (hl : Y.length = m) (h : fairI Y = true) : m ≤ 20 := by
  unfold fairI at h
  rw [Bool.and_eq_true] at h
  have := of_decide_eq_true h.2
  omega
theorem quehead_at (g : Nat) (A : Option Addr) (n c : Nat) (X : List It) (w : World) (hr : Row w g 27 #[.slice A n c]) (hi : ItemsAt w A n c X) (hn : 0 < n) : Calls Tryd.prog 18 #[.pointer (some ⟨g, 0, none⟩)] w fun x w' => ∃ y, X[0]? = some y ∧ x = .returned (.tuple #[.agg (catA [[.int .i64 y.1], [.int .i64 y.2.1], [.string (strB y.2.2.1)], [.int .i64 y.2.2.2.1], bytesV y.2.2.2.2]), .bool true]) ∧ Below w.heap.size w w' := by
  obtain ⟨b, o, rfl, h0⟩ := hi.at_ (by omega)
  exact quehead_some g b o n c X w hr hi h0 hn
theorem queadd_z (F : Nat → Prop) (g : Nat) (A B : Option Addr) (c m d : Nat) (w : World) (HS : St w F [⟨g, 27, #[.slice A 0 c]⟩] w) (hm : m = 0) : Calls Tryd.prog 11 #[.pointer (some ⟨g, 0, none⟩), .slice B m d] w fun x w' => x = .returned (.int .i64 0) ∧ St w F [⟨g, 27, #[.slice none 0 0]⟩] w' := by
  subst hm
  exact queadd_zero F g A B c d w HS
theorem queclear_at (F : Nat → Prop) (g : Nat) (A : Option Addr) (n c : Nat) (X : List It) (w : World) (HS : St w F [⟨g, 27, #[.slice A n c]⟩] w) (H1 : ∀ W, Chg F w W → ItemsAt W A n c X) (h0 : 0 < n) (hm : n ≤ 1000) : Calls Tryd.prog 16 #[.pointer (some ⟨g, 0, none⟩)] w fun x w' => ∃ g' c' cb', x = .returned (.slice (some ⟨g', 0, none⟩) n c') ∧ OwnC cb' c' n 1 (intsV (X.map (·.1))) ∧ St w F [⟨g, 27, #[.slice none 0 0]⟩, ⟨g', 3, cb'⟩] w' := by
  have hi := H1 w HS.chg
  obtain ⟨b, o, rfl, h2⟩ := hi.at_ (by omega)
  exact queclear_any F g b o n c X w HS hi (fun W k => ItemsAt.cat (H1 W k) (by omega)) h0 hm
theorem rqclear_at (F : Nat → Prop) (g : Nat) (A : Option Addr) (n c : Nat) (X : List It) (w : World) (HS : St w F [⟨g, 31, #[.slice A n c]⟩] w) (H1 : ∀ W, Chg F w W → ItemsAt W A n c X) (h0 : 0 < n) (hm : n ≤ 1000) : Calls Tryd.prog 17 #[.pointer (some ⟨g, 0, none⟩)] w fun x w' => ∃ g' c' cb', x = .returned (.slice (some ⟨g', 0, none⟩) n c') ∧ OwnC cb' c' n 1 (intsV (X.map (·.1))) ∧ St w F [⟨g, 31, #[.slice none 0 0]⟩, ⟨g', 3, cb'⟩] w' := by
  have hi := H1 w HS.chg
  obtain ⟨b, o, rfl, h2⟩ := hi.at_ (by omega)
  exact rqclear_any F g b o n c X w HS hi (fun W k => ItemsAt.cat (H1 W k) (by omega)) h0 hm
theorem rqpop_S (F : Nat → Prop) (g : Nat) (A : Option Addr) (n c m : Nat) (X : List It) (w : World) (HS : St w F [⟨g, 31, #[.slice A n c]⟩] w) (H1 : ∀ W, Chg F w W → ItemsAt W A n c X) (hn : n = m + 1) (hm : n ≤ 1000) : Calls Tryd.prog 14 #[.pointer (some ⟨g, 0, none⟩)] w fun x w' => ∃ g' c' cb', x = .returned (.bool true) ∧ OwnC cb' c' m 36 (itemsL X.tail) ∧ St w F [⟨g, 31, #[.slice (some ⟨g', 0, none⟩) m c']⟩, ⟨g', 38, cb'⟩] w' := by
  subst hn
  exact rqpop_some F g A (m + 1) c X w HS H1 (by omega) hm
theorem rqadd_as (F : Nat → Prop) (g : Nat) (A B : Option Addr) (n c m d : Nat) (X Y : List It) (N : Nat) (Z : List It) (w : World) (HS : St w F [⟨g, 31, #[.slice A n c]⟩] w) (H1 : ∀ W, Chg F w W → ItemsAt W A n c X) (H2 : ∀ W, Chg F w W → ItemsAt W B m d Y) (hf : n + m ≤ 4) (hN : n + m = N) (hZ : X ++ Y = Z) : Calls Tryd.prog 12 #[.pointer (some ⟨g, 0, none⟩), .slice B m d] w fun x w' => ∃ g' c' cb', x = .returned (.int .i64 0) ∧ OwnC cb' c' N 36 (itemsL Z) ∧ St w F [⟨g, 31, #[.slice (some ⟨g', 0, none⟩) N c']⟩, ⟨g', 38, cb'⟩] w' := by
  subst hN hZ
  exact rqadd_some F g A B n c m d X Y w HS H1 H2 hf
end Go.Proofs.YtnmaplgodimohaaDoor

/- The statement QueueNone: its walk. -/
set_option maxRecDepth 4000
namespace Go.Proofs.YtnmaplgodimohaaDoor
open Go Go.RowKit
def zit : It := (0, 0, [], 0, zer 32)
theorem wf_one {y : It} (hy : y.2.2.2.2.length = 32) : wfI [y] := fun x hx => by rw [List.mem_singleton] at hx; subst hx; exact hy
end Go.Proofs.YtnmaplgodimohaaDoor

/- The statement QueuePlays: its walk. -/
set_option maxRecDepth 4000
namespace Go.Proofs.YtnmaplgodimohaaDoor
open Go Go.RowKit
theorem quplay_many (A : Option Addr) (n c : Nat) (w : World) (h : 100 < n) : Calls Tryd.prog 3 #[.slice A n c] w fun x w' => x = .returned (.bool true) ∧ Below w.heap.size w w' := by
  have HS := St.nil w noF
  refine enter_en Tryd.func3 rfl Tryd.ntmps3 (Nat.le_of_ble_eq_true rfl) fun a0 (HA0 : En 126 [(0, .slice A n c)] a0) => ?_
  refine sq_ <| rl_ <| wl_ <| p_ HA0 rfl rfl fun _ H1 => ln_ <| nx <| sq_ <| sq_ <| rl_ <| wl_ <| p_ H1 rfl rfl fun _ H2 => wl_ <| i_ H2 rfl (v := .int .i64 n) (dd_len rfl (H2.ev 11 rfl) Tryd.underlying22) fun _ H3 => wl_ <| i_ H3 rfl (dd_cmp rfl (H3.ev 12 rfl) rfl (gt_t (by omega))) fun _ H4 => ln_ <| nx <| ct_ H4 rfl <| sq_ <| rl_ <| wl_ <| c_ H4 rfl HS (dcs Tryd.func8 rfl (args0 ) (qwakes_any w) (.bool true)) fun _ HS5 _ H5 => wl_ <| p_ H5 rfl rfl fun _ H6 => ln_ <| nx <| wp_ret <| tr <| ret_run H6.env0 (res_t Tryd.results3 (H6.get 2 rfl)) <| ?_
  clear HA0 H1 H2 H3 H4 HS H5
  exact ⟨rfl, HS5.below⟩
theorem quplay_zero (A : Option Addr) (c : Nat) (w : World) : Calls Tryd.prog 3 #[.slice A 0 c] w fun x w' => x = .returned (.bool true) ∧ Below w.heap.size w w' := by
  have HS := St.nil w noF
  refine enter_en Tryd.func3 rfl Tryd.ntmps3 (Nat.le_of_ble_eq_true rfl) fun a0 (HA0 : En 126 [(0, .slice A 0 c)] a0) => ?_
  refine sq_ <| rl_ <| wl_ <| p_ HA0 rfl rfl fun _ H1 => ln_ <| nx <| sq_ <| sq_ <| rl_ <| wl_ <| p_ H1 rfl rfl fun _ H2 => wl_ <| i_ H2 rfl (v := .int .i64 0) (dd_len rfl (H2.ev 11 rfl) Tryd.underlying22) fun _ H3 => wl_ <| i_ H3 rfl (dd_cmp rfl (H3.ev 12 rfl) rfl (gt_f (by decide))) fun _ H4 => ln_ <| nx <| cf_ H4 rfl <| wp_skip <| nx <| sq_ <| rl_ <| wl_ <| i_ H4 rfl (v := .agg #[.slice none 0 0]) (dd_bld rfl (ps := []) (pr0) (Lz := [[.slice none 0 0]]) (by kernel_rfl) (lens_cons rfl (lens_nil)) (fit_nil) (cs := #[.slice none 0 0]) rfl) fun _ H5 => wl_ <| n_ H5 rfl (fun _ h => dd_box HS rfl (H5.ev 15 rfl) (cs := #[.slice none 0 0]) rfl h) fun _ _ HS6 _ H6 => wl_ <| i_ H6 rfl (v := .agg #[.slice none 0 0]) (dd_bld rfl (ps := []) (pr0) (Lz := [[.slice none 0 0]]) (by kernel_rfl) (lens_cons rfl (lens_nil)) (fit_nil) (cs := #[.slice none 0 0]) rfl) fun _ H7 => wl_ <| n_ H7 rfl (fun _ h => dd_box HS6 rfl (H7.ev 17 rfl) (cs := #[.slice none 0 0]) rfl h) fun _ W8 HS8 _ H8 => ?_
  clear HA0 H1 H2 H3 H4 HS H5 H6
  refine q_ H8 2 rfl fun _ H9 => ln_ <| nx <| sq_ <| sq_ <| rl_ <| wl_ <| p_ H9 rfl rfl fun _ H10 => ln_ <| nx <| wp_block <| wp_unr 1 <| unr_go <| sq_ <| sq_ <| rl_ <| q_ H10 2 rfl fun _ H11 => wl_ <| i_ H11 rfl (v := .int .i64 0) (dd_len rfl (H11.ev 20 rfl) Tryd.underlying22) fun _ H12 => wl_ <| i_ H12 rfl (dd_cmp rfl (H12.ev 19 rfl) (H12.ev 21 rfl) (lt_f (by decide))) fun _ H13 => ln_ <| nx <| cf_ H13 rfl <| wp_exit <| tx <| tx <| bx <| nx <| sq_ <| rl_ <| wl_ <| c_ H13 rfl HS8 (dcs Tryd.func8 rfl (args0 ) (qwakes_any W8) (.bool true)) fun _ HS14 _ H14 => wl_ <| p_ H14 rfl rfl fun _ H15 => ln_ <| ?_
  clear HS6 H7 H8 H9 H10 H11 H12 H13 HS8 H14
  have H16 := H15.sel [2] rfl
  refine nx <| wp_ret <| ret_run H16.env0 (res_t Tryd.results3 (H16.get 2 rfl)) <| ?_
  clear H15
  exact ⟨rfl, HS14.below⟩
set_option maxHeartbeats 1600000 in
theorem quplay_walk (b o n c : Nat) (l : List (Int × List Ri)) (w : World) (hn : n ≤ 100) (hs : StepsQ w (.slice (some ⟨b, o, none⟩) n c) l) : Calls Tryd.prog 3 #[.slice (some ⟨b, o, none⟩) n c] w fun x w' => x = .returned (.bool true) ∧ Below w.heap.size w w' := by
  have HS := St.nil w noF
  refine enter_en Tryd.func3 rfl Tryd.ntmps3 (Nat.le_of_ble_eq_true rfl) fun a0 (HA0 : En 126 [(0, .slice (some ⟨b, o, none⟩) n c)] a0) => ?_
  refine sq_ <| rl_ <| wl_ <| p_ HA0 rfl rfl fun _ H1 => ln_ <| nx <| sq_ <| sq_ <| rl_ <| wl_ <| p_ H1 rfl rfl fun _ H2 => wl_ <| i_ H2 rfl (v := .int .i64 n) (dd_len rfl (H2.ev 11 rfl) Tryd.underlying22) fun _ H3 => wl_ <| i_ H3 rfl (dd_cmp rfl (H3.ev 12 rfl) rfl (gt_f (by omega))) fun _ H4 => ln_ <| nx <| cf_ H4 rfl <| wp_skip <| nx <| sq_ <| rl_ <| wl_ <| i_ H4 rfl (v := .agg #[.slice none 0 0]) (dd_bld rfl (ps := []) (pr0) (Lz := [[.slice none 0 0]]) (by kernel_rfl) (lens_cons rfl (lens_nil)) (fit_nil) (cs := #[.slice none 0 0]) rfl) fun _ H5 => wl_ <| n_ H5 rfl (fun _ h => dd_box HS rfl (H5.ev 15 rfl) (cs := #[.slice none 0 0]) rfl h) fun g16 _ HS6 _ H6 => wl_ <| i_ H6 rfl (v := .agg #[.slice none 0 0]) (dd_bld rfl (ps := []) (pr0) (Lz := [[.slice none 0 0]]) (by kernel_rfl) (lens_cons rfl (lens_nil)) (fit_nil) (cs := #[.slice none 0 0]) rfl) fun _ H7 => wl_ <| n_ H7 rfl (fun _ h => dd_box HS6 rfl (H7.ev 17 rfl) (cs := #[.slice none 0 0]) rfl h) fun g18 _ HS8 _ H8 => ?_
  clear HA0 H1 H2 H3 H4 HS H5 H6
  refine q_ H8 2 rfl fun a9 H9 => ln_ <| nx <| sq_ <| sq_ <| rl_ <| wl_ <| p_ H9 rfl rfl fun _ H10 => ln_ <| nx <| wp_block <| ?_
  clear HS6 H7 H8 H9
  refine wp_loopG (ι := Nat) (fun i a9 w9 => (∃ A1 : Option Addr, ∃ c1 : Nat, ∃ A2 : Option Addr, ∃ c2 : Nat, (i ≤ n) ∧ En 126 [(5, .int .i64 i), (4, .pointer (some ⟨g18, 0, none⟩)), (3, .pointer (some ⟨g16, 0, none⟩)), (0, .slice (some ⟨b, o, none⟩) n c)] a9 ∧ St w noF [⟨g16, 27, #[.slice A1 0 c1]⟩, ⟨g18, 31, #[.slice A2 0 c2]⟩] w9) ∨ (∃ A1 : Option Addr, ∃ c1 : Nat, ∃ A2 : Option Addr, ∃ c2 : Nat, ∃ gw : Nat, ∃ cbw : Array Value, ∃ gx : Nat, ∃ cbx : Array Value, ∃ X : List It, ∃ nX : Nat, (0 < nX ∧ nX ≤ 4 ∧ i ≤ n) ∧ (X.length = nX) ∧ (wfI X) ∧ (B64 (X.map (·.1))) ∧ (∀ W, Row W gw 40 cbw → ItemsAt W A1 nX c1 X) ∧ (∀ W, Row W gx 38 cbx → ItemsAt W A2 nX c2 X) ∧ En 126 [(5, .int .i64 i), (4, .pointer (some ⟨g18, 0, none⟩)), (3, .pointer (some ⟨g16, 0, none⟩)), (0, .slice (some ⟨b, o, none⟩) n c)] a9 ∧ St w noF [⟨g16, 27, #[.slice A1 nX c1]⟩, ⟨g18, 31, #[.slice A2 nX c2]⟩, ⟨gw, 40, cbw⟩, ⟨gx, 38, cbx⟩] w9)) (fun i => n - i) (0) (.inl ⟨none, 0, none, 0, (Nat.zero_le _), H10.sel [0, 3, 4, 5] rfl, ss HS8 [0, 1]⟩) ?_
  clear H10 HS8
  rintro i aL11 wL11 (⟨A1, c1, A2, c2, hj, HL11, HSL11⟩ | ⟨A1, c1, A2, c2, gw, cbw, gx, cbx, X, nX, hj, hX, hwf, hB, HXq, HXp, HL11, HSL11⟩)
  ·
   refine sq_ <| sq_ <| rl_ <| q_ HL11 2 rfl fun _ H12 => wl_ <| i_ H12 rfl (v := .int .i64 n) (dd_len rfl (H12.ev 20 rfl) Tryd.underlying22) fun _ H13 => ?_
   clear HL11 H12
   by_cases hc15 : (i : Int) < n
   ·
    refine wl_ <| i_ H13 rfl (dd_cmp rfl (H13.ev 19 rfl) (H13.ev 21 rfl) (lt_t hc15)) fun _ H16 => ln_ <| nx <| ct_ H16 rfl <| wp_skip <| nx <| sq_ <| wp_block <| sq_ <| rl_ <| q_ H16 2 rfl fun _ H17 => ?_
    clear H13 H16
    obtain ⟨b9, o9, kd, By, my, dy, Yy, e9, hst, hY, hYb, hYm⟩ := stepsQ_get hs (k := i) (by omega)
    obtain ⟨rfl, rfl⟩ : b = b9 ∧ o = o9 := by injection e9 with e9; injection e9 with e1 e2; exact ⟨e1, e2⟩
    clear e9
    have HST := fun (W9 : World) (hb9 : Below w.heap.size w W9) => hst.call hb9
    have HY := fun (W9 : World) (hb9 : Below w.heap.size w W9) => hY.call hb9
    have hYl := hY.len
    have hYw := hY.wf
    refine wl_ <| i_ H17 rfl (xSo 2 (o + i * 2) rfl (H17.ev 25 rfl) (H17.ev 26 rfl)) fun _ H18 => wl_ <| i_ H18 rfl (v := .agg #[.int .i64 kd, .slice By my dy]) (dd_atN rfl (H18.ev 27 rfl) (HST _ HSL11.below).at_ Tryd.underlying33 rfl (by kernel_rfl)) fun _ H19 => wl_ <| n_ H19 rfl (fun _ h => dd_new HSL11 #[.int .i64 0, .slice none 0 0] rfl (z := .agg #[.int .i64 0, .slice none 0 0]) (by kernel_rfl) rfl h) fun g6 _ HS20 _ H20 => wl_ <| t_ rfl (fun _ h => dd_setrow HS20 2 rfl rfl (H20.ev 6 rfl) (H20.ev 28 rfl) (by kernel_rfl) (rfl : #[.int .i64 kd, .slice By my dy].size = 2) (rfl : #[.int .i64 0, .slice none 0 0].size = 2) (one_l (ao_cons rfl (ao_cons rfl ao_nil))) h) fun W21 HS21 => ln_ <| nx <| sq_ <| sq_ <| rl_ <| wl_ <| i_ H20 rfl (xf 1 1 rfl (H20.ev 6 rfl)) fun _ H22 => wl_ <| i_ H22 rfl (dd_get HS21 2 1 rfl rfl (H22.ev 29 rfl) rfl Tryd.underlying25 rfl) fun _ H23 => ?_
    clear H17 H18 HSL11 H19 HS20 H20 H22
    cases hb25 : fairI Yy
    ·
     refine wl_ <| c_ H23 rfl HS21 (v := .bool false) (dc_ Tryd.func9 rfl (args1 (H23.ev 30 rfl)) (qfair_any _ my _ Yy W21 (HY _ HS21.below) hYm) (fun _ w9 h9 => ⟨_, h9.1, by rw [hb25], h9.2⟩)) fun W26 HS26 _ H26 => wl_ <| i_ H26 rfl (v := .bool true) (dd_nt rfl (H26.ev 31 rfl) rfl) fun _ H27 => ln_ <| nx <| ct_ H27 rfl <| sq_ <| rl_ <| wl_ <| c_ H27 rfl HS26 (dcs Tryd.func8 rfl (args0 ) (qwakes_any W26) (.bool true)) fun _ HS28 _ H28 => wl_ <| p_ H28 rfl rfl fun _ H29 => ln_ <| ?_
     clear H23 HS21 H26 H27 HS26 H28
     have H30 := H29.sel [2] rfl
     refine nx <| wp_ret <| tr <| br_ <| tr <| tr <| br_ <| tr <| ret_run H30.env0 (res_t Tryd.results3 (H30.get 2 rfl)) <| ?_
     clear H29
     exact ⟨rfl, HS28.below⟩
    refine wl_ <| c_ H23 rfl HS21 (v := .bool true) (dc_ Tryd.func9 rfl (args1 (H23.ev 30 rfl)) (qfair_any _ my _ Yy W21 (HY _ HS21.below) hYm) (fun _ w9 h9 => ⟨_, h9.1, by rw [hb25], h9.2⟩)) fun W31 HS31 _ H31 => wl_ <| i_ H31 rfl (v := .bool false) (dd_nt rfl (H31.ev 31 rfl) rfl) fun _ H32 => ln_ <| nx <| cf_ H32 rfl <| wp_skip <| nx <| sq_ <| sq_ <| rl_ <| ?_
    clear H23 HS21 H31
    have hm20 := fair_len hYl hb25
    refine wl_ <| i_ H32 rfl (xf 0 0 rfl (H32.ev 6 rfl)) fun _ H33 => wl_ <| i_ H33 rfl (dd_get HS31 2 0 rfl rfl (H33.ev 34 rfl) rfl Tryd.underlying3 rfl) fun _ H34 => ln_ <| nx <| ?_
    clear H32 H33
    refine wp_cut (fun a9 w9 => (∃ A12 : Option Addr, ∃ c12 : Nat, ∃ A22 : Option Addr, ∃ c22 : Nat, (i ≤ n) ∧ En 126 [(5, .int .i64 i), (4, .pointer (some ⟨g18, 0, none⟩)), (3, .pointer (some ⟨g16, 0, none⟩)), (0, .slice (some ⟨b, o, none⟩) n c)] a9 ∧ St w noF [⟨g16, 27, #[.slice A12 0 c12]⟩, ⟨g18, 31, #[.slice A22 0 c22]⟩] w9) ∨ (∃ A12 : Option Addr, ∃ c12 : Nat, ∃ A22 : Option Addr, ∃ c22 : Nat, ∃ gw2 : Nat, ∃ cbw2 : Array Value, ∃ gx2 : Nat, ∃ cbx2 : Array Value, ∃ X2 : List It, ∃ nX2 : Nat, (0 < nX2 ∧ nX2 ≤ 4 ∧ i ≤ n) ∧ (X2.length = nX2) ∧ (wfI X2) ∧ (B64 (X2.map (·.1))) ∧ (∀ W, Row W gw2 40 cbw2 → ItemsAt W A12 nX2 c12 X2) ∧ (∀ W, Row W gx2 38 cbx2 → ItemsAt W A22 nX2 c22 X2) ∧ En 126 [(5, .int .i64 i), (4, .pointer (some ⟨g18, 0, none⟩)), (3, .pointer (some ⟨g16, 0, none⟩)), (0, .slice (some ⟨b, o, none⟩) n c)] a9 ∧ St w noF [⟨g16, 27, #[.slice A12 nX2 c12]⟩, ⟨g18, 31, #[.slice A22 nX2 c22]⟩, ⟨gw2, 40, cbw2⟩, ⟨gx2, 38, cbx2⟩] w9)) ?_ ?_
    ·
     refine wp_block <| sq_ <| rl_ <| ?_
     by_cases hc37 : (kd : Int) = 0
     ·
      refine wl_ <| i_ H34 rfl (dd_cmp rfl (H34.ev 35 rfl) rfl (eq_t hc37)) fun _ H38 => wl_ <| p_ H38 rfl rfl fun _ H39 => ln_ <| nx <| ct_ H39 rfl <| sq_ <| rl_ <| wl_ <| p_ H39 rfl rfl fun _ H40 => ln_ <| ?_
      clear H34 H38 H39
      have H41 := H40.sel [0, 3, 4, 5, 6, 7] rfl
      refine nx <| sq_ <| sq_ <| rl_ <| ?_
      clear H40
      by_cases hc43 : (0 : Int) < my
      ·
       obtain ⟨bY, oY, hBY, _⟩ := hY.at_ (by omega)
       have HYC := fun (W9 : World) (hb9 : Below w.heap.size w W9) => cat_of (HY W9 hb9) hBY (by omega)
       refine wl_ <| p_ H41 rfl rfl fun _ H44 => ln_ <| nx <| wp_block <| ?_
       clear H41
       refine wp_loop1 (ι := Nat) (fun j1 a9 w9 => ∃ gi1 : Nat, ∃ ci1 : Nat, ∃ cbi1 : Array Value, (1 ≤ j1 ∧ j1 ≤ my) ∧ (OwnC cbi1 ci1 j1 36 (itemsL (Yy.take j1))) ∧ En 126 [(8, .int .i64 j1), (7, .slice (some ⟨gi1, 0, none⟩) j1 ci1), (6, .pointer (some ⟨g6, 0, none⟩)), (5, .int .i64 i), (4, .pointer (some ⟨g18, 0, none⟩)), (3, .pointer (some ⟨g16, 0, none⟩)), (0, .slice (some ⟨b, o, none⟩) n c)] a9 ∧ St w noF [⟨g16, 27, #[.slice A1 0 c1]⟩, ⟨g18, 31, #[.slice A2 0 c2]⟩, ⟨g6, 33, #[.int .i64 kd, .slice By my dy]⟩, ⟨gi1, 38, cbi1⟩] w9) (fun j1 => my - j1) (1) ?_ ?_
       ·
        refine sq_ <| sq_ <| rl_ <| wl_ <| p_ H44 rfl rfl fun _ H46 => wl_ <| i_ H46 rfl (xf 1 1 rfl (H46.ev 6 rfl)) fun _ H47 => wl_ <| i_ H47 rfl (dd_get HS31 2 1 rfl rfl (H47.ev 39 rfl) rfl Tryd.underlying25 rfl) fun _ H48 => wl_ <| i_ H48 rfl (v := .int .i64 my) (dd_len rfl (H48.ev 40 rfl) Tryd.underlying25) fun _ H49 => wl_ <| i_ H49 rfl (dd_cmp rfl (H49.ev 38 rfl) (H49.ev 41 rfl) (lt_t hc43)) fun _ H50 => ln_ <| nx <| ct_ H50 rfl <| wp_skip <| nx <| sq_ <| wp_block <| rl_ <| wl_ <| p_ H50 rfl rfl fun _ H51 => wl_ <| i_ H51 rfl (xf 1 1 rfl (H51.ev 6 rfl)) fun _ H52 => wl_ <| i_ H52 rfl (dd_get HS31 2 1 rfl rfl (H52.ev 46 rfl) rfl Tryd.underlying25 rfl) fun _ H53 => ?_
        clear H44 H46 H47 H48 H49 H50 H51
        refine wl_ <| p_ H53 rfl rfl fun _ H54 => wl_ <| i_ H54 rfl (dd_idxS (sz := 36) (j := oY + 0 * 36) rfl (sl_at (H54.ev 47 rfl) hBY) (H54.ev 48 rfl) (by kernel_rfl) (by omega) (by omega) (by omega)) fun _ H55 => ?_
        clear H52 H53 H54
        obtain ⟨x0, hx0⟩ : ∃ x, Yy[0]? = some x := ⟨_, List.getElem?_eq_getElem (by rw [hY.len]; omega)⟩
        have hw0 := hY.wf x0 (List.mem_of_getElem? hx0)
        refine wl_ <| i_ H55 rfl (v := .agg (catA [[.int .i64 x0.1], [.int .i64 x0.2.1], [.string (strB x0.2.2.1)], [.int .i64 x0.2.2.2.1], bytesV x0.2.2.2.2])) (dd_atN rfl (H55.ev 49 rfl) (item_all (HYC _ HS31.below) hY.wf hx0) Tryd.underlying40 rfl (by show _ = some (catA [[.int .i64 x0.1], [.int .i64 x0.2.1], [.string (strB x0.2.2.1)], [.int .i64 x0.2.2.2.1], bytesV x0.2.2.2.2]).toList.length; rw [show (catA [[.int .i64 x0.1], [.int .i64 x0.2.1], [.string (strB x0.2.2.1)], [.int .i64 x0.2.2.2.1], bytesV x0.2.2.2.2]).toList.length = 36 from (Array.length_toList).trans (cat_size (lens_cons rfl (lens_cons rfl (lens_cons rfl (lens_cons rfl (lens_cons (len_bv hw0) (lens_nil)))))))]; kernel_rfl)) fun _ H56 => wl_ <| c_ H56 rfl HS31 (dcs Tryd.func10 rfl (args1 (H56.ev 50 rfl)) (qown_any x0 W31 hw0) (.agg (catA [[.int .i64 x0.1], [.int .i64 x0.2.1], [.string (strB x0.2.2.1)], [.int .i64 x0.2.2.2.1], bytesV x0.2.2.2.2]))) fun _ HS57 _ H57 => wl_ <| n_ H57 rfl (S := fun g52 => [⟨g16, 27, #[.slice A1 0 c1]⟩, ⟨g18, 31, #[.slice A2 0 c2]⟩, ⟨g6, 33, #[.int .i64 kd, .slice By my dy]⟩, ⟨g52, 38, catA [[.int .i64 x0.1], [.int .i64 x0.2.1], [.string (strB x0.2.2.1)], [.int .i64 x0.2.2.2.1], bytesV x0.2.2.2.2]⟩]) (fun _ h => dd_lit1 HS57 (z := .agg (catA [[.int .i64 0], [.int .i64 0], [.string (⟨#[]⟩)], [.int .i64 0], bytesV (zer 32)])) (sz := 36) rfl (H57.ev 51 rfl) Tryd.underlying29 (by kernel_rfl) (cat_size (lens_cons rfl (lens_cons rfl (lens_cons rfl (lens_cons rfl (lens_cons (len_bv hw0) (lens_nil))))))) rfl rfl h) fun g52 _ HS58 _ H58 => wl_ <| a_ H58 rfl (fun g53_60 c53_60 => .slice (some ⟨g53_60, 0, none⟩) 1 c53_60) (T := fun _ c53_60 cb53_60 => OwnC cb53_60 c53_60 1 36 (itcell x0)) (fun _ h => dd_app0 HS58 rfl (H58.ev 45 rfl) (z := .agg (catA [[.int .i64 0], [.int .i64 0], [.string (⟨#[]⟩)], [.int .i64 0], bytesV (zer 32)])) (bytes := 72) (sz := 36) Tryd.underlying29 (by kernel_rfl) rfl (by decide) (itcell x0) (H58.ev 52 rfl) (len_itcell hw0) ((items_row (X := [x0]) (HS58.row 3 rfl) (items_one _).symm rfl (wf_one hw0)).cat Nat.one_ne_zero).news1 (one_itcell _) (by decide) (by decide) h) fun g53_60 c53_60 cb53_60 _ O53_60 HS59 _ H59 => wl_ <| p_ H59 rfl rfl fun _ H61 => ln_ <| bn <| nx <| rl_ <| wl_ <| p_ H61 rfl rfl fun _ H62 => wl_ <| i_ H62 rfl (v := .int .i64 1) (dd_ari rfl (H62.ev 43 rfl) rfl rfl (by decide)) fun _ H63 => wl_ <| p_ H63 rfl rfl fun _ H64 => ?_
        clear H55 H56 HS31 HS57 H57 HS58 H58 H59 H61 H62
        refine ln_ <| ?_
        clear H63
        have H65 := H64.sel [0, 3, 4, 5, 6, 7, 8] rfl
        clear H64
        exact nx ⟨g53_60, c53_60, cb53_60, (by omega), (its_1 hx0 O53_60), H65.sel [0, 3, 4, 5, 6, 7, 8] rfl, ss HS59 [0, 1, 2, 4]⟩
       clear H44 HS31
       rintro j1 aL45 wL45 ⟨gi1, ci1, cbi1, hjm, Oi1, HL45, HSL45⟩
       refine sq_ <| sq_ <| rl_ <| wl_ <| p_ HL45 rfl rfl fun _ H66 => wl_ <| i_ H66 rfl (xf 1 1 rfl (H66.ev 6 rfl)) fun _ H67 => wl_ <| i_ H67 rfl (dd_get HSL45 2 1 rfl rfl (H67.ev 39 rfl) rfl Tryd.underlying25 rfl) fun _ H68 => wl_ <| i_ H68 rfl (v := .int .i64 my) (dd_len rfl (H68.ev 40 rfl) Tryd.underlying25) fun _ H69 => ?_
       clear HL45 H66 H67 H68
       by_cases hc71 : (j1 : Int) < my
       ·
        refine wl_ <| i_ H69 rfl (dd_cmp rfl (H69.ev 38 rfl) (H69.ev 41 rfl) (lt_t hc71)) fun _ H72 => ln_ <| nx <| ct_ H72 rfl <| wp_skip <| nx <| sq_ <| wp_block <| rl_ <| wl_ <| p_ H72 rfl rfl fun _ H73 => wl_ <| i_ H73 rfl (xf 1 1 rfl (H73.ev 6 rfl)) fun _ H74 => wl_ <| i_ H74 rfl (dd_get HSL45 2 1 rfl rfl (H74.ev 46 rfl) rfl Tryd.underlying25 rfl) fun _ H75 => wl_ <| p_ H75 rfl rfl fun _ H76 => wl_ <| i_ H76 rfl (dd_idxS (sz := 36) (j := oY + j1 * 36) rfl (sl_at (H76.ev 47 rfl) hBY) (H76.ev 48 rfl) (by kernel_rfl) (by omega) (by omega) (by omega)) fun _ H77 => ?_
        clear H69 H72 H73 H74 H75 H76
        obtain ⟨xj1, hxj1⟩ : ∃ x, Yy[j1]? = some x := ⟨_, List.getElem?_eq_getElem (by rw [hY.len]; omega)⟩
        have hwj1 := hY.wf xj1 (List.mem_of_getElem? hxj1)
        refine wl_ <| i_ H77 rfl (v := .agg (catA [[.int .i64 xj1.1], [.int .i64 xj1.2.1], [.string (strB xj1.2.2.1)], [.int .i64 xj1.2.2.2.1], bytesV xj1.2.2.2.2])) (dd_atN rfl (H77.ev 49 rfl) (item_all (HYC _ HSL45.below) hY.wf hxj1) Tryd.underlying40 rfl (by show _ = some (catA [[.int .i64 xj1.1], [.int .i64 xj1.2.1], [.string (strB xj1.2.2.1)], [.int .i64 xj1.2.2.2.1], bytesV xj1.2.2.2.2]).toList.length; rw [show (catA [[.int .i64 xj1.1], [.int .i64 xj1.2.1], [.string (strB xj1.2.2.1)], [.int .i64 xj1.2.2.2.1], bytesV xj1.2.2.2.2]).toList.length = 36 from (Array.length_toList).trans (cat_size (lens_cons rfl (lens_cons rfl (lens_cons rfl (lens_cons rfl (lens_cons (len_bv hwj1) (lens_nil)))))))]; kernel_rfl)) fun _ H78 => wl_ <| c_ H78 rfl HSL45 (dcs Tryd.func10 rfl (args1 (H78.ev 50 rfl)) (qown_any xj1 wL45 hwj1) (.agg (catA [[.int .i64 xj1.1], [.int .i64 xj1.2.1], [.string (strB xj1.2.2.1)], [.int .i64 xj1.2.2.2.1], bytesV xj1.2.2.2.2]))) fun _ HS79 _ H79 => wl_ <| n_ H79 rfl (S := fun g52 => [⟨g16, 27, #[.slice A1 0 c1]⟩, ⟨g18, 31, #[.slice A2 0 c2]⟩, ⟨g6, 33, #[.int .i64 kd, .slice By my dy]⟩, ⟨gi1, 38, cbi1⟩, ⟨g52, 38, catA [[.int .i64 xj1.1], [.int .i64 xj1.2.1], [.string (strB xj1.2.2.1)], [.int .i64 xj1.2.2.2.1], bytesV xj1.2.2.2.2]⟩]) (fun _ h => dd_lit1 HS79 (z := .agg (catA [[.int .i64 0], [.int .i64 0], [.string (⟨#[]⟩)], [.int .i64 0], bytesV (zer 32)])) (sz := 36) rfl (H79.ev 51 rfl) Tryd.underlying29 (by kernel_rfl) (cat_size (lens_cons rfl (lens_cons rfl (lens_cons rfl (lens_cons rfl (lens_cons (len_bv hwj1) (lens_nil))))))) rfl rfl h) fun g52 _ HS80 _ H80 => wl_ <| a_ H80 rfl (fun g53_82 c53_82 => .slice (some ⟨g53_82, 0, none⟩) (j1 + 1) c53_82) (T := fun _ c53_82 cb53_82 => OwnC cb53_82 c53_82 (j1 + 1) 36 (itemsL (Yy.take j1) ++ itemsL ([xj1]))) (fun _ h => dd_appX HS80 3 rfl Oi1 rfl (H80.ev 45 rfl) (z := .agg (catA [[.int .i64 0], [.int .i64 0], [.string (⟨#[]⟩)], [.int .i64 0], bytesV (zer 32)])) (bytes := 72) Tryd.underlying29 (by kernel_rfl) rfl (by decide) (itemsL ([xj1])) (H80.ev 52 rfl) (len_items (items_row (X := [xj1]) (HS80.row 4 rfl) (items_one _).symm rfl (wf_one hwj1)).wf (items_row (X := [xj1]) (HS80.row 4 rfl) (items_one _).symm rfl (wf_one hwj1)).len) (fun h9 => (items_row (X := [xj1]) (HS80.row 4 rfl) (items_one _).symm rfl (wf_one hwj1)).at_ h9) (one_items _) (by unfold maxLen; omega) (by omega) h) fun g53_82 c53_82 cb53_82 _ O53_82 HS81 _ H81 => wl_ <| p_ H81 rfl rfl fun _ H83 => ln_ <| bn <| nx <| rl_ <| wl_ <| p_ H83 rfl rfl fun _ H84 => wl_ <| i_ H84 rfl (v := .int .i64 (j1 + 1)) (dd_ari rfl (H84.ev 43 rfl) rfl rfl (i64_of (by first | omega | (have := bd_lo; omega)) (by omega))) fun _ H85 => wl_ <| p_ H85 rfl rfl fun _ H86 => ?_
        clear H77 H78 HSL45 HS79 H79 HS80 H80 H81 H83 H84
        refine ln_ <| ?_
        clear H85
        have H87 := H86.sel [0, 3, 4, 5, 6, 7, 8] rfl
        clear H86
        refine nx ⟨j1 + 1, ⟨g53_82, c53_82, cb53_82, (by omega), (its_S hxj1 O53_82), H87.sel [0, 3, 4, 5, 6, 7, 8] rfl, ss HS81 [0, 1, 2, 4]⟩, (by omega)⟩
       refine wl_ <| i_ H69 rfl (dd_cmp rfl (H69.ev 38 rfl) (H69.ev 41 rfl) (lt_f hc71)) fun _ H88 => ln_ <| nx <| cf_ H88 rfl <| wp_exit <| tx <| tx <| bx <| nx <| sq_ <| rl_ <| wl_ <| p_ H88 rfl rfl fun _ H89 => wl_ <| n_ H89 rfl (S := fun g55 => [⟨g16, 27, #[.slice A1 0 c1]⟩, ⟨g18, 31, #[.slice A2 0 c2]⟩, ⟨g6, 33, #[.int .i64 kd, .slice By my dy]⟩, ⟨gi1, 38, cbi1⟩, ⟨g55, 40, #[]⟩]) (A := fun g55 => .slice (some ⟨g55, 0, none⟩) 0 0) (fun _ h => dd_lit0 HSL45 rfl rfl Tryd.underlying25 (sz := 36) (by kernel_rfl) h) fun g55 _ HS90 _ H90 => wl_ <| i_ H90 rfl (xf 1 1 rfl (H90.ev 6 rfl)) fun _ H91 => wl_ <| i_ H91 rfl (dd_get HS90 2 1 rfl rfl (H91.ev 56 rfl) rfl Tryd.underlying25 rfl) fun _ H92 => wl_ <| a_ H92 rfl (fun g58_94 c58_94 => .slice (some ⟨g58_94, 0, none⟩) (0 + my) c58_94) (T := fun _ c58_94 cb58_94 => OwnC cb58_94 c58_94 (0 + my) 36 (itemsL Yy)) (fun _ h => dd_appX HS90 4 rfl (ownc_nil0 36) rfl (H92.ev 55 rfl) (z := .agg (catA [[.int .i64 0], [.int .i64 0], [.string (⟨#[]⟩)], [.int .i64 0], bytesV (zer 32)])) (bytes := 72) Tryd.underlying25 (by kernel_rfl) rfl (by decide) (itemsL Yy) (H92.ev 57 rfl) (len_items (HY _ HS90.below).wf (HY _ HS90.below).len) (fun h9 => (HY _ HS90.below).at_ h9) (one_items _) (by unfold maxLen; omega) (by omega) h) fun g58_94 c58_94 cb58_94 W93 O58_94 HS93 _ H93 => ?_
       clear H69 H88 HSL45 H89 H90 H91 HS90 H92
       by_cases hc96 : (4 : Int) < my
       ·
        refine wl_ <| c_ H93 rfl HS93 (dcs Tryd.func11 rfl (args2 (H93.ev 54 rfl) (H93.ev 58 rfl)) (queadd_full g16 _ _ _ _ _ _ W93 (HS93.row 0 rfl) (by omega) (by omega) (by omega)) (.int .i64 19)) fun W97 HS97 _ H97 => q_ H97 2 rfl fun _ H98 => wl_ <| c_ H98 rfl HS97 (dcs Tryd.func12 rfl (args2 (H98.ev 60 rfl) (H98.ev 61 rfl)) (rqadd_full g18 _ _ _ _ _ _ W97 (HS97.row 1 rfl) (by omega) (by omega) (by omega)) (.int .i64 19)) fun _ HS99 _ H99 => wl_ <| i_ H99 rfl (dd_cmp rfl (H99.ev 59 rfl) (H99.ev 62 rfl) (ne_f (by decide))) fun _ H100 => ln_ <| ?_
        clear H93 HS93 H97 H98 HS97 H99
        have H101 := H100.sel [0, 3, 4, 5, 63] rfl
        refine nx <| cf_ H101 rfl <| wp_skip <| bn <| ?_
        clear H100
        exact nx (.inl ⟨A1, c1, A2, c2, (by omega), H101.sel [0, 3, 4, 5] rfl, ss HS99 [0, 1]⟩)
       refine wl_ <| d_ H93 rfl (R := fun v9 w9 => ∃ gq103 : Nat, ∃ cq103 : Nat, ∃ cbq103 : Array Value, v9 = .int .i64 0 ∧ (OwnC cbq103 cq103 my 36 (itemsL (Yy))) ∧ St w noF [⟨g16, 27, #[.slice (some ⟨gq103, 0, none⟩) my cq103]⟩, ⟨gq103, 40, cbq103⟩, ⟨g18, 31, #[.slice A2 0 c2]⟩, ⟨g6, 33, #[.int .i64 kd, .slice By my dy]⟩, ⟨gi1, 38, cbi1⟩, ⟨g58_94, 40, cb58_94⟩] w9) (dc_ Tryd.func11 rfl (args2 (H93.ev 54 rfl) (H93.ev 58 rfl)) (queadd_as _ g16 _ _ 0 _ (0 + my) _ ([]) Yy my Yy _ (ss HS93 [0]).frame (fun W9 k9 => (items_nil _ _ _)) (fun W9 k9 => (items_own ((HS93.row 4 rfl).chg k9 (nin_row (S1 := selB [⟨g16, 27, #[.slice A1 0 c1]⟩, ⟨g18, 31, #[.slice A2 0 c2]⟩, ⟨g6, 33, #[.int .i64 kd, .slice By my dy]⟩, ⟨gi1, 38, cbi1⟩, ⟨g58_94, 40, cb58_94⟩] [0]) (ss HS93 [0, 1, 2, 3, 4]) 3 rfl)) O58_94 (by rw [hYl, Nat.zero_add]) hYw)) (by omega) (by omega) (by omega) rfl) (fun _ w9 ⟨g9, c9, cb9, he, hO, hS⟩ => ⟨_, he, g9, c9, cb9, rfl, hO, St.reframe (ss HS93 [0, 1, 2, 3, 4]) hS⟩)) ?_
       rintro _ W102 ⟨gq103, cq103, cbq103, rfl, Oq103, HS102⟩ a102 H102
       clear H93 HS93
       refine q_ H102 2 rfl fun _ H104 => ?_
       clear H102
       refine wl_ <| d_ H104 rfl (R := fun v9 w9 => ∃ gq106 : Nat, ∃ cq106 : Nat, ∃ cbq106 : Array Value, v9 = .int .i64 0 ∧ (OwnC cbq106 cq106 my 36 (itemsL (Yy))) ∧ St w noF [⟨g18, 31, #[.slice (some ⟨gq106, 0, none⟩) my cq106]⟩, ⟨gq106, 38, cbq106⟩, ⟨g16, 27, #[.slice (some ⟨gq103, 0, none⟩) my cq103]⟩, ⟨gq103, 40, cbq103⟩, ⟨g6, 33, #[.int .i64 kd, .slice By my dy]⟩, ⟨gi1, 38, cbi1⟩, ⟨g58_94, 40, cb58_94⟩] w9) (dc_ Tryd.func12 rfl (args2 (H104.ev 60 rfl) (H104.ev 61 rfl)) (rqadd_as _ g18 _ _ 0 _ j1 _ ([]) (Yy.take j1) my Yy _ (ss HS102 [2]).frame (fun W9 k9 => (items_nil _ _ _)) (fun W9 k9 => (items_own ((HS102.row 4 rfl).chg k9 (nin_row (S1 := selB [⟨g16, 27, #[.slice (some ⟨gq103, 0, none⟩) my cq103]⟩, ⟨gq103, 40, cbq103⟩, ⟨g18, 31, #[.slice A2 0 c2]⟩, ⟨g6, 33, #[.int .i64 kd, .slice By my dy]⟩, ⟨gi1, 38, cbi1⟩, ⟨g58_94, 40, cb58_94⟩] [2]) (ss HS102 [2, 0, 1, 3, 4, 5]) 3 rfl)) Oi1 (len_take' hYl (by omega)) (wfI_take hYw))) (by omega) (by omega) (its_all (X := []) hYl (by omega))) (fun _ w9 ⟨g9, c9, cb9, he, hO, hS⟩ => ⟨_, he, g9, c9, cb9, rfl, hO, St.reframe (ss HS102 [2, 0, 1, 3, 4, 5]) hS⟩)) ?_
       rintro _ W105 ⟨gq106, cq106, cbq106, rfl, Oq106, HS105⟩ a105 H105
       clear H104 HS102
       refine wl_ <| i_ H105 rfl (dd_cmp rfl (H105.ev 59 rfl) (H105.ev 62 rfl) (ne_f (by decide))) fun _ H107 => ln_ <| ?_
       clear H105
       have H108 := H107.sel [0, 3, 4, 5, 63] rfl
       refine nx <| cf_ H108 rfl <| wp_skip <| bn <| ?_
       clear H107
       exact nx (.inr ⟨(some ⟨gq103, 0, none⟩), cq103, (some ⟨gq106, 0, none⟩), cq106, gq103, cbq103, gq106, cbq106, Yy, my, (by omega), hYl, hYw, hYb, (fun W9 r9 => (items_own r9 Oq103 hYl hYw)), (fun W9 r9 => (items_own r9 Oq106 hYl hYw)), H108.sel [0, 3, 4, 5] rfl, ss HS105 [2, 0, 3, 1]⟩)
      refine wl_ <| p_ H41 rfl rfl fun _ H109 => ln_ <| nx <| wp_block <| wp_unr 1 <| unr_go <| sq_ <| sq_ <| rl_ <| wl_ <| p_ H109 rfl rfl fun _ H110 => wl_ <| i_ H110 rfl (xf 1 1 rfl (H110.ev 6 rfl)) fun _ H111 => wl_ <| i_ H111 rfl (dd_get HS31 2 1 rfl rfl (H111.ev 39 rfl) rfl Tryd.underlying25 rfl) fun _ H112 => wl_ <| i_ H112 rfl (v := .int .i64 my) (dd_len rfl (H112.ev 40 rfl) Tryd.underlying25) fun _ H113 => wl_ <| i_ H113 rfl (dd_cmp rfl (H113.ev 38 rfl) (H113.ev 41 rfl) (lt_f hc43)) fun _ H114 => ln_ <| nx <| cf_ H114 rfl <| wp_exit <| tx <| tx <| bx <| nx <| sq_ <| rl_ <| wl_ <| p_ H114 rfl rfl fun _ H115 => wl_ <| n_ H115 rfl (S := fun g55 => [⟨g16, 27, #[.slice A1 0 c1]⟩, ⟨g18, 31, #[.slice A2 0 c2]⟩, ⟨g6, 33, #[.int .i64 kd, .slice By my dy]⟩, ⟨g55, 40, #[]⟩]) (A := fun g55 => .slice (some ⟨g55, 0, none⟩) 0 0) (fun _ h => dd_lit0 HS31 rfl rfl Tryd.underlying25 (sz := 36) (by kernel_rfl) h) fun g55 _ HS116 _ H116 => ?_
      clear H41 H109 H110 H111 H112 H113 H114
      refine wl_ <| i_ H116 rfl (xf 1 1 rfl (H116.ev 6 rfl)) fun _ H117 => wl_ <| i_ H117 rfl (dd_get HS116 2 1 rfl rfl (H117.ev 56 rfl) rfl Tryd.underlying25 rfl) fun _ H118 => wl_ <| a_ H118 rfl (fun g58_120 c58_120 => .slice (some ⟨g58_120, 0, none⟩) (0 + my) c58_120) (T := fun _ c58_120 cb58_120 => OwnC cb58_120 c58_120 (0 + my) 36 (itemsL Yy)) (fun _ h => dd_appX HS116 3 rfl (ownc_nil0 36) rfl (H118.ev 55 rfl) (z := .agg (catA [[.int .i64 0], [.int .i64 0], [.string (⟨#[]⟩)], [.int .i64 0], bytesV (zer 32)])) (bytes := 72) Tryd.underlying25 (by kernel_rfl) rfl (by decide) (itemsL Yy) (H118.ev 57 rfl) (len_items (HY _ HS116.below).wf (HY _ HS116.below).len) (fun h9 => (HY _ HS116.below).at_ h9) (one_items _) (by unfold maxLen; omega) (by omega) h) fun g58_120 c58_120 cb58_120 W119 O58_120 HS119 _ H119 => ?_
      clear HS31 H115 H116 H117 HS116 H118
      by_cases hc122 : (4 : Int) < my
      ·
       refine wl_ <| c_ H119 rfl HS119 (dcs Tryd.func11 rfl (args2 (H119.ev 54 rfl) (H119.ev 58 rfl)) (queadd_full g16 _ _ _ _ _ _ W119 (HS119.row 0 rfl) (by omega) (by omega) (by omega)) (.int .i64 19)) fun W123 HS123 _ H123 => q_ H123 2 rfl fun _ H124 => wl_ <| c_ H124 rfl HS123 (dcs Tryd.func12 rfl (args2 (H124.ev 60 rfl) (H124.ev 61 rfl)) (rqadd_full g18 _ _ _ _ _ _ W123 (HS123.row 1 rfl) (by omega) (by omega) (by omega)) (.int .i64 19)) fun _ HS125 _ H125 => wl_ <| i_ H125 rfl (dd_cmp rfl (H125.ev 59 rfl) (H125.ev 62 rfl) (ne_f (by decide))) fun _ H126 => ln_ <| ?_
       clear H119 HS119 H123 H124 HS123 H125
       have H127 := H126.sel [0, 3, 4, 5, 63] rfl
       refine nx <| cf_ H127 rfl <| wp_skip <| bn <| ?_
       clear H126
       exact nx (.inl ⟨A1, c1, A2, c2, (by omega), H127.sel [0, 3, 4, 5] rfl, ss HS125 [0, 1]⟩)
      refine wl_ <| d_ H119 rfl (R := fun v9 w9 => v9 = .int .i64 0 ∧ St w noF [⟨g16, 27, #[.slice none 0 0]⟩, ⟨g18, 31, #[.slice A2 0 c2]⟩, ⟨g6, 33, #[.int .i64 kd, .slice By my dy]⟩, ⟨g58_120, 40, cb58_120⟩] w9) (dc_ Tryd.func11 rfl (args2 (H119.ev 54 rfl) (H119.ev 58 rfl)) (queadd_z _ g16 _ _ _ _ _ _ (ss HS119 [0]).frame (by omega)) (fun _ w9 ⟨he, hS⟩ => ⟨_, he, rfl, St.reframe (ss HS119 [0, 1, 2, 3]) hS⟩)) ?_
      rintro _ W128 ⟨rfl, HS128⟩ a128 H128
      clear H119 HS119
      refine q_ H128 2 rfl fun _ H129 => ?_
      clear H128
      refine wl_ <| d_ H129 rfl (R := fun v9 w9 => ∃ gq131 : Nat, ∃ cq131 : Nat, ∃ cbq131 : Array Value, v9 = .int .i64 0 ∧ (OwnC cbq131 cq131 0 36 (itemsL ([]))) ∧ St w noF [⟨g18, 31, #[.slice (some ⟨gq131, 0, none⟩) 0 cq131]⟩, ⟨gq131, 38, cbq131⟩, ⟨g16, 27, #[.slice none 0 0]⟩, ⟨g6, 33, #[.int .i64 kd, .slice By my dy]⟩, ⟨g58_120, 40, cb58_120⟩] w9) (dc_ Tryd.func12 rfl (args2 (H129.ev 60 rfl) (H129.ev 61 rfl)) (rqadd_as _ g18 _ _ 0 _ 0 _ ([]) ([]) 0 ([]) _ (ss HS128 [1]).frame (fun W9 k9 => (items_nil _ _ _)) (fun W9 k9 => (items_nil _ _ _)) (by omega) (by omega) rfl) (fun _ w9 ⟨g9, c9, cb9, he, hO, hS⟩ => ⟨_, he, g9, c9, cb9, rfl, hO, St.reframe (ss HS128 [1, 0, 2, 3]) hS⟩)) ?_
      rintro _ W130 ⟨gq131, cq131, cbq131, rfl, Oq131, HS130⟩ a130 H130
      clear H129 HS128
      refine wl_ <| i_ H130 rfl (dd_cmp rfl (H130.ev 59 rfl) (H130.ev 62 rfl) (ne_f (by decide))) fun _ H132 => ln_ <| ?_
      clear H130
      have H133 := H132.sel [0, 3, 4, 5, 63] rfl
      refine nx <| cf_ H133 rfl <| wp_skip <| bn <| ?_
      clear H132
      exact nx (.inl ⟨none, 0, (some ⟨gq131, 0, none⟩), cq131, (by omega), H133.sel [0, 3, 4, 5] rfl, ss HS130 [2, 0]⟩)
     refine wl_ <| i_ H34 rfl (dd_cmp rfl (H34.ev 35 rfl) rfl (eq_f hc37)) fun _ H134 => wl_ <| p_ H134 rfl rfl fun _ H135 => ln_ <| nx <| cf_ H135 rfl <| sq_ <| rl_ <| ?_
     clear H34 H134
     by_cases hc137 : (kd : Int) = 1
     ·
      refine wl_ <| i_ H135 rfl (dd_cmp rfl (H135.ev 35 rfl) rfl (eq_t hc137)) fun _ H138 => wl_ <| p_ H138 rfl rfl fun _ H139 => ln_ <| ?_
      clear H135 H138
      have H140 := H139.sel [0, 3, 4, 5, 35, 64] rfl
      refine nx <| ct_ H140 rfl <| sq_ <| rl_ <| wl_ <| p_ H140 rfl rfl fun _ H141 => wl_ <| c_ H141 rfl HS31 (dcs Tryd.func13 rfl (args1 (H141.ev 66 rfl)) (quepop_none g16 _ _ W31 (HS31.row 0 rfl)) (.bool false)) fun W142 HS142 _ H142 => wl_ <| p_ H142 rfl rfl fun _ H143 => wl_ <| c_ H143 rfl HS142 (dcs Tryd.func14 rfl (args1 (H143.ev 68 rfl)) (rqpop_none g18 _ _ W142 (HS142.row 1 rfl)) (.bool false)) fun _ HS144 _ H144 => wl_ <| i_ H144 rfl (v := .bool false) (dd_neb rfl (H144.ev 67 rfl) (H144.ev 69 rfl) Tryd.underlying4 rfl) fun _ H145 => ln_ <| nx <| cf_ H145 rfl <| wp_skip <| bn <| ?_
      clear H139 H140 H141 HS31 H142 H143 HS142 H144
      exact nx (.inl ⟨A1, c1, A2, c2, (by omega), H145.sel [0, 3, 4, 5] rfl, ss HS144 [0, 1]⟩)
     refine wl_ <| i_ H135 rfl (dd_cmp rfl (H135.ev 35 rfl) rfl (eq_f hc137)) fun _ H146 => wl_ <| p_ H146 rfl rfl fun _ H147 => ln_ <| ?_
     clear H135 H146
     have H148 := H147.sel [0, 3, 4, 5, 35, 64] rfl
     refine nx <| cf_ H148 rfl <| sq_ <| rl_ <| ?_
     clear H147
     by_cases hc150 : (kd : Int) = 2
     ·
      refine wl_ <| i_ H148 rfl (dd_cmp rfl (H148.ev 35 rfl) rfl (eq_t hc150)) fun _ H151 => wl_ <| p_ H151 rfl rfl fun _ H152 => ln_ <| nx <| ct_ H152 rfl <| sq_ <| rl_ <| wl_ <| p_ H152 rfl rfl fun _ H153 => ?_
      clear H148 H151 H152
      refine wl_ <| d_ H153 rfl (R := fun v9 w9 => v9 = .slice none 0 0 ∧ St w noF [⟨g16, 27, #[.slice none 0 0]⟩, ⟨g18, 31, #[.slice A2 0 c2]⟩, ⟨g6, 33, #[.int .i64 kd, .slice By my dy]⟩] w9) (dc_ Tryd.func16 rfl (args1 (H153.ev 73 rfl)) (queclear_zero _ g16 _ _ _ (ss HS31 [0]).frame) (fun _ w9 ⟨he, hS⟩ => ⟨_, he, rfl, St.reframe (ss HS31 [0, 1, 2]) hS⟩)) ?_
      rintro _ W154 ⟨rfl, HS154⟩ a154 H154
      clear H153 HS31
      refine wl_ <| p_ H154 rfl rfl fun _ H155 => ?_
      clear H154
      refine wl_ <| d_ H155 rfl (R := fun v9 w9 => v9 = .slice none 0 0 ∧ St w noF [⟨g18, 31, #[.slice none 0 0]⟩, ⟨g16, 27, #[.slice none 0 0]⟩, ⟨g6, 33, #[.int .i64 kd, .slice By my dy]⟩] w9) (dc_ Tryd.func17 rfl (args1 (H155.ev 75 rfl)) (rqclear_zero _ g18 _ _ _ (ss HS154 [1]).frame) (fun _ w9 ⟨he, hS⟩ => ⟨_, he, rfl, St.reframe (ss HS154 [1, 0, 2]) hS⟩)) ?_
      rintro _ W156 ⟨rfl, HS156⟩ a156 H156
      clear H155 HS154
      refine wl_ <| c_ H156 rfl HS156 (v := .bool true) (dc_ Tryd.func15 rfl (args2 (H156.ev 74 rfl) (H156.ev 76 rfl)) (keepints_any [] [] _ _ _ _ _ _ W156 (ints_none _) (ints_none _) (by decide)) (fun _ w9 h9 => ⟨_, h9.1, by rw [decide_eq_true rfl], h9.2⟩)) fun _ HS157 _ H157 => wl_ <| i_ H157 rfl (v := .bool false) (dd_nt rfl (H157.ev 77 rfl) rfl) fun _ H158 => ln_ <| nx <| cf_ H158 rfl <| wp_skip <| bn <| ?_
      clear H156 HS156 H157
      exact nx (.inl ⟨none, 0, none, 0, (by omega), H158.sel [0, 3, 4, 5] rfl, ss HS157 [1, 0]⟩)
     refine wl_ <| i_ H148 rfl (dd_cmp rfl (H148.ev 35 rfl) rfl (eq_f hc150)) fun _ H159 => wl_ <| p_ H159 rfl rfl fun _ H160 => ln_ <| nx <| cf_ H160 rfl <| wp_skip <| bn <| ?_
     clear H148 H159
     exact nx (.inl ⟨A1, c1, A2, c2, (by omega), H160.sel [0, 3, 4, 5] rfl, ss HS31 [0, 1]⟩)
    clear H34 HS31
    rintro aJ35 wJ35 (⟨A12, c12, A22, c22, hj2, HJ35, HSJ35⟩ | ⟨A12, c12, A22, c22, gw2, cbw2, gx2, cbx2, X2, nX2, hj2, hX2, hwf2, hB2, HXq2, HXp2, HJ35, HSJ35⟩)
    ·
     refine nx <| sq_ <| rl_ <| wl_ <| p_ HJ35 rfl rfl fun _ H162 => wl_ <| c_ H162 rfl HSJ35 (dcs Tryd.func18 rfl (args1 (H162.ev 80 rfl)) (quehead_none g16 _ _ wJ35 (HSJ35.row 0 rfl)) (.tuple #[.agg (catA [[.int .i64 0], [.int .i64 0], [.string (⟨#[]⟩)], [.int .i64 0], bytesV (zer 32)]), .bool false])) fun _ HS163 _ H163 => wl_ <| p_ H163 rfl rfl fun _ H164 => wl_ <| i_ H164 rfl (v := .agg (catA [[.int .i64 0], [.int .i64 0], [.string (⟨#[]⟩)], [.int .i64 0], bytesV (zer 32)])) (dd_ext rfl (H164.ev 79 rfl) rfl) fun _ H165 => wl_ <| i_ H165 rfl (v := .bool false) (dd_ext rfl (H165.ev 79 rfl) rfl) fun _ H166 => wl_ <| n_ H166 rfl (S := fun g9 => [⟨g16, 27, #[.slice A12 0 c12]⟩, ⟨g18, 31, #[.slice A22 0 c22]⟩, ⟨g9, 40, catA [[.int .i64 0], [.int .i64 0], [.string (⟨#[]⟩)], [.int .i64 0], bytesV (zer 32)]⟩]) (fun _ h => dd_new HS163 (catA [[.int .i64 0], [.int .i64 0], [.string (⟨#[]⟩)], [.int .i64 0], bytesV (zer 32)]) rfl (z := .agg (catA [[.int .i64 0], [.int .i64 0], [.string (⟨#[]⟩)], [.int .i64 0], bytesV (zer 32)])) (by kernel_rfl) rfl h) fun g9 _ HS167 _ H167 => wl_ <| t_ rfl (fun _ h => dd_setrow HS167 2 rfl rfl (H167.ev 9 rfl) (H167.ev 82 rfl) (by kernel_rfl) ((cat_size (lens_cons rfl (lens_cons rfl (lens_cons rfl (lens_cons rfl (lens_cons (len_bv (length_zer 32)) (lens_nil))))))) : (catA [[.int .i64 0], [.int .i64 0], [.string (⟨#[]⟩)], [.int .i64 0], bytesV (zer 32)]).size = 36) ((cat_size (lens_cons rfl (lens_cons rfl (lens_cons rfl (lens_cons rfl (lens_cons (len_bv (length_zer 32)) (lens_nil))))))) : (catA [[.int .i64 0], [.int .i64 0], [.string (⟨#[]⟩)], [.int .i64 0], bytesV (zer 32)]).size = 36) (cat_one (ones_cons (ones_c rfl) (ones_cons (ones_c rfl) (ones_cons (ones_c rfl) (ones_cons (ones_c rfl) (ones_cons (one_bytesV _) (ones_nil))))))) h) fun W168 HS168 => wl_ <| p_ H167 rfl rfl fun _ H169 => ?_
     clear HJ35 H162 HSJ35 H163 H164 H165 HS163 H166 HS167
     refine ln_ <| nx <| sq_ <| ?_
     clear H167
     refine wi_ HS168 [0, 1, 2] rfl [0, 1, 2] rfl fun HSh170 hx170 => hp_ H169 0 hx170 rfl rfl rfl fun _ H171 => hp_ H171 1 hx170 rfl rfl rfl fun _ H172 => ht_ H172 2 hx170 rfl rfl (fun _ _ _ => dd_nilc rfl (H172.ev 85 rfl)) fun _ H173 => ht_ H173 3 hx170 rfl rfl (fun _ _ _ => xf 0 0 rfl (H173.ev 86 rfl)) fun _ H174 => ht_ H174 4 hx170 rfl rfl (fun _ _ HS9 => dd_get HS9 1 0 rfl rfl (H174.ev 87 rfl) rfl Tryd.underlying29 rfl) fun _ H175 => ht_ H175 5 hx170 rfl rfl (v := .int .i64 0) (fun _ _ _ => dd_len rfl (H175.ev 88 rfl) Tryd.underlying29) fun _ H176 => ht_ H176 6 hx170 rfl rfl (fun _ _ _ => dd_cmp rfl (H176.ev 89 rfl) rfl (gt_f (by decide))) fun _ H177 => ?_
     clear HS168 H169 H171 H172 H173 H174 H175
     refine ht_ H177 7 hx170 rfl rfl (v := .bool false) (fun _ _ _ => dd_neb rfl (H177.ev 84 rfl) (H177.ev 90 rfl) Tryd.underlying4 rfl) fun _ H178 => hp_ H178 8 hx170 rfl rfl rfl fun _ H179 => htg H179 9 hx170 rfl (wg_ H179 rfl rfl rfl rfl) rfl (fun _ _ _ => dd_mv rfl (H179.ev 10 rfl)) fun _ H180 => htg H180 10 hx170 rfl (wg_ H180 rfl rfl rfl rfl) rfl (fun _ _ _ => dd_mv rfl (H180.ev 93 rfl)) fun _ H181 => hk_ H181 11 hx170 rfl (wg_ H181 rfl rfl rfl rfl) rfl fun _ H182 => hk_ H182 12 hx170 rfl (wg_ H182 rfl rfl rfl rfl) rfl fun _ H183 => hk_ H183 13 hx170 rfl (wg_ H183 rfl rfl rfl rfl) rfl fun _ H184 => hk_ H184 14 hx170 rfl (wg_ H184 rfl rfl rfl rfl) rfl fun _ H185 => ?_
     clear H176 H177 H178 H179 H180 H181 H182 H183
     refine hk_ H185 15 hx170 rfl (wg_ H185 rfl rfl rfl rfl) rfl fun _ H186 => hk_ H186 16 hx170 rfl (wg_ H186 rfl rfl rfl rfl) rfl fun _ H187 => hk_ H187 17 hx170 rfl (wg_ H187 rfl rfl rfl rfl) rfl fun _ H188 => hk_ H188 18 hx170 rfl (wg_ H188 rfl rfl rfl rfl) rfl fun _ H189 => hk_ H189 19 hx170 rfl (wg_ H189 rfl rfl rfl rfl) rfl fun _ H190 => htg H190 20 hx170 rfl (wg_ H190 rfl rfl rfl rfl) rfl (fun _ _ _ => dd_pickF rfl (H190.ev 94 rfl) rfl) fun _ H191 => hp_ H191 21 hx170 rfl rfl rfl fun _ H192 => hp_ H192 22 hx170 rfl rfl rfl fun _ H193 => ?_
     clear H184 H185 H186 H187 H188 H189 H190 H191
     refine htg H193 23 hx170 rfl (wg_ H193 rfl rfl rfl rfl) rfl (fun _ _ _ => dd_mv rfl (H193.ev 10 rfl)) fun _ H194 => htg H194 24 hx170 rfl (wg_ H194 rfl rfl rfl rfl) rfl (v := .bool true) (fun _ _ _ => dd_nt rfl (H194.ev 107 rfl) rfl) fun _ H195 => htg H195 25 hx170 rfl (wg_ H195 rfl rfl rfl rfl) rfl (fun _ _ _ => dd_mv rfl (H195.ev 108 rfl)) fun _ H196 => htg H196 26 hx170 rfl (wg_ H196 rfl rfl rfl rfl) rfl (v := .agg (catA [[.int .i64 0], [.int .i64 0], [.string (⟨#[]⟩)], [.int .i64 0], bytesV (zer 32)])) (fun _ _ HS9 => dd_load HS9 2 0 rfl rfl (H196.ev 9 rfl) (slab_whole _) Tryd.underlying40 rfl (by rw [show (catA [[.int .i64 0], [.int .i64 0], [.string (⟨#[]⟩)], [.int .i64 0], bytesV (zer 32)]).size = 36 from (cat_size (lens_cons rfl (lens_cons rfl (lens_cons rfl (lens_cons rfl (lens_cons (len_bv (length_zer 32)) (lens_nil)))))))]; kernel_rfl)) fun _ H197 => htg H197 27 hx170 rfl (wg_ H197 rfl rfl rfl rfl) rfl (v := .agg (catA [[.int .i64 0], [.int .i64 0], [.string (⟨#[]⟩)], [.int .i64 0], bytesV (zer 32)])) (fun _ _ _ => dd_bld rfl (ps := []) (pr0) (Lz := [[.int .i64 0], [.int .i64 0], [.string (⟨#[]⟩)], [.int .i64 0], bytesV (zer 32)]) (by kernel_rfl) (lens_cons rfl (lens_cons rfl (lens_cons rfl (lens_cons rfl (lens_cons (len_bv (length_zer 32)) (lens_nil)))))) (fit_nil) (cs := catA [[.int .i64 0], [.int .i64 0], [.string (⟨#[]⟩)], [.int .i64 0], bytesV (zer 32)]) rfl) fun _ H198 => htg H198 28 hx170 rfl (wg_ H198 rfl rfl rfl rfl) rfl (v := .bool false) (fun _ _ _ => dd_nea (b := true) rfl (H198.ev 110 rfl) (H198.ev 111 rfl) (by kernel_rfl) (fun w => by have h9 := eql_itm zit zit (length_zer 32) (length_zer 32) w; rw [decide_eq_true rfl] at h9; exact h9) rfl) fun _ H199 => htg H199 29 hx170 rfl (wg_ H199 rfl rfl rfl rfl) rfl (fun _ _ _ => dd_pickT rfl (H199.ev 109 rfl) (H199.ev 112 rfl)) fun _ H200 => hp_ H200 30 hx170 rfl rfl rfl fun _ H201 => ?_
     clear H192 H193 H194 H195 H196 H197 H198 H199
     refine hp_ H201 31 hx170 rfl rfl rfl fun _ H202 => htg H202 32 hx170 rfl (wg_ H202 rfl rfl rfl rfl) rfl (fun _ _ _ => dd_mv rfl (H202.ev 3 rfl)) fun _ H203 => htg H203 34 hx170 rfl (wg_ H203 rfl rfl rfl rfl) rfl (fun _ _ _ => dd_mv rfl (H203.ev 4 rfl)) fun _ H204 => htg H204 35 hx170 rfl (wg_ H204 rfl rfl rfl rfl) rfl (fun _ _ _ => dd_nilc rfl (H204.ev 118 rfl)) fun _ H205 => htg H205 36 hx170 rfl (wg_ H205 rfl rfl rfl rfl) rfl (fun _ _ _ => xf 0 0 rfl (H205.ev 119 rfl)) fun _ H206 => htg H206 37 hx170 rfl (wg_ H206 rfl rfl rfl rfl) rfl (fun _ _ HS9 => dd_get HS9 1 0 rfl rfl (H206.ev 120 rfl) rfl Tryd.underlying29 rfl) fun _ H207 => htg H207 38 hx170 rfl (wg_ H207 rfl rfl rfl rfl) rfl (v := .int .i64 0) (fun _ _ _ => dd_len rfl (H207.ev 121 rfl) Tryd.underlying29) fun _ H208 => h1_ 33 rfl <| cg H208 (wg_ H208 rfl rfl rfl rfl) rfl HSh170 (dcs Tryd.func19 rfl (args1 (H208.ev 116 rfl)) (quelen_any g16 _ _ _ W168.drew (HSh170.row 0 rfl)) (.int .i64 0)) fun _ HS209 _ H209 => ?_
     clear H200 H201 H202 H203 H204 H205 H206 H207
     refine sx_ (sxi HS209 [0, 1, 2] rfl) fun hx210 => htg H209 39 hx210 rfl (wg_ H209 rfl rfl rfl rfl) rfl (fun _ _ _ => dd_cmp rfl (H209.ev 117 rfl) (H209.ev 122 rfl) (ne_f (by decide))) fun _ H211 => hp_ H211 40 hx210 rfl rfl rfl fun _ H212 => ?_
     clear H208 HSh170 hx170 H209 H211
     refine wpAnyH_done (by kernel_rfl) ?_ _
     clear hx210
     refine nx <| cf_ H212 rfl <| wp_skip <| bn <| nx <| rl_ <| wl_ <| p_ H212 rfl rfl fun _ H213 => wl_ <| i_ H213 rfl (v := .int .i64 (i + 1)) (dd_ari rfl (H213.ev 23 rfl) rfl rfl (i64_of (by first | omega | (have := bd_lo; omega)) (by omega))) fun _ H214 => wl_ <| p_ H214 rfl rfl fun _ H215 => ln_ <| ?_
     clear H212 H213 H214
     have H216 := H215.sel [0, 3, 4, 5] rfl
     clear H215
     refine nx ⟨i + 1, .inl ⟨A12, c12, A22, c22, (by omega), H216.sel [0, 3, 4, 5] rfl, ss HS209 [0, 1]⟩, (by omega)⟩
    obtain ⟨bx, ox, hBx, _⟩ := (HXp2 _ (HSJ35.row 3 rfl)).at_ (by omega)
    have HPX : ∀ W, Row W gx2 38 cbx2 → CAt W bx ox (itemsL X2) := fun W r9 => cat_of (HXp2 W r9) hBx (by omega)
    refine nx <| sq_ <| rl_ <| wl_ <| p_ HJ35 rfl rfl fun _ H217 => ?_
    clear HJ35
    refine wl_ <| d_ H217 rfl (R := fun v w9 => ∃ y, v = .tuple #[.agg (catA [[.int .i64 y.1], [.int .i64 y.2.1], [.string (strB y.2.2.1)], [.int .i64 y.2.2.2.1], bytesV y.2.2.2.2]), .bool true] ∧ (X2[0]? = some y) ∧ (y.2.2.2.2.length = 32) ∧ Below wJ35.heap.size wJ35 w9) (dc_ Tryd.func18 rfl (args1 (H217.ev 80 rfl)) (quehead_at g16 _ _ _ _ wJ35 (HSJ35.row 0 rfl) (HXq2 _ (HSJ35.row 2 rfl)) (by omega)) (fun _ w9 ⟨y9, hy9, he, hb⟩ => ⟨_, he, y9, rfl, hy9, hwf2 y9 (List.mem_of_getElem? hy9), hb⟩)) ?_
    rintro _ W218 ⟨y, rfl, hy, hwy, hb218⟩ a218 H218
    have HS218 := HSJ35.same hb218
    clear H217
    clear HSJ35 hb218
    refine wl_ <| p_ H218 rfl rfl fun _ H219 => wl_ <| i_ H219 rfl (v := .agg (catA [[.int .i64 y.1], [.int .i64 y.2.1], [.string (strB y.2.2.1)], [.int .i64 y.2.2.2.1], bytesV y.2.2.2.2])) (dd_ext rfl (H219.ev 79 rfl) rfl) fun _ H220 => wl_ <| i_ H220 rfl (v := .bool true) (dd_ext rfl (H220.ev 79 rfl) rfl) fun _ H221 => wl_ <| n_ H221 rfl (S := fun g9 => [⟨g16, 27, #[.slice A12 nX2 c12]⟩, ⟨g18, 31, #[.slice A22 nX2 c22]⟩, ⟨gw2, 40, cbw2⟩, ⟨gx2, 38, cbx2⟩, ⟨g9, 40, catA [[.int .i64 0], [.int .i64 0], [.string (⟨#[]⟩)], [.int .i64 0], bytesV (zer 32)]⟩]) (fun _ h => dd_new HS218 (catA [[.int .i64 0], [.int .i64 0], [.string (⟨#[]⟩)], [.int .i64 0], bytesV (zer 32)]) rfl (z := .agg (catA [[.int .i64 0], [.int .i64 0], [.string (⟨#[]⟩)], [.int .i64 0], bytesV (zer 32)])) (by kernel_rfl) rfl h) fun g9 _ HS222 _ H222 => wl_ <| t_ rfl (fun _ h => dd_setrow HS222 4 rfl rfl (H222.ev 9 rfl) (H222.ev 82 rfl) (by kernel_rfl) ((cat_size (lens_cons rfl (lens_cons rfl (lens_cons rfl (lens_cons rfl (lens_cons (len_bv hwy) (lens_nil))))))) : (catA [[.int .i64 y.1], [.int .i64 y.2.1], [.string (strB y.2.2.1)], [.int .i64 y.2.2.2.1], bytesV y.2.2.2.2]).size = 36) ((cat_size (lens_cons rfl (lens_cons rfl (lens_cons rfl (lens_cons rfl (lens_cons (len_bv (length_zer 32)) (lens_nil))))))) : (catA [[.int .i64 0], [.int .i64 0], [.string (⟨#[]⟩)], [.int .i64 0], bytesV (zer 32)]).size = 36) (cat_one (ones_cons (ones_c rfl) (ones_cons (ones_c rfl) (ones_cons (ones_c rfl) (ones_cons (ones_c rfl) (ones_cons (one_bytesV _) (ones_nil))))))) h) fun W223 HS223 => wl_ <| p_ H222 rfl rfl fun _ H224 => ln_ <| nx <| sq_ <| ?_
    clear H218 H219 H220 HS218 H221 HS222 H222
    refine wi_ HS223 [0, 1, 2, 3, 4] rfl [0, 1, 2, 3, 4] rfl fun HSh225 hx225 => hp_ H224 0 hx225 rfl rfl rfl fun _ H226 => hp_ H226 1 hx225 rfl rfl rfl fun _ H227 => ht_ H227 2 hx225 rfl rfl (fun _ _ _ => dd_nilc rfl (H227.ev 85 rfl)) fun _ H228 => ht_ H228 3 hx225 rfl rfl (fun _ _ _ => xf 0 0 rfl (H228.ev 86 rfl)) fun _ H229 => ht_ H229 4 hx225 rfl rfl (fun _ _ HS9 => dd_get HS9 1 0 rfl rfl (H229.ev 87 rfl) rfl Tryd.underlying29 rfl) fun _ H230 => ht_ H230 5 hx225 rfl rfl (v := .int .i64 nX2) (fun _ _ _ => dd_len rfl (H230.ev 88 rfl) Tryd.underlying29) fun _ H231 => ht_ H231 6 hx225 rfl rfl (fun _ _ _ => dd_cmp rfl (H231.ev 89 rfl) rfl (gt_t (by omega))) fun _ H232 => ?_
    clear HS223 H224 H226 H227 H228 H229 H230
    refine ht_ H232 7 hx225 rfl rfl (v := .bool false) (fun _ _ _ => dd_neb rfl (H232.ev 84 rfl) (H232.ev 90 rfl) Tryd.underlying4 rfl) fun _ H233 => hp_ H233 8 hx225 rfl rfl rfl fun _ H234 => htg H234 9 hx225 rfl (wg_ H234 rfl rfl rfl rfl) rfl (fun _ _ _ => dd_mv rfl (H234.ev 10 rfl)) fun _ H235 => htg H235 10 hx225 rfl (wg_ H235 rfl rfl rfl rfl) rfl (fun _ _ _ => dd_mv rfl (H235.ev 93 rfl)) fun _ H236 => htg H236 11 hx225 rfl (wg_ H236 rfl rfl rfl rfl) rfl (v := .agg (catA [[.int .i64 y.1], [.int .i64 y.2.1], [.string (strB y.2.2.1)], [.int .i64 y.2.2.2.1], bytesV y.2.2.2.2])) (fun _ _ HS9 => dd_load HS9 4 0 rfl rfl (H236.ev 9 rfl) (slab_whole _) Tryd.underlying40 rfl (by rw [show (catA [[.int .i64 y.1], [.int .i64 y.2.1], [.string (strB y.2.2.1)], [.int .i64 y.2.2.2.1], bytesV y.2.2.2.2]).size = 36 from (cat_size (lens_cons rfl (lens_cons rfl (lens_cons rfl (lens_cons rfl (lens_cons (len_bv hwy) (lens_nil)))))))]; kernel_rfl)) fun _ H237 => htg H237 13 hx225 rfl (wg_ H237 rfl rfl rfl rfl) rfl (fun _ _ _ => dd_mv rfl (H237.ev 4 rfl)) fun _ H238 => htg H238 14 hx225 rfl (wg_ H238 rfl rfl rfl rfl) rfl (fun _ _ _ => dd_nilc rfl (H238.ev 97 rfl)) fun _ H239 => htg H239 15 hx225 rfl (wg_ H239 rfl rfl rfl rfl) rfl (fun _ _ _ => xf 0 0 rfl (H239.ev 98 rfl)) fun _ H240 => ?_
    clear H231 H232 H233 H234 H235 H236 H237 H238
    refine htg H240 16 hx225 rfl (wg_ H240 rfl rfl rfl rfl) rfl (fun _ _ HS9 => dd_get HS9 1 0 rfl rfl (H240.ev 99 rfl) rfl Tryd.underlying29 rfl) fun _ H241 => htg H241 17 hx225 rfl (wg_ H241 rfl rfl rfl rfl) rfl (fun _ _ _ => dd_idxS (sz := 36) (j := ox + 0 * 36) rfl (sl_at (H241.ev 100 rfl) hBx) rfl (by kernel_rfl) (by omega) (by omega) (by omega)) fun _ H242 => htg H242 18 hx225 rfl (wg_ H242 rfl rfl rfl rfl) rfl (v := .agg (catA [[.int .i64 y.1], [.int .i64 y.2.1], [.string (strB y.2.2.1)], [.int .i64 y.2.2.2.1], bytesV y.2.2.2.2])) (fun _ _ HS9 => dd_atN rfl (H242.ev 101 rfl) (item_all (HPX _ (HS9.row 3 rfl)) hwf2 hy) Tryd.underlying38 rfl (by show _ = some (catA [[.int .i64 y.1], [.int .i64 y.2.1], [.string (strB y.2.2.1)], [.int .i64 y.2.2.2.1], bytesV y.2.2.2.2]).toList.length; rw [show (catA [[.int .i64 y.1], [.int .i64 y.2.1], [.string (strB y.2.2.1)], [.int .i64 y.2.2.2.1], bytesV y.2.2.2.2]).toList.length = 36 from (Array.length_toList).trans (cat_size (lens_cons rfl (lens_cons rfl (lens_cons rfl (lens_cons rfl (lens_cons (len_bv hwy) (lens_nil)))))))]; kernel_rfl)) fun _ H243 => h1_ 12 rfl <| cg H243 (wg_ H243 rfl rfl rfl rfl) rfl HSh225 (dcs Tryd.func10 rfl (args1 (H243.ev 95 rfl)) (qown_any y W223.drew hwy) (.agg (catA [[.int .i64 y.1], [.int .i64 y.2.1], [.string (strB y.2.2.1)], [.int .i64 y.2.2.2.1], bytesV y.2.2.2.2]))) fun W244 HS244 _ H244 => sx_ (sxi HS244 [0, 1, 2, 3, 4] rfl) fun hx245 => htg H244 19 hx245 rfl (wg_ H244 rfl rfl rfl rfl) rfl (v := .bool false) (fun _ _ _ => dd_nea (b := true) rfl (H244.ev 96 rfl) (H244.ev 102 rfl) (by kernel_rfl) (fun w => by have h9 := eql_ritm y y hwy hwy w; rw [decide_eq_true rfl] at h9; exact h9) rfl) fun _ H246 => htg H246 20 hx245 rfl (wg_ H246 rfl rfl rfl rfl) rfl (fun _ _ _ => dd_pickT rfl (H246.ev 94 rfl) (H246.ev 103 rfl)) fun _ H247 => hp_ H247 21 hx245 rfl rfl rfl fun _ H248 => ?_
    clear H239 H240 H241 H242 H243 HSh225 hx225 H244 H246
    refine hp_ H248 22 hx245 rfl rfl rfl fun _ H249 => htg H249 23 hx245 rfl (wg_ H249 rfl rfl rfl rfl) rfl (fun _ _ _ => dd_mv rfl (H249.ev 10 rfl)) fun _ H250 => htg H250 24 hx245 rfl (wg_ H250 rfl rfl rfl rfl) rfl (v := .bool false) (fun _ _ _ => dd_nt rfl (H250.ev 107 rfl) rfl) fun _ H251 => htg H251 25 hx245 rfl (wg_ H251 rfl rfl rfl rfl) rfl (fun _ _ _ => dd_mv rfl (H251.ev 108 rfl)) fun _ H252 => hk_ H252 26 hx245 rfl (wg_ H252 rfl rfl rfl rfl) rfl fun _ H253 => hk_ H253 27 hx245 rfl (wg_ H253 rfl rfl rfl rfl) rfl fun _ H254 => hk_ H254 28 hx245 rfl (wg_ H254 rfl rfl rfl rfl) rfl fun _ H255 => htg H255 29 hx245 rfl (wg_ H255 rfl rfl rfl rfl) rfl (fun _ _ _ => dd_pickF rfl (H255.ev 109 rfl) rfl) fun _ H256 => ?_
    clear H247 H248 H249 H250 H251 H252 H253 H254
    refine hp_ H256 30 hx245 rfl rfl rfl fun _ H257 => hp_ H257 31 hx245 rfl rfl rfl fun _ H258 => htg H258 32 hx245 rfl (wg_ H258 rfl rfl rfl rfl) rfl (fun _ _ _ => dd_mv rfl (H258.ev 3 rfl)) fun _ H259 => htg H259 34 hx245 rfl (wg_ H259 rfl rfl rfl rfl) rfl (fun _ _ _ => dd_mv rfl (H259.ev 4 rfl)) fun _ H260 => htg H260 35 hx245 rfl (wg_ H260 rfl rfl rfl rfl) rfl (fun _ _ _ => dd_nilc rfl (H260.ev 118 rfl)) fun _ H261 => htg H261 36 hx245 rfl (wg_ H261 rfl rfl rfl rfl) rfl (fun _ _ _ => xf 0 0 rfl (H261.ev 119 rfl)) fun _ H262 => htg H262 37 hx245 rfl (wg_ H262 rfl rfl rfl rfl) rfl (fun _ _ HS9 => dd_get HS9 1 0 rfl rfl (H262.ev 120 rfl) rfl Tryd.underlying29 rfl) fun _ H263 => htg H263 38 hx245 rfl (wg_ H263 rfl rfl rfl rfl) rfl (v := .int .i64 nX2) (fun _ _ _ => dd_len rfl (H263.ev 121 rfl) Tryd.underlying29) fun _ H264 => ?_
    clear H255 H256 H257 H258 H259 H260 H261 H262
    refine h1_ 33 rfl <| cg H264 (wg_ H264 rfl rfl rfl rfl) rfl HS244 (dcs Tryd.func19 rfl (args1 (H264.ev 116 rfl)) (quelen_any g16 _ _ _ W244 (HS244.row 0 rfl)) (.int .i64 nX2)) fun _ HS265 _ H265 => sx_ (sxi HS265 [0, 1, 2, 3, 4] rfl) fun hx266 => htg H265 39 hx266 rfl (wg_ H265 rfl rfl rfl rfl) rfl (fun _ _ _ => dd_cmp rfl (H265.ev 117 rfl) (H265.ev 122 rfl) (ne_f rfl)) fun _ H267 => hp_ H267 40 hx266 rfl rfl rfl fun _ H268 => ?_
    clear H263 H264 HS244 hx245 H265 H267
    refine wpAnyH_done (by kernel_rfl) ?_ _
    clear hx266
    refine nx <| cf_ H268 rfl <| wp_skip <| bn <| nx <| rl_ <| wl_ <| p_ H268 rfl rfl fun _ H269 => wl_ <| i_ H269 rfl (v := .int .i64 (i + 1)) (dd_ari rfl (H269.ev 23 rfl) rfl rfl (i64_of (by first | omega | (have := bd_lo; omega)) (by omega))) fun _ H270 => wl_ <| p_ H270 rfl rfl fun _ H271 => ln_ <| ?_
    clear H268 H269 H270
    have H272 := H271.sel [0, 3, 4, 5] rfl
    clear H271
    refine nx ⟨i + 1, .inr (⟨A12, c12, A22, c22, gw2, cbw2, gx2, cbx2, X2, nX2, (by omega), hX2, hwf2, hB2, (fun W9 r9 => (HXq2 _ r9)), (fun W9 r9 => (HXp2 _ r9)), H272.sel [0, 3, 4, 5] rfl, ss HS265 [0, 1, 2, 3]⟩), (by omega)⟩
   refine wl_ <| i_ H13 rfl (dd_cmp rfl (H13.ev 19 rfl) (H13.ev 21 rfl) (lt_f hc15)) fun _ H273 => ln_ <| nx <| cf_ H273 rfl <| wp_exit <| tx <| tx <| bx <| nx <| sq_ <| rl_ <| wl_ <| c_ H273 rfl HSL11 (dcs Tryd.func8 rfl (args0 ) (qwakes_any wL11) (.bool true)) fun _ HS274 _ H274 => wl_ <| p_ H274 rfl rfl fun _ H275 => ln_ <| nx <| wp_ret <| ret_run H275.env0 (res_t Tryd.results3 (H275.get 2 rfl)) <| ?_
   clear H13 H273 HSL11 H274
   exact ⟨rfl, HS274.below⟩
  refine sq_ <| sq_ <| rl_ <| q_ HL11 2 rfl fun _ H276 => wl_ <| i_ H276 rfl (v := .int .i64 n) (dd_len rfl (H276.ev 20 rfl) Tryd.underlying22) fun _ H277 => ?_
  clear HL11 H276
  by_cases hc279 : (i : Int) < n
  ·
   refine wl_ <| i_ H277 rfl (dd_cmp rfl (H277.ev 19 rfl) (H277.ev 21 rfl) (lt_t hc279)) fun _ H280 => ln_ <| nx <| ct_ H280 rfl <| wp_skip <| nx <| sq_ <| wp_block <| sq_ <| rl_ <| q_ H280 2 rfl fun _ H281 => ?_
   clear H277 H280
   obtain ⟨b9, o9, kd, By, my, dy, Yy, e9, hst, hY, hYb, hYm⟩ := stepsQ_get hs (k := i) (by omega)
   obtain ⟨rfl, rfl⟩ : b = b9 ∧ o = o9 := by injection e9 with e9; injection e9 with e1 e2; exact ⟨e1, e2⟩
   clear e9
   have HST := fun (W9 : World) (hb9 : Below w.heap.size w W9) => hst.call hb9
   have HY := fun (W9 : World) (hb9 : Below w.heap.size w W9) => hY.call hb9
   have hYl := hY.len
   have hYw := hY.wf
   refine wl_ <| i_ H281 rfl (xSo 2 (o + i * 2) rfl (H281.ev 25 rfl) (H281.ev 26 rfl)) fun _ H282 => wl_ <| i_ H282 rfl (v := .agg #[.int .i64 kd, .slice By my dy]) (dd_atN rfl (H282.ev 27 rfl) (HST _ HSL11.below).at_ Tryd.underlying33 rfl (by kernel_rfl)) fun _ H283 => wl_ <| n_ H283 rfl (fun _ h => dd_new HSL11 #[.int .i64 0, .slice none 0 0] rfl (z := .agg #[.int .i64 0, .slice none 0 0]) (by kernel_rfl) rfl h) fun g6 _ HS284 _ H284 => wl_ <| t_ rfl (fun _ h => dd_setrow HS284 4 rfl rfl (H284.ev 6 rfl) (H284.ev 28 rfl) (by kernel_rfl) (rfl : #[.int .i64 kd, .slice By my dy].size = 2) (rfl : #[.int .i64 0, .slice none 0 0].size = 2) (one_l (ao_cons rfl (ao_cons rfl ao_nil))) h) fun W285 HS285 => ln_ <| nx <| sq_ <| sq_ <| rl_ <| wl_ <| i_ H284 rfl (xf 1 1 rfl (H284.ev 6 rfl)) fun _ H286 => wl_ <| i_ H286 rfl (dd_get HS285 4 1 rfl rfl (H286.ev 29 rfl) rfl Tryd.underlying25 rfl) fun _ H287 => ?_
   clear H281 H282 HSL11 H283 HS284 H284 H286
   cases hb289 : fairI Yy
   ·
    refine wl_ <| c_ H287 rfl HS285 (v := .bool false) (dc_ Tryd.func9 rfl (args1 (H287.ev 30 rfl)) (qfair_any _ my _ Yy W285 (HY _ HS285.below) hYm) (fun _ w9 h9 => ⟨_, h9.1, by rw [hb289], h9.2⟩)) fun W290 HS290 _ H290 => wl_ <| i_ H290 rfl (v := .bool true) (dd_nt rfl (H290.ev 31 rfl) rfl) fun _ H291 => ln_ <| nx <| ct_ H291 rfl <| sq_ <| rl_ <| wl_ <| c_ H291 rfl HS290 (dcs Tryd.func8 rfl (args0 ) (qwakes_any W290) (.bool true)) fun _ HS292 _ H292 => wl_ <| p_ H292 rfl rfl fun _ H293 => ln_ <| ?_
    clear H287 HS285 H290 H291 HS290 H292
    have H294 := H293.sel [2] rfl
    refine nx <| wp_ret <| tr <| br_ <| tr <| tr <| br_ <| tr <| ret_run H294.env0 (res_t Tryd.results3 (H294.get 2 rfl)) <| ?_
    clear H293
    exact ⟨rfl, HS292.below⟩
   refine wl_ <| c_ H287 rfl HS285 (v := .bool true) (dc_ Tryd.func9 rfl (args1 (H287.ev 30 rfl)) (qfair_any _ my _ Yy W285 (HY _ HS285.below) hYm) (fun _ w9 h9 => ⟨_, h9.1, by rw [hb289], h9.2⟩)) fun W295 HS295 _ H295 => wl_ <| i_ H295 rfl (v := .bool false) (dd_nt rfl (H295.ev 31 rfl) rfl) fun _ H296 => ln_ <| nx <| cf_ H296 rfl <| wp_skip <| nx <| sq_ <| sq_ <| rl_ <| ?_
   clear H287 HS285 H295
   have hm20 := fair_len hYl hb289
   refine wl_ <| i_ H296 rfl (xf 0 0 rfl (H296.ev 6 rfl)) fun _ H297 => wl_ <| i_ H297 rfl (dd_get HS295 4 0 rfl rfl (H297.ev 34 rfl) rfl Tryd.underlying3 rfl) fun _ H298 => ln_ <| nx <| ?_
   clear H296 H297
   refine wp_cut (fun a9 w9 => (∃ A12 : Option Addr, ∃ c12 : Nat, ∃ A22 : Option Addr, ∃ c22 : Nat, (i ≤ n) ∧ En 126 [(5, .int .i64 i), (4, .pointer (some ⟨g18, 0, none⟩)), (3, .pointer (some ⟨g16, 0, none⟩)), (0, .slice (some ⟨b, o, none⟩) n c)] a9 ∧ St w noF [⟨g16, 27, #[.slice A12 0 c12]⟩, ⟨g18, 31, #[.slice A22 0 c22]⟩] w9) ∨ (∃ A12 : Option Addr, ∃ c12 : Nat, ∃ A22 : Option Addr, ∃ c22 : Nat, ∃ gw2 : Nat, ∃ cbw2 : Array Value, ∃ gx2 : Nat, ∃ cbx2 : Array Value, ∃ X2 : List It, ∃ nX2 : Nat, (0 < nX2 ∧ nX2 ≤ 4 ∧ i ≤ n) ∧ (X2.length = nX2) ∧ (wfI X2) ∧ (B64 (X2.map (·.1))) ∧ (∀ W, Row W gw2 40 cbw2 → ItemsAt W A12 nX2 c12 X2) ∧ (∀ W, Row W gx2 38 cbx2 → ItemsAt W A22 nX2 c22 X2) ∧ En 126 [(5, .int .i64 i), (4, .pointer (some ⟨g18, 0, none⟩)), (3, .pointer (some ⟨g16, 0, none⟩)), (0, .slice (some ⟨b, o, none⟩) n c)] a9 ∧ St w noF [⟨g16, 27, #[.slice A12 nX2 c12]⟩, ⟨g18, 31, #[.slice A22 nX2 c22]⟩, ⟨gw2, 40, cbw2⟩, ⟨gx2, 38, cbx2⟩] w9)) ?_ ?_
   ·
    refine wp_block <| sq_ <| rl_ <| ?_
    by_cases hc301 : (kd : Int) = 0
    ·
     refine wl_ <| i_ H298 rfl (dd_cmp rfl (H298.ev 35 rfl) rfl (eq_t hc301)) fun _ H302 => wl_ <| p_ H302 rfl rfl fun _ H303 => ln_ <| nx <| ct_ H303 rfl <| sq_ <| rl_ <| wl_ <| p_ H303 rfl rfl fun _ H304 => ln_ <| ?_
     clear H298 H302 H303
     have H305 := H304.sel [0, 3, 4, 5, 6, 7] rfl
     refine nx <| sq_ <| sq_ <| rl_ <| ?_
     clear H304
     by_cases hc307 : (0 : Int) < my
     ·
      obtain ⟨bY, oY, hBY, _⟩ := hY.at_ (by omega)
      have HYC := fun (W9 : World) (hb9 : Below w.heap.size w W9) => cat_of (HY W9 hb9) hBY (by omega)
      refine wl_ <| p_ H305 rfl rfl fun _ H308 => ln_ <| nx <| wp_block <| ?_
      clear H305
      refine wp_loop1 (ι := Nat) (fun j1 a9 w9 => ∃ gi1 : Nat, ∃ ci1 : Nat, ∃ cbi1 : Array Value, (1 ≤ j1 ∧ j1 ≤ my) ∧ (OwnC cbi1 ci1 j1 36 (itemsL (Yy.take j1))) ∧ En 126 [(8, .int .i64 j1), (7, .slice (some ⟨gi1, 0, none⟩) j1 ci1), (6, .pointer (some ⟨g6, 0, none⟩)), (5, .int .i64 i), (4, .pointer (some ⟨g18, 0, none⟩)), (3, .pointer (some ⟨g16, 0, none⟩)), (0, .slice (some ⟨b, o, none⟩) n c)] a9 ∧ St w noF [⟨g16, 27, #[.slice A1 nX c1]⟩, ⟨g18, 31, #[.slice A2 nX c2]⟩, ⟨gw, 40, cbw⟩, ⟨gx, 38, cbx⟩, ⟨g6, 33, #[.int .i64 kd, .slice By my dy]⟩, ⟨gi1, 38, cbi1⟩] w9) (fun j1 => my - j1) (1) ?_ ?_
      ·
       refine sq_ <| sq_ <| rl_ <| wl_ <| p_ H308 rfl rfl fun _ H310 => wl_ <| i_ H310 rfl (xf 1 1 rfl (H310.ev 6 rfl)) fun _ H311 => wl_ <| i_ H311 rfl (dd_get HS295 4 1 rfl rfl (H311.ev 39 rfl) rfl Tryd.underlying25 rfl) fun _ H312 => wl_ <| i_ H312 rfl (v := .int .i64 my) (dd_len rfl (H312.ev 40 rfl) Tryd.underlying25) fun _ H313 => wl_ <| i_ H313 rfl (dd_cmp rfl (H313.ev 38 rfl) (H313.ev 41 rfl) (lt_t hc307)) fun _ H314 => ln_ <| nx <| ct_ H314 rfl <| wp_skip <| nx <| sq_ <| wp_block <| rl_ <| wl_ <| p_ H314 rfl rfl fun _ H315 => wl_ <| i_ H315 rfl (xf 1 1 rfl (H315.ev 6 rfl)) fun _ H316 => wl_ <| i_ H316 rfl (dd_get HS295 4 1 rfl rfl (H316.ev 46 rfl) rfl Tryd.underlying25 rfl) fun _ H317 => ?_
       clear H308 H310 H311 H312 H313 H314 H315
       refine wl_ <| p_ H317 rfl rfl fun _ H318 => wl_ <| i_ H318 rfl (dd_idxS (sz := 36) (j := oY + 0 * 36) rfl (sl_at (H318.ev 47 rfl) hBY) (H318.ev 48 rfl) (by kernel_rfl) (by omega) (by omega) (by omega)) fun _ H319 => ?_
       clear H316 H317 H318
       obtain ⟨x0, hx0⟩ : ∃ x, Yy[0]? = some x := ⟨_, List.getElem?_eq_getElem (by rw [hY.len]; omega)⟩
       have hw0 := hY.wf x0 (List.mem_of_getElem? hx0)
       refine wl_ <| i_ H319 rfl (v := .agg (catA [[.int .i64 x0.1], [.int .i64 x0.2.1], [.string (strB x0.2.2.1)], [.int .i64 x0.2.2.2.1], bytesV x0.2.2.2.2])) (dd_atN rfl (H319.ev 49 rfl) (item_all (HYC _ HS295.below) hY.wf hx0) Tryd.underlying40 rfl (by show _ = some (catA [[.int .i64 x0.1], [.int .i64 x0.2.1], [.string (strB x0.2.2.1)], [.int .i64 x0.2.2.2.1], bytesV x0.2.2.2.2]).toList.length; rw [show (catA [[.int .i64 x0.1], [.int .i64 x0.2.1], [.string (strB x0.2.2.1)], [.int .i64 x0.2.2.2.1], bytesV x0.2.2.2.2]).toList.length = 36 from (Array.length_toList).trans (cat_size (lens_cons rfl (lens_cons rfl (lens_cons rfl (lens_cons rfl (lens_cons (len_bv hw0) (lens_nil)))))))]; kernel_rfl)) fun _ H320 => wl_ <| c_ H320 rfl HS295 (dcs Tryd.func10 rfl (args1 (H320.ev 50 rfl)) (qown_any x0 W295 hw0) (.agg (catA [[.int .i64 x0.1], [.int .i64 x0.2.1], [.string (strB x0.2.2.1)], [.int .i64 x0.2.2.2.1], bytesV x0.2.2.2.2]))) fun _ HS321 _ H321 => wl_ <| n_ H321 rfl (S := fun g52 => [⟨g16, 27, #[.slice A1 nX c1]⟩, ⟨g18, 31, #[.slice A2 nX c2]⟩, ⟨gw, 40, cbw⟩, ⟨gx, 38, cbx⟩, ⟨g6, 33, #[.int .i64 kd, .slice By my dy]⟩, ⟨g52, 38, catA [[.int .i64 x0.1], [.int .i64 x0.2.1], [.string (strB x0.2.2.1)], [.int .i64 x0.2.2.2.1], bytesV x0.2.2.2.2]⟩]) (fun _ h => dd_lit1 HS321 (z := .agg (catA [[.int .i64 0], [.int .i64 0], [.string (⟨#[]⟩)], [.int .i64 0], bytesV (zer 32)])) (sz := 36) rfl (H321.ev 51 rfl) Tryd.underlying29 (by kernel_rfl) (cat_size (lens_cons rfl (lens_cons rfl (lens_cons rfl (lens_cons rfl (lens_cons (len_bv hw0) (lens_nil))))))) rfl rfl h) fun g52 _ HS322 _ H322 => wl_ <| a_ H322 rfl (fun g53_324 c53_324 => .slice (some ⟨g53_324, 0, none⟩) 1 c53_324) (T := fun _ c53_324 cb53_324 => OwnC cb53_324 c53_324 1 36 (itcell x0)) (fun _ h => dd_app0 HS322 rfl (H322.ev 45 rfl) (z := .agg (catA [[.int .i64 0], [.int .i64 0], [.string (⟨#[]⟩)], [.int .i64 0], bytesV (zer 32)])) (bytes := 72) (sz := 36) Tryd.underlying29 (by kernel_rfl) rfl (by decide) (itcell x0) (H322.ev 52 rfl) (len_itcell hw0) ((items_row (X := [x0]) (HS322.row 5 rfl) (items_one _).symm rfl (wf_one hw0)).cat Nat.one_ne_zero).news1 (one_itcell _) (by decide) (by decide) h) fun g53_324 c53_324 cb53_324 _ O53_324 HS323 _ H323 => wl_ <| p_ H323 rfl rfl fun _ H325 => ln_ <| bn <| nx <| rl_ <| wl_ <| p_ H325 rfl rfl fun _ H326 => wl_ <| i_ H326 rfl (v := .int .i64 1) (dd_ari rfl (H326.ev 43 rfl) rfl rfl (by decide)) fun _ H327 => wl_ <| p_ H327 rfl rfl fun _ H328 => ?_
       clear H319 H320 HS295 HS321 H321 HS322 H322 H323 H325 H326
       refine ln_ <| ?_
       clear H327
       have H329 := H328.sel [0, 3, 4, 5, 6, 7, 8] rfl
       clear H328
       exact nx ⟨g53_324, c53_324, cb53_324, (by omega), (its_1 hx0 O53_324), H329.sel [0, 3, 4, 5, 6, 7, 8] rfl, ss HS323 [0, 1, 2, 3, 4, 6]⟩
      clear H308 HS295
      rintro j1 aL309 wL309 ⟨gi1, ci1, cbi1, hjm, Oi1, HL309, HSL309⟩
      refine sq_ <| sq_ <| rl_ <| wl_ <| p_ HL309 rfl rfl fun _ H330 => wl_ <| i_ H330 rfl (xf 1 1 rfl (H330.ev 6 rfl)) fun _ H331 => wl_ <| i_ H331 rfl (dd_get HSL309 4 1 rfl rfl (H331.ev 39 rfl) rfl Tryd.underlying25 rfl) fun _ H332 => wl_ <| i_ H332 rfl (v := .int .i64 my) (dd_len rfl (H332.ev 40 rfl) Tryd.underlying25) fun _ H333 => ?_
      clear HL309 H330 H331 H332
      by_cases hc335 : (j1 : Int) < my
      ·
       refine wl_ <| i_ H333 rfl (dd_cmp rfl (H333.ev 38 rfl) (H333.ev 41 rfl) (lt_t hc335)) fun _ H336 => ln_ <| nx <| ct_ H336 rfl <| wp_skip <| nx <| sq_ <| wp_block <| rl_ <| wl_ <| p_ H336 rfl rfl fun _ H337 => wl_ <| i_ H337 rfl (xf 1 1 rfl (H337.ev 6 rfl)) fun _ H338 => wl_ <| i_ H338 rfl (dd_get HSL309 4 1 rfl rfl (H338.ev 46 rfl) rfl Tryd.underlying25 rfl) fun _ H339 => wl_ <| p_ H339 rfl rfl fun _ H340 => wl_ <| i_ H340 rfl (dd_idxS (sz := 36) (j := oY + j1 * 36) rfl (sl_at (H340.ev 47 rfl) hBY) (H340.ev 48 rfl) (by kernel_rfl) (by omega) (by omega) (by omega)) fun _ H341 => ?_
       clear H333 H336 H337 H338 H339 H340
       obtain ⟨xj1, hxj1⟩ : ∃ x, Yy[j1]? = some x := ⟨_, List.getElem?_eq_getElem (by rw [hY.len]; omega)⟩
       have hwj1 := hY.wf xj1 (List.mem_of_getElem? hxj1)
       refine wl_ <| i_ H341 rfl (v := .agg (catA [[.int .i64 xj1.1], [.int .i64 xj1.2.1], [.string (strB xj1.2.2.1)], [.int .i64 xj1.2.2.2.1], bytesV xj1.2.2.2.2])) (dd_atN rfl (H341.ev 49 rfl) (item_all (HYC _ HSL309.below) hY.wf hxj1) Tryd.underlying40 rfl (by show _ = some (catA [[.int .i64 xj1.1], [.int .i64 xj1.2.1], [.string (strB xj1.2.2.1)], [.int .i64 xj1.2.2.2.1], bytesV xj1.2.2.2.2]).toList.length; rw [show (catA [[.int .i64 xj1.1], [.int .i64 xj1.2.1], [.string (strB xj1.2.2.1)], [.int .i64 xj1.2.2.2.1], bytesV xj1.2.2.2.2]).toList.length = 36 from (Array.length_toList).trans (cat_size (lens_cons rfl (lens_cons rfl (lens_cons rfl (lens_cons rfl (lens_cons (len_bv hwj1) (lens_nil)))))))]; kernel_rfl)) fun _ H342 => wl_ <| c_ H342 rfl HSL309 (dcs Tryd.func10 rfl (args1 (H342.ev 50 rfl)) (qown_any xj1 wL309 hwj1) (.agg (catA [[.int .i64 xj1.1], [.int .i64 xj1.2.1], [.string (strB xj1.2.2.1)], [.int .i64 xj1.2.2.2.1], bytesV xj1.2.2.2.2]))) fun _ HS343 _ H343 => wl_ <| n_ H343 rfl (S := fun g52 => [⟨g16, 27, #[.slice A1 nX c1]⟩, ⟨g18, 31, #[.slice A2 nX c2]⟩, ⟨gw, 40, cbw⟩, ⟨gx, 38, cbx⟩, ⟨g6, 33, #[.int .i64 kd, .slice By my dy]⟩, ⟨gi1, 38, cbi1⟩, ⟨g52, 38, catA [[.int .i64 xj1.1], [.int .i64 xj1.2.1], [.string (strB xj1.2.2.1)], [.int .i64 xj1.2.2.2.1], bytesV xj1.2.2.2.2]⟩]) (fun _ h => dd_lit1 HS343 (z := .agg (catA [[.int .i64 0], [.int .i64 0], [.string (⟨#[]⟩)], [.int .i64 0], bytesV (zer 32)])) (sz := 36) rfl (H343.ev 51 rfl) Tryd.underlying29 (by kernel_rfl) (cat_size (lens_cons rfl (lens_cons rfl (lens_cons rfl (lens_cons rfl (lens_cons (len_bv hwj1) (lens_nil))))))) rfl rfl h) fun g52 _ HS344 _ H344 => wl_ <| a_ H344 rfl (fun g53_346 c53_346 => .slice (some ⟨g53_346, 0, none⟩) (j1 + 1) c53_346) (T := fun _ c53_346 cb53_346 => OwnC cb53_346 c53_346 (j1 + 1) 36 (itemsL (Yy.take j1) ++ itemsL ([xj1]))) (fun _ h => dd_appX HS344 5 rfl Oi1 rfl (H344.ev 45 rfl) (z := .agg (catA [[.int .i64 0], [.int .i64 0], [.string (⟨#[]⟩)], [.int .i64 0], bytesV (zer 32)])) (bytes := 72) Tryd.underlying29 (by kernel_rfl) rfl (by decide) (itemsL ([xj1])) (H344.ev 52 rfl) (len_items (items_row (X := [xj1]) (HS344.row 6 rfl) (items_one _).symm rfl (wf_one hwj1)).wf (items_row (X := [xj1]) (HS344.row 6 rfl) (items_one _).symm rfl (wf_one hwj1)).len) (fun h9 => (items_row (X := [xj1]) (HS344.row 6 rfl) (items_one _).symm rfl (wf_one hwj1)).at_ h9) (one_items _) (by unfold maxLen; omega) (by omega) h) fun g53_346 c53_346 cb53_346 _ O53_346 HS345 _ H345 => wl_ <| p_ H345 rfl rfl fun _ H347 => ln_ <| bn <| nx <| rl_ <| wl_ <| p_ H347 rfl rfl fun _ H348 => wl_ <| i_ H348 rfl (v := .int .i64 (j1 + 1)) (dd_ari rfl (H348.ev 43 rfl) rfl rfl (i64_of (by first | omega | (have := bd_lo; omega)) (by omega))) fun _ H349 => wl_ <| p_ H349 rfl rfl fun _ H350 => ?_
       clear H341 H342 HSL309 HS343 H343 HS344 H344 H345 H347 H348
       refine ln_ <| ?_
       clear H349
       have H351 := H350.sel [0, 3, 4, 5, 6, 7, 8] rfl
       clear H350
       refine nx ⟨j1 + 1, ⟨g53_346, c53_346, cb53_346, (by omega), (its_S hxj1 O53_346), H351.sel [0, 3, 4, 5, 6, 7, 8] rfl, ss HS345 [0, 1, 2, 3, 4, 6]⟩, (by omega)⟩
      refine wl_ <| i_ H333 rfl (dd_cmp rfl (H333.ev 38 rfl) (H333.ev 41 rfl) (lt_f hc335)) fun _ H352 => ln_ <| nx <| cf_ H352 rfl <| wp_exit <| tx <| tx <| bx <| nx <| sq_ <| rl_ <| wl_ <| p_ H352 rfl rfl fun _ H353 => wl_ <| n_ H353 rfl (S := fun g55 => [⟨g16, 27, #[.slice A1 nX c1]⟩, ⟨g18, 31, #[.slice A2 nX c2]⟩, ⟨gw, 40, cbw⟩, ⟨gx, 38, cbx⟩, ⟨g6, 33, #[.int .i64 kd, .slice By my dy]⟩, ⟨gi1, 38, cbi1⟩, ⟨g55, 40, #[]⟩]) (A := fun g55 => .slice (some ⟨g55, 0, none⟩) 0 0) (fun _ h => dd_lit0 HSL309 rfl rfl Tryd.underlying25 (sz := 36) (by kernel_rfl) h) fun g55 _ HS354 _ H354 => wl_ <| i_ H354 rfl (xf 1 1 rfl (H354.ev 6 rfl)) fun _ H355 => wl_ <| i_ H355 rfl (dd_get HS354 4 1 rfl rfl (H355.ev 56 rfl) rfl Tryd.underlying25 rfl) fun _ H356 => wl_ <| a_ H356 rfl (fun g58_358 c58_358 => .slice (some ⟨g58_358, 0, none⟩) (0 + my) c58_358) (T := fun _ c58_358 cb58_358 => OwnC cb58_358 c58_358 (0 + my) 36 (itemsL Yy)) (fun _ h => dd_appX HS354 6 rfl (ownc_nil0 36) rfl (H356.ev 55 rfl) (z := .agg (catA [[.int .i64 0], [.int .i64 0], [.string (⟨#[]⟩)], [.int .i64 0], bytesV (zer 32)])) (bytes := 72) Tryd.underlying25 (by kernel_rfl) rfl (by decide) (itemsL Yy) (H356.ev 57 rfl) (len_items (HY _ HS354.below).wf (HY _ HS354.below).len) (fun h9 => (HY _ HS354.below).at_ h9) (one_items _) (by unfold maxLen; omega) (by omega) h) fun g58_358 c58_358 cb58_358 W357 O58_358 HS357 _ H357 => ?_
      clear H333 H352 HSL309 H353 H354 H355 HS354 H356
      by_cases hc360 : (4 : Int) < nX + my
      ·
       refine wl_ <| c_ H357 rfl HS357 (dcs Tryd.func11 rfl (args2 (H357.ev 54 rfl) (H357.ev 58 rfl)) (queadd_full g16 _ _ _ _ _ _ W357 (HS357.row 0 rfl) (by omega) (by omega) (by omega)) (.int .i64 19)) fun W361 HS361 _ H361 => q_ H361 2 rfl fun _ H362 => wl_ <| c_ H362 rfl HS361 (dcs Tryd.func12 rfl (args2 (H362.ev 60 rfl) (H362.ev 61 rfl)) (rqadd_full g18 _ _ _ _ _ _ W361 (HS361.row 1 rfl) (by omega) (by omega) (by omega)) (.int .i64 19)) fun _ HS363 _ H363 => wl_ <| i_ H363 rfl (dd_cmp rfl (H363.ev 59 rfl) (H363.ev 62 rfl) (ne_f (by decide))) fun _ H364 => ln_ <| ?_
       clear H357 HS357 H361 H362 HS361 H363
       have H365 := H364.sel [0, 3, 4, 5, 63] rfl
       refine nx <| cf_ H365 rfl <| wp_skip <| bn <| ?_
       clear H364
       exact nx (.inr ⟨A1, c1, A2, c2, gw, cbw, gx, cbx, X, nX, (by omega), hX, hwf, hB, (fun W9 r9 => (HXq _ r9)), (fun W9 r9 => (HXp _ r9)), H365.sel [0, 3, 4, 5] rfl, ss HS363 [0, 1, 2, 3]⟩)
      refine wl_ <| d_ H357 rfl (R := fun v9 w9 => ∃ gq367 : Nat, ∃ cq367 : Nat, ∃ cbq367 : Array Value, v9 = .int .i64 0 ∧ (OwnC cbq367 cq367 (nX + my) 36 (itemsL (X ++ Yy))) ∧ St w noF [⟨g16, 27, #[.slice (some ⟨gq367, 0, none⟩) (nX + my) cq367]⟩, ⟨gq367, 40, cbq367⟩, ⟨g18, 31, #[.slice A2 nX c2]⟩, ⟨gw, 40, cbw⟩, ⟨gx, 38, cbx⟩, ⟨g6, 33, #[.int .i64 kd, .slice By my dy]⟩, ⟨gi1, 38, cbi1⟩, ⟨g58_358, 40, cb58_358⟩] w9) (dc_ Tryd.func11 rfl (args2 (H357.ev 54 rfl) (H357.ev 58 rfl)) (queadd_as _ g16 _ _ nX _ (0 + my) _ X Yy (nX + my) (X ++ Yy) _ (ss HS357 [0]).frame (fun W9 k9 => (HXq _ ((HS357.row 2 rfl).chg k9 (nin_row (S1 := selB [⟨g16, 27, #[.slice A1 nX c1]⟩, ⟨g18, 31, #[.slice A2 nX c2]⟩, ⟨gw, 40, cbw⟩, ⟨gx, 38, cbx⟩, ⟨g6, 33, #[.int .i64 kd, .slice By my dy]⟩, ⟨gi1, 38, cbi1⟩, ⟨g58_358, 40, cb58_358⟩] [0]) (ss HS357 [0, 1, 2, 3, 4, 5, 6]) 1 rfl)))) (fun W9 k9 => (items_own ((HS357.row 6 rfl).chg k9 (nin_row (S1 := selB [⟨g16, 27, #[.slice A1 nX c1]⟩, ⟨g18, 31, #[.slice A2 nX c2]⟩, ⟨gw, 40, cbw⟩, ⟨gx, 38, cbx⟩, ⟨g6, 33, #[.int .i64 kd, .slice By my dy]⟩, ⟨gi1, 38, cbi1⟩, ⟨g58_358, 40, cb58_358⟩] [0]) (ss HS357 [0, 1, 2, 3, 4, 5, 6]) 5 rfl)) O58_358 (by rw [hYl, Nat.zero_add]) hYw)) (by omega) (by omega) (by omega) rfl) (fun _ w9 ⟨g9, c9, cb9, he, hO, hS⟩ => ⟨_, he, g9, c9, cb9, rfl, hO, St.reframe (ss HS357 [0, 1, 2, 3, 4, 5, 6]) hS⟩)) ?_
      rintro _ W366 ⟨gq367, cq367, cbq367, rfl, Oq367, HS366⟩ a366 H366
      clear H357 HS357
      refine q_ H366 2 rfl fun _ H368 => ?_
      clear H366
      refine wl_ <| d_ H368 rfl (R := fun v9 w9 => ∃ gq370 : Nat, ∃ cq370 : Nat, ∃ cbq370 : Array Value, v9 = .int .i64 0 ∧ (OwnC cbq370 cq370 (nX + my) 36 (itemsL (X ++ Yy))) ∧ St w noF [⟨g18, 31, #[.slice (some ⟨gq370, 0, none⟩) (nX + my) cq370]⟩, ⟨gq370, 38, cbq370⟩, ⟨g16, 27, #[.slice (some ⟨gq367, 0, none⟩) (nX + my) cq367]⟩, ⟨gq367, 40, cbq367⟩, ⟨gw, 40, cbw⟩, ⟨gx, 38, cbx⟩, ⟨g6, 33, #[.int .i64 kd, .slice By my dy]⟩, ⟨gi1, 38, cbi1⟩, ⟨g58_358, 40, cb58_358⟩] w9) (dc_ Tryd.func12 rfl (args2 (H368.ev 60 rfl) (H368.ev 61 rfl)) (rqadd_as _ g18 _ _ nX _ j1 _ X (Yy.take j1) (nX + my) (X ++ Yy) _ (ss HS366 [2]).frame (fun W9 k9 => (HXp _ ((HS366.row 4 rfl).chg k9 (nin_row (S1 := selB [⟨g16, 27, #[.slice (some ⟨gq367, 0, none⟩) (nX + my) cq367]⟩, ⟨gq367, 40, cbq367⟩, ⟨g18, 31, #[.slice A2 nX c2]⟩, ⟨gw, 40, cbw⟩, ⟨gx, 38, cbx⟩, ⟨g6, 33, #[.int .i64 kd, .slice By my dy]⟩, ⟨gi1, 38, cbi1⟩, ⟨g58_358, 40, cb58_358⟩] [2]) (ss HS366 [2, 0, 1, 3, 4, 5, 6, 7]) 3 rfl)))) (fun W9 k9 => (items_own ((HS366.row 6 rfl).chg k9 (nin_row (S1 := selB [⟨g16, 27, #[.slice (some ⟨gq367, 0, none⟩) (nX + my) cq367]⟩, ⟨gq367, 40, cbq367⟩, ⟨g18, 31, #[.slice A2 nX c2]⟩, ⟨gw, 40, cbw⟩, ⟨gx, 38, cbx⟩, ⟨g6, 33, #[.int .i64 kd, .slice By my dy]⟩, ⟨gi1, 38, cbi1⟩, ⟨g58_358, 40, cb58_358⟩] [2]) (ss HS366 [2, 0, 1, 3, 4, 5, 6, 7]) 5 rfl)) Oi1 (len_take' hYl (by omega)) (wfI_take hYw))) (by omega) (by omega) (its_all (X := X) hYl (by omega))) (fun _ w9 ⟨g9, c9, cb9, he, hO, hS⟩ => ⟨_, he, g9, c9, cb9, rfl, hO, St.reframe (ss HS366 [2, 0, 1, 3, 4, 5, 6, 7]) hS⟩)) ?_
      rintro _ W369 ⟨gq370, cq370, cbq370, rfl, Oq370, HS369⟩ a369 H369
      clear H368 HS366
      refine wl_ <| i_ H369 rfl (dd_cmp rfl (H369.ev 59 rfl) (H369.ev 62 rfl) (ne_f (by decide))) fun _ H371 => ln_ <| ?_
      clear H369
      have H372 := H371.sel [0, 3, 4, 5, 63] rfl
      refine nx <| cf_ H372 rfl <| wp_skip <| bn <| ?_
      clear H371
      exact nx (.inr ⟨(some ⟨gq367, 0, none⟩), cq367, (some ⟨gq370, 0, none⟩), cq370, gq367, cbq367, gq370, cbq370, (X ++ Yy), (nX + my), (by omega), (len_appI hX hYl rfl), (wfI_app hwf hYw), (hB.appI hYb), (fun W9 r9 => (items_own r9 Oq367 (len_appI hX hYl rfl) (wfI_app hwf hYw))), (fun W9 r9 => (items_own r9 Oq370 (len_appI hX hYl rfl) (wfI_app hwf hYw))), H372.sel [0, 3, 4, 5] rfl, ss HS369 [2, 0, 3, 1]⟩)
     refine wl_ <| p_ H305 rfl rfl fun _ H373 => ln_ <| nx <| wp_block <| wp_unr 1 <| unr_go <| sq_ <| sq_ <| rl_ <| wl_ <| p_ H373 rfl rfl fun _ H374 => wl_ <| i_ H374 rfl (xf 1 1 rfl (H374.ev 6 rfl)) fun _ H375 => wl_ <| i_ H375 rfl (dd_get HS295 4 1 rfl rfl (H375.ev 39 rfl) rfl Tryd.underlying25 rfl) fun _ H376 => wl_ <| i_ H376 rfl (v := .int .i64 my) (dd_len rfl (H376.ev 40 rfl) Tryd.underlying25) fun _ H377 => wl_ <| i_ H377 rfl (dd_cmp rfl (H377.ev 38 rfl) (H377.ev 41 rfl) (lt_f hc307)) fun _ H378 => ln_ <| nx <| cf_ H378 rfl <| wp_exit <| tx <| tx <| bx <| nx <| sq_ <| rl_ <| wl_ <| p_ H378 rfl rfl fun _ H379 => wl_ <| n_ H379 rfl (S := fun g55 => [⟨g16, 27, #[.slice A1 nX c1]⟩, ⟨g18, 31, #[.slice A2 nX c2]⟩, ⟨gw, 40, cbw⟩, ⟨gx, 38, cbx⟩, ⟨g6, 33, #[.int .i64 kd, .slice By my dy]⟩, ⟨g55, 40, #[]⟩]) (A := fun g55 => .slice (some ⟨g55, 0, none⟩) 0 0) (fun _ h => dd_lit0 HS295 rfl rfl Tryd.underlying25 (sz := 36) (by kernel_rfl) h) fun g55 _ HS380 _ H380 => ?_
     clear H305 H373 H374 H375 H376 H377 H378
     refine wl_ <| i_ H380 rfl (xf 1 1 rfl (H380.ev 6 rfl)) fun _ H381 => wl_ <| i_ H381 rfl (dd_get HS380 4 1 rfl rfl (H381.ev 56 rfl) rfl Tryd.underlying25 rfl) fun _ H382 => wl_ <| a_ H382 rfl (fun g58_384 c58_384 => .slice (some ⟨g58_384, 0, none⟩) (0 + my) c58_384) (T := fun _ c58_384 cb58_384 => OwnC cb58_384 c58_384 (0 + my) 36 (itemsL Yy)) (fun _ h => dd_appX HS380 5 rfl (ownc_nil0 36) rfl (H382.ev 55 rfl) (z := .agg (catA [[.int .i64 0], [.int .i64 0], [.string (⟨#[]⟩)], [.int .i64 0], bytesV (zer 32)])) (bytes := 72) Tryd.underlying25 (by kernel_rfl) rfl (by decide) (itemsL Yy) (H382.ev 57 rfl) (len_items (HY _ HS380.below).wf (HY _ HS380.below).len) (fun h9 => (HY _ HS380.below).at_ h9) (one_items _) (by unfold maxLen; omega) (by omega) h) fun g58_384 c58_384 cb58_384 W383 O58_384 HS383 _ H383 => ?_
     clear HS295 H379 H380 H381 HS380 H382
     by_cases hc386 : (4 : Int) < nX + my
     ·
      refine wl_ <| c_ H383 rfl HS383 (dcs Tryd.func11 rfl (args2 (H383.ev 54 rfl) (H383.ev 58 rfl)) (queadd_full g16 _ _ _ _ _ _ W383 (HS383.row 0 rfl) (by omega) (by omega) (by omega)) (.int .i64 19)) fun W387 HS387 _ H387 => q_ H387 2 rfl fun _ H388 => wl_ <| c_ H388 rfl HS387 (dcs Tryd.func12 rfl (args2 (H388.ev 60 rfl) (H388.ev 61 rfl)) (rqadd_full g18 _ _ _ _ _ _ W387 (HS387.row 1 rfl) (by omega) (by omega) (by omega)) (.int .i64 19)) fun _ HS389 _ H389 => wl_ <| i_ H389 rfl (dd_cmp rfl (H389.ev 59 rfl) (H389.ev 62 rfl) (ne_f (by decide))) fun _ H390 => ln_ <| ?_
      clear H383 HS383 H387 H388 HS387 H389
      have H391 := H390.sel [0, 3, 4, 5, 63] rfl
      refine nx <| cf_ H391 rfl <| wp_skip <| bn <| ?_
      clear H390
      exact nx (.inr ⟨A1, c1, A2, c2, gw, cbw, gx, cbx, X, nX, (by omega), hX, hwf, hB, (fun W9 r9 => (HXq _ r9)), (fun W9 r9 => (HXp _ r9)), H391.sel [0, 3, 4, 5] rfl, ss HS389 [0, 1, 2, 3]⟩)
     refine wl_ <| d_ H383 rfl (R := fun v9 w9 => ∃ gq393 : Nat, ∃ cq393 : Nat, ∃ cbq393 : Array Value, v9 = .int .i64 0 ∧ (OwnC cbq393 cq393 (nX + my) 36 (itemsL (X ++ Yy))) ∧ St w noF [⟨g16, 27, #[.slice (some ⟨gq393, 0, none⟩) (nX + my) cq393]⟩, ⟨gq393, 40, cbq393⟩, ⟨g18, 31, #[.slice A2 nX c2]⟩, ⟨gw, 40, cbw⟩, ⟨gx, 38, cbx⟩, ⟨g6, 33, #[.int .i64 kd, .slice By my dy]⟩, ⟨g58_384, 40, cb58_384⟩] w9) (dc_ Tryd.func11 rfl (args2 (H383.ev 54 rfl) (H383.ev 58 rfl)) (queadd_as _ g16 _ _ nX _ (0 + my) _ X Yy (nX + my) (X ++ Yy) _ (ss HS383 [0]).frame (fun W9 k9 => (HXq _ ((HS383.row 2 rfl).chg k9 (nin_row (S1 := selB [⟨g16, 27, #[.slice A1 nX c1]⟩, ⟨g18, 31, #[.slice A2 nX c2]⟩, ⟨gw, 40, cbw⟩, ⟨gx, 38, cbx⟩, ⟨g6, 33, #[.int .i64 kd, .slice By my dy]⟩, ⟨g58_384, 40, cb58_384⟩] [0]) (ss HS383 [0, 1, 2, 3, 4, 5]) 1 rfl)))) (fun W9 k9 => (items_own ((HS383.row 5 rfl).chg k9 (nin_row (S1 := selB [⟨g16, 27, #[.slice A1 nX c1]⟩, ⟨g18, 31, #[.slice A2 nX c2]⟩, ⟨gw, 40, cbw⟩, ⟨gx, 38, cbx⟩, ⟨g6, 33, #[.int .i64 kd, .slice By my dy]⟩, ⟨g58_384, 40, cb58_384⟩] [0]) (ss HS383 [0, 1, 2, 3, 4, 5]) 4 rfl)) O58_384 (by rw [hYl, Nat.zero_add]) hYw)) (by omega) (by omega) (by omega) rfl) (fun _ w9 ⟨g9, c9, cb9, he, hO, hS⟩ => ⟨_, he, g9, c9, cb9, rfl, hO, St.reframe (ss HS383 [0, 1, 2, 3, 4, 5]) hS⟩)) ?_
     rintro _ W392 ⟨gq393, cq393, cbq393, rfl, Oq393, HS392⟩ a392 H392
     clear H383 HS383
     refine q_ H392 2 rfl fun _ H394 => ?_
     clear H392
     refine wl_ <| d_ H394 rfl (R := fun v9 w9 => ∃ gq396 : Nat, ∃ cq396 : Nat, ∃ cbq396 : Array Value, v9 = .int .i64 0 ∧ (OwnC cbq396 cq396 (nX + my) 36 (itemsL (X ++ Yy))) ∧ St w noF [⟨g18, 31, #[.slice (some ⟨gq396, 0, none⟩) (nX + my) cq396]⟩, ⟨gq396, 38, cbq396⟩, ⟨g16, 27, #[.slice (some ⟨gq393, 0, none⟩) (nX + my) cq393]⟩, ⟨gq393, 40, cbq393⟩, ⟨gw, 40, cbw⟩, ⟨gx, 38, cbx⟩, ⟨g6, 33, #[.int .i64 kd, .slice By my dy]⟩, ⟨g58_384, 40, cb58_384⟩] w9) (dc_ Tryd.func12 rfl (args2 (H394.ev 60 rfl) (H394.ev 61 rfl)) (rqadd_as _ g18 _ _ nX _ 0 _ X ([]) (nX + my) (X ++ Yy) _ (ss HS392 [2]).frame (fun W9 k9 => (HXp _ ((HS392.row 4 rfl).chg k9 (nin_row (S1 := selB [⟨g16, 27, #[.slice (some ⟨gq393, 0, none⟩) (nX + my) cq393]⟩, ⟨gq393, 40, cbq393⟩, ⟨g18, 31, #[.slice A2 nX c2]⟩, ⟨gw, 40, cbw⟩, ⟨gx, 38, cbx⟩, ⟨g6, 33, #[.int .i64 kd, .slice By my dy]⟩, ⟨g58_384, 40, cb58_384⟩] [2]) (ss HS392 [2, 0, 1, 3, 4, 5, 6]) 3 rfl)))) (fun W9 k9 => (items_nil _ _ _)) (by omega) (by omega) (its_none hYl (by omega))) (fun _ w9 ⟨g9, c9, cb9, he, hO, hS⟩ => ⟨_, he, g9, c9, cb9, rfl, hO, St.reframe (ss HS392 [2, 0, 1, 3, 4, 5, 6]) hS⟩)) ?_
     rintro _ W395 ⟨gq396, cq396, cbq396, rfl, Oq396, HS395⟩ a395 H395
     clear H394 HS392
     refine wl_ <| i_ H395 rfl (dd_cmp rfl (H395.ev 59 rfl) (H395.ev 62 rfl) (ne_f (by decide))) fun _ H397 => ln_ <| ?_
     clear H395
     have H398 := H397.sel [0, 3, 4, 5, 63] rfl
     refine nx <| cf_ H398 rfl <| wp_skip <| bn <| ?_
     clear H397
     exact nx (.inr ⟨(some ⟨gq393, 0, none⟩), cq393, (some ⟨gq396, 0, none⟩), cq396, gq393, cbq393, gq396, cbq396, (X ++ Yy), (nX + my), (by omega), (len_appI hX hYl rfl), (wfI_app hwf hYw), (hB.appI hYb), (fun W9 r9 => (items_own r9 Oq393 (len_appI hX hYl rfl) (wfI_app hwf hYw))), (fun W9 r9 => (items_own r9 Oq396 (len_appI hX hYl rfl) (wfI_app hwf hYw))), H398.sel [0, 3, 4, 5] rfl, ss HS395 [2, 0, 3, 1]⟩)
    refine wl_ <| i_ H298 rfl (dd_cmp rfl (H298.ev 35 rfl) rfl (eq_f hc301)) fun _ H399 => wl_ <| p_ H399 rfl rfl fun _ H400 => ln_ <| nx <| cf_ H400 rfl <| sq_ <| rl_ <| ?_
    clear H298 H399
    by_cases hc402 : (kd : Int) = 1
    ·
     refine wl_ <| i_ H400 rfl (dd_cmp rfl (H400.ev 35 rfl) rfl (eq_t hc402)) fun _ H403 => wl_ <| p_ H403 rfl rfl fun _ H404 => ln_ <| ?_
     clear H400 H403
     have H405 := H404.sel [0, 3, 4, 5, 35, 64] rfl
     refine nx <| ct_ H405 rfl <| sq_ <| rl_ <| wl_ <| p_ H405 rfl rfl fun _ H406 => ?_
     clear H404 H405
     by_cases hc408 : (nX : Int) = 1
     ·
      refine wl_ <| d_ H406 rfl (R := fun v9 w9 => v9 = .bool true ∧ St w noF [⟨g16, 27, #[.slice (tl1 A1 c1) 0 (c1 - 1)]⟩, ⟨g18, 31, #[.slice A2 nX c2]⟩, ⟨gw, 40, cbw⟩, ⟨gx, 38, cbx⟩, ⟨g6, 33, #[.int .i64 kd, .slice By my dy]⟩] w9) (dc_ Tryd.func13 rfl (args1 (H406.ev 66 rfl)) (quepop_S _ g16 _ nX c1 0 _ (ss HS295 [0]).frame (by omega)) (fun _ w9 ⟨he, hS⟩ => ⟨_, he, rfl, St.reframe (ss HS295 [0, 1, 2, 3, 4]) hS⟩)) ?_
      rintro _ W409 ⟨rfl, HS409⟩ a409 H409
      clear H406 HS295
      refine wl_ <| p_ H409 rfl rfl fun _ H410 => ?_
      clear H409
      refine wl_ <| d_ H410 rfl (R := fun v9 w9 => ∃ gp412 : Nat, ∃ cp412 : Nat, ∃ cbp412 : Array Value, v9 = .bool true ∧ (OwnC cbp412 cp412 0 36 (itemsL X.tail)) ∧ St w noF [⟨g18, 31, #[.slice (some ⟨gp412, 0, none⟩) 0 cp412]⟩, ⟨gp412, 38, cbp412⟩, ⟨g16, 27, #[.slice (tl1 A1 c1) 0 (c1 - 1)]⟩, ⟨gw, 40, cbw⟩, ⟨gx, 38, cbx⟩, ⟨g6, 33, #[.int .i64 kd, .slice By my dy]⟩] w9) (dc_ Tryd.func14 rfl (args1 (H410.ev 68 rfl)) (rqpop_S _ g18 _ nX _ 0 X _ (ss HS409 [1]).frame (fun W9 k9 => (HXp _ ((HS409.row 3 rfl).chg k9 (nin_row (S1 := selB [⟨g16, 27, #[.slice (tl1 A1 c1) 0 (c1 - 1)]⟩, ⟨g18, 31, #[.slice A2 nX c2]⟩, ⟨gw, 40, cbw⟩, ⟨gx, 38, cbx⟩, ⟨g6, 33, #[.int .i64 kd, .slice By my dy]⟩] [1]) (ss HS409 [1, 0, 2, 3, 4]) 2 rfl)))) (by omega) (by omega)) (fun _ w9 ⟨g9, c9, cb9, he, hO, hS⟩ => ⟨_, he, g9, c9, cb9, rfl, hO, St.reframe (ss HS409 [1, 0, 2, 3, 4]) hS⟩)) ?_
      rintro _ W411 ⟨gp412, cp412, cbp412, rfl, Op412, HS411⟩ a411 H411
      clear H410 HS409
      refine wl_ <| i_ H411 rfl (v := .bool false) (dd_neb rfl (H411.ev 67 rfl) (H411.ev 69 rfl) Tryd.underlying4 rfl) fun _ H413 => ln_ <| nx <| cf_ H413 rfl <| wp_skip <| bn <| ?_
      clear H411
      exact nx (.inl ⟨(tl1 A1 c1), (c1 - 1), (some ⟨gp412, 0, none⟩), cp412, (by omega), H413.sel [0, 3, 4, 5] rfl, ss HS411 [2, 0]⟩)
     refine wl_ <| d_ H406 rfl (R := fun v9 w9 => v9 = .bool true ∧ St w noF [⟨g16, 27, #[.slice (tl1 A1 c1) (nX - 1) (c1 - 1)]⟩, ⟨g18, 31, #[.slice A2 nX c2]⟩, ⟨gw, 40, cbw⟩, ⟨gx, 38, cbx⟩, ⟨g6, 33, #[.int .i64 kd, .slice By my dy]⟩] w9) (dc_ Tryd.func13 rfl (args1 (H406.ev 66 rfl)) (quepop_S _ g16 _ nX c1 (nX - 1) _ (ss HS295 [0]).frame (by omega)) (fun _ w9 ⟨he, hS⟩ => ⟨_, he, rfl, St.reframe (ss HS295 [0, 1, 2, 3, 4]) hS⟩)) ?_
     rintro _ W414 ⟨rfl, HS414⟩ a414 H414
     clear H406 HS295
     refine wl_ <| p_ H414 rfl rfl fun _ H415 => ?_
     clear H414
     refine wl_ <| d_ H415 rfl (R := fun v9 w9 => ∃ gp417 : Nat, ∃ cp417 : Nat, ∃ cbp417 : Array Value, v9 = .bool true ∧ (OwnC cbp417 cp417 (nX - 1) 36 (itemsL X.tail)) ∧ St w noF [⟨g18, 31, #[.slice (some ⟨gp417, 0, none⟩) (nX - 1) cp417]⟩, ⟨gp417, 38, cbp417⟩, ⟨g16, 27, #[.slice (tl1 A1 c1) (nX - 1) (c1 - 1)]⟩, ⟨gw, 40, cbw⟩, ⟨gx, 38, cbx⟩, ⟨g6, 33, #[.int .i64 kd, .slice By my dy]⟩] w9) (dc_ Tryd.func14 rfl (args1 (H415.ev 68 rfl)) (rqpop_S _ g18 _ nX _ (nX - 1) X _ (ss HS414 [1]).frame (fun W9 k9 => (HXp _ ((HS414.row 3 rfl).chg k9 (nin_row (S1 := selB [⟨g16, 27, #[.slice (tl1 A1 c1) (nX - 1) (c1 - 1)]⟩, ⟨g18, 31, #[.slice A2 nX c2]⟩, ⟨gw, 40, cbw⟩, ⟨gx, 38, cbx⟩, ⟨g6, 33, #[.int .i64 kd, .slice By my dy]⟩] [1]) (ss HS414 [1, 0, 2, 3, 4]) 2 rfl)))) (by omega) (by omega)) (fun _ w9 ⟨g9, c9, cb9, he, hO, hS⟩ => ⟨_, he, g9, c9, cb9, rfl, hO, St.reframe (ss HS414 [1, 0, 2, 3, 4]) hS⟩)) ?_
     rintro _ W416 ⟨gp417, cp417, cbp417, rfl, Op417, HS416⟩ a416 H416
     clear H415 HS414
     refine wl_ <| i_ H416 rfl (v := .bool false) (dd_neb rfl (H416.ev 67 rfl) (H416.ev 69 rfl) Tryd.underlying4 rfl) fun _ H418 => ln_ <| nx <| cf_ H418 rfl <| wp_skip <| bn <| ?_
     clear H416
     exact nx (.inr ⟨(tl1 A1 c1), (c1 - 1), (some ⟨gp417, 0, none⟩), cp417, gw, cbw, gp417, cbp417, X.tail, (nX - 1), (by omega), (len_tlI hX (by omega)), (wfI_tail hwf), hB.tailI, (fun W9 r9 => ((HXq _ r9).tl (by omega))), (fun W9 r9 => (items_own r9 Op417 (len_tlI hX (by omega)) (wfI_tail hwf))), H418.sel [0, 3, 4, 5] rfl, ss HS416 [2, 0, 3, 1]⟩)
    refine wl_ <| i_ H400 rfl (dd_cmp rfl (H400.ev 35 rfl) rfl (eq_f hc402)) fun _ H419 => wl_ <| p_ H419 rfl rfl fun _ H420 => ln_ <| ?_
    clear H400 H419
    have H421 := H420.sel [0, 3, 4, 5, 35, 64] rfl
    refine nx <| cf_ H421 rfl <| sq_ <| rl_ <| ?_
    clear H420
    by_cases hc423 : (kd : Int) = 2
    ·
     refine wl_ <| i_ H421 rfl (dd_cmp rfl (H421.ev 35 rfl) rfl (eq_t hc423)) fun _ H424 => wl_ <| p_ H424 rfl rfl fun _ H425 => ln_ <| nx <| ct_ H425 rfl <| sq_ <| rl_ <| wl_ <| p_ H425 rfl rfl fun _ H426 => ?_
     clear H421 H424 H425
     refine wl_ <| d_ H426 rfl (R := fun v9 w9 => ∃ gi428 : Nat, ∃ ci428 : Nat, ∃ cbi428 : Array Value, v9 = .slice (some ⟨gi428, 0, none⟩) nX ci428 ∧ (OwnC cbi428 ci428 nX 1 (intsV (X.map (·.1)))) ∧ St w noF [⟨g16, 27, #[.slice none 0 0]⟩, ⟨gi428, 3, cbi428⟩, ⟨g18, 31, #[.slice A2 nX c2]⟩, ⟨gw, 40, cbw⟩, ⟨gx, 38, cbx⟩, ⟨g6, 33, #[.int .i64 kd, .slice By my dy]⟩] w9) (dc_ Tryd.func16 rfl (args1 (H426.ev 73 rfl)) (queclear_at _ g16 _ nX _ X _ (ss HS295 [0]).frame (fun W9 k9 => (HXq _ ((HS295.row 2 rfl).chg k9 (nin_row (S1 := selB [⟨g16, 27, #[.slice A1 nX c1]⟩, ⟨g18, 31, #[.slice A2 nX c2]⟩, ⟨gw, 40, cbw⟩, ⟨gx, 38, cbx⟩, ⟨g6, 33, #[.int .i64 kd, .slice By my dy]⟩] [0]) (ss HS295 [0, 1, 2, 3, 4]) 1 rfl)))) (by omega) (by omega)) (fun _ w9 ⟨g9, c9, cb9, he, hO, hS⟩ => ⟨_, he, g9, c9, cb9, rfl, hO, St.reframe (ss HS295 [0, 1, 2, 3, 4]) hS⟩)) ?_
     rintro _ W427 ⟨gi428, ci428, cbi428, rfl, Oi428, HS427⟩ a427 H427
     clear H426 HS295
     refine wl_ <| p_ H427 rfl rfl fun _ H429 => ?_
     clear H427
     refine wl_ <| d_ H429 rfl (R := fun v9 w9 => ∃ gi431 : Nat, ∃ ci431 : Nat, ∃ cbi431 : Array Value, v9 = .slice (some ⟨gi431, 0, none⟩) nX ci431 ∧ (OwnC cbi431 ci431 nX 1 (intsV (X.map (·.1)))) ∧ St w noF [⟨g18, 31, #[.slice none 0 0]⟩, ⟨gi431, 3, cbi431⟩, ⟨g16, 27, #[.slice none 0 0]⟩, ⟨gi428, 3, cbi428⟩, ⟨gw, 40, cbw⟩, ⟨gx, 38, cbx⟩, ⟨g6, 33, #[.int .i64 kd, .slice By my dy]⟩] w9) (dc_ Tryd.func17 rfl (args1 (H429.ev 75 rfl)) (rqclear_at _ g18 _ nX _ X _ (ss HS427 [2]).frame (fun W9 k9 => (HXp _ ((HS427.row 4 rfl).chg k9 (nin_row (S1 := selB [⟨g16, 27, #[.slice none 0 0]⟩, ⟨gi428, 3, cbi428⟩, ⟨g18, 31, #[.slice A2 nX c2]⟩, ⟨gw, 40, cbw⟩, ⟨gx, 38, cbx⟩, ⟨g6, 33, #[.int .i64 kd, .slice By my dy]⟩] [2]) (ss HS427 [2, 0, 1, 3, 4, 5]) 3 rfl)))) (by omega) (by omega)) (fun _ w9 ⟨g9, c9, cb9, he, hO, hS⟩ => ⟨_, he, g9, c9, cb9, rfl, hO, St.reframe (ss HS427 [2, 0, 1, 3, 4, 5]) hS⟩)) ?_
     rintro _ W430 ⟨gi431, ci431, cbi431, rfl, Oi431, HS430⟩ a430 H430
     clear H429 HS427
     refine wl_ <| c_ H430 rfl HS430 (v := .bool true) (dc_ Tryd.func15 rfl (args2 (H430.ev 74 rfl) (H430.ev 76 rfl)) (keepints_any (X.map (fun (x9 : It) => x9.1)) (X.map (fun (x9 : It) => x9.1)) _ _ _ _ _ _ W430 (ints_ownC (HS430.row 3 rfl) Oi428 hB) (ints_ownC (HS430.row 1 rfl) Oi431 hB) (by omega)) (fun _ w9 h9 => ⟨_, h9.1, by rw [decide_eq_true rfl], h9.2⟩)) fun _ HS432 _ H432 => wl_ <| i_ H432 rfl (v := .bool false) (dd_nt rfl (H432.ev 77 rfl) rfl) fun _ H433 => ln_ <| nx <| cf_ H433 rfl <| wp_skip <| bn <| ?_
     clear H430 HS430 H432
     exact nx (.inl ⟨none, 0, none, 0, (by omega), H433.sel [0, 3, 4, 5] rfl, ss HS432 [2, 0]⟩)
    refine wl_ <| i_ H421 rfl (dd_cmp rfl (H421.ev 35 rfl) rfl (eq_f hc423)) fun _ H434 => wl_ <| p_ H434 rfl rfl fun _ H435 => ln_ <| nx <| cf_ H435 rfl <| wp_skip <| bn <| ?_
    clear H421 H434
    exact nx (.inr ⟨A1, c1, A2, c2, gw, cbw, gx, cbx, X, nX, (by omega), hX, hwf, hB, (fun W9 r9 => (HXq _ r9)), (fun W9 r9 => (HXp _ r9)), H435.sel [0, 3, 4, 5] rfl, ss HS295 [0, 1, 2, 3]⟩)
   clear H298 HS295
   rintro aJ299 wJ299 (⟨A12, c12, A22, c22, hj2, HJ299, HSJ299⟩ | ⟨A12, c12, A22, c22, gw2, cbw2, gx2, cbx2, X2, nX2, hj2, hX2, hwf2, hB2, HXq2, HXp2, HJ299, HSJ299⟩)
   ·
    refine nx <| sq_ <| rl_ <| wl_ <| p_ HJ299 rfl rfl fun _ H437 => wl_ <| c_ H437 rfl HSJ299 (dcs Tryd.func18 rfl (args1 (H437.ev 80 rfl)) (quehead_none g16 _ _ wJ299 (HSJ299.row 0 rfl)) (.tuple #[.agg (catA [[.int .i64 0], [.int .i64 0], [.string (⟨#[]⟩)], [.int .i64 0], bytesV (zer 32)]), .bool false])) fun _ HS438 _ H438 => wl_ <| p_ H438 rfl rfl fun _ H439 => wl_ <| i_ H439 rfl (v := .agg (catA [[.int .i64 0], [.int .i64 0], [.string (⟨#[]⟩)], [.int .i64 0], bytesV (zer 32)])) (dd_ext rfl (H439.ev 79 rfl) rfl) fun _ H440 => wl_ <| i_ H440 rfl (v := .bool false) (dd_ext rfl (H440.ev 79 rfl) rfl) fun _ H441 => wl_ <| n_ H441 rfl (S := fun g9 => [⟨g16, 27, #[.slice A12 0 c12]⟩, ⟨g18, 31, #[.slice A22 0 c22]⟩, ⟨g9, 40, catA [[.int .i64 0], [.int .i64 0], [.string (⟨#[]⟩)], [.int .i64 0], bytesV (zer 32)]⟩]) (fun _ h => dd_new HS438 (catA [[.int .i64 0], [.int .i64 0], [.string (⟨#[]⟩)], [.int .i64 0], bytesV (zer 32)]) rfl (z := .agg (catA [[.int .i64 0], [.int .i64 0], [.string (⟨#[]⟩)], [.int .i64 0], bytesV (zer 32)])) (by kernel_rfl) rfl h) fun g9 _ HS442 _ H442 => wl_ <| t_ rfl (fun _ h => dd_setrow HS442 2 rfl rfl (H442.ev 9 rfl) (H442.ev 82 rfl) (by kernel_rfl) ((cat_size (lens_cons rfl (lens_cons rfl (lens_cons rfl (lens_cons rfl (lens_cons (len_bv (length_zer 32)) (lens_nil))))))) : (catA [[.int .i64 0], [.int .i64 0], [.string (⟨#[]⟩)], [.int .i64 0], bytesV (zer 32)]).size = 36) ((cat_size (lens_cons rfl (lens_cons rfl (lens_cons rfl (lens_cons rfl (lens_cons (len_bv (length_zer 32)) (lens_nil))))))) : (catA [[.int .i64 0], [.int .i64 0], [.string (⟨#[]⟩)], [.int .i64 0], bytesV (zer 32)]).size = 36) (cat_one (ones_cons (ones_c rfl) (ones_cons (ones_c rfl) (ones_cons (ones_c rfl) (ones_cons (ones_c rfl) (ones_cons (one_bytesV _) (ones_nil))))))) h) fun W443 HS443 => wl_ <| p_ H442 rfl rfl fun _ H444 => ?_
    clear HJ299 H437 HSJ299 H438 H439 H440 HS438 H441 HS442
    refine ln_ <| nx <| sq_ <| ?_
    clear H442
    refine wi_ HS443 [0, 1, 2] rfl [0, 1, 2] rfl fun HSh445 hx445 => hp_ H444 0 hx445 rfl rfl rfl fun _ H446 => hp_ H446 1 hx445 rfl rfl rfl fun _ H447 => ht_ H447 2 hx445 rfl rfl (fun _ _ _ => dd_nilc rfl (H447.ev 85 rfl)) fun _ H448 => ht_ H448 3 hx445 rfl rfl (fun _ _ _ => xf 0 0 rfl (H448.ev 86 rfl)) fun _ H449 => ht_ H449 4 hx445 rfl rfl (fun _ _ HS9 => dd_get HS9 1 0 rfl rfl (H449.ev 87 rfl) rfl Tryd.underlying29 rfl) fun _ H450 => ht_ H450 5 hx445 rfl rfl (v := .int .i64 0) (fun _ _ _ => dd_len rfl (H450.ev 88 rfl) Tryd.underlying29) fun _ H451 => ht_ H451 6 hx445 rfl rfl (fun _ _ _ => dd_cmp rfl (H451.ev 89 rfl) rfl (gt_f (by decide))) fun _ H452 => ?_
    clear HS443 H444 H446 H447 H448 H449 H450
    refine ht_ H452 7 hx445 rfl rfl (v := .bool false) (fun _ _ _ => dd_neb rfl (H452.ev 84 rfl) (H452.ev 90 rfl) Tryd.underlying4 rfl) fun _ H453 => hp_ H453 8 hx445 rfl rfl rfl fun _ H454 => htg H454 9 hx445 rfl (wg_ H454 rfl rfl rfl rfl) rfl (fun _ _ _ => dd_mv rfl (H454.ev 10 rfl)) fun _ H455 => htg H455 10 hx445 rfl (wg_ H455 rfl rfl rfl rfl) rfl (fun _ _ _ => dd_mv rfl (H455.ev 93 rfl)) fun _ H456 => hk_ H456 11 hx445 rfl (wg_ H456 rfl rfl rfl rfl) rfl fun _ H457 => hk_ H457 12 hx445 rfl (wg_ H457 rfl rfl rfl rfl) rfl fun _ H458 => hk_ H458 13 hx445 rfl (wg_ H458 rfl rfl rfl rfl) rfl fun _ H459 => hk_ H459 14 hx445 rfl (wg_ H459 rfl rfl rfl rfl) rfl fun _ H460 => ?_
    clear H451 H452 H453 H454 H455 H456 H457 H458
    refine hk_ H460 15 hx445 rfl (wg_ H460 rfl rfl rfl rfl) rfl fun _ H461 => hk_ H461 16 hx445 rfl (wg_ H461 rfl rfl rfl rfl) rfl fun _ H462 => hk_ H462 17 hx445 rfl (wg_ H462 rfl rfl rfl rfl) rfl fun _ H463 => hk_ H463 18 hx445 rfl (wg_ H463 rfl rfl rfl rfl) rfl fun _ H464 => hk_ H464 19 hx445 rfl (wg_ H464 rfl rfl rfl rfl) rfl fun _ H465 => htg H465 20 hx445 rfl (wg_ H465 rfl rfl rfl rfl) rfl (fun _ _ _ => dd_pickF rfl (H465.ev 94 rfl) rfl) fun _ H466 => hp_ H466 21 hx445 rfl rfl rfl fun _ H467 => hp_ H467 22 hx445 rfl rfl rfl fun _ H468 => ?_
    clear H459 H460 H461 H462 H463 H464 H465 H466
    refine htg H468 23 hx445 rfl (wg_ H468 rfl rfl rfl rfl) rfl (fun _ _ _ => dd_mv rfl (H468.ev 10 rfl)) fun _ H469 => htg H469 24 hx445 rfl (wg_ H469 rfl rfl rfl rfl) rfl (v := .bool true) (fun _ _ _ => dd_nt rfl (H469.ev 107 rfl) rfl) fun _ H470 => htg H470 25 hx445 rfl (wg_ H470 rfl rfl rfl rfl) rfl (fun _ _ _ => dd_mv rfl (H470.ev 108 rfl)) fun _ H471 => htg H471 26 hx445 rfl (wg_ H471 rfl rfl rfl rfl) rfl (v := .agg (catA [[.int .i64 0], [.int .i64 0], [.string (⟨#[]⟩)], [.int .i64 0], bytesV (zer 32)])) (fun _ _ HS9 => dd_load HS9 2 0 rfl rfl (H471.ev 9 rfl) (slab_whole _) Tryd.underlying40 rfl (by rw [show (catA [[.int .i64 0], [.int .i64 0], [.string (⟨#[]⟩)], [.int .i64 0], bytesV (zer 32)]).size = 36 from (cat_size (lens_cons rfl (lens_cons rfl (lens_cons rfl (lens_cons rfl (lens_cons (len_bv (length_zer 32)) (lens_nil)))))))]; kernel_rfl)) fun _ H472 => htg H472 27 hx445 rfl (wg_ H472 rfl rfl rfl rfl) rfl (v := .agg (catA [[.int .i64 0], [.int .i64 0], [.string (⟨#[]⟩)], [.int .i64 0], bytesV (zer 32)])) (fun _ _ _ => dd_bld rfl (ps := []) (pr0) (Lz := [[.int .i64 0], [.int .i64 0], [.string (⟨#[]⟩)], [.int .i64 0], bytesV (zer 32)]) (by kernel_rfl) (lens_cons rfl (lens_cons rfl (lens_cons rfl (lens_cons rfl (lens_cons (len_bv (length_zer 32)) (lens_nil)))))) (fit_nil) (cs := catA [[.int .i64 0], [.int .i64 0], [.string (⟨#[]⟩)], [.int .i64 0], bytesV (zer 32)]) rfl) fun _ H473 => htg H473 28 hx445 rfl (wg_ H473 rfl rfl rfl rfl) rfl (v := .bool false) (fun _ _ _ => dd_nea (b := true) rfl (H473.ev 110 rfl) (H473.ev 111 rfl) (by kernel_rfl) (fun w => by have h9 := eql_itm zit zit (length_zer 32) (length_zer 32) w; rw [decide_eq_true rfl] at h9; exact h9) rfl) fun _ H474 => htg H474 29 hx445 rfl (wg_ H474 rfl rfl rfl rfl) rfl (fun _ _ _ => dd_pickT rfl (H474.ev 109 rfl) (H474.ev 112 rfl)) fun _ H475 => hp_ H475 30 hx445 rfl rfl rfl fun _ H476 => ?_
    clear H467 H468 H469 H470 H471 H472 H473 H474
    refine hp_ H476 31 hx445 rfl rfl rfl fun _ H477 => htg H477 32 hx445 rfl (wg_ H477 rfl rfl rfl rfl) rfl (fun _ _ _ => dd_mv rfl (H477.ev 3 rfl)) fun _ H478 => htg H478 34 hx445 rfl (wg_ H478 rfl rfl rfl rfl) rfl (fun _ _ _ => dd_mv rfl (H478.ev 4 rfl)) fun _ H479 => htg H479 35 hx445 rfl (wg_ H479 rfl rfl rfl rfl) rfl (fun _ _ _ => dd_nilc rfl (H479.ev 118 rfl)) fun _ H480 => htg H480 36 hx445 rfl (wg_ H480 rfl rfl rfl rfl) rfl (fun _ _ _ => xf 0 0 rfl (H480.ev 119 rfl)) fun _ H481 => htg H481 37 hx445 rfl (wg_ H481 rfl rfl rfl rfl) rfl (fun _ _ HS9 => dd_get HS9 1 0 rfl rfl (H481.ev 120 rfl) rfl Tryd.underlying29 rfl) fun _ H482 => htg H482 38 hx445 rfl (wg_ H482 rfl rfl rfl rfl) rfl (v := .int .i64 0) (fun _ _ _ => dd_len rfl (H482.ev 121 rfl) Tryd.underlying29) fun _ H483 => h1_ 33 rfl <| cg H483 (wg_ H483 rfl rfl rfl rfl) rfl HSh445 (dcs Tryd.func19 rfl (args1 (H483.ev 116 rfl)) (quelen_any g16 _ _ _ W443.drew (HSh445.row 0 rfl)) (.int .i64 0)) fun _ HS484 _ H484 => ?_
    clear H475 H476 H477 H478 H479 H480 H481 H482
    refine sx_ (sxi HS484 [0, 1, 2] rfl) fun hx485 => htg H484 39 hx485 rfl (wg_ H484 rfl rfl rfl rfl) rfl (fun _ _ _ => dd_cmp rfl (H484.ev 117 rfl) (H484.ev 122 rfl) (ne_f (by decide))) fun _ H486 => hp_ H486 40 hx485 rfl rfl rfl fun _ H487 => ?_
    clear H483 HSh445 hx445 H484 H486
    refine wpAnyH_done (by kernel_rfl) ?_ _
    clear hx485
    refine nx <| cf_ H487 rfl <| wp_skip <| bn <| nx <| rl_ <| wl_ <| p_ H487 rfl rfl fun _ H488 => wl_ <| i_ H488 rfl (v := .int .i64 (i + 1)) (dd_ari rfl (H488.ev 23 rfl) rfl rfl (i64_of (by first | omega | (have := bd_lo; omega)) (by omega))) fun _ H489 => wl_ <| p_ H489 rfl rfl fun _ H490 => ln_ <| ?_
    clear H487 H488 H489
    have H491 := H490.sel [0, 3, 4, 5] rfl
    clear H490
    refine nx ⟨i + 1, .inl ⟨A12, c12, A22, c22, (by omega), H491.sel [0, 3, 4, 5] rfl, ss HS484 [0, 1]⟩, (by omega)⟩
   obtain ⟨bx, ox, hBx, _⟩ := (HXp2 _ (HSJ299.row 3 rfl)).at_ (by omega)
   have HPX : ∀ W, Row W gx2 38 cbx2 → CAt W bx ox (itemsL X2) := fun W r9 => cat_of (HXp2 W r9) hBx (by omega)
   refine nx <| sq_ <| rl_ <| wl_ <| p_ HJ299 rfl rfl fun _ H492 => ?_
   clear HJ299
   refine wl_ <| d_ H492 rfl (R := fun v w9 => ∃ y, v = .tuple #[.agg (catA [[.int .i64 y.1], [.int .i64 y.2.1], [.string (strB y.2.2.1)], [.int .i64 y.2.2.2.1], bytesV y.2.2.2.2]), .bool true] ∧ (X2[0]? = some y) ∧ (y.2.2.2.2.length = 32) ∧ Below wJ299.heap.size wJ299 w9) (dc_ Tryd.func18 rfl (args1 (H492.ev 80 rfl)) (quehead_at g16 _ _ _ _ wJ299 (HSJ299.row 0 rfl) (HXq2 _ (HSJ299.row 2 rfl)) (by omega)) (fun _ w9 ⟨y9, hy9, he, hb⟩ => ⟨_, he, y9, rfl, hy9, hwf2 y9 (List.mem_of_getElem? hy9), hb⟩)) ?_
   rintro _ W493 ⟨y, rfl, hy, hwy, hb493⟩ a493 H493
   have HS493 := HSJ299.same hb493
   clear H492
   clear HSJ299 hb493
   refine wl_ <| p_ H493 rfl rfl fun _ H494 => wl_ <| i_ H494 rfl (v := .agg (catA [[.int .i64 y.1], [.int .i64 y.2.1], [.string (strB y.2.2.1)], [.int .i64 y.2.2.2.1], bytesV y.2.2.2.2])) (dd_ext rfl (H494.ev 79 rfl) rfl) fun _ H495 => wl_ <| i_ H495 rfl (v := .bool true) (dd_ext rfl (H495.ev 79 rfl) rfl) fun _ H496 => wl_ <| n_ H496 rfl (S := fun g9 => [⟨g16, 27, #[.slice A12 nX2 c12]⟩, ⟨g18, 31, #[.slice A22 nX2 c22]⟩, ⟨gw2, 40, cbw2⟩, ⟨gx2, 38, cbx2⟩, ⟨g9, 40, catA [[.int .i64 0], [.int .i64 0], [.string (⟨#[]⟩)], [.int .i64 0], bytesV (zer 32)]⟩]) (fun _ h => dd_new HS493 (catA [[.int .i64 0], [.int .i64 0], [.string (⟨#[]⟩)], [.int .i64 0], bytesV (zer 32)]) rfl (z := .agg (catA [[.int .i64 0], [.int .i64 0], [.string (⟨#[]⟩)], [.int .i64 0], bytesV (zer 32)])) (by kernel_rfl) rfl h) fun g9 _ HS497 _ H497 => wl_ <| t_ rfl (fun _ h => dd_setrow HS497 4 rfl rfl (H497.ev 9 rfl) (H497.ev 82 rfl) (by kernel_rfl) ((cat_size (lens_cons rfl (lens_cons rfl (lens_cons rfl (lens_cons rfl (lens_cons (len_bv hwy) (lens_nil))))))) : (catA [[.int .i64 y.1], [.int .i64 y.2.1], [.string (strB y.2.2.1)], [.int .i64 y.2.2.2.1], bytesV y.2.2.2.2]).size = 36) ((cat_size (lens_cons rfl (lens_cons rfl (lens_cons rfl (lens_cons rfl (lens_cons (len_bv (length_zer 32)) (lens_nil))))))) : (catA [[.int .i64 0], [.int .i64 0], [.string (⟨#[]⟩)], [.int .i64 0], bytesV (zer 32)]).size = 36) (cat_one (ones_cons (ones_c rfl) (ones_cons (ones_c rfl) (ones_cons (ones_c rfl) (ones_cons (ones_c rfl) (ones_cons (one_bytesV _) (ones_nil))))))) h) fun W498 HS498 => wl_ <| p_ H497 rfl rfl fun _ H499 => ln_ <| nx <| sq_ <| ?_
   clear H493 H494 H495 HS493 H496 HS497 H497
   refine wi_ HS498 [0, 1, 2, 3, 4] rfl [0, 1, 2, 3, 4] rfl fun HSh500 hx500 => hp_ H499 0 hx500 rfl rfl rfl fun _ H501 => hp_ H501 1 hx500 rfl rfl rfl fun _ H502 => ht_ H502 2 hx500 rfl rfl (fun _ _ _ => dd_nilc rfl (H502.ev 85 rfl)) fun _ H503 => ht_ H503 3 hx500 rfl rfl (fun _ _ _ => xf 0 0 rfl (H503.ev 86 rfl)) fun _ H504 => ht_ H504 4 hx500 rfl rfl (fun _ _ HS9 => dd_get HS9 1 0 rfl rfl (H504.ev 87 rfl) rfl Tryd.underlying29 rfl) fun _ H505 => ht_ H505 5 hx500 rfl rfl (v := .int .i64 nX2) (fun _ _ _ => dd_len rfl (H505.ev 88 rfl) Tryd.underlying29) fun _ H506 => ht_ H506 6 hx500 rfl rfl (fun _ _ _ => dd_cmp rfl (H506.ev 89 rfl) rfl (gt_t (by omega))) fun _ H507 => ?_
   clear HS498 H499 H501 H502 H503 H504 H505
   refine ht_ H507 7 hx500 rfl rfl (v := .bool false) (fun _ _ _ => dd_neb rfl (H507.ev 84 rfl) (H507.ev 90 rfl) Tryd.underlying4 rfl) fun _ H508 => hp_ H508 8 hx500 rfl rfl rfl fun _ H509 => htg H509 9 hx500 rfl (wg_ H509 rfl rfl rfl rfl) rfl (fun _ _ _ => dd_mv rfl (H509.ev 10 rfl)) fun _ H510 => htg H510 10 hx500 rfl (wg_ H510 rfl rfl rfl rfl) rfl (fun _ _ _ => dd_mv rfl (H510.ev 93 rfl)) fun _ H511 => htg H511 11 hx500 rfl (wg_ H511 rfl rfl rfl rfl) rfl (v := .agg (catA [[.int .i64 y.1], [.int .i64 y.2.1], [.string (strB y.2.2.1)], [.int .i64 y.2.2.2.1], bytesV y.2.2.2.2])) (fun _ _ HS9 => dd_load HS9 4 0 rfl rfl (H511.ev 9 rfl) (slab_whole _) Tryd.underlying40 rfl (by rw [show (catA [[.int .i64 y.1], [.int .i64 y.2.1], [.string (strB y.2.2.1)], [.int .i64 y.2.2.2.1], bytesV y.2.2.2.2]).size = 36 from (cat_size (lens_cons rfl (lens_cons rfl (lens_cons rfl (lens_cons rfl (lens_cons (len_bv hwy) (lens_nil)))))))]; kernel_rfl)) fun _ H512 => htg H512 13 hx500 rfl (wg_ H512 rfl rfl rfl rfl) rfl (fun _ _ _ => dd_mv rfl (H512.ev 4 rfl)) fun _ H513 => htg H513 14 hx500 rfl (wg_ H513 rfl rfl rfl rfl) rfl (fun _ _ _ => dd_nilc rfl (H513.ev 97 rfl)) fun _ H514 => htg H514 15 hx500 rfl (wg_ H514 rfl rfl rfl rfl) rfl (fun _ _ _ => xf 0 0 rfl (H514.ev 98 rfl)) fun _ H515 => ?_
   clear H506 H507 H508 H509 H510 H511 H512 H513
   refine htg H515 16 hx500 rfl (wg_ H515 rfl rfl rfl rfl) rfl (fun _ _ HS9 => dd_get HS9 1 0 rfl rfl (H515.ev 99 rfl) rfl Tryd.underlying29 rfl) fun _ H516 => htg H516 17 hx500 rfl (wg_ H516 rfl rfl rfl rfl) rfl (fun _ _ _ => dd_idxS (sz := 36) (j := ox + 0 * 36) rfl (sl_at (H516.ev 100 rfl) hBx) rfl (by kernel_rfl) (by omega) (by omega) (by omega)) fun _ H517 => htg H517 18 hx500 rfl (wg_ H517 rfl rfl rfl rfl) rfl (v := .agg (catA [[.int .i64 y.1], [.int .i64 y.2.1], [.string (strB y.2.2.1)], [.int .i64 y.2.2.2.1], bytesV y.2.2.2.2])) (fun _ _ HS9 => dd_atN rfl (H517.ev 101 rfl) (item_all (HPX _ (HS9.row 3 rfl)) hwf2 hy) Tryd.underlying38 rfl (by show _ = some (catA [[.int .i64 y.1], [.int .i64 y.2.1], [.string (strB y.2.2.1)], [.int .i64 y.2.2.2.1], bytesV y.2.2.2.2]).toList.length; rw [show (catA [[.int .i64 y.1], [.int .i64 y.2.1], [.string (strB y.2.2.1)], [.int .i64 y.2.2.2.1], bytesV y.2.2.2.2]).toList.length = 36 from (Array.length_toList).trans (cat_size (lens_cons rfl (lens_cons rfl (lens_cons rfl (lens_cons rfl (lens_cons (len_bv hwy) (lens_nil)))))))]; kernel_rfl)) fun _ H518 => h1_ 12 rfl <| cg H518 (wg_ H518 rfl rfl rfl rfl) rfl HSh500 (dcs Tryd.func10 rfl (args1 (H518.ev 95 rfl)) (qown_any y W498.drew hwy) (.agg (catA [[.int .i64 y.1], [.int .i64 y.2.1], [.string (strB y.2.2.1)], [.int .i64 y.2.2.2.1], bytesV y.2.2.2.2]))) fun W519 HS519 _ H519 => sx_ (sxi HS519 [0, 1, 2, 3, 4] rfl) fun hx520 => htg H519 19 hx520 rfl (wg_ H519 rfl rfl rfl rfl) rfl (v := .bool false) (fun _ _ _ => dd_nea (b := true) rfl (H519.ev 96 rfl) (H519.ev 102 rfl) (by kernel_rfl) (fun w => by have h9 := eql_ritm y y hwy hwy w; rw [decide_eq_true rfl] at h9; exact h9) rfl) fun _ H521 => htg H521 20 hx520 rfl (wg_ H521 rfl rfl rfl rfl) rfl (fun _ _ _ => dd_pickT rfl (H521.ev 94 rfl) (H521.ev 103 rfl)) fun _ H522 => hp_ H522 21 hx520 rfl rfl rfl fun _ H523 => ?_
   clear H514 H515 H516 H517 H518 HSh500 hx500 H519 H521
   refine hp_ H523 22 hx520 rfl rfl rfl fun _ H524 => htg H524 23 hx520 rfl (wg_ H524 rfl rfl rfl rfl) rfl (fun _ _ _ => dd_mv rfl (H524.ev 10 rfl)) fun _ H525 => htg H525 24 hx520 rfl (wg_ H525 rfl rfl rfl rfl) rfl (v := .bool false) (fun _ _ _ => dd_nt rfl (H525.ev 107 rfl) rfl) fun _ H526 => htg H526 25 hx520 rfl (wg_ H526 rfl rfl rfl rfl) rfl (fun _ _ _ => dd_mv rfl (H526.ev 108 rfl)) fun _ H527 => hk_ H527 26 hx520 rfl (wg_ H527 rfl rfl rfl rfl) rfl fun _ H528 => hk_ H528 27 hx520 rfl (wg_ H528 rfl rfl rfl rfl) rfl fun _ H529 => hk_ H529 28 hx520 rfl (wg_ H529 rfl rfl rfl rfl) rfl fun _ H530 => htg H530 29 hx520 rfl (wg_ H530 rfl rfl rfl rfl) rfl (fun _ _ _ => dd_pickF rfl (H530.ev 109 rfl) rfl) fun _ H531 => ?_
   clear H522 H523 H524 H525 H526 H527 H528 H529
   refine hp_ H531 30 hx520 rfl rfl rfl fun _ H532 => hp_ H532 31 hx520 rfl rfl rfl fun _ H533 => htg H533 32 hx520 rfl (wg_ H533 rfl rfl rfl rfl) rfl (fun _ _ _ => dd_mv rfl (H533.ev 3 rfl)) fun _ H534 => htg H534 34 hx520 rfl (wg_ H534 rfl rfl rfl rfl) rfl (fun _ _ _ => dd_mv rfl (H534.ev 4 rfl)) fun _ H535 => htg H535 35 hx520 rfl (wg_ H535 rfl rfl rfl rfl) rfl (fun _ _ _ => dd_nilc rfl (H535.ev 118 rfl)) fun _ H536 => htg H536 36 hx520 rfl (wg_ H536 rfl rfl rfl rfl) rfl (fun _ _ _ => xf 0 0 rfl (H536.ev 119 rfl)) fun _ H537 => htg H537 37 hx520 rfl (wg_ H537 rfl rfl rfl rfl) rfl (fun _ _ HS9 => dd_get HS9 1 0 rfl rfl (H537.ev 120 rfl) rfl Tryd.underlying29 rfl) fun _ H538 => htg H538 38 hx520 rfl (wg_ H538 rfl rfl rfl rfl) rfl (v := .int .i64 nX2) (fun _ _ _ => dd_len rfl (H538.ev 121 rfl) Tryd.underlying29) fun _ H539 => ?_
   clear H530 H531 H532 H533 H534 H535 H536 H537
   refine h1_ 33 rfl <| cg H539 (wg_ H539 rfl rfl rfl rfl) rfl HS519 (dcs Tryd.func19 rfl (args1 (H539.ev 116 rfl)) (quelen_any g16 _ _ _ W519 (HS519.row 0 rfl)) (.int .i64 nX2)) fun _ HS540 _ H540 => sx_ (sxi HS540 [0, 1, 2, 3, 4] rfl) fun hx541 => htg H540 39 hx541 rfl (wg_ H540 rfl rfl rfl rfl) rfl (fun _ _ _ => dd_cmp rfl (H540.ev 117 rfl) (H540.ev 122 rfl) (ne_f rfl)) fun _ H542 => hp_ H542 40 hx541 rfl rfl rfl fun _ H543 => ?_
   clear H538 H539 HS519 hx520 H540 H542
   refine wpAnyH_done (by kernel_rfl) ?_ _
   clear hx541
   refine nx <| cf_ H543 rfl <| wp_skip <| bn <| nx <| rl_ <| wl_ <| p_ H543 rfl rfl fun _ H544 => wl_ <| i_ H544 rfl (v := .int .i64 (i + 1)) (dd_ari rfl (H544.ev 23 rfl) rfl rfl (i64_of (by first | omega | (have := bd_lo; omega)) (by omega))) fun _ H545 => wl_ <| p_ H545 rfl rfl fun _ H546 => ln_ <| ?_
   clear H543 H544 H545
   have H547 := H546.sel [0, 3, 4, 5] rfl
   clear H546
   refine nx ⟨i + 1, .inr (⟨A12, c12, A22, c22, gw2, cbw2, gx2, cbx2, X2, nX2, (by omega), hX2, hwf2, hB2, (fun W9 r9 => (HXq2 _ r9)), (fun W9 r9 => (HXp2 _ r9)), H547.sel [0, 3, 4, 5] rfl, ss HS540 [0, 1, 2, 3]⟩), (by omega)⟩
  refine wl_ <| i_ H277 rfl (dd_cmp rfl (H277.ev 19 rfl) (H277.ev 21 rfl) (lt_f hc279)) fun _ H548 => ln_ <| nx <| cf_ H548 rfl <| wp_exit <| tx <| tx <| bx <| nx <| sq_ <| rl_ <| wl_ <| c_ H548 rfl HSL11 (dcs Tryd.func8 rfl (args0 ) (qwakes_any wL11) (.bool true)) fun _ HS549 _ H549 => wl_ <| p_ H549 rfl rfl fun _ H550 => ln_ <| nx <| wp_ret <| ret_run H550.env0 (res_t Tryd.results3 (H550.get 2 rfl)) <| ?_
  clear H277 H548 HSL11 H549
  exact ⟨rfl, HS549.below⟩
theorem quplay_any (A : Option Addr) (n c : Nat) (l : List (Int × List Ri)) (w : World) (hs : StepsQ w (.slice A n c) l) : Calls Tryd.prog 3 #[.slice A n c] w fun x w' => x = .returned (.bool true) ∧ Below w.heap.size w w' := by
  by_cases h : n ≤ 100
  · by_cases h0 : n = 0
    · subst h0
      exact quplay_zero A c w
    · obtain ⟨b, o, _, _, _, _, _, rfl, _⟩ := stepsQ_get hs (k := 0) (by omega)
      exact quplay_walk b o n c l w h hs
  · exact quplay_many A n c w (by omega)
end Go.Proofs.YtnmaplgodimohaaDoor
