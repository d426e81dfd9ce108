/- ModelNone: for every step the call returns true and changes nothing that it was handed. Conditions: those of the row. -/
import Derived.Test.YtefhenkdakokeaaRows
import Derived.Test.YtefhenkdakokeaaMAw0
import Derived.Test.YtefhenkdakokeaaMGen0
/- The statement ModelNone: its walk. -/
set_option maxRecDepth 4000
namespace Go.Proofs.Ytefhenkdakokeaa
open Go Go.RowKit
theorem mfair_one (g : Nat) (k z : Int) (q d : List (BitVec 8)) (w : World) (hd : d.length = 32) (hr : Row w g 34 (catA [[.int .i64 k], [.string (strB q)], [.int .i64 z], bytesV d])) : Calls Try.prog 6 #[.slice (some ⟨g, 0, none⟩) 1 1] w fun x w' => x = .returned (.bool (decide (q.length ≤ 100))) ∧ Below w.heap.size w w' := by
  have HS := St.nil w noF
  have HR : ∀ W, Below w.heap.size w W → Row W g 34 (catA [[.int .i64 k], [.string (strB q)], [.int .i64 z], bytesV d]) := fun W hb => hr.call hb
  refine enter_en Try.func6 rfl Try.ntmps6 (Nat.le_of_ble_eq_true rfl) fun a0 (HA0 : En 20 [(0, .slice (some ⟨g, 0, none⟩) 1 1)] a0) => ?_
  refine sq_ <| rl_ <| wl_ <| p_ HA0 rfl rfl fun _ H1 => ln_ <| nx <| sq_ <| sq_ <| rl_ <| wl_ <| p_ H1 rfl rfl fun _ H2 => ln_ <| nx <| wp_block <| wp_unr 2 <| unr_go <| sq_ <| sq_ <| rl_ <| q_ H2 2 rfl fun _ H3 => wl_ <| i_ H3 rfl (v := .int .i64 1) (dd_len rfl (H3.ev 5 rfl) Try.underlying22) fun _ H4 => wl_ <| i_ H4 rfl (dd_cmp rfl (H4.ev 4 rfl) (H4.ev 6 rfl) (lt_t (by decide))) fun _ H5 => ln_ <| nx <| ct_ H5 rfl <| wp_skip <| nx <| sq_ <| wp_block <| sq_ <| rl_ <| q_ H5 2 rfl fun _ H6 => wl_ <| i_ H6 rfl (xS 35 0 rfl (H6.ev 10 rfl) (H6.ev 11 rfl)) fun _ H7 => wl_ <| i_ H7 rfl (xf 1 1 rfl (H7.ev 12 rfl)) fun _ H8 => ?_
  clear HA0 H1 H2 H3 H4 H5 H6
  refine wl_ <| i_ H8 rfl (dd_getR (HR _ HS.below) rfl (H8.ev 13 rfl) (cat_get (lens_cons rfl (lens_cons rfl (lens_cons rfl (lens_cons (len_bv hd) (lens_nil))))) 1 rfl rfl) Try.underlying9 rfl) fun _ H9 => wl_ <| i_ H9 rfl (v := .int .i64 q.length) (dd_lens rfl (H9.ev 14 rfl) Try.underlying9 (by rw [strB_size])) fun _ H10 => ?_
  clear H7 H8 H9
  by_cases hc12 : (100 : Int) < q.length
  ·
   refine wl_ <| i_ H10 rfl (dd_cmp rfl (H10.ev 15 rfl) rfl (gt_t hc12)) fun _ H13 => ln_ <| nx <| ct_ H13 rfl <| sq_ <| rl_ <| wl_ <| p_ H13 rfl rfl fun _ H14 => ln_ <| nx <| wp_ret <| br_ <| tr <| tr <| br_ <| tr <| ret_run H14.env0 (res_t Try.results6 (H14.get 2 rfl)) <| ?_
   clear H10 H13
   exact ⟨by rw [decide_eq_false (by omega)], HS.below⟩
  refine wl_ <| i_ H10 rfl (dd_cmp rfl (H10.ev 15 rfl) rfl (gt_f hc12)) fun _ H15 => ln_ <| nx <| cf_ H15 rfl <| wp_skip <| bn <| nx <| rl_ <| wl_ <| p_ H15 rfl rfl fun _ H16 => wl_ <| i_ H16 rfl (v := .int .i64 1) (dd_ari rfl (H16.ev 8 rfl) rfl rfl (by decide)) fun _ H17 => wl_ <| p_ H17 rfl rfl fun _ H18 => ln_ <| nx <| unr_go <| sq_ <| sq_ <| rl_ <| q_ H18 2 rfl fun _ H19 => wl_ <| i_ H19 rfl (v := .int .i64 1) (dd_len rfl (H19.ev 5 rfl) Try.underlying22) fun _ H20 => wl_ <| i_ H20 rfl (dd_cmp rfl (H20.ev 4 rfl) (H20.ev 6 rfl) (lt_f (by decide))) fun _ H21 => ln_ <| nx <| cf_ H21 rfl <| wp_exit <| tx <| tx <| bx <| nx <| sq_ <| rl_ <| wl_ <| p_ H21 rfl rfl fun _ H22 => ?_
  clear H10 H15 H16 H17 H18 H19 H20
  refine wl_ <| i_ H22 rfl (v := .int .i64 1) (dd_len rfl (H22.ev 17 rfl) Try.underlying22) fun _ H23 => wl_ <| i_ H23 rfl (dd_cmp rfl (H23.ev 18 rfl) rfl (le_t (by decide))) fun _ H24 => wl_ <| p_ H24 rfl rfl fun _ H25 => ln_ <| ?_
  clear H21 H22 H23 H24
  have H26 := H25.sel [2] rfl
  refine nx <| wp_ret <| ret_run H26.env0 (res_t Try.results6 (H26.get 2 rfl)) <| ?_
  clear H25
  exact ⟨by rw [decide_eq_true (by omega)], HS.below⟩
set_option maxHeartbeats 800000 in
theorem mdnone_walk (k z : Int) (q d : List (BitVec 8)) (w : World) (hd : d.length = 32) : Calls Try.prog 4 #[.agg (catA [[.int .i64 k], [.string (strB q)], [.int .i64 z], bytesV d])] w fun x w' => x = .returned (.bool true) ∧ Below w.heap.size w w' := by
  have HS := St.nil w noF
  refine enter_en Try.func4 rfl Try.ntmps4 (Nat.le_of_ble_eq_true rfl) fun a0 (HA0 : En 68 [(0, .agg (catA [[.int .i64 k], [.string (strB q)], [.int .i64 z], bytesV d]))] a0) => ?_
  refine sq_ <| rl_ <| wl_ <| n_ HA0 rfl (fun _ h => dd_box HS rfl (HA0.ev 0 rfl) (cs := (catA [[.int .i64 k], [.string (strB q)], [.int .i64 z], bytesV d])) rfl h) fun _ _ HS1 _ H1 => wl_ <| p_ H1 rfl rfl fun _ H2 => ln_ <| nx <| sq_ <| sq_ <| rl_ <| wl_ <| i_ H2 rfl (v := .agg (catA [[.int .i64 k], [.string (strB q)], [.int .i64 z], bytesV d])) (dd_load HS1 0 0 rfl rfl (H2.ev 1 rfl) (slab_whole _) Try.underlying34 rfl (by rw [show (catA [[.int .i64 k], [.string (strB q)], [.int .i64 z], bytesV d]).size = 35 from (cat_size (lens_cons rfl (lens_cons rfl (lens_cons rfl (lens_cons (len_bv hd) (lens_nil))))))]; kernel_rfl)) fun _ H3 => wl_ <| n_ H3 rfl (fun _ h => dd_lit1 HS1 (z := .agg (catA [[.int .i64 0], [.string (⟨#[]⟩)], [.int .i64 0], bytesV (zer 32)])) (sz := 35) rfl (H3.ev 6 rfl) Try.underlying22 (by kernel_rfl) (cat_size (lens_cons rfl (lens_cons rfl (lens_cons rfl (lens_cons (len_bv hd) (lens_nil)))))) rfl rfl h) fun g7 W4 HS4 _ H4 => ?_
  clear HS HA0 H1 H2 HS1 H3
  cases hb6 : decide (q.length ≤ 100)
  ·
   refine wl_ <| c_ H4 rfl HS4 (v := .bool false) (dc_ Try.func6 rfl (args1 (H4.ev 7 rfl)) (mfair_one g7 k z q d W4 hd (HS4.row 1 rfl)) (fun _ w9 h9 => ⟨_, h9.1, by rw [hb6], h9.2⟩)) fun W7 HS7 _ H7 => wl_ <| i_ H7 rfl (v := .bool true) (dd_nt rfl (H7.ev 8 rfl) rfl) fun _ H8 => ln_ <| nx <| ct_ H8 rfl <| sq_ <| rl_ <| wl_ <| c_ H8 rfl HS7 (dcs Try.func7 rfl (args0 ) (mwakes_any W7) (.bool true)) fun _ HS9 _ H9 => wl_ <| p_ H9 rfl rfl fun _ H10 => ln_ <| nx <| wp_ret <| tr <| ret_run H10.env0 (res_t Try.results4 (H10.get 2 rfl)) <| ?_
   clear H4 HS4 H7 H8 HS7 H9
   exact ⟨rfl, HS9.below⟩
  refine wl_ <| c_ H4 rfl HS4 (v := .bool true) (dc_ Try.func6 rfl (args1 (H4.ev 7 rfl)) (mfair_one g7 k z q d W4 hd (HS4.row 1 rfl)) (fun _ w9 h9 => ⟨_, h9.1, by rw [hb6], h9.2⟩)) fun W11 HS11 _ H11 => wl_ <| i_ H11 rfl (v := .bool false) (dd_nt rfl (H11.ev 8 rfl) rfl) fun _ H12 => ln_ <| nx <| cf_ H12 rfl <| wp_skip <| nx <| sq_ <| rl_ <| wl_ <| p_ H12 rfl rfl fun _ H13 => ln_ <| nx <| sq_ <| rl_ <| wl_ <| p_ H13 rfl rfl fun _ H14 => wl_ <| i_ H14 rfl (xf 1 1 rfl (H14.ev 1 rfl)) fun _ H15 => wl_ <| i_ H15 rfl (dd_get HS11 0 1 rfl rfl (H15.ev 13 rfl) (cat_get (lens_cons rfl (lens_cons rfl (lens_cons rfl (lens_cons (len_bv hd) (lens_nil))))) 1 rfl rfl) Try.underlying9 rfl) fun _ H16 => wl_ <| i_ H16 rfl (xf 2 2 rfl (H16.ev 1 rfl)) fun _ H17 => wl_ <| i_ H17 rfl (dd_get HS11 0 2 rfl rfl (H17.ev 15 rfl) (cat_get (lens_cons rfl (lens_cons rfl (lens_cons rfl (lens_cons (len_bv hd) (lens_nil))))) 2 rfl rfl) Try.underlying3 rfl) fun _ H18 => ?_
  clear H4 HS4 H11 H12 H13 H14 H15 H16
  refine wl_ <| c_ H18 rfl HS11 (v := .tuple #[.agg (bs (zer 32)), .int .i64 1]) (dc_ Try.func15 rfl (args3 (H18.ev 12 rfl) (H18.ev 14 rfl) (H18.ev 16 rfl)) (mread_nil _ _ W11) (fun _ w9 h9 => ⟨_, h9.1, rfl, h9.2⟩)) fun _ HS19 _ H19 => wl_ <| p_ H19 rfl rfl fun _ H20 => wl_ <| i_ H20 rfl (v := .agg (bs (zer 32))) (dd_ext rfl (H20.ev 11 rfl) rfl) fun _ H21 => wl_ <| i_ H21 rfl (v := .int .i64 1) (dd_ext rfl (H21.ev 11 rfl) rfl) fun _ H22 => wl_ <| n_ H22 rfl (fun _ h => dd_new HS19 (bs (zer 32)) rfl (z := .agg (bs (zer 32))) (by kernel_rfl) rfl h) fun _ _ HS23 _ H23 => wl_ <| t_ rfl (fun _ h => dd_setrow HS23 2 rfl rfl (H23.ev 4 rfl) (H23.ev 18 rfl) (by kernel_rfl) (((size_bs _).trans (length_zer 32)) : (bs (zer 32)).size = 32) (((size_bs _).trans (length_zer 32)) : (bs (zer 32)).size = 32) (one_bs _) h) fun W24 HS24 => wl_ <| p_ H23 rfl rfl fun _ H25 => ln_ <| nx <| sq_ <| rl_ <| wl_ <| p_ H25 rfl rfl fun _ H26 => ?_
  clear H17 H18 HS11 H19 H20 H21 HS19 H22 HS23 H23
  refine wl_ <| i_ H26 rfl (xf 1 1 rfl (H26.ev 1 rfl)) fun _ H27 => wl_ <| i_ H27 rfl (dd_get HS24 0 1 rfl rfl (H27.ev 21 rfl) (cat_get (lens_cons rfl (lens_cons rfl (lens_cons rfl (lens_cons (len_bv hd) (lens_nil))))) 1 rfl rfl) Try.underlying9 rfl) fun _ H28 => wl_ <| i_ H28 rfl (xf 2 2 rfl (H28.ev 1 rfl)) fun _ H29 => wl_ <| i_ H29 rfl (dd_get HS24 0 2 rfl rfl (H29.ev 23 rfl) (cat_get (lens_cons rfl (lens_cons rfl (lens_cons rfl (lens_cons (len_bv hd) (lens_nil))))) 2 rfl rfl) Try.underlying3 rfl) fun _ H30 => wl_ <| c_ H30 rfl HS24 (dcs Try.func9 rfl (args3 (H30.ev 20 rfl) (H30.ev 22 rfl) (H30.ev 24 rfl)) (mmake_nil _ _ W24) (.int .i64 1)) fun W31 HS31 _ H31 => wl_ <| i_ H31 rfl (dd_cmp rfl (H31.ev 25 rfl) rfl (eq_t (by decide))) fun _ H32 => wl_ <| p_ H32 rfl rfl fun _ H33 => wl_ <| ig H33 (wg_ H33 rfl rfl rfl rfl) rfl (dd_mv rfl (H33.ev 3 rfl)) fun _ H34 => ?_
  clear H25 H26 H27 H28 H29 H30 HS24 H31 H32
  refine wl_ <| ig H34 (wg_ H34 rfl rfl rfl rfl) rfl (xf 1 1 rfl (H34.ev 1 rfl)) fun _ H35 => wl_ <| ig H35 (wg_ H35 rfl rfl rfl rfl) rfl (dd_get HS31 0 1 rfl rfl (H35.ev 29 rfl) (cat_get (lens_cons rfl (lens_cons rfl (lens_cons rfl (lens_cons (len_bv hd) (lens_nil))))) 1 rfl rfl) Try.underlying9 rfl) fun _ H36 => wl_ <| cg H36 (wg_ H36 rfl rfl rfl rfl) rfl HS31 (dcs Try.func11 rfl (args2 (H36.ev 28 rfl) (H36.ev 30 rfl)) (mgone_nil _ W31) (.int .i64 1)) fun W37 HS37 _ H37 => wl_ <| ig H37 (wg_ H37 rfl rfl rfl rfl) rfl (dd_cmp rfl (H37.ev 31 rfl) rfl (eq_t (by decide))) fun _ H38 => q_ H38 2 rfl fun _ H39 => wl_ <| ig H39 (wg_ H39 rfl rfl rfl rfl) rfl (dd_mv rfl (H39.ev 3 rfl)) fun _ H40 => wl_ <| ig H40 (wg_ H40 rfl rfl rfl rfl) rfl (xf 1 1 rfl (H40.ev 1 rfl)) fun _ H41 => wl_ <| ig H41 (wg_ H41 rfl rfl rfl rfl) rfl (dd_get HS37 0 1 rfl rfl (H41.ev 36 rfl) (cat_get (lens_cons rfl (lens_cons rfl (lens_cons rfl (lens_cons (len_bv hd) (lens_nil))))) 1 rfl rfl) Try.underlying9 rfl) fun _ H42 => ?_
  clear H33 H34 H35 H36 HS31 H37 H38 H39 H40
  refine wl_ <| ig H42 (wg_ H42 rfl rfl rfl rfl) rfl (xf 2 2 rfl (H42.ev 1 rfl)) fun _ H43 => wl_ <| ig H43 (wg_ H43 rfl rfl rfl rfl) rfl (dd_get HS37 0 2 rfl rfl (H43.ev 38 rfl) (cat_get (lens_cons rfl (lens_cons rfl (lens_cons rfl (lens_cons (len_bv hd) (lens_nil))))) 2 rfl rfl) Try.underlying3 rfl) fun _ H44 => wl_ <| ig H44 (wg_ H44 rfl rfl rfl rfl) rfl (xf 3 3 rfl (H44.ev 1 rfl)) fun _ H45 => wl_ <| ig H45 (wg_ H45 rfl rfl rfl rfl) rfl (v := .agg (bs d)) (dd_load HS37 0 3 rfl rfl (H45.ev 40 rfl) (cat_slab1 (lens_cons rfl (lens_cons rfl (lens_cons rfl (lens_cons (len_bv hd) (lens_nil))))) 3 rfl rfl) Try.underlying32 rfl (by rw [show (bs d).size = 32 from ((size_bs _).trans hd)]; kernel_rfl)) fun _ H46 => wl_ <| cg H46 (wg_ H46 rfl rfl rfl rfl) rfl HS37 (dcs Try.func14 rfl (args4 (H46.ev 35 rfl) (H46.ev 37 rfl) (H46.ev 39 rfl) (H46.ev 41 rfl)) (mwrite_nil _ _ _ W37) (.int .i64 1)) fun W47 HS47 _ H47 => wl_ <| ig H47 (wg_ H47 rfl rfl rfl rfl) rfl (dd_cmp rfl (H47.ev 42 rfl) rfl (eq_t (by decide))) fun _ H48 => q_ H48 2 rfl fun _ H49 => wl_ <| ig H49 (wg_ H49 rfl rfl rfl rfl) rfl (v := .agg (bs (zer 32))) (dd_load HS47 2 0 rfl rfl (H49.ev 4 rfl) (slab_whole _) Try.underlying32 rfl (by rw [show (bs (zer 32)).size = 32 from ((size_bs _).trans (length_zer 32))]; kernel_rfl)) fun _ H50 => ?_
  clear H41 H42 H43 H44 H45 H46 HS37 H47 H48
  refine wl_ <| ig H50 (wg_ H50 rfl rfl rfl rfl) rfl (v := .agg (bs (zer 32))) (dd_bldk rfl (ps := []) (pr0) (cs := bs (zer 32)) (by kernel_rfl)) fun _ H51 => wl_ <| ig H51 (wg_ H51 rfl rfl rfl rfl) rfl (v := .bool true) (dd_eqa (b := true) rfl (H51.ev 46 rfl) (H51.ev 47 rfl) (by kernel_rfl) (fun w => by have h9 := eql_blk (zer 32) (zer 32) (length_zer 32) (length_zer 32) w; rw [decide_eq_true rfl] at h9; exact h9)) fun _ H52 => q_ H52 2 rfl fun _ H53 => wl_ <| ig H53 (wg_ H53 rfl rfl rfl rfl) rfl (dd_mv rfl (H53.ev 5 rfl)) fun _ H54 => wl_ <| ig H54 (wg_ H54 rfl rfl rfl rfl) rfl (dd_cmp rfl (H54.ev 51 rfl) rfl (eq_t (by decide))) fun _ H55 => q_ H55 2 rfl fun _ H56 => wl_ <| ig H56 (wg_ H56 rfl rfl rfl rfl) rfl (dd_mv rfl (H56.ev 3 rfl)) fun _ H57 => wl_ <| cg H57 (wg_ H57 rfl rfl rfl rfl) rfl HS47 (dcs Try.func17 rfl (args1 (H57.ev 55 rfl)) (mnames_nil W47) (.slice none 0 0)) fun W58 HS58 _ H58 => ?_
  clear H49 H50 H51 H52 H53 H54 H55 H56
  refine wl_ <| ig H58 (wg_ H58 rfl rfl rfl rfl) rfl (v := .int .i64 0) (dd_len rfl (H58.ev 56 rfl) Try.underlying49) fun _ H59 => wl_ <| ig H59 (wg_ H59 rfl rfl rfl rfl) rfl (dd_cmp rfl (H59.ev 57 rfl) rfl (eq_t (by decide))) fun _ H60 => q_ H60 2 rfl fun _ H61 => wl_ <| ig H61 (wg_ H61 rfl rfl rfl rfl) rfl (dd_mv rfl (H61.ev 3 rfl)) fun _ H62 => wl_ <| cg H62 (wg_ H62 rfl rfl rfl rfl) rfl HS58 (dcs Try.func19 rfl (args1 (H62.ev 61 rfl)) (mfree_nil W58) (.int .i64 0)) fun W63 HS63 _ H63 => wl_ <| ig H63 (wg_ H63 rfl rfl rfl rfl) rfl (dd_cmp rfl (H63.ev 62 rfl) rfl (eq_t (by decide))) fun _ H64 => q_ H64 2 rfl fun _ H65 => wl_ <| cg H65 (wg_ H65 rfl rfl rfl rfl) rfl HS63 (dcs Try.func7 rfl (args0 ) (mwakes_any W63) (.bool true)) fun _ HS66 _ H66 => ?_
  clear H57 HS47 H58 H59 H60 H61 H62 HS58 H63 H64
  refine q_ H66 2 rfl fun _ H67 => ln_ <| ?_
  clear H65 HS63 H66
  have H68 := H67.sel [2] rfl
  refine nx <| wp_ret <| ret_run H68.env0 (res_t Try.results4 (H68.get 2 rfl)) <| ?_
  clear H67
  exact ⟨rfl, HS66.below⟩
end Go.Proofs.Ytefhenkdakokeaa

/- ModelNone: for every step the call returns true and changes nothing that it was handed. Conditions: those of the row. -/
set_option maxRecDepth 4000
namespace Go.Proofs.Ytefhenkdakokeaa.modelNone
open Go Go.ChangeShapes Go.WideShapes Go.ChangeAt Go.RowKit

theorem contract (H : Type) (enc : TypeId × Value → H) (W : World) (base : Nat) (args : Array Value) (ds gs : List (DataW H)) (before : List MemPlace)
    (hval : ∀ (j : Nat) t v, Try.f4.params[j]? = some t → args[j]? = some v → Value.okWide Try.prog W .any base t v)
    (hW : DataW.Whole enc Try.prog Try.f4.params.toList Rows.modelNoneSpec.vars false W args.toList ds gs before) :
    Calls Try.prog 4 args W fun e W' => ∃ v, e = .returned v ∧ Rows.modelNoneSpec.post enc Try.prog Try.f4 false true false false W args v W' := by
  have hW' := hW
  obtain ⟨p, q, hA0, hV, rfl, _, _⟩ := hW
  have hA : DataW.TrodAll enc Try.prog W 0 (fun _ => true) true Try.f4.params.toList args.toList ds p := hA0
  rw [Try.params4] at hA hval
  obtain ⟨v0, vs0, d0, ds0, p0, q0, hargs, rfl, rfl, h0, r0⟩ := trodAll_cons hA
  obtain ⟨rfl, rfl, rfl⟩ := trodAll_nil r0
  obtain rfl : args = #[v0] := by cases args; simp_all
  obtain ⟨rfl, rfl⟩ := trodVars_none hV
  have hlt0 : ∀ x ∈ p0, x.block < W.heap.size := fun x hx => hW'.lt x (by simp [hx])
  obtain ⟨k0, z0, q0, d0x, rfl, hd0⟩ := open_stp (hval 0 34 v0 rfl rfl) h0 hlt0
  refine (mdnone_walk k0 z0 q0 d0x W hd0).mono fun e W' ⟨he, hb⟩ => ?_
  subst he
  exact ⟨_, rfl, [d0], [], _, [], _, [], hW', trodAll_cons_mk (shut_bool Try.underlying4 _) trodAll_mk0, trodAll_cons_mk (Below.trod laidOutT (by kernel_rfl) (of_decide_eq_true (by kernel_rfl)) h0 hb hlt0) trodAll_mk0, rfl, hb.frame _, fun h => by cases h⟩

set_option maxRecDepth 100000 in
theorem lifted (os : Os) (started : os.Started) (H : Type) (enc : TypeId × Value → H) :
    ReturnsInHanded {} Try.checked os 4 .any (Rows.modelNoneSpec.pre6 enc Try.prog Try.f4 Rows.modelNoneRow.domain false) (Rows.modelNoneSpec.post enc Try.prog Try.f4 false true false false) := by
  refine returnsInHanded_of_change (C := Try.checked) ownK started (by kernel_rfl) Try.func4
    (ChangeSpec.witness6 (enc := enc) (C := Try.checked) false ⟨#[], #[.agg (catA [[.int .i64 0], [.string ⟨#[]⟩], [.int .i64 0], bytesV (zer 32)])], []⟩ 8 (by kernel_rfl) (by kernel_rfl) (by kernel_rfl) (by kernel_rfl)) ?_
  intro W base args ds gs before hval hW _ _
  exact contract H enc W base args ds gs before hval hW

theorem said : Rows.ModelNoneSaid :=
  OpenClaim.holds_of_wide 4 Try.f4 rfl rfl rfl rfl rfl rfl rfl ⟨rfl, rfl, rfl, rfl, rfl⟩ rfl rfl rfl rfl rfl (by kernel_rfl) Try.func4 (by kernel_rfl)
    (of_decide_eq_true (by kernel_rfl)) (by unfold Func.isWrapper; first | (rw [if_pos (by decide +kernel)]; kernel_rfl) | (rw [if_neg (by decide +kernel)]; exact ⟨rfl, rfl⟩))
    (fun os started H enc _ => lifted os started H enc)
end Go.Proofs.Ytefhenkdakokeaa.modelNone
