/- QueueNone, as its tied card: for every item the call returns true and changes nothing that it was handed. Conditions: those of the row (the tables of runes lie as the program's text lays them, which the card ties to the pruned copy). -/
import Derived.Test.YtnmaplgodimohaaDoorMAw2
import Derived.Test.YtnmaplgodimohaaDoorMNode0
/- The statement QueueNone: its walk. -/
set_option maxRecDepth 4000
namespace Go.Proofs.YtnmaplgodimohaaDoor
open Go Go.RowKit
def zit : It := (0, 0, [], 0, zer 32)
theorem wf_one {y : It} (hy : y.2.2.2.2.length = 32) : wfI [y] := fun x hx => by rw [List.mem_singleton] at hx; subst hx; exact hy
set_option maxHeartbeats 800000 in
theorem qunone_walk (y : It) (w : World) (hy : y.2.2.2.2.length = 32) : Calls Tryd.prog 6 #[.agg (catA [[.int .i64 y.1], [.int .i64 y.2.1], [.string (strB y.2.2.1)], [.int .i64 y.2.2.2.1], bytesV y.2.2.2.2])] w fun x w' => x = .returned (.bool true) ∧ Below w.heap.size w w' := by
  have HS := St.nil w noF
  refine enter_en Tryd.func6 rfl Tryd.ntmps6 (Nat.le_of_ble_eq_true rfl) fun a0 (HA0 : En 49 [(0, .agg (catA [[.int .i64 y.1], [.int .i64 y.2.1], [.string (strB y.2.2.1)], [.int .i64 y.2.2.2.1], bytesV y.2.2.2.2]))] a0) => ?_
  refine sq_ <| rl_ <| wl_ <| n_ HA0 rfl (fun _ h => dd_box HS rfl (HA0.ev 0 rfl) (cs := (catA [[.int .i64 y.1], [.int .i64 y.2.1], [.string (strB y.2.2.1)], [.int .i64 y.2.2.2.1], bytesV y.2.2.2.2])) rfl h) fun g1 _ HS1 _ H1 => wl_ <| p_ H1 rfl rfl fun _ H2 => ln_ <| nx <| sq_ <| sq_ <| rl_ <| wl_ <| i_ H2 rfl (v := .agg (catA [[.int .i64 y.1], [.int .i64 y.2.1], [.string (strB y.2.2.1)], [.int .i64 y.2.2.2.1], bytesV y.2.2.2.2])) (dd_load HS1 0 0 rfl rfl (H2.ev 1 rfl) (slab_whole _) Tryd.underlying40 rfl (by rw [show (catA [[.int .i64 y.1], [.int .i64 y.2.1], [.string (strB y.2.2.1)], [.int .i64 y.2.2.2.1], bytesV y.2.2.2.2]).size = 36 from (cat_size (lens_cons rfl (lens_cons rfl (lens_cons rfl (lens_cons rfl (lens_cons (len_bv hy) (lens_nil)))))))]; kernel_rfl)) fun _ H3 => wl_ <| n_ H3 rfl (fun _ h => dd_lit1 HS1 (z := .agg (catA [[.int .i64 0], [.int .i64 0], [.string (⟨#[]⟩)], [.int .i64 0], bytesV (zer 32)])) (sz := 36) rfl (H3.ev 6 rfl) Tryd.underlying25 (by kernel_rfl) (cat_size (lens_cons rfl (lens_cons rfl (lens_cons rfl (lens_cons rfl (lens_cons (len_bv hy) (lens_nil))))))) rfl rfl h) fun g7 W4 HS4 _ H4 => ?_
  clear HS HA0 H1 H2 HS1 H3
  cases hb6 : fairI ([y])
  ·
   refine wl_ <| c_ H4 rfl HS4 (v := .bool false) (dc_ Tryd.func9 rfl (args1 (H4.ev 7 rfl)) (qfair_any _ 1 _ ([y]) W4 (items_row (X := [y]) (HS4.row 1 rfl) (items_one _).symm rfl (wf_one hy)) (by decide)) (fun _ w9 h9 => ⟨_, h9.1, by rw [hb6], h9.2⟩)) fun W7 HS7 _ H7 => wl_ <| i_ H7 rfl (v := .bool true) (dd_nt rfl (H7.ev 8 rfl) rfl) fun _ H8 => ln_ <| nx <| ct_ H8 rfl <| sq_ <| rl_ <| wl_ <| c_ H8 rfl HS7 (dcs Tryd.func8 rfl (args0 ) (qwakes_any W7) (.bool true)) fun _ HS9 _ H9 => wl_ <| p_ H9 rfl rfl fun _ H10 => ln_ <| nx <| wp_ret <| tr <| ret_run H10.env0 (res_t Tryd.results6 (H10.get 2 rfl)) <| ?_
   clear H4 HS4 H7 H8 HS7 H9
   exact ⟨rfl, HS9.below⟩
  refine wl_ <| c_ H4 rfl HS4 (v := .bool true) (dc_ Tryd.func9 rfl (args1 (H4.ev 7 rfl)) (qfair_any _ 1 _ ([y]) W4 (items_row (X := [y]) (HS4.row 1 rfl) (items_one _).symm rfl (wf_one hy)) (by decide)) (fun _ w9 h9 => ⟨_, h9.1, by rw [hb6], h9.2⟩)) fun W11 HS11 _ H11 => wl_ <| i_ H11 rfl (v := .bool false) (dd_nt rfl (H11.ev 8 rfl) rfl) fun _ H12 => ln_ <| nx <| cf_ H12 rfl <| wp_skip <| nx <| sq_ <| rl_ <| wl_ <| p_ H12 rfl rfl fun _ H13 => ln_ <| nx <| sq_ <| rl_ <| wl_ <| p_ H13 rfl rfl fun _ H14 => wl_ <| c_ H14 rfl HS11 (dcs Tryd.func18 rfl (args1 (H14.ev 12 rfl)) (quehead_nil W11) (.tuple #[.agg (catA [[.int .i64 0], [.int .i64 0], [.string (⟨#[]⟩)], [.int .i64 0], bytesV (zer 32)]), .bool false])) fun _ HS15 _ H15 => wl_ <| p_ H15 rfl rfl fun _ H16 => wl_ <| i_ H16 rfl (v := .agg (catA [[.int .i64 0], [.int .i64 0], [.string (⟨#[]⟩)], [.int .i64 0], bytesV (zer 32)])) (dd_ext rfl (H16.ev 11 rfl) rfl) fun _ H17 => wl_ <| i_ H17 rfl (v := .bool false) (dd_ext rfl (H17.ev 11 rfl) rfl) fun _ H18 => ?_
  clear H4 HS4 H11 H12 H13 H14 HS11 H15 H16
  refine wl_ <| n_ H18 rfl (fun _ h => dd_new HS15 (catA [[.int .i64 0], [.int .i64 0], [.string (⟨#[]⟩)], [.int .i64 0], bytesV (zer 32)]) rfl (z := .agg (catA [[.int .i64 0], [.int .i64 0], [.string (⟨#[]⟩)], [.int .i64 0], bytesV (zer 32)])) (by kernel_rfl) rfl h) fun g4 _ HS19 _ H19 => wl_ <| t_ rfl (fun _ h => dd_setrow HS19 2 rfl rfl (H19.ev 4 rfl) (H19.ev 14 rfl) (by kernel_rfl) ((cat_size (lens_cons rfl (lens_cons rfl (lens_cons rfl (lens_cons rfl (lens_cons (len_bv (length_zer 32)) (lens_nil))))))) : (catA [[.int .i64 0], [.int .i64 0], [.string (⟨#[]⟩)], [.int .i64 0], bytesV (zer 32)]).size = 36) ((cat_size (lens_cons rfl (lens_cons rfl (lens_cons rfl (lens_cons rfl (lens_cons (len_bv (length_zer 32)) (lens_nil))))))) : (catA [[.int .i64 0], [.int .i64 0], [.string (⟨#[]⟩)], [.int .i64 0], bytesV (zer 32)]).size = 36) (cat_one (ones_cons (ones_c rfl) (ones_cons (ones_c rfl) (ones_cons (ones_c rfl) (ones_cons (ones_c rfl) (ones_cons (one_bytesV _) (ones_nil))))))) h) fun _ HS20 => wl_ <| p_ H19 rfl rfl fun _ H21 => ln_ <| nx <| sq_ <| rl_ <| wl_ <| p_ H21 rfl rfl fun _ H22 => wl_ <| i_ H22 rfl (v := .agg (catA [[.int .i64 y.1], [.int .i64 y.2.1], [.string (strB y.2.2.1)], [.int .i64 y.2.2.2.1], bytesV y.2.2.2.2])) (dd_load HS20 0 0 rfl rfl (H22.ev 1 rfl) (slab_whole _) Tryd.underlying40 rfl (by rw [show (catA [[.int .i64 y.1], [.int .i64 y.2.1], [.string (strB y.2.2.1)], [.int .i64 y.2.2.2.1], bytesV y.2.2.2.2]).size = 36 from (cat_size (lens_cons rfl (lens_cons rfl (lens_cons rfl (lens_cons rfl (lens_cons (len_bv hy) (lens_nil)))))))]; kernel_rfl)) fun _ H23 => wl_ <| n_ H23 rfl (S := fun g18 => [⟨g1, 40, catA [[.int .i64 y.1], [.int .i64 y.2.1], [.string (strB y.2.2.1)], [.int .i64 y.2.2.2.1], bytesV y.2.2.2.2]⟩, ⟨g7, 40, catA [[.int .i64 y.1], [.int .i64 y.2.1], [.string (strB y.2.2.1)], [.int .i64 y.2.2.2.1], bytesV y.2.2.2.2]⟩, ⟨g4, 40, catA [[.int .i64 0], [.int .i64 0], [.string (⟨#[]⟩)], [.int .i64 0], bytesV (zer 32)]⟩, ⟨g18, 40, catA [[.int .i64 y.1], [.int .i64 y.2.1], [.string (strB y.2.2.1)], [.int .i64 y.2.2.2.1], bytesV y.2.2.2.2]⟩]) (fun _ h => dd_lit1 HS20 (z := .agg (catA [[.int .i64 0], [.int .i64 0], [.string (⟨#[]⟩)], [.int .i64 0], bytesV (zer 32)])) (sz := 36) rfl (H23.ev 17 rfl) Tryd.underlying25 (by kernel_rfl) (cat_size (lens_cons rfl (lens_cons rfl (lens_cons rfl (lens_cons rfl (lens_cons (len_bv hy) (lens_nil))))))) rfl rfl h) fun g18 W24 HS24 _ H24 => wl_ <| c_ H24 rfl HS24 (dcs Tryd.func11 rfl (args2 (H24.ev 16 rfl) (H24.ev 18 rfl)) (queadd_nil _ _ _ W24) (.int .i64 1)) fun W25 HS25 _ H25 => wl_ <| i_ H25 rfl (dd_cmp rfl (H25.ev 19 rfl) rfl (eq_t (by decide))) fun _ H26 => ?_
  clear H17 HS15 H18 HS19 H19 H21 H22 HS20 H23 H24 HS24
  refine wl_ <| p_ H26 rfl rfl fun _ H27 => wl_ <| ig H27 (wg_ H27 rfl rfl rfl rfl) rfl (v := .agg (catA [[.int .i64 0], [.int .i64 0], [.string (⟨#[]⟩)], [.int .i64 0], bytesV (zer 32)])) (dd_load HS25 2 0 rfl rfl (H27.ev 4 rfl) (slab_whole _) Tryd.underlying40 rfl (by rw [show (catA [[.int .i64 0], [.int .i64 0], [.string (⟨#[]⟩)], [.int .i64 0], bytesV (zer 32)]).size = 36 from (cat_size (lens_cons rfl (lens_cons rfl (lens_cons rfl (lens_cons rfl (lens_cons (len_bv (length_zer 32)) (lens_nil)))))))]; kernel_rfl)) fun _ H28 => wl_ <| ig H28 (wg_ H28 rfl rfl rfl rfl) rfl (v := .agg (catA [[.int .i64 0], [.int .i64 0], [.string (⟨#[]⟩)], [.int .i64 0], bytesV (zer 32)])) (dd_bld rfl (ps := []) (pr0) (Lz := [[.int .i64 0], [.int .i64 0], [.string (⟨#[]⟩)], [.int .i64 0], bytesV (zer 32)]) (by kernel_rfl) (lens_cons rfl (lens_cons rfl (lens_cons rfl (lens_cons rfl (lens_cons (len_bv (length_zer 32)) (lens_nil)))))) (fit_nil) (cs := catA [[.int .i64 0], [.int .i64 0], [.string (⟨#[]⟩)], [.int .i64 0], bytesV (zer 32)]) rfl) fun _ H29 => wl_ <| ig H29 (wg_ H29 rfl rfl rfl rfl) rfl (v := .bool true) (dd_eqa (b := true) rfl (H29.ev 22 rfl) (H29.ev 23 rfl) (by kernel_rfl) (fun w => by have h9 := eql_itm zit zit (length_zer 32) (length_zer 32) w; rw [decide_eq_true rfl] at h9; exact h9)) fun _ H30 => q_ H30 2 rfl fun _ H31 => wl_ <| ig H31 (wg_ H31 rfl rfl rfl rfl) rfl (dd_mv rfl (H31.ev 5 rfl)) fun _ H32 => wl_ <| ig H32 (wg_ H32 rfl rfl rfl rfl) rfl (v := .bool true) (dd_nt rfl (H32.ev 27 rfl) rfl) fun _ H33 => q_ H33 2 rfl fun _ H34 => ?_
  clear H25 H26 H27 H28 H29 H30 H31 H32
  refine wl_ <| ig H34 (wg_ H34 rfl rfl rfl rfl) rfl (dd_mv rfl (H34.ev 3 rfl)) fun _ H35 => wl_ <| cg H35 (wg_ H35 rfl rfl rfl rfl) rfl HS25 (dcs Tryd.func13 rfl (args1 (H35.ev 31 rfl)) (quepop_nil W25) (.bool false)) fun W36 HS36 _ H36 => wl_ <| ig H36 (wg_ H36 rfl rfl rfl rfl) rfl (v := .bool true) (dd_nt rfl (H36.ev 32 rfl) rfl) fun _ H37 => q_ H37 2 rfl fun _ H38 => wl_ <| ig H38 (wg_ H38 rfl rfl rfl rfl) rfl (dd_mv rfl (H38.ev 3 rfl)) fun _ H39 => wl_ <| cg H39 (wg_ H39 rfl rfl rfl rfl) rfl HS36 (dcs Tryd.func16 rfl (args1 (H39.ev 36 rfl)) (queclear_nil W36) (.slice none 0 0)) fun W40 HS40 _ H40 => wl_ <| ig H40 (wg_ H40 rfl rfl rfl rfl) rfl (v := .int .i64 0) (dd_len rfl (H40.ev 37 rfl) Tryd.underlying45) fun _ H41 => wl_ <| ig H41 (wg_ H41 rfl rfl rfl rfl) rfl (dd_cmp rfl (H41.ev 38 rfl) rfl (eq_t (by decide))) fun _ H42 => ?_
  clear H33 H34 H35 HS25 H36 H37 H38 H39 HS36 H40
  refine q_ H42 2 rfl fun _ H43 => wl_ <| ig H43 (wg_ H43 rfl rfl rfl rfl) rfl (dd_mv rfl (H43.ev 3 rfl)) fun _ H44 => wl_ <| cg H44 (wg_ H44 rfl rfl rfl rfl) rfl HS40 (dcs Tryd.func19 rfl (args1 (H44.ev 42 rfl)) (quelen_nil W40) (.int .i64 0)) fun W45 HS45 _ H45 => wl_ <| ig H45 (wg_ H45 rfl rfl rfl rfl) rfl (dd_cmp rfl (H45.ev 43 rfl) rfl (eq_t (by decide))) fun _ H46 => q_ H46 2 rfl fun _ H47 => wl_ <| cg H47 (wg_ H47 rfl rfl rfl rfl) rfl HS45 (dcs Tryd.func8 rfl (args0 ) (qwakes_any W45) (.bool true)) fun _ HS48 _ H48 => q_ H48 2 rfl fun _ H49 => ln_ <| ?_
  clear H41 H42 H43 H44 HS40 H45 H46 H47 HS45 H48
  have H50 := H49.sel [2] rfl
  refine nx <| wp_ret <| ret_run H50.env0 (res_t Tryd.results6 (H50.get 2 rfl)) <| ?_
  clear H49
  exact ⟨rfl, HS48.below⟩
end Go.Proofs.YtnmaplgodimohaaDoor

/- QueueNone, as its tied card: for every item the call returns true and changes nothing that it was handed. Conditions: those of the row (the tables of runes lie as the program's text lays them, which the card ties to the pruned copy). -/
set_option maxRecDepth 4000
namespace Go.Proofs.YtnmaplgodimohaaDoor.queueNone
open Go Go.ChangeShapes Go.WideShapes Go.ChangeAt Go.RowKit

theorem contract (H : Type) (enc : TypeId × Value → H) (W : World) (base : Nat) (args : Array Value) (ds gs : List (DataW H)) (before : List MemPlace)
    (hval : ∀ (j : Nat) t v, Tryd.f6.params[j]? = some t → args[j]? = some v → Value.okWide Tryd.prog W .any base t v)
    (hW : DataW.Whole enc Tryd.prog Tryd.f6.params.toList Rows.queueNoneSpec.vars false W args.toList ds gs before) (_ : laidMetH Tryd.prog Rows.queueNoneRow.laid W) :
    Calls Tryd.prog 6 args W fun e W' => ∃ v, e = .returned v ∧ Rows.queueNoneSpec.post enc Tryd.prog Tryd.f6 false true false false W args v W' := by
  have hW' := hW
  obtain ⟨p, q, hA0, hV, rfl, _, _⟩ := hW
  have hA : DataW.TrodAll enc Tryd.prog W 0 (fun _ => true) true Tryd.f6.params.toList args.toList ds p := hA0
  rw [Tryd.params6] at hA hval
  obtain ⟨v0, vs0, d0, ds0, p0, q0, hargs, rfl, rfl, h0, r0⟩ := trodAll_cons hA
  obtain ⟨rfl, rfl, rfl⟩ := trodAll_nil r0
  obtain rfl : args = #[v0] := by cases args; simp_all
  obtain ⟨rfl, rfl⟩ := trodVars_none hV
  have hlt0 : ∀ x ∈ p0, x.block < W.heap.size := fun x hx => hW'.lt x (by simp [hx])
  obtain ⟨y0, rfl, hy0⟩ := open_qitem (hval 0 40 v0 rfl rfl) h0 hlt0
  refine (qunone_walk y0 W hy0).mono fun e W' ⟨he, hb⟩ => ?_
  subst he
  exact ⟨_, rfl, [d0], [], _, [], _, [], hW', trodAll_cons_mk (shut_bool Tryd.underlying4 _) trodAll_mk0, trodAll_cons_mk (Below.trod laidOutT (by kernel_rfl) (of_decide_eq_true (by kernel_rfl)) h0 hb hlt0) trodAll_mk0, rfl, hb.frame _, fun h => by cases h⟩

theorem laid_met (os : Os) : laidMet Tryd.prog Rows.queueNoneRow.laid ((laidWorld os).forCall (fun _ _ => 0) ⟨#[], #[.agg (catA [[.int .i64 0], [.int .i64 0], [.string ⟨#[]⟩], [.int .i64 0], bytesV (zer 32)])], []⟩).memory :=
  laidMet_of_run' 8 (by kernel_rfl) (by kernel_rfl)
theorem reads (os : Os) {H : Type} (enc : TypeId × Value → H) : ∃ places, DataW.whole enc Tryd.prog ((laidWorld os).forCall (fun _ _ => 0) ⟨#[], #[.agg (catA [[.int .i64 0], [.int .i64 0], [.string ⟨#[]⟩], [.int .i64 0], bytesV (zer 32)])], []⟩).memory Tryd.f6.params.toList Rows.queueNoneSpec.vars false #[(Value.agg (catA [[.int .i64 0], [.int .i64 0], [.string ⟨#[]⟩], [.int .i64 0], bytesV (zer 32)]))].toList 8 = some ([.agg [.lit (.int .i64 0), .lit (.int .i64 0), .lit (.string []), .lit (.int .i64 0), .agg (List.replicate 32 (.lit (.int .u8 0)))]], [], places) :=
  ⟨[], by kernel_rfl⟩

set_option maxRecDepth 100000 in
theorem lifted (os : Os) (started : os.Started) (H : Type) (enc : TypeId × Value → H) (F : Stop.Interp) :
    ReturnsInHanded {} Tryd.checked os 6 .any ((OpenSpec.ofChange Rows.queueNoneSpec).preRow enc Tryd.prog Tryd.f6 Rows.queueNoneRow.domain false Rows.queueNoneRow.laid) (((OpenSpec.ofChange Rows.queueNoneSpec).at F).post enc Tryd.prog Tryd.f6 false true false false) := by
  obtain ⟨places, hx⟩ := reads os enc
  refine returnsInHanded_of_row (C := Tryd.checked) (s := OpenSpec.ofChange Rows.queueNoneSpec) ownK started (by kernel_rfl) Tryd.func6
    (witness_row_at (enc := enc) (C := Tryd.checked) false (laidWorld os) #[.agg (catA [[.int .i64 0], [.int .i64 0], [.string ⟨#[]⟩], [.int .i64 0], bytesV (zer 32)])] rfl (by kernel_rfl) (by kernel_rfl) (by kernel_rfl)
      (OpenSpec.preRow_of_cond 8 hx (by kernel_rfl) (fun k hk => by cases hk) (by kernel_rfl) (laid_met os))) ?_
  intro W base args ds gs before hval hW _ _ _ hL _ _
  exact contract H enc W base args ds gs before hval hW hL

theorem said : Rows.QueueNoneSaid :=
  OpenClaim.holds_of_cond 6 Tryd.f6 rfl rfl rfl rfl rfl rfl rfl ⟨rfl, rfl, rfl, rfl, rfl⟩ rfl rfl rfl rfl rfl (by kernel_rfl) Tryd.func6 (by kernel_rfl)
    (of_decide_eq_true (by kernel_rfl)) (by unfold Func.isWrapper; first | (rw [if_pos (by decide +kernel)]; kernel_rfl) | (rw [if_neg (by decide +kernel)]; exact ⟨rfl, rfl⟩))
    (fun os started H enc _ F => by rw [OpenClaim.pre_eq_preRow]; exact lifted os started H enc F)

theorem plain (f : FuncId) (fn : Func) (hf : Tryd.pinned.checked.prog.funcNamed Rows.queueNoneRow.func = some f) (hfn : Tryd.pinned.checked.prog.funcs[f]? = some fn) :
    false = Tryd.pinned.checked.prog.looks [] ∧ ∀ (j : Nat) t, fn.params[j]? = some t → Tryd.pinned.checked.prog.wantsStandIn t = false := by
  obtain rfl : f = 6 := Option.some.inj ((show Tryd.prog.funcNamed Rows.queueNoneRow.func = some 6 by kernel_rfl).symm.trans hf) |>.symm
  obtain rfl : fn = Tryd.f6 := (Option.some.inj (Tryd.func6.symm.trans hfn)).symm
  refine ⟨by kernel_rfl, fun j t ht => ?_⟩
  rw [Tryd.params6] at ht
  have hm : t = 40 := by simpa using Array.mem_of_getElem? ht
  subst hm
  exact (show Tryd.prog.wantsStandIn 40 = false by kernel_rfl)

theorem card : Rows.QueueNoneCardSaid :=
  Claim7.holds_tied_plain_at .later [] _ _ _ _ said (fun _ h => by cases h) (by kernel_rfl) (fun _ h => by cases h) queueNone_row_tie rfl ⟨rfl, rfl⟩ (by kernel_rfl) rfl plain (by kernel_rfl)
end Go.Proofs.YtnmaplgodimohaaDoor.queueNone
