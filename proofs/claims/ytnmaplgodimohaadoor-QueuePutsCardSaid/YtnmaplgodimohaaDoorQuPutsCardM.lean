/- QueuePuts, as its tied card: for every item and block the call returns true and changes nothing that it was handed. Conditions: those of the row (the tables of runes lie as the program's text lays them, which the card ties to the pruned copy). -/
import Derived.Test.YtnmaplgodimohaaDoorMAw3
import Derived.Test.YtnmaplgodimohaaDoorMNode0
import Derived.Test.YtnmaplgodimohaaDoorMGen0
/- The statement QueuePuts: its walk. -/
set_option maxRecDepth 4000
namespace Go.Proofs.YtnmaplgodimohaaDoor
open Go Go.RowKit
theorem qnm {y : It} (h : fairI [y] = true) : y.2.2.1.length ≤ maxLen := Nat.le_trans (qfair_one h) (by decide)
theorem putsP_b (qb : List (BitVec 8)) (y : It) (hy : y.2.2.2.2.length = 32) (_ : y.2.2.1.length ≤ maxLen) : ∀ x ∈ putsP qb y, x.2.length = 32 ∧ -9223372036854775808 ≤ x.1 ∧ x.1 < 9223372036854775808 := by
  unfold putsP
  split
  · exact write_bnd qb _ _ hy
  · split
    · exact make_bnd _ _ _
    · split
      · exact gone_bnd _ _
      · exact fun x hx => by cases hx
theorem putsP_s (qb : List (BitVec 8)) (y : It) : (putsP qb y).length ≤ 1000000 := by
  unfold putsP
  split
  · exact write_small _ _ _ _
  · split
    · exact make_small _ _ _
    · split
      · exact gone_small _ _
      · exact Nat.zero_le _
set_option maxHeartbeats 800000 in
theorem quputs_walk (y : It) (qb : List (BitVec 8)) (w : World) (hy : y.2.2.2.2.length = 32) (hqb : qb.length = 32) : Calls Tryd.prog 4 #[.agg (catA [[.int .i64 y.1], [.int .i64 y.2.1], [.string (strB y.2.2.1)], [.int .i64 y.2.2.2.1], bytesV y.2.2.2.2]), .agg (bs qb)] w fun x w' => x = .returned (.bool true) ∧ Below w.heap.size w w' := by
  have HS := St.nil w noF
  refine enter_en Tryd.func4 rfl Tryd.ntmps4 (Nat.le_of_ble_eq_true rfl) fun a0 (HA0 : En 38 [(0, .agg (catA [[.int .i64 y.1], [.int .i64 y.2.1], [.string (strB y.2.2.1)], [.int .i64 y.2.2.2.1], bytesV y.2.2.2.2])), (1, .agg (bs qb))] a0) => ?_
  refine sq_ <| rl_ <| wl_ <| n_ HA0 rfl (fun _ h => dd_box HS rfl (HA0.ev 0 rfl) (cs := (catA [[.int .i64 y.1], [.int .i64 y.2.1], [.string (strB y.2.2.1)], [.int .i64 y.2.2.2.1], bytesV y.2.2.2.2])) rfl h) fun _ _ HS1 _ H1 => wl_ <| n_ H1 rfl (fun _ h => dd_box HS1 rfl (H1.ev 1 rfl) (cs := (bs qb)) rfl h) fun _ _ HS2 _ H2 => wl_ <| p_ H2 rfl rfl fun _ H3 => ln_ <| nx <| sq_ <| sq_ <| rl_ <| wl_ <| i_ H3 rfl (v := .agg (catA [[.int .i64 y.1], [.int .i64 y.2.1], [.string (strB y.2.2.1)], [.int .i64 y.2.2.2.1], bytesV y.2.2.2.2])) (dd_load HS2 0 0 rfl rfl (H3.ev 2 rfl) (slab_whole _) Tryd.underlying40 rfl (by rw [show (catA [[.int .i64 y.1], [.int .i64 y.2.1], [.string (strB y.2.2.1)], [.int .i64 y.2.2.2.1], bytesV y.2.2.2.2]).size = 36 from (cat_size (lens_cons rfl (lens_cons rfl (lens_cons rfl (lens_cons rfl (lens_cons (len_bv hy) (lens_nil)))))))]; kernel_rfl)) fun _ H4 => wl_ <| n_ H4 rfl (fun _ h => dd_lit1 HS2 (z := .agg (catA [[.int .i64 0], [.int .i64 0], [.string (⟨#[]⟩)], [.int .i64 0], bytesV (zer 32)])) (sz := 36) rfl (H4.ev 9 rfl) Tryd.underlying25 (by kernel_rfl) (cat_size (lens_cons rfl (lens_cons rfl (lens_cons rfl (lens_cons rfl (lens_cons (len_bv hy) (lens_nil))))))) rfl rfl h) fun _ W5 HS5 _ H5 => ?_
  clear HS HA0 HS1 H1 H2 H3 HS2 H4
  cases hb7 : fairI ([y])
  ·
   refine wl_ <| c_ H5 rfl HS5 (v := .bool false) (dc_ Tryd.func9 rfl (args1 (H5.ev 10 rfl)) (qfair_any _ 1 _ ([y]) W5 (items_row (X := [y]) (HS5.row 2 rfl) (items_one _).symm rfl (wf_one hy)) (by decide)) (fun _ w9 h9 => ⟨_, h9.1, by rw [hb7], h9.2⟩)) fun W8 HS8 _ H8 => wl_ <| i_ H8 rfl (v := .bool true) (dd_nt rfl (H8.ev 11 rfl) rfl) fun _ H9 => ln_ <| nx <| ct_ H9 rfl <| sq_ <| rl_ <| wl_ <| c_ H9 rfl HS8 (dcs Tryd.func8 rfl (args0 ) (qwakes_any W8) (.bool true)) fun _ HS10 _ H10 => wl_ <| p_ H10 rfl rfl fun _ H11 => ln_ <| nx <| wp_ret <| tr <| ret_run H11.env0 (res_t Tryd.results4 (H11.get 4 rfl)) <| ?_
   clear H5 HS5 H8 H9 HS8 H10
   exact ⟨rfl, HS10.below⟩
  refine wl_ <| c_ H5 rfl HS5 (v := .bool true) (dc_ Tryd.func9 rfl (args1 (H5.ev 10 rfl)) (qfair_any _ 1 _ ([y]) W5 (items_row (X := [y]) (HS5.row 2 rfl) (items_one _).symm rfl (wf_one hy)) (by decide)) (fun _ w9 h9 => ⟨_, h9.1, by rw [hb7], h9.2⟩)) fun W12 HS12 _ H12 => wl_ <| i_ H12 rfl (v := .bool false) (dd_nt rfl (H12.ev 11 rfl) rfl) fun _ H13 => ln_ <| nx <| cf_ H13 rfl <| wp_skip <| nx <| sq_ <| rl_ <| wl_ <| i_ H13 rfl (v := .agg (catA [[.int .i64 y.1], [.int .i64 y.2.1], [.string (strB y.2.2.1)], [.int .i64 y.2.2.2.1], bytesV y.2.2.2.2])) (dd_load HS12 0 0 rfl rfl (H13.ev 2 rfl) (slab_whole _) Tryd.underlying40 rfl (by rw [show (catA [[.int .i64 y.1], [.int .i64 y.2.1], [.string (strB y.2.2.1)], [.int .i64 y.2.2.2.1], bytesV y.2.2.2.2]).size = 36 from (cat_size (lens_cons rfl (lens_cons rfl (lens_cons rfl (lens_cons rfl (lens_cons (len_bv hy) (lens_nil)))))))]; kernel_rfl)) fun _ H14 => wl_ <| i_ H14 rfl (v := .agg (bs qb)) (dd_load HS12 1 0 rfl rfl (H14.ev 3 rfl) (slab_whole _) Tryd.underlying36 rfl (by rw [show (bs qb).size = 32 from ((size_bs _).trans hqb)]; kernel_rfl)) fun _ H15 => ?_
  clear H5 HS5 H12 H13 H14
  refine wl_ <| d_ H15 rfl (R := fun v w9 => ∃ vp17, v = .tuple #[vp17, .int .i64 (putsE qb y)] ∧ (PutsAt w9 vp17 (putsP qb y)) ∧ Below W12.heap.size W12 w9) (dc_ Tryd.func20 rfl (args2 (H15.ev 15 rfl) (H15.ev 16 rfl)) (queputs_any y qb W12 hy hqb (qnm hb7)) (fun _ w9 ⟨v9, he, ho, hb⟩ => ⟨_, he, v9, rfl, puts_own ho (putsP_b _ _ hy (qnm hb7)), hb⟩)) ?_
  rintro _ W16 ⟨vp17, rfl, hp17, hb16⟩ a16 H16
  have HS16 := HS12.same hb16
  clear H15
  have HBs18 : Below w.heap.size w W16 := HS16.below
  have HR18_0 := fun (W9 : World) (hb9 : Below W16.heap.size W16 W9) => (HS16.row 0 rfl).call hb9
  have HR18_1 := fun (W9 : World) (hb9 : Below W16.heap.size W16 W9) => (HS16.row 1 rfl).call hb9
  have HR18_2 := fun (W9 : World) (hb9 : Below W16.heap.size W16 W9) => (HS16.row 2 rfl).call hb9
  have HSb18 := St.nil W16 noF
  clear HS16
  have HP17 := fun (W9 : World) (hb9 : Below W16.heap.size W16 W9) => hp17.below hb9 (Nat.le_refl _)
  clear HS12 hb16
  refine wl_ <| p_ H16 rfl rfl fun _ H19 => wl_ <| i_ H19 rfl (v := vp17) (dd_ext rfl (H19.ev 14 rfl) rfl) fun _ H20 => wl_ <| i_ H20 rfl (v := .int .i64 (putsE qb y)) (dd_ext rfl (H20.ev 14 rfl) rfl) fun _ H21 => q_ H21 2 rfl fun _ H22 => ln_ <| nx <| sq_ <| ?_
  clear H16 H19 H20 H21
  refine wi_ HSb18 [] rfl [] rfl fun HSh23 hx23 => ht_ H22 0 hx23 rfl rfl (v := .agg (catA [[.int .i64 y.1], [.int .i64 y.2.1], [.string (strB y.2.2.1)], [.int .i64 y.2.2.2.1], bytesV y.2.2.2.2])) (fun _ _ HS9 => dd_loadR (HR18_0 _ HS9.below) rfl (H22.ev 2 rfl) (slab_whole _) Tryd.underlying40 rfl (by rw [show (catA [[.int .i64 y.1], [.int .i64 y.2.1], [.string (strB y.2.2.1)], [.int .i64 y.2.2.2.1], bytesV y.2.2.2.2]).size = 36 from (cat_size (lens_cons rfl (lens_cons rfl (lens_cons rfl (lens_cons rfl (lens_cons (len_bv hy) (lens_nil)))))))]; kernel_rfl)) fun _ H24 => ht_ H24 2 hx23 rfl rfl (v := .agg (bs qb)) (fun _ _ HS9 => dd_loadR (HR18_1 _ HS9.below) rfl (H24.ev 3 rfl) (slab_whole _) Tryd.underlying36 rfl (by rw [show (bs qb).size = 32 from ((size_bs _).trans hqb)]; kernel_rfl)) fun _ H25 => h1_ 1 rfl <| c_ H25 rfl HSh23 (dcs Tryd.func10 rfl (args1 (H25.ev 21 rfl)) (qown_any y W16.drew hy) (.agg (catA [[.int .i64 y.1], [.int .i64 y.2.1], [.string (strB y.2.2.1)], [.int .i64 y.2.2.2.1], bytesV y.2.2.2.2]))) fun W26 HS26 _ H26 => sx_ (sxi HS26 [] rfl) fun hx27 => ?_
  clear HSb18 H22 H24 H25 HSh23 hx23
  refine h1_ 3 rfl <| d_ H26 rfl (R := fun v w9 => ∃ vp29, v = .tuple #[vp29, .int .i64 (putsE qb y)] ∧ (PutsAt w9 vp29 (putsP qb y)) ∧ Below W26.heap.size W26 w9) (dc_ Tryd.func21 rfl (args2 (H26.ev 22 rfl) (H26.ev 23 rfl)) (rqueputs_any y qb W26 hy hqb (qnm hb7)) (fun _ w9 ⟨v9, he, ho, hb⟩ => ⟨_, he, v9, rfl, puts_own ho (putsP_b _ _ hy (qnm hb7)), hb⟩)) ?_
  rintro _ W28 ⟨vp29, rfl, hp29, hb28⟩ a28 H28
  have HS28 := HS26.same hb28
  clear H26
  clear HS26 hb28
  refine sx_ (sxi HS28 [] rfl) fun hx30 => hp_ H28 4 hx30 rfl rfl rfl fun _ H31 => ht_ H31 5 hx30 rfl rfl (v := vp29) (fun _ _ _ => dd_ext rfl (H31.ev 20 rfl) rfl) fun _ H32 => ht_ H32 6 hx30 rfl rfl (v := .int .i64 (putsE qb y)) (fun _ _ _ => dd_ext rfl (H32.ev 20 rfl) rfl) fun _ H33 => hp_ H33 7 hx30 rfl rfl rfl fun _ H34 => hp_ H34 8 hx30 rfl rfl rfl fun _ H35 => ?_
  clear hx27 H28 H31 H32 H33 H34
  refine wpAnyH_done (by kernel_rfl) ?_ _
  clear hx30
  refine nx <| sq_ <| rl_ <| q_ H35 2 rfl fun _ H36 => wl_ <| c_ H36 rfl HS28 (v := .bool true) (dc_ Tryd.func22 rfl (args2 (H36.ev 27 rfl) (H36.ev 28 rfl)) (keepputs_any (putsP qb y) (putsP qb y) _ _ W28 (HP17 _ HS28.below) hp29 (putsP_s _ _)) (fun _ w9 h9 => ⟨_, h9.1, by rw [decide_eq_true rfl], h9.2⟩)) fun W37 HS37 _ H37 => wl_ <| p_ H37 rfl rfl fun _ H38 => wl_ <| ig H38 (wg_ H38 rfl rfl rfl rfl) rfl (dd_mv rfl (H38.ev 6 rfl)) fun _ H39 => wl_ <| ig H39 (wg_ H39 rfl rfl rfl rfl) rfl (dd_mv rfl (H39.ev 8 rfl)) fun _ H40 => wl_ <| ig H40 (wg_ H40 rfl rfl rfl rfl) rfl (dd_cmp rfl (H40.ev 31 rfl) (H40.ev 32 rfl) (eq_t rfl)) fun _ H41 => q_ H41 2 rfl fun _ H42 => wl_ <| cg H42 (wg_ H42 rfl rfl rfl rfl) rfl HS37 (dcs Tryd.func8 rfl (args0 ) (qwakes_any W37) (.bool true)) fun _ HS43 _ H43 => ?_
  clear H35 H36 HS28 H37 H38 H39 H40 H41
  refine q_ H43 2 rfl fun _ H44 => ln_ <| ?_
  clear H42 HS37 H43
  have H45 := H44.sel [4] rfl
  refine nx <| wp_ret <| ret_run H45.env0 (res_t Tryd.results4 (H45.get 4 rfl)) <| ?_
  clear H44
  exact ⟨rfl, (HBs18.trans (HS43.below.mono HBs18.size))⟩
end Go.Proofs.YtnmaplgodimohaaDoor

/- QueuePuts, as its tied card: for every item and block the call returns true and changes nothing that it was handed. Conditions: those of the row (the tables of runes lie as the program's text lays them, which the card ties to the pruned copy). -/
set_option maxRecDepth 4000
namespace Go.Proofs.YtnmaplgodimohaaDoor.queuePuts
open Go Go.ChangeShapes Go.WideShapes Go.ChangeAt Go.RowKit

theorem contract (H : Type) (enc : TypeId × Value → H) (W : World) (base : Nat) (args : Array Value) (ds gs : List (DataW H)) (before : List MemPlace)
    (hval : ∀ (j : Nat) t v, Tryd.f4.params[j]? = some t → args[j]? = some v → Value.okWide Tryd.prog W .any base t v)
    (hW : DataW.Whole enc Tryd.prog Tryd.f4.params.toList Rows.queuePutsSpec.vars false W args.toList ds gs before) (_ : laidMetH Tryd.prog Rows.queuePutsRow.laid W) :
    Calls Tryd.prog 4 args W fun e W' => ∃ v, e = .returned v ∧ Rows.queuePutsSpec.post enc Tryd.prog Tryd.f4 false true false false W args v W' := by
  have hW' := hW
  obtain ⟨p, q, hA0, hV, rfl, _, _⟩ := hW
  have hA : DataW.TrodAll enc Tryd.prog W 0 (fun _ => true) true Tryd.f4.params.toList args.toList ds p := hA0
  rw [Tryd.params4] at hA hval
  obtain ⟨v0, vs0, d0, ds0, p0, q0, hargs, rfl, rfl, h0, r0⟩ := trodAll_cons hA
  obtain ⟨v1, vs1, d1, ds1, p1, q1, rfl, rfl, rfl, h1, r1⟩ := trodAll_cons r0
  obtain ⟨rfl, rfl, rfl⟩ := trodAll_nil r1
  obtain rfl : args = #[v0, v1] := by cases args; simp_all
  obtain ⟨rfl, rfl⟩ := trodVars_none hV
  have hlt0 : ∀ x ∈ p0, x.block < W.heap.size := fun x hx => hW'.lt x (by simp [hx])
  have hlt1 : ∀ x ∈ p1, x.block < W.heap.size := fun x hx => hW'.lt x (by simp [hx])
  obtain ⟨y0, rfl, hy0⟩ := open_qitem (hval 0 40 v0 rfl rfl) h0 hlt0
  obtain ⟨q1, hq1, rfl⟩ := open_argBytes Tryd.underlying36 Tryd.underlying5 (by kernel_rfl) (by kernel_rfl) (hval 1 36 v1 rfl rfl) h1 hlt1
  refine (quputs_walk y0 q1 W hy0 hq1).mono fun e W' ⟨he, hb⟩ => ?_
  subst he
  exact ⟨_, rfl, [d0, d1], [], _, [], _, [], hW', trodAll_cons_mk (shut_bool Tryd.underlying4 _) trodAll_mk0, trodAll_cons_mk (Below.trod laidOutT (by kernel_rfl) (of_decide_eq_true (by kernel_rfl)) h0 hb hlt0) (trodAll_cons_mk (Below.trod laidOutT (by kernel_rfl) (of_decide_eq_true (by kernel_rfl)) h1 hb hlt1) trodAll_mk0), rfl, hb.frame _, fun h => by cases h⟩

theorem laid_met (os : Os) : laidMet Tryd.prog Rows.queuePutsRow.laid ((laidWorld os).forCall (fun _ _ => 0) ⟨#[], #[.agg (catA [[.int .i64 0], [.int .i64 0], [.string ⟨#[]⟩], [.int .i64 0], bytesV (zer 32)]), .agg (bs (zer 32))], []⟩).memory :=
  laidMet_of_run' 8 (by kernel_rfl) (by kernel_rfl)
theorem reads (os : Os) {H : Type} (enc : TypeId × Value → H) : ∃ places, DataW.whole enc Tryd.prog ((laidWorld os).forCall (fun _ _ => 0) ⟨#[], #[.agg (catA [[.int .i64 0], [.int .i64 0], [.string ⟨#[]⟩], [.int .i64 0], bytesV (zer 32)]), .agg (bs (zer 32))], []⟩).memory Tryd.f4.params.toList Rows.queuePutsSpec.vars false #[(Value.agg (catA [[.int .i64 0], [.int .i64 0], [.string ⟨#[]⟩], [.int .i64 0], bytesV (zer 32)])), (Value.agg (bs (zer 32)))].toList 8 = some ([.agg [.lit (.int .i64 0), .lit (.int .i64 0), .lit (.string []), .lit (.int .i64 0), .agg (List.replicate 32 (.lit (.int .u8 0)))], .agg (List.replicate 32 (.lit (.int .u8 0)))], [], places) :=
  ⟨[], by kernel_rfl⟩

set_option maxRecDepth 100000 in
theorem lifted (os : Os) (started : os.Started) (H : Type) (enc : TypeId × Value → H) (F : Stop.Interp) :
    ReturnsInHanded {} Tryd.checked os 4 .any ((OpenSpec.ofChange Rows.queuePutsSpec).preRow enc Tryd.prog Tryd.f4 Rows.queuePutsRow.domain false Rows.queuePutsRow.laid) (((OpenSpec.ofChange Rows.queuePutsSpec).at F).post enc Tryd.prog Tryd.f4 false true false false) := by
  obtain ⟨places, hx⟩ := reads os enc
  refine returnsInHanded_of_row (C := Tryd.checked) (s := OpenSpec.ofChange Rows.queuePutsSpec) ownK started (by kernel_rfl) Tryd.func4
    (witness_row_at (enc := enc) (C := Tryd.checked) false (laidWorld os) #[.agg (catA [[.int .i64 0], [.int .i64 0], [.string ⟨#[]⟩], [.int .i64 0], bytesV (zer 32)]), .agg (bs (zer 32))] rfl (by kernel_rfl) (by kernel_rfl) (by kernel_rfl)
      (OpenSpec.preRow_of_cond 8 hx (by kernel_rfl) (fun k hk => by cases hk) (by kernel_rfl) (laid_met os))) ?_
  intro W base args ds gs before hval hW _ _ _ hL _ _
  exact contract H enc W base args ds gs before hval hW hL

theorem said : Rows.QueuePutsSaid :=
  OpenClaim.holds_of_cond 4 Tryd.f4 rfl rfl rfl rfl rfl rfl rfl ⟨rfl, rfl, rfl, rfl, rfl⟩ rfl rfl rfl rfl rfl (by kernel_rfl) Tryd.func4 (by kernel_rfl)
    (of_decide_eq_true (by kernel_rfl)) (by unfold Func.isWrapper; first | (rw [if_pos (by decide +kernel)]; kernel_rfl) | (rw [if_neg (by decide +kernel)]; exact ⟨rfl, rfl⟩))
    (fun os started H enc _ F => by rw [OpenClaim.pre_eq_preRow]; exact lifted os started H enc F)

theorem plain (f : FuncId) (fn : Func) (hf : Tryd.pinned.checked.prog.funcNamed Rows.queuePutsRow.func = some f) (hfn : Tryd.pinned.checked.prog.funcs[f]? = some fn) :
    false = Tryd.pinned.checked.prog.looks [] ∧ ∀ (j : Nat) t, fn.params[j]? = some t → Tryd.pinned.checked.prog.wantsStandIn t = false := by
  obtain rfl : f = 4 := Option.some.inj ((show Tryd.prog.funcNamed Rows.queuePutsRow.func = some 4 by kernel_rfl).symm.trans hf) |>.symm
  obtain rfl : fn = Tryd.f4 := (Option.some.inj (Tryd.func4.symm.trans hfn)).symm
  refine ⟨by kernel_rfl, fun j t ht => ?_⟩
  rw [Tryd.params4] at ht
  have hm : t = 40 ∨ t = 36 := by simpa using Array.mem_of_getElem? ht
  rcases hm with rfl | rfl
  · exact (show Tryd.prog.wantsStandIn 40 = false by kernel_rfl)
  · exact (show Tryd.prog.wantsStandIn 36 = false by kernel_rfl)

theorem card : Rows.QueuePutsCardSaid :=
  Claim7.holds_tied_plain_at .later [] _ _ _ _ said (fun _ h => by cases h) (by kernel_rfl) (fun _ h => by cases h) queuePuts_row_tie rfl ⟨rfl, rfl⟩ (by kernel_rfl) rfl plain (by kernel_rfl)
end Go.Proofs.YtnmaplgodimohaaDoor.queuePuts
