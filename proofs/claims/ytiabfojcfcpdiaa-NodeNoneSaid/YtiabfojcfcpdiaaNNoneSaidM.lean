/- NodeNone: for every record and number the call returns true and changes nothing that it was handed. Conditions: those of the row. -/
import Derived.Test.YtiabfojcfcpdiaaRows
import Derived.Test.YtiabfojcfcpdiaaMAw0
import Derived.Test.YtiabfojcfcpdiaaMGen0
import Derived.Test.YtiabfojcfcpdiaaMWal0
/- The statement NodeNone: its walk. -/
set_option maxRecDepth 4000
namespace Go.Proofs.Ytiabfojcfcpdiaa
open Go Go.RowKit
attribute [local irreducible] blk zer spl
variable (D : DiskOps) (O : WalOps D)
include O in
theorem nn_open {F : Nat → Prop} {p : Value} {w : World} (HX : Rs w F [] [dskT D p (DiskM.new 18)] w) : Calls Try.prog 10 #[p] w fun x w' => x = .returned (.tuple #[.pointer none, .int .i64 1]) ∧ Rs w F [] [dskT D p (DiskM.new 18)] w' := by
  have e : ndOpen (DiskM.new 18) = (1, DiskM.new 18) := nop_1 (by decide)
  have h := nd_open_err D O F p (DiskM.new 18) w HX (by show 0 + 400 ≤ 1000000000; decide) (by rw [e]; decide)
  rw [e] at h
  exact h
include O in
set_option maxHeartbeats 800000 in
theorem nnone_walk (e0 s0 : BitVec 32) (A : Option Addr) (c : Nat) (l : List (Int × List (BitVec 8))) (i : Int) (w : World) (_ : PutsAt w (.slice A l.length c) l) (_ : l.length ≤ maxLen) (_ : -9223372036854775808 ≤ i ∧ i < 9223372036854775808) : Calls Try.prog 4 #[.agg #[.int .u32 (wd e0), .int .u32 (wd s0), .slice A l.length c], .int .i64 i] w fun x w' => x = .returned (.bool true) ∧ Below w.heap.size w w' := by
  have HS := St.nil w noF
  have HX : Rs w noF [] [] w := Rs.of HS
  clear HS
  obtain ⟨G1, HZ1, HS1⟩ := HX.anchor
  clear HX
  refine enter_en Try.func4 rfl Try.ntmps4 (Nat.le_of_ble_eq_true rfl) fun a0 (HA0 : En 86 [(0, .agg #[.int .u32 (wd e0), .int .u32 (wd s0), .slice A l.length c]), (1, .int .i64 i)] a0) => ?_
  refine sq_ <| rl_ <| wl_ <| n_ HA0 rfl (fun _ h => dd_box HS1 rfl (HA0.ev 0 rfl) (cs := #[.int .u32 (wd e0), .int .u32 (wd s0), .slice A l.length c]) rfl h) fun g2 W2 HS2 _ H2 => wl_ <| p_ H2 rfl rfl fun _ H3 => ln_ <| nx <| sq_ <| sq_ <| rl_ <| wl_ <| i_ H3 rfl (xf 2 2 rfl (H3.ev 2 rfl)) fun _ H4 => wl_ <| i_ H4 rfl (dd_get HS2 0 2 rfl rfl (H4.ev 14 rfl) rfl Try.underlying40 rfl) fun _ H5 => wl_ <| i_ H5 rfl (v := .int .i64 l.length) (dd_len rfl (H5.ev 15 rfl) Try.underlying40) fun _ H6 => ?_
  clear HS1 HA0 H2 H3 H4 H5
  by_cases hc8 : (50 : Int) < l.length
  ·
   refine wl_ <| i_ H6 rfl (dd_cmp rfl (H6.ev 16 rfl) rfl (gt_t hc8)) fun _ H9 => ln_ <| nx <| ct_ H9 rfl <| sq_ <| rl_ <| wl_ <| c_ H9 rfl HS2 (dcs Try.func8 rfl (args0 ) (ndwakes D O W2) (.bool true)) fun _ HS10 _ H10 => wl_ <| p_ H10 rfl rfl fun _ H11 => ln_ <| nx <| wp_ret <| tr <| ret_run H11.env0 (res_t Try.results4 (H11.get 4 rfl)) <| ?_
   clear H6 H9 HS2 H10
   exact ⟨rfl, (HZ1.bel HS10)⟩
  refine wl_ <| i_ H6 rfl (dd_cmp rfl (H6.ev 16 rfl) rfl (gt_f hc8)) fun _ H12 => ln_ <| nx <| cf_ H12 rfl <| wp_skip <| nx <| sq_ <| rl_ <| wl_ <| p_ H12 rfl rfl fun _ H13 => ln_ <| nx <| sq_ <| rl_ <| wl_ <| c_ H13 rfl HS2 (v := .tuple #[.pointer none, .int .i64 1]) (dc_ Try.func10 rfl (args1 (show _ = (.pointer none : Value) from rfl)) (nd_open_nil D W2) (fun _ w9 h9 => ⟨_, h9.1, rfl, h9.2⟩)) fun W14 HS14 _ H14 => wl_ <| p_ H14 rfl rfl fun _ H15 => wl_ <| i_ H15 rfl (v := .pointer none) (dd_ext rfl (H15.ev 19 rfl) rfl) fun _ H16 => wl_ <| i_ H16 rfl (v := .int .i64 1) (dd_ext rfl (H16.ev 19 rfl) rfl) fun _ H17 => q_ H17 2 rfl fun _ H18 => ln_ <| nx <| sq_ <| rl_ <| ?_
  clear H6 H12 H13 HS2 H14 H15 H16 H17
  obtain ⟨Gc20, hc20, hf20, hk20, hq20⟩ := Rs.reframe (R1 := []) (R2 := [⟨g2, 42, #[.int .u32 (wd e0), .int .u32 (wd s0), .slice A l.length c]⟩]) (Q1 := []) (Q2 := []) ((HZ1.move HS14).sel [0] [])
  refine wl_ <| d_ H18 rfl (R := fun v9 w9 => ∃ gd19 : Nat, v9 = .tuple #[.pointer (some ⟨gd19, 0, none⟩), .int .i64 0] ∧ Rs w noF [⟨g2, 42, #[.int .u32 (wd e0), .int .u32 (wd s0), .slice A l.length c]⟩] [dskT D (.pointer (some ⟨gd19, 0, none⟩)) (DiskM.new 18)] w9) (dc_ Try.func19 rfl (args1 rfl) (dr_new D Gc20 W14 18 (by decide)) (fun _ w9 ⟨gd19, he, hX⟩ => ⟨_, he, gd19, rfl, hk20 _ _ _ hX⟩)) ?_
  rintro _ W20 ⟨gd19, rfl, HX20⟩ a20 H20
  clear hc20 hk20 hf20 hq20 HS14 HZ1
  clear H18
  obtain ⟨G21, HZ21, HS21⟩ := HX20.anchor
  clear HX20
  refine wl_ <| p_ H20 rfl rfl fun _ H22 => wl_ <| i_ H22 rfl (v := .pointer (some ⟨gd19, 0, none⟩)) (dd_ext rfl (H22.ev 23 rfl) rfl) fun _ H23 => wl_ <| i_ H23 rfl (v := .int .i64 0) (dd_ext rfl (H23.ev 23 rfl) rfl) fun _ H24 => q_ H24 2 rfl fun _ H25 => ln_ <| nx <| sq_ <| rl_ <| wl_ <| p_ H25 rfl rfl fun _ H26 => ?_
  clear H20 H22 H23 H24 H25
  obtain ⟨Gc27, hc27, hf27, hk27, hq27⟩ := Rs.reframe (R1 := []) (R2 := [⟨g2, 42, #[.int .u32 (wd e0), .int .u32 (wd s0), .slice A l.length c]⟩]) (Q1 := [dskT D (.pointer (some ⟨gd19, 0, none⟩)) (DiskM.new 18)]) (Q2 := []) ((HZ21.move HS21).sel [0] [0])
  refine wl_ <| d_ H26 rfl (R := fun v9 w9 => v9 = .tuple #[.pointer none, .int .i64 1] ∧ Rs w noF [⟨g2, 42, #[.int .u32 (wd e0), .int .u32 (wd s0), .slice A l.length c]⟩] [dskT D (.pointer (some ⟨gd19, 0, none⟩)) (DiskM.new 18)] w9) (dc_ Try.func10 rfl (args1 (H26.ev 28 rfl)) (nn_open D O hc27) (fun _ w9 ⟨he, hX⟩ => ⟨_, he, rfl, hk27 _ _ _ hX⟩)) ?_
  rintro _ W27 ⟨rfl, HX27⟩ a27 H27
  clear hc27 hk27 hf27 hq27 HS21 HZ21
  clear H26
  obtain ⟨G28, HZ28, HS28⟩ := HX27.anchor
  clear HX27
  refine wl_ <| p_ H27 rfl rfl fun _ H29 => wl_ <| i_ H29 rfl (v := .pointer none) (dd_ext rfl (H29.ev 27 rfl) rfl) fun _ H30 => wl_ <| i_ H30 rfl (v := .int .i64 1) (dd_ext rfl (H30.ev 27 rfl) rfl) fun _ H31 => q_ H31 2 rfl fun _ H32 => ln_ <| ?_
  clear H27 H29 H30 H31
  have H33 := H32.sel [1, 2, 5, 6, 7, 9, 10, 11] rfl
  refine nx <| sq_ <| rl_ <| q_ H33 2 rfl fun _ H34 => wl_ <| c_ H34 rfl HS28 (v := .tuple #[.agg (bs (zer 32)), .int .i64 1]) (dc_ Try.func18 rfl (args2 (H34.ev 33 rfl) (H34.ev 34 rfl)) (ndblock_no i W27) (fun _ w9 h9 => ⟨_, h9.1, rfl, h9.2⟩)) fun _ HS35 _ H35 => wl_ <| p_ H35 rfl rfl fun _ H36 => wl_ <| i_ H36 rfl (v := .agg (bs (zer 32))) (dd_ext rfl (H36.ev 32 rfl) rfl) fun _ H37 => wl_ <| i_ H37 rfl (v := .int .i64 1) (dd_ext rfl (H37.ev 32 rfl) rfl) fun _ H38 => wl_ <| n_ H38 rfl (fun _ h => dd_new HS35 (bs (zer 32)) rfl (z := .agg (bs (zer 32))) (by kernel_rfl) rfl h) fun _ _ HS39 _ H39 => wl_ <| t_ rfl (fun _ h => dd_setrow HS39 1 rfl rfl (H39.ev 12 rfl) (H39.ev 36 rfl) (by kernel_rfl) (((size_bs _).trans (length_zer 32)) : (bs (zer 32)).size = 32) (((size_bs _).trans (length_zer 32)) : (bs (zer 32)).size = 32) (one_bs _) h) fun W40 HS40 => wl_ <| p_ H39 rfl rfl fun _ H41 => ?_
  clear H32 H33 H34 HS28 H35 H36 H37 HS35 H38 HS39
  refine ln_ <| nx <| sq_ <| rl_ <| wl_ <| p_ H41 rfl rfl fun _ H42 => wl_ <| i_ H42 rfl (v := .bool true) (dd_eqp rfl (H42.ev 38 rfl) rfl Try.underlying28 rfl) fun _ H43 => wl_ <| p_ H43 rfl rfl fun _ H44 => wl_ <| ig H44 (wg_ H44 rfl rfl rfl rfl) rfl (dd_mv rfl (H44.ev 7 rfl)) fun _ H45 => wl_ <| ig H45 (wg_ H45 rfl rfl rfl rfl) rfl (dd_cmp rfl (H45.ev 41 rfl) rfl (eq_t (by decide))) fun _ H46 => q_ H46 2 rfl fun _ H47 => wl_ <| ig H47 (wg_ H47 rfl rfl rfl rfl) rfl (dd_mv rfl (H47.ev 9 rfl)) fun _ H48 => wl_ <| ig H48 (wg_ H48 rfl rfl rfl rfl) rfl (dd_cmp rfl (H48.ev 45 rfl) rfl (eq_t (by decide))) fun _ H49 => ?_
  clear H39 H41 H42 H43 H44 H45 H46 H47
  refine q_ H49 2 rfl fun _ H50 => wl_ <| ig H50 (wg_ H50 rfl rfl rfl rfl) rfl (dd_mv rfl (H50.ev 10 rfl)) fun _ H51 => wl_ <| ig H51 (wg_ H51 rfl rfl rfl rfl) rfl (v := .bool true) (dd_eqp rfl (H51.ev 49 rfl) rfl Try.underlying28 rfl) fun _ H52 => q_ H52 2 rfl fun _ H53 => wl_ <| ig H53 (wg_ H53 rfl rfl rfl rfl) rfl (dd_mv rfl (H53.ev 11 rfl)) fun _ H54 => wl_ <| ig H54 (wg_ H54 rfl rfl rfl rfl) rfl (dd_cmp rfl (H54.ev 53 rfl) rfl (eq_t (by decide))) fun _ H55 => q_ H55 2 rfl fun _ H56 => wl_ <| ig H56 (wg_ H56 rfl rfl rfl rfl) rfl (v := .agg (bs (zer 32))) (dd_load HS40 1 0 rfl rfl (H56.ev 12 rfl) (slab_whole _) Try.underlying33 rfl (by rw [show (bs (zer 32)).size = 32 from ((size_bs _).trans (length_zer 32))]; kernel_rfl)) fun _ H57 => ?_
  clear H48 H49 H50 H51 H52 H53 H54 H55
  refine wl_ <| ig H57 (wg_ H57 rfl rfl rfl rfl) rfl (v := .agg (bs (zer 32))) (dd_bldk rfl (ps := []) (pr0) (cs := bs (zer 32)) (by kernel_rfl)) fun _ H58 => wl_ <| ig H58 (wg_ H58 rfl rfl rfl rfl) rfl (v := .bool true) (dd_eqa (b := true) rfl (H58.ev 57 rfl) (H58.ev 58 rfl) (by kernel_rfl) (fun w => by have h9 := eql_blk (zer 32) (zer 32) (length_zer 32) (length_zer 32) w; rw [decide_eq_true rfl] at h9; exact h9)) fun _ H59 => q_ H59 2 rfl fun _ H60 => wl_ <| ig H60 (wg_ H60 rfl rfl rfl rfl) rfl (dd_mv rfl (H60.ev 13 rfl)) fun _ H61 => wl_ <| ig H61 (wg_ H61 rfl rfl rfl rfl) rfl (dd_cmp rfl (H61.ev 62 rfl) rfl (eq_t (by decide))) fun _ H62 => q_ H62 2 rfl fun _ H63 => wl_ <| ig H63 (wg_ H63 rfl rfl rfl rfl) rfl (dd_mv rfl (H63.ev 5 rfl)) fun _ H64 => wl_ <| cg H64 (wg_ H64 rfl rfl rfl rfl) rfl HS40 (dcs Try.func16 rfl (args1 (H64.ev 66 rfl)) (ndlabel_no W40) (.agg #[.int .u32 (wd lab0.e), .int .u32 (wd lab0.s), .int .u32 (wd lab0.n), .int .u16 (hd lab0.d), .int .u16 (hd lab0.l)])) fun W65 HS65 _ H65 => ?_
  clear H56 H57 H58 H59 H60 H61 H62 H63
  refine wl_ <| ig H65 (wg_ H65 rfl rfl rfl rfl) rfl (v := .agg #[.int .u32 0, .int .u32 0, .int .u32 0, .int .u16 0, .int .u16 0]) (dd_bld rfl (ps := []) (pr0) (Lz := [[.int .u32 0], [.int .u32 0], [.int .u32 0], [.int .u16 0], [.int .u16 0]]) (by kernel_rfl) (lens_cons rfl (lens_cons rfl (lens_cons rfl (lens_cons rfl (lens_cons rfl (lens_nil)))))) (fit_nil) (cs := #[.int .u32 0, .int .u32 0, .int .u32 0, .int .u16 0, .int .u16 0]) rfl) fun _ H66 => wl_ <| ig H66 (wg_ H66 rfl rfl rfl rfl) rfl (v := .bool true) (dd_eqa (b := true) rfl (H66.ev 67 rfl) (H66.ev 68 rfl) (by kernel_rfl) (fun w => by have h9 := eql_lab lab0 lab0 w; rw [decide_eq_true rfl] at h9; exact h9)) fun _ H67 => q_ H67 2 rfl fun _ H68 => wl_ <| ig H68 (wg_ H68 rfl rfl rfl rfl) rfl (dd_mv rfl (H68.ev 5 rfl)) fun _ H69 => wl_ <| ig H69 (wg_ H69 rfl rfl rfl rfl) rfl (v := .agg #[.int .u32 0, .int .u32 0, .int .u32 0, .int .u16 0, .int .u16 0]) (dd_bld rfl (ps := []) (pr0) (Lz := [[.int .u32 0], [.int .u32 0], [.int .u32 0], [.int .u16 0], [.int .u16 0]]) (by kernel_rfl) (lens_cons rfl (lens_cons rfl (lens_cons rfl (lens_cons rfl (lens_cons rfl (lens_nil)))))) (fit_nil) (cs := #[.int .u32 0, .int .u32 0, .int .u32 0, .int .u16 0, .int .u16 0]) rfl) fun _ H70 => wl_ <| cg H70 (wg_ H70 rfl rfl rfl rfl) rfl HS65 (v := .int .i64 1) (dc_ Try.func11 rfl (args2 (H70.ev 72 rfl) (H70.ev 73 rfl)) (nd_setno (⟨0#32, 0#32, 0#32, 0#16, 0#16⟩) W65) (fun _ w9 h9 => ⟨_, h9.1, rfl, h9.2⟩)) fun W71 HS71 _ H71 => wl_ <| ig H71 (wg_ H71 rfl rfl rfl rfl) rfl (dd_cmp rfl (H71.ev 74 rfl) rfl (eq_t (by decide))) fun _ H72 => q_ H72 2 rfl fun _ H73 => ?_
  clear H64 HS40 H65 H66 H67 H68 H69 H70 HS65 H71
  refine wl_ <| ig H73 (wg_ H73 rfl rfl rfl rfl) rfl (dd_mv rfl (H73.ev 5 rfl)) fun _ H74 => wl_ <| ig H74 (wg_ H74 rfl rfl rfl rfl) rfl (v := .agg #[.int .u32 (wd e0), .int .u32 (wd s0), .slice A l.length c]) (dd_load HS71 0 0 rfl rfl (H74.ev 2 rfl) (slab_whole _) Try.underlying42 rfl (by kernel_rfl)) fun _ H75 => wl_ <| cg H75 (wg_ H75 rfl rfl rfl rfl) rfl HS71 (v := .int .i64 1) (dc_ Try.func14 rfl (args3 (H75.ev 78 rfl) (H75.ev 79 rfl) rfl) (nd_applyno ⟨e0, s0, []⟩ (.slice A l.length c) 1#16 W71) (fun _ w9 h9 => ⟨_, h9.1, rfl, h9.2⟩)) fun W76 HS76 _ H76 => wl_ <| ig H76 (wg_ H76 rfl rfl rfl rfl) rfl (dd_cmp rfl (H76.ev 80 rfl) rfl (eq_t (by decide))) fun _ H77 => q_ H77 2 rfl fun _ H78 => wl_ <| cg H78 (wg_ H78 rfl rfl rfl rfl) rfl HS76 (dcs Try.func8 rfl (args0 ) (ndwakes D O W76) (.bool true)) fun _ HS79 _ H79 => q_ H79 2 rfl fun _ H80 => ln_ <| ?_
  clear H72 H73 H74 H75 HS71 H76 H77 H78 HS76 H79
  have H81 := H80.sel [4] rfl
  refine nx <| wp_ret <| ret_run H81.env0 (res_t Try.results4 (H81.get 4 rfl)) <| ?_
  clear H80
  exact ⟨rfl, (HZ28.bel HS79)⟩
end Go.Proofs.Ytiabfojcfcpdiaa

/- NodeNone: for every record and number the call returns true and changes nothing that it was handed. Conditions: those of the row. -/
set_option maxRecDepth 4000
namespace Go.Proofs.Ytiabfojcfcpdiaa.nodeNone
open Go Go.ChangeShapes Go.WideShapes Go.ChangeAt Go.RowKit

theorem contract (H : Type) (enc : TypeId × Value → H) (W : World) (base : Nat) (args : Array Value) (ds gs : List (DataW H)) (before : List MemPlace)
    (hval : ∀ (j : Nat) t v, Try.f4.params[j]? = some t → args[j]? = some v → Value.okWide Try.prog W .any base t v)
    (hW : DataW.Whole enc Try.prog Try.f4.params.toList Rows.nodeNoneSpec.vars false W args.toList ds gs before) :
    Calls Try.prog 4 args W fun e W' => ∃ v, e = .returned v ∧ Rows.nodeNoneSpec.post enc Try.prog Try.f4 false true false false W args v W' := by
  have hW' := hW
  obtain ⟨p, q, hA0, hV, rfl, _, _⟩ := hW
  have hA : DataW.TrodAll enc Try.prog W 0 (fun _ => true) true Try.f4.params.toList args.toList ds p := hA0
  rw [Try.params4] at hA hval
  obtain ⟨v0, vs0, d0, ds0, p0, q0, hargs, rfl, rfl, h0, r0⟩ := trodAll_cons hA
  obtain ⟨v1, vs1, d1, ds1, p1, q1, rfl, rfl, rfl, h1, r1⟩ := trodAll_cons r0
  obtain ⟨rfl, rfl, rfl⟩ := trodAll_nil r1
  obtain rfl : args = #[v0, v1] := by cases args; simp_all
  obtain ⟨rfl, rfl⟩ := trodVars_none hV
  have hlt0 : ∀ x ∈ p0, x.block < W.heap.size := fun x hx => hW'.lt x (by simp [hx])
  obtain ⟨e0, s0, A0, c0, l0, rfl, hS0, hm0⟩ := open_rec (hval 0 42 v0 rfl rfl) h0 hlt0
  obtain ⟨n1, rfl, rfl, rfl, wn1⟩ := open_int Try.underlying3 (hval 1 3 v1 rfl rfl) h1
  refine (nnone_walk diskOps walOps e0 s0 A0 c0 l0 n1 W hS0 hm0 (bounds_i64L wn1)).mono fun e W' ⟨he, hb⟩ => ?_
  subst he
  exact ⟨_, rfl, [d0, .lit (.int .i64 n1)], [], _, [], _, [], hW', trodAll_cons_mk (shut_bool Try.underlying4 _) trodAll_mk0, trodAll_cons_mk (Below.trod laidOutT (by kernel_rfl) (of_decide_eq_true (by kernel_rfl)) h0 hb hlt0) (trodAll_cons_mk (shut_int Try.underlying3 wn1) trodAll_mk0), rfl, hb.frame _, fun h => by cases h⟩

set_option maxRecDepth 100000 in
theorem lifted (os : Os) (started : os.Started) (H : Type) (enc : TypeId × Value → H) :
    ReturnsInHanded {} Try.checked os 4 .any (Rows.nodeNoneSpec.pre6 enc Try.prog Try.f4 Rows.nodeNoneRow.domain false) (Rows.nodeNoneSpec.post enc Try.prog Try.f4 false true false false) := by
  refine returnsInHanded_of_change (C := Try.checked) ownK started (by kernel_rfl) Try.func4
    (ChangeSpec.witness6 (enc := enc) (C := Try.checked) false ⟨#[], #[.agg #[.int .u32 0, .int .u32 0, .slice none 0 0], .int .i64 0], []⟩ 8 (by kernel_rfl) (by kernel_rfl) (by kernel_rfl) (by kernel_rfl)) ?_
  intro W base args ds gs before hval hW _ _
  exact contract H enc W base args ds gs before hval hW

theorem said : Rows.NodeNoneSaid :=
  OpenClaim.holds_of_wide 4 Try.f4 rfl rfl rfl rfl rfl rfl rfl ⟨rfl, rfl, rfl, rfl, rfl⟩ rfl rfl rfl rfl rfl (by kernel_rfl) Try.func4 (by kernel_rfl)
    (of_decide_eq_true (by kernel_rfl)) (by unfold Func.isWrapper; first | (rw [if_pos (by decide +kernel)]; kernel_rfl) | (rw [if_neg (by decide +kernel)]; exact ⟨rfl, rfl⟩))
    (fun os started H enc _ => lifted os started H enc)
end Go.Proofs.Ytiabfojcfcpdiaa.nodeNone
