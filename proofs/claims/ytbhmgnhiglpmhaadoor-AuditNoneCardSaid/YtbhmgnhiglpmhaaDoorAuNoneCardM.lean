/- AuditNone, as its tied card: for everything that was said the call returns true and changes nothing that it was handed. Conditions: those of the row (the table lies as the program's text lays it, which the card ties to the pruned copy). -/
import Derived.Test.YtbhmgnhiglpmhaaDoorMAw1
import Derived.Test.YtbhmgnhiglpmhaaDoorMGen0
/- The statement AuditNone: its walk. -/
set_option maxRecDepth 4000
namespace Go.Proofs.YtbhmgnhiglpmhaaDoor
open Go Go.RowKit
set_option maxHeartbeats 800000 in
theorem aunone_walk (i e : Int) (A : Option Addr) (n c : Nat) (q : List (BitVec 8)) (A2 : Option Addr) (m c2 : Nat) (p : List (BitVec 8)) (w : World) (hT : Tab w) (hi1 : Item w (.slice A n c) q) (hi2 : Item w (.slice A2 m c2) p) (hb1 : -9223372036854775808 ≤ i) (hb2 : i < 9223372036854775808) (hb3 : -9223372036854775808 ≤ e) (hb4 : e < 9223372036854775808) :
    Calls Tryd.prog 6 #[.agg #[.slice A n c, .int .i64 i, .int .i64 e, .slice A2 m c2]] w fun x w' => x = .returned (.bool true) ∧ Below w.heap.size w w' := by
  obtain ⟨_, _, e1, _⟩ := id hi1
  injection e1 with _ e1 _
  subst e1
  obtain ⟨_, _, e2, _⟩ := id hi2
  injection e2 with _ e2 _
  subst e2
  have HS := St.nil w noF
  have HT : ∀ W, Below w.heap.size w W → Tab W := fun W hb => hT.below hb hT.pos
  refine enter_en Tryd.func6 rfl Tryd.ntmps6 (Nat.le_of_ble_eq_true rfl) fun a0 (HA0 : En 35 [(0, .agg #[.slice A q.length c, .int .i64 i, .int .i64 e, .slice A2 p.length c2])] a0) => ?_
  refine sq_ <| rl_ <| wl_ <| n_ HA0 rfl (fun _ h => dd_box HS rfl (HA0.ev 0 rfl) (cs := #[.slice A q.length c, .int .i64 i, .int .i64 e, .slice A2 p.length c2]) rfl h) fun _ _ HS1 _ H1 => wl_ <| p_ H1 rfl rfl fun _ H2 => ln_ <| nx <| sq_ <| sq_ <| rl_ <| wl_ <| i_ H2 rfl (v := .agg #[.slice A q.length c, .int .i64 i, .int .i64 e, .slice A2 p.length c2]) (dd_load HS1 0 0 rfl rfl (H2.ev 1 rfl) (slab_whole _) Tryd.underlying40 rfl (by kernel_rfl)) fun _ H3 => wl_ <| n_ H3 rfl (fun _ h => dd_lits HS1 #[.slice A q.length c, .int .i64 i, .int .i64 e, .slice A2 p.length c2] rfl (ps := [(0, .agg #[.slice A q.length c, .int .i64 i, .int .i64 e, .slice A2 p.length c2])]) (pr1 (H3.ev 4 rfl) (pr0)) (z := .agg #[.slice none 0 0, .int .i64 0, .int .i64 0, .slice none 0 0]) (sz := 4) Tryd.underlying22 (by kernel_rfl) rfl rfl (by kernel_rfl) h) fun _ W4 HS4 _ H4 => ?_
  clear HS HA0 H1 H2 HS1 H3
  cases hb6 : fairD ([(q, i, e, p)])
  ·
   refine wl_ <| c_ H4 rfl HS4 (v := .bool false) (dc_ Tryd.func9 rfl (args1 (H4.ev 5 rfl)) (aufair_any _ _ _ ([(q, i, e, p)]) W4 (saids_one (HS4.row 1 rfl) (hi1.below HS4.below (Nat.le_refl _)) (hi2.below HS4.below (Nat.le_refl _)) hb1 hb2 hb3 hb4) (by decide)) (fun _ w9 h9 => ⟨_, h9.1, by rw [hb6], h9.2⟩)) fun W7 HS7 _ H7 => wl_ <| i_ H7 rfl (v := .bool true) (dd_nt rfl (H7.ev 6 rfl) rfl) fun _ H8 => ln_ <| nx <| ct_ H8 rfl <| sq_ <| rl_ <| wl_ <| c_ H8 rfl HS7 (dcs Tryd.func10 rfl (args0 ) (auwakes_any W7 (HT _ HS7.below)) (.bool true)) fun _ HS9 _ H9 => wl_ <| p_ H9 rfl rfl fun _ H10 => ln_ <| nx <| wp_ret <| tr <| ret_run H10.env0 (res_t Tryd.results6 (H10.get 2 rfl)) <| ?_
   clear H4 HS4 H7 H8 HS7 H9
   exact ⟨rfl, HS9.below⟩
  refine wl_ <| c_ H4 rfl HS4 (v := .bool true) (dc_ Tryd.func9 rfl (args1 (H4.ev 5 rfl)) (aufair_any _ _ _ ([(q, i, e, p)]) W4 (saids_one (HS4.row 1 rfl) (hi1.below HS4.below (Nat.le_refl _)) (hi2.below HS4.below (Nat.le_refl _)) hb1 hb2 hb3 hb4) (by decide)) (fun _ w9 h9 => ⟨_, h9.1, by rw [hb6], h9.2⟩)) fun W11 HS11 _ H11 => wl_ <| i_ H11 rfl (v := .bool false) (dd_nt rfl (H11.ev 6 rfl) rfl) fun _ H12 => ln_ <| nx <| cf_ H12 rfl <| wp_skip <| nx <| sq_ <| rl_ <| wl_ <| p_ H12 rfl rfl fun _ H13 => ln_ <| nx <| sq_ <| rl_ <| wl_ <| p_ H13 rfl rfl fun _ H14 => wl_ <| i_ H14 rfl (xf 0 0 rfl (H14.ev 1 rfl)) fun _ H15 => wl_ <| i_ H15 rfl (dd_get HS11 0 0 rfl rfl (H15.ev 10 rfl) rfl Tryd.underlying35 rfl) fun _ H16 => wl_ <| i_ H16 rfl (xf 1 1 rfl (H16.ev 1 rfl)) fun _ H17 => wl_ <| i_ H17 rfl (v := .agg #[.int .i64 i, .int .i64 e, .slice A2 p.length c2]) (dd_load HS11 0 1 rfl rfl (H17.ev 12 rfl) rfl Tryd.underlying38 rfl (by kernel_rfl)) fun _ H18 => ?_
  clear H4 HS4 H11 H12 H13 H14 H15 H16
  refine wl_ <| c_ H18 rfl HS11 (dcs Tryd.func11 rfl (args3 (H18.ev 9 rfl) (H18.ev 11 rfl) (H18.ev 13 rfl)) (audadd_none _ _ _ _ _ _ W11) (.int .i64 1)) fun W19 HS19 _ H19 => wl_ <| i_ H19 rfl (dd_cmp rfl (H19.ev 14 rfl) rfl (eq_t (by decide))) fun _ H20 => wl_ <| p_ H20 rfl rfl fun _ H21 => wl_ <| ig H21 (wg_ H21 rfl rfl rfl rfl) rfl (dd_mv rfl (H21.ev 3 rfl)) fun _ H22 => wl_ <| cg H22 (wg_ H22 rfl rfl rfl rfl) rfl HS19 (dcs Tryd.func19 rfl (args1 (H22.ev 17 rfl)) (audents_none W19) (.slice none 0 0)) fun W23 HS23 _ H23 => wl_ <| ig H23 (wg_ H23 rfl rfl rfl rfl) rfl (v := .int .i64 0) (dd_len rfl (H23.ev 18 rfl) Tryd.underlying28) fun _ H24 => wl_ <| ig H24 (wg_ H24 rfl rfl rfl rfl) rfl (dd_cmp rfl (H24.ev 19 rfl) rfl (eq_t (by decide))) fun _ H25 => q_ H25 2 rfl fun _ H26 => ?_
  clear H17 H18 HS11 H19 H20 H21 H22 HS19 H23 H24
  refine wl_ <| ig H26 (wg_ H26 rfl rfl rfl rfl) rfl (dd_mv rfl (H26.ev 3 rfl)) fun _ H27 => wl_ <| cg H27 (wg_ H27 rfl rfl rfl rfl) rfl HS23 (dcs Tryd.func13 rfl (args1 (H27.ev 23 rfl)) (audlast_none W23) (.agg (bs (lk [] 0)))) fun W28 HS28 _ H28 => wl_ <| ig H28 (wg_ H28 rfl rfl rfl rfl) rfl (v := .agg (bs (zer 32))) (dd_bldk rfl (ps := []) (pr0) (cs := bs (zer 32)) (by kernel_rfl)) fun _ H29 => wl_ <| ig H29 (wg_ H29 rfl rfl rfl rfl) rfl (v := .bool true) (dd_eqa (b := true) rfl (H29.ev 24 rfl) (H29.ev 25 rfl) (by kernel_rfl) (fun w => by rw [eql_dgs (lk [] 0) (zer 32) (length_zer 32) (length_zer 32) w, decide_eq_true (show lk [] 0 = zer 32 from rfl)])) fun _ H30 => q_ H30 2 rfl fun _ H31 => wl_ <| cg H31 (wg_ H31 rfl rfl rfl rfl) rfl HS28 (dcs Tryd.func20 rfl (args1 (show _ = (.slice none 0 0 : Value) from rfl)) (audver_any _ ([]) W28 (HT _ HS28.below) (ents_nil _) (Nat.zero_le _)) (.int .i64 (verI ([])))) fun W32 HS32 _ H32 => wl_ <| ig H32 (wg_ H32 rfl rfl rfl rfl) rfl (dd_cmp rfl (H32.ev 29 rfl) rfl (eq_t ver_nil)) fun _ H33 => q_ H33 2 rfl fun _ H34 => ?_
  clear H25 H26 H27 HS23 H28 H29 H30 H31 HS28 H32
  refine wl_ <| cg H34 (wg_ H34 rfl rfl rfl rfl) rfl HS32 (dcs Tryd.func10 rfl (args0 ) (auwakes_any W32 (HT _ HS32.below)) (.bool true)) fun _ HS35 _ H35 => q_ H35 2 rfl fun _ H36 => ln_ <| ?_
  clear H33 H34 HS32 H35
  have H37 := H36.sel [2] rfl
  refine nx <| wp_ret <| ret_run H37.env0 (res_t Tryd.results6 (H37.get 2 rfl)) <| ?_
  clear H36
  exact ⟨rfl, HS35.below⟩
end Go.Proofs.YtbhmgnhiglpmhaaDoor

/- AuditNone, as its tied card: for everything that was said the call returns true and changes nothing that it was handed. Conditions: those of the row (the table lies as the program's text lays it, which the card ties to the pruned copy). -/
set_option maxRecDepth 4000
namespace Go.Proofs.YtbhmgnhiglpmhaaDoor.auditNone
open Go Go.ChangeShapes Go.WideShapes Go.ChangeAt Go.RowKit

theorem contract (H : Type) (enc : TypeId × Value → H) (W : World) (base : Nat) (args : Array Value) (ds gs : List (DataW H)) (before : List MemPlace)
    (hval : ∀ (j : Nat) t v, Tryd.f6.params[j]? = some t → args[j]? = some v → Value.okWide Tryd.prog W .any base t v)
    (hW : DataW.Whole enc Tryd.prog Tryd.f6.params.toList Rows.auditNoneSpec.vars false W args.toList ds gs before) (hL : laidMetH Tryd.prog Rows.auditNoneRow.laid W) :
    Calls Tryd.prog 6 args W fun e W' => ∃ v, e = .returned v ∧ Rows.auditNoneSpec.post enc Tryd.prog Tryd.f6 false true false false W args v W' := by
  have hW' := hW
  obtain ⟨p, q, hA0, hV, rfl, _, _⟩ := hW
  have hA : DataW.TrodAll enc Tryd.prog W 0 (fun _ => true) true Tryd.f6.params.toList args.toList ds p := hA0
  rw [Tryd.params6] at hA hval
  obtain ⟨v0, vs0, d0, ds0, p0, q0, hargs, rfl, rfl, h0, r0⟩ := trodAll_cons hA
  obtain ⟨rfl, rfl, rfl⟩ := trodAll_nil r0
  obtain rfl : args = #[v0] := by cases args; simp_all
  obtain ⟨rfl, rfl⟩ := trodVars_none hV
  have hlt0 : ∀ x ∈ p0, x.block < W.heap.size := fun x hx => hW'.lt x (by simp [hx])
  obtain ⟨i0, e0, A0, n0, c0, q0, B0, m0, k0, p0, rfl, hS0, hU0, a0, b0, f0, g0⟩ := open_said (hval 0 40 v0 rfl rfl) h0 hlt0
  refine (aunone_walk i0 e0 A0 n0 c0 q0 B0 m0 k0 p0 W (tab_of_laid hL) hS0 hU0 a0 b0 f0 g0).mono fun e W' ⟨he, hb⟩ => ?_
  subst he
  exact ⟨_, rfl, [d0], [], _, [], _, [], hW', trodAll_cons_mk (shut_bool Tryd.underlying4 _) trodAll_mk0, trodAll_cons_mk (Below.trod laidOutT (by kernel_rfl) (of_decide_eq_true (by kernel_rfl)) h0 hb hlt0) trodAll_mk0, rfl, hb.frame _, fun h => by cases h⟩

theorem laid_met (os : Os) : laidMet Tryd.prog Rows.auditNoneRow.laid ((laidWorld os).forCall (fun _ _ => 0) ⟨#[], #[.agg #[.slice none 0 0, .int .i64 0, .int .i64 0, .slice none 0 0]], []⟩).memory :=
  laidMet_of_run' 8 (by kernel_rfl) (by kernel_rfl)
theorem reads (os : Os) {H : Type} (enc : TypeId × Value → H) : ∃ places, DataW.whole enc Tryd.prog ((laidWorld os).forCall (fun _ _ => 0) ⟨#[], #[.agg #[.slice none 0 0, .int .i64 0, .int .i64 0, .slice none 0 0]], []⟩).memory Tryd.f6.params.toList Rows.auditNoneSpec.vars false #[(Value.agg #[.slice none 0 0, .int .i64 0, .int .i64 0, .slice none 0 0])].toList 8 = some ([.agg [.nil, .agg [.lit (.int .i64 0), .lit (.int .i64 0), .nil]]], [], places) :=
  ⟨[], by kernel_rfl⟩

set_option maxRecDepth 100000 in
theorem lifted (os : Os) (started : os.Started) (H : Type) (enc : TypeId × Value → H) (F : Stop.Interp) :
    ReturnsInHanded {} Tryd.checked os 6 .any ((OpenSpec.ofChange Rows.auditNoneSpec).preRow enc Tryd.prog Tryd.f6 Rows.auditNoneRow.domain false Rows.auditNoneRow.laid) (((OpenSpec.ofChange Rows.auditNoneSpec).at F).post enc Tryd.prog Tryd.f6 false true false false) := by
  obtain ⟨places, hx⟩ := reads os enc
  refine returnsInHanded_of_row (C := Tryd.checked) (s := OpenSpec.ofChange Rows.auditNoneSpec) ownK started (by kernel_rfl) Tryd.func6
    (witness_row_at (enc := enc) (C := Tryd.checked) false (laidWorld os) #[.agg #[.slice none 0 0, .int .i64 0, .int .i64 0, .slice none 0 0]] rfl (by kernel_rfl) (by kernel_rfl) (by kernel_rfl)
      (OpenSpec.preRow_of_cond 8 hx (by kernel_rfl) (fun k hk => by cases hk) (by kernel_rfl) (laid_met os))) ?_
  intro W base args ds gs before hval hW _ _ _ hL _ _
  exact contract H enc W base args ds gs before hval hW hL

theorem said : Rows.AuditNoneSaid :=
  OpenClaim.holds_of_cond 6 Tryd.f6 rfl rfl rfl rfl rfl rfl rfl ⟨rfl, rfl, rfl, rfl, rfl⟩ rfl rfl rfl rfl rfl (by kernel_rfl) Tryd.func6 (by kernel_rfl)
    (of_decide_eq_true (by kernel_rfl)) (by unfold Func.isWrapper; first | (rw [if_pos (by decide +kernel)]; kernel_rfl) | (rw [if_neg (by decide +kernel)]; exact ⟨rfl, rfl⟩))
    (fun os started H enc _ F => by rw [OpenClaim.pre_eq_preRow]; exact lifted os started H enc F)

theorem plain (f : FuncId) (fn : Func) (hf : Tryd.pinned.checked.prog.funcNamed Rows.auditNoneRow.func = some f) (hfn : Tryd.pinned.checked.prog.funcs[f]? = some fn) :
    false = Tryd.pinned.checked.prog.looks [] ∧ ∀ (j : Nat) t, fn.params[j]? = some t → Tryd.pinned.checked.prog.wantsStandIn t = false := by
  obtain rfl : f = 6 := Option.some.inj ((show Tryd.prog.funcNamed Rows.auditNoneRow.func = some 6 by kernel_rfl).symm.trans hf) |>.symm
  obtain rfl : fn = Tryd.f6 := (Option.some.inj (Tryd.func6.symm.trans hfn)).symm
  refine ⟨by kernel_rfl, fun j t ht => ?_⟩
  rw [Tryd.params6] at ht
  have hm : t = 40 := by simpa using Array.mem_of_getElem? ht
  subst hm
  exact (show Tryd.prog.wantsStandIn 40 = false by kernel_rfl)

theorem card : Rows.AuditNoneCardSaid :=
  Claim7.holds_tied_plain_at .later [] _ _ _ _ said (fun _ h => by cases h) (by kernel_rfl) (fun _ h => by cases h) auditNone_row_tie rfl ⟨rfl, rfl⟩ (by kernel_rfl) rfl plain (by kernel_rfl)
end Go.Proofs.YtbhmgnhiglpmhaaDoor.auditNone
