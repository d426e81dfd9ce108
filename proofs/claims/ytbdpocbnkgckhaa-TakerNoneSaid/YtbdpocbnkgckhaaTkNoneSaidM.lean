/- TakerNone: for every list of bytes the call returns true and changes nothing that it was handed. Conditions: those of the row. -/
import Derived.Test.YtbdpocbnkgckhaaRows
import Derived.Test.YtbdpocbnkgckhaaMAw1
import Derived.Test.YtbdpocbnkgckhaaMGen0
import Derived.Test.YtbdpocbnkgckhaaMWal0
/- The statement TakerNone: its walk. -/
set_option maxRecDepth 4000
namespace Go.Proofs.Ytbdpocbnkgckhaa
open Go Go.RowKit
attribute [local irreducible] blk zer spl
variable (D : DiskOps) (O : WalOps D)
include O in
set_option maxHeartbeats 800000 in
theorem tknone_walk (A : Option Addr) (c : Nat) (q : List (BitVec 8)) (w : World) (_ : Slice w (.slice A q.length c) q) (_ : A = none → c = 0) (_ : q.length ≤ maxLen) : Calls Try.prog 5 #[.slice A q.length c] w fun x w' => x = .returned (.bool true) ∧ Below w.heap.size w w' := by
  obtain ⟨n, hn⟩ : ∃ n, q.length = n := ⟨_, rfl⟩
  rw [hn]
  have HS := St.nil w noF
  have HX : Rs w noF [] [] w := Rs.of HS
  clear HS
  obtain ⟨G1, HZ1, HS1⟩ := HX.anchor
  clear HX
  refine enter_en Try.func5 rfl Try.ntmps5 (Nat.le_of_ble_eq_true rfl) fun a0 (HA0 : En 30 [(0, .slice A n c)] a0) => ?_
  refine sq_ <| rl_ <| wl_ <| p_ HA0 rfl rfl fun _ H2 => ln_ <| nx <| sq_ <| sq_ <| rl_ <| wl_ <| p_ H2 rfl rfl fun _ H3 => wl_ <| i_ H3 rfl (v := .int .i64 n) (dd_len rfl (H3.ev 5 rfl) Try.underlying23) fun _ H4 => ?_
  clear HA0 H2 H3
  by_cases hc6 : (500 : Int) < n
  ·
   refine wl_ <| i_ H4 rfl (dd_cmp rfl (H4.ev 6 rfl) rfl (gt_t hc6)) fun _ H7 => ln_ <| nx <| ct_ H7 rfl <| sq_ <| rl_ <| wl_ <| c_ H7 rfl HS1 (dcs Try.func6 rfl (args0 ) (tkwakes D O w) (.bool true)) fun _ HS8 _ H8 => wl_ <| p_ H8 rfl rfl fun _ H9 => ln_ <| nx <| wp_ret <| tr <| ret_run H9.env0 (res_t Try.results5 (H9.get 2 rfl)) <| ?_
   clear H4 H7 HS1 H8
   exact ⟨rfl, (HZ1.bel HS8)⟩
  refine wl_ <| i_ H4 rfl (dd_cmp rfl (H4.ev 6 rfl) rfl (gt_f hc6)) fun _ H10 => ln_ <| nx <| cf_ H10 rfl <| wp_skip <| nx <| sq_ <| rl_ <| wl_ <| p_ H10 rfl rfl fun _ H11 => wl_ <| c_ H11 rfl HS1 (v := .tuple #[.agg #[.int .i64 0, .int .u32 0, .int .u32 0, .slice none 0 0], .int .i64 1]) (dc_ Try.func10 rfl (args2 (show _ = (.pointer none : Value) from rfl) (H11.ev 10 rfl)) (tk_nil (.slice A n c) w) (fun _ w9 h9 => ⟨_, h9.1, rfl, h9.2⟩)) fun _ HS12 _ H12 => wl_ <| p_ H12 rfl rfl fun _ H13 => wl_ <| i_ H13 rfl (v := .agg #[.int .i64 0, .int .u32 0, .int .u32 0, .slice none 0 0]) (dd_ext rfl (H13.ev 9 rfl) rfl) fun _ H14 => wl_ <| i_ H14 rfl (v := .int .i64 1) (dd_ext rfl (H14.ev 9 rfl) rfl) fun _ H15 => wl_ <| n_ H15 rfl (fun _ h => dd_new HS12 #[.int .i64 0, .int .u32 0, .int .u32 0, .slice none 0 0] rfl (z := .agg #[.int .i64 0, .int .u32 0, .int .u32 0, .slice none 0 0]) (by kernel_rfl) rfl h) fun _ _ HS16 _ H16 => wl_ <| t_ rfl (fun _ h => dd_setrow HS16 0 rfl rfl (H16.ev 3 rfl) (H16.ev 12 rfl) (by kernel_rfl) (rfl : #[.int .i64 0, .int .u32 0, .int .u32 0, .slice none 0 0].size = 4) (rfl : #[.int .i64 0, .int .u32 0, .int .u32 0, .slice none 0 0].size = 4) (one_l (ao_cons rfl (ao_cons rfl (ao_cons rfl (ao_cons rfl ao_nil))))) h) fun W17 HS17 => ?_
  clear H4 H10 H11 HS1 H12 H13 H14 HS12 H15
  refine wl_ <| p_ H16 rfl rfl fun _ H18 => ln_ <| nx <| sq_ <| rl_ <| wl_ <| i_ H18 rfl (xf 0 0 rfl (H18.ev 3 rfl)) fun _ H19 => wl_ <| i_ H19 rfl (dd_get HS17 0 0 rfl rfl (H19.ev 14 rfl) rfl Try.underlying3 rfl) fun _ H20 => wl_ <| i_ H20 rfl (dd_cmp rfl (H20.ev 15 rfl) rfl (eq_t (by decide))) fun _ H21 => wl_ <| p_ H21 rfl rfl fun _ H22 => wl_ <| ig H22 (wg_ H22 rfl rfl rfl rfl) rfl (xf 3 3 rfl (H22.ev 3 rfl)) fun _ H23 => wl_ <| ig H23 (wg_ H23 rfl rfl rfl rfl) rfl (dd_get HS17 0 3 rfl rfl (H23.ev 18 rfl) rfl Try.underlying27 rfl) fun _ H24 => wl_ <| ig H24 (wg_ H24 rfl rfl rfl rfl) rfl (v := .int .i64 0) (dd_len rfl (H24.ev 19 rfl) Try.underlying27) fun _ H25 => ?_
  clear HS16 H16 H18 H19 H20 H21 H22 H23
  refine wl_ <| ig H25 (wg_ H25 rfl rfl rfl rfl) rfl (dd_cmp rfl (H25.ev 20 rfl) rfl (eq_t (by decide))) fun _ H26 => q_ H26 2 rfl fun _ H27 => wl_ <| ig H27 (wg_ H27 rfl rfl rfl rfl) rfl (dd_mv rfl (H27.ev 4 rfl)) fun _ H28 => wl_ <| ig H28 (wg_ H28 rfl rfl rfl rfl) rfl (dd_cmp rfl (H28.ev 24 rfl) rfl (eq_t (by decide))) fun _ H29 => q_ H29 2 rfl fun _ H30 => wl_ <| cg H30 (wg_ H30 rfl rfl rfl rfl) rfl HS17 (dcs Try.func6 rfl (args0 ) (tkwakes D O W17) (.bool true)) fun _ HS31 _ H31 => q_ H31 2 rfl fun _ H32 => ln_ <| ?_
  clear H24 H25 H26 H27 H28 H29 H30 HS17 H31
  have H33 := H32.sel [2] rfl
  refine nx <| wp_ret <| ret_run H33.env0 (res_t Try.results5 (H33.get 2 rfl)) <| ?_
  clear H32
  exact ⟨rfl, (HZ1.bel HS31)⟩
end Go.Proofs.Ytbdpocbnkgckhaa

/- TakerNone: for every list of bytes the call returns true and changes nothing that it was handed. Conditions: those of the row. -/
set_option maxRecDepth 4000
namespace Go.Proofs.Ytbdpocbnkgckhaa.takerNone
open Go Go.ChangeShapes Go.WideShapes Go.ChangeAt Go.RowKit

theorem contract (H : Type) (enc : TypeId × Value → H) (W : World) (base : Nat) (args : Array Value) (ds gs : List (DataW H)) (before : List MemPlace)
    (hval : ∀ (j : Nat) t v, Try.f5.params[j]? = some t → args[j]? = some v → Value.okWide Try.prog W .any base t v)
    (hW : DataW.Whole enc Try.prog Try.f5.params.toList Rows.takerNoneSpec.vars false W args.toList ds gs before) :
    Calls Try.prog 5 args W fun e W' => ∃ v, e = .returned v ∧ Rows.takerNoneSpec.post enc Try.prog Try.f5 false true false false W args v W' := by
  have hW' := hW
  obtain ⟨p, q, hA0, hV, rfl, _, _⟩ := hW
  have hA : DataW.TrodAll enc Try.prog W 0 (fun _ => true) true Try.f5.params.toList args.toList ds p := hA0
  rw [Try.params5] at hA hval
  obtain ⟨v0, vs0, d0, ds0, p0, q0, hargs, rfl, rfl, h0, r0⟩ := trodAll_cons hA
  obtain ⟨rfl, rfl, rfl⟩ := trodAll_nil r0
  obtain rfl : args = #[v0] := by cases args; simp_all
  obtain ⟨rfl, rfl⟩ := trodVars_none hV
  have hlt0 : ∀ x ∈ p0, x.block < W.heap.size := fun x hx => hW'.lt x (by simp [hx])
  obtain ⟨A0, c0, b0, rfl, hS0, hN0, hm0⟩ := open_bytes (hval 0 23 v0 rfl rfl) h0 hlt0
  refine (tknone_walk diskOps walOps A0 c0 b0 W hS0 hN0 hm0).mono fun e W' ⟨he, hb⟩ => ?_
  subst he
  exact ⟨_, rfl, [d0], [], _, [], _, [], hW', trodAll_cons_mk (shut_bool Try.underlying4 _) trodAll_mk0, trodAll_cons_mk (Below.trod laidOutT (by kernel_rfl) (of_decide_eq_true (by kernel_rfl)) h0 hb hlt0) trodAll_mk0, rfl, hb.frame _, fun h => by cases h⟩

set_option maxRecDepth 100000 in
theorem lifted (os : Os) (started : os.Started) (H : Type) (enc : TypeId × Value → H) :
    ReturnsInHanded {} Try.checked os 5 .any (Rows.takerNoneSpec.pre6 enc Try.prog Try.f5 Rows.takerNoneRow.domain false) (Rows.takerNoneSpec.post enc Try.prog Try.f5 false true false false) := by
  refine returnsInHanded_of_change (C := Try.checked) ownK started (by kernel_rfl) Try.func5
    (ChangeSpec.witness6 (enc := enc) (C := Try.checked) false ⟨#[], #[.slice none 0 0], []⟩ 8 (by kernel_rfl) (by kernel_rfl) (by kernel_rfl) (by kernel_rfl)) ?_
  intro W base args ds gs before hval hW _ _
  exact contract H enc W base args ds gs before hval hW

theorem said : Rows.TakerNoneSaid :=
  OpenClaim.holds_of_wide 5 Try.f5 rfl rfl rfl rfl rfl rfl rfl ⟨rfl, rfl, rfl, rfl, rfl⟩ rfl rfl rfl rfl rfl (by kernel_rfl) Try.func5 (by kernel_rfl)
    (of_decide_eq_true (by kernel_rfl)) (by unfold Func.isWrapper; first | (rw [if_pos (by decide +kernel)]; kernel_rfl) | (rw [if_neg (by decide +kernel)]; exact ⟨rfl, rfl⟩))
    (fun os started H enc _ => lifted os started H enc)
end Go.Proofs.Ytbdpocbnkgckhaa.takerNone
