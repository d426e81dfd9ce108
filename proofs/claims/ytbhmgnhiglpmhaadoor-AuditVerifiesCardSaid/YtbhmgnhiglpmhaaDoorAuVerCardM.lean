/- AuditVerifies, as its tied card: for every slice of entries the call returns true and changes nothing that it was handed. Conditions: those of the row (the table lies as the program's text lays it, which the card ties to the pruned copy). -/
import Derived.Test.YtbhmgnhiglpmhaaDoorMAw1
import Derived.Test.YtbhmgnhiglpmhaaDoorMGen0
/- The statement AuditVerifies: its walk. -/
set_option maxRecDepth 4000
namespace Go.Proofs.YtbhmgnhiglpmhaaDoor
open Go Go.RowKit
theorem app_get {X m : List Ae} {i : Nat} {x y : Ae} (h : X[i]? = some x) (k : (X ++ m)[i]? = some y) : x = y := by
  rw [List.getElem?_append_left (List.getElem?_eq_some_iff.1 h).1, h] at k
  injection k
theorem own_z0 {cb : Array Value} {c K : Nat} {L : List Value} (h : OwnC cb c (0 + (K + 1) + 1) 66 L) : OwnC cb c (K + 1 + 1) 66 L := by rwa [Nat.zero_add] at h
theorem wf_app {X Y : List Ae} (h : wfA X) (k : wfA Y) : wfA (X ++ Y) := fun x hx => (List.mem_append.1 hx).elim (h x) (k x)
theorem len_appE {X Y : List Ae} {n m : Nat} (h : X.length = n) (k : Y.length = m) : (X ++ Y).length = n + m := by rw [List.length_append, h, k]
set_option maxHeartbeats 800000 in
theorem auver_pos (b o n c : Nat) (X : List Ae) (w : World) (hn : X.length = n) (hw : wfA X) (h0 : CAt w b o (entsL X)) (hc : n ≤ c) (hT : Tab w) (h0n : 0 < n) (hm : n ≤ maxLen) : Calls Tryd.prog 4 #[.slice (some ⟨b, o, none⟩) n c] w fun x w' => x = .returned (.bool true) ∧ Below w.heap.size w w' := by
  unfold maxLen at hm
  have HS := St.nil w noF
  have HE : ∀ W, Below w.heap.size w W → CAt W b o (entsL X) := fun W hb => h0.call hb
  have HT : ∀ W, Below w.heap.size w W → Tab W := fun W hb => hT.below hb hT.pos
  refine enter_en Tryd.func4 rfl Tryd.ntmps4 (Nat.le_of_ble_eq_true rfl) fun a0 (HA0 : En 18 [(0, .slice (some ⟨b, o, none⟩) n c)] a0) => ?_
  refine sq_ <| rl_ <| wl_ <| p_ HA0 rfl rfl fun _ H1 => ln_ <| nx <| sq_ <| sq_ <| rl_ <| wl_ <| p_ H1 rfl rfl fun _ H2 => wl_ <| i_ H2 rfl (v := .int .i64 n) (dd_len rfl (H2.ev 3 rfl) Tryd.underlying28) fun _ H3 => ?_
  clear HA0 H1 H2
  by_cases hc5 : (30 : Int) < n
  ·
   refine wl_ <| i_ H3 rfl (dd_cmp rfl (H3.ev 4 rfl) rfl (gt_t hc5)) fun _ H6 => ln_ <| nx <| ct_ H6 rfl <| sq_ <| rl_ <| wl_ <| c_ H6 rfl HS (dcs Tryd.func10 rfl (args0 ) (auwakes_any w (HT _ HS.below)) (.bool true)) fun _ HS7 _ H7 => wl_ <| p_ H7 rfl rfl fun _ H8 => ln_ <| nx <| wp_ret <| tr <| ret_run H8.env0 (res_t Tryd.results4 (H8.get 2 rfl)) <| ?_
   clear H3 H6 HS H7
   exact ⟨rfl, HS7.below⟩
  refine wl_ <| i_ H3 rfl (dd_cmp rfl (H3.ev 4 rfl) rfl (gt_f hc5)) fun _ H9 => ln_ <| nx <| cf_ H9 rfl <| wp_skip <| nx <| sq_ <| rl_ <| wl_ <| n_ H9 rfl (A := fun g7 => .slice (some ⟨g7, 0, none⟩) 0 0) (fun _ h => dd_lit0 HS rfl rfl Tryd.underlying28 (sz := 66) (by kernel_rfl) h) fun g7 _ HS10 _ H10 => wl_ <| p_ H10 rfl rfl fun _ H11 => wl_ <| a_ H11 rfl (fun g9_13 c9_13 => .slice (some ⟨g9_13, 0, none⟩) (0 + n) c9_13) (T := fun _ c9_13 cb9_13 => OwnC cb9_13 c9_13 (0 + n) 66 (entsL X)) (fun _ h => dd_app HS10 0 rfl (ownc_nil0 66) rfl (H11.ev 7 rfl) (z := .agg (catA [bytesV (zer 32), [.int .i64 0], [.int .i64 0], bytesV (zer 32)])) (bytes := 80) Tryd.underlying28 (by kernel_rfl) rfl (by decide) (entsL X) (H11.ev 8 rfl) (len_ents hw hn) (HE _ HS10.below).news (one_ents _) (by unfold maxLen; omega) (by omega) h) fun g9_13 c9_13 cb9_13 W12 O9_13 HS12 _ H12 => wl_ <| c_ H12 rfl HS12 (dcs Tryd.func20 rfl (args1 (H12.ev 9 rfl)) (audver_any _ X W12 (HT _ HS12.below) (ents_mk (hn.trans (Nat.zero_add n).symm) hw (cat_own (HS12.row 0 rfl) O9_13) O9_13.le) (by rw [(hn.trans (Nat.zero_add n).symm)]; omega)) (.int .i64 (verI X))) fun W14 HS14 _ H14 => wl_ <| p_ H14 rfl rfl fun _ H15 => ?_
  clear H3 HS H9 H10 HS10 H11 H12 HS12 H14
  refine wl_ <| d_ H15 rfl (R := fun v w9 => ∃ gc17 cc17 cbc17, v = .slice (some ⟨gc17, 0, none⟩) n cc17 ∧ (W14.heap.size ≤ gc17) ∧ (Row w9 gc17 69 cbc17) ∧ (OwnC cbc17 cc17 n 66 (entsL X)) ∧ Below W14.heap.size W14 w9) (dc_ Tryd.func22 rfl (args1 (H15.ev 11 rfl)) (auown_pos _ _ _ _ X W14 hn hw (HE _ HS14.below) (by omega) (by omega) (by omega)) (fun _ w9 ⟨g9, c9, cb9, he, h1, h2, h3, hb⟩ => ⟨_, he, g9, c9, cb9, rfl, h1, h2, h3, hb⟩)) ?_
  rintro _ W16 ⟨gc17, cc17, cbc17, rfl, hg17, hr17, Oc17, hb16⟩ a16 H16
  have HS16 := HS14.same hb16
  clear H15
  have HS16j : St w noF [⟨g9_13, 59, cb9_13⟩, ⟨gc17, 69, cbc17⟩] W16 := HS14.joins hb16 hr17 hg17
  clear HS16 hr17 hg17
  clear HS14 hb16
  refine wl_ <| c_ H16 rfl HS16j (dcs Tryd.func21 rfl (args1 (H16.ev 12 rfl)) (rver_any _ X W16 (ents_mk hn hw (cat_own (HS16j.row 1 rfl) Oc17) Oc17.le) (by rw [hn]; omega)) (.int .i64 (verI X))) fun W18 HS18 _ H18 => wl_ <| i_ H18 rfl (dd_cmp rfl (H18.ev 10 rfl) (H18.ev 13 rfl) (eq_t rfl)) fun _ H19 => wl_ <| p_ H19 rfl rfl fun _ H20 => wl_ <| cg H20 (wg_ H20 rfl rfl rfl rfl) rfl HS18 (dcs Tryd.func10 rfl (args0 ) (auwakes_any W18 (HT _ HS18.below)) (.bool true)) fun _ HS21 _ H21 => q_ H21 2 rfl fun _ H22 => ln_ <| nx <| wp_ret <| ret_run H22.env0 (res_t Tryd.results4 (H22.get 2 rfl)) <| ?_
  clear H16 HS16j H18 H19 H20 HS18 H21
  exact ⟨rfl, HS21.below⟩
theorem auver_nil (w : World) (hT : Tab w) : Calls Tryd.prog 4 #[.slice none 0 0] w fun x w' => x = .returned (.bool true) ∧ Below w.heap.size w w' := by
  have HS := St.nil w noF
  have HT : ∀ W, Below w.heap.size w W → Tab W := fun W hb => hT.below hb hT.pos
  refine enter_en Tryd.func4 rfl Tryd.ntmps4 (Nat.le_of_ble_eq_true rfl) fun a0 (HA0 : En 18 [(0, .slice none 0 0)] a0) => ?_
  refine sq_ <| rl_ <| wl_ <| p_ HA0 rfl rfl fun _ H1 => ln_ <| nx <| sq_ <| sq_ <| rl_ <| wl_ <| p_ H1 rfl rfl fun _ H2 => wl_ <| i_ H2 rfl (v := .int .i64 0) (dd_len rfl (H2.ev 3 rfl) Tryd.underlying28) fun _ H3 => wl_ <| i_ H3 rfl (dd_cmp rfl (H3.ev 4 rfl) rfl (gt_f (by decide))) fun _ H4 => ln_ <| nx <| cf_ H4 rfl <| wp_skip <| nx <| sq_ <| rl_ <| wl_ <| n_ H4 rfl (A := fun g7 => .slice (some ⟨g7, 0, none⟩) 0 0) (fun _ h => dd_lit0 HS rfl rfl Tryd.underlying28 (sz := 66) (by kernel_rfl) h) fun g7 W5 HS5 _ H5 => wl_ <| p_ H5 rfl rfl fun _ H6 => wl_ <| i_ H6 rfl (v := .slice (some ⟨g7, 0, none⟩) 0 0) (dd_appN (sz := 66) rfl (H6.ev 7 rfl) (H6.ev 8 rfl) ((ownc_nil0 66)).le Tryd.underlying28 (by kernel_rfl)) fun _ H7 => wl_ <| c_ H7 rfl HS5 (dcs Tryd.func20 rfl (args1 (H7.ev 9 rfl)) (audver_any _ ([]) W5 (HT _ HS5.below) (ents_mk (show ([] : List Ae).length = 0 from rfl) wf_nil (cat_own (HS5.row 0 rfl) (ownc_nil0 66)) (ownc_nil0 66).le) (by rw [(show ([] : List Ae).length = 0 from rfl)]; omega)) (.int .i64 (verI ([])))) fun W8 HS8 _ H8 => ?_
  clear HA0 H1 H2 H3 HS H4 H5 H6
  refine wl_ <| p_ H8 rfl rfl fun _ H9 => wl_ <| c_ H9 rfl HS8 (dcs Tryd.func22 rfl (args1 (H9.ev 11 rfl)) (auown_zero _ _ W8) (.slice none 0 0)) fun W10 HS10 _ H10 => wl_ <| c_ H10 rfl HS10 (dcs Tryd.func21 rfl (args1 (H10.ev 12 rfl)) (rver_any _ ([]) W10 (ents_nil _) (Nat.zero_le _)) (.int .i64 (verI ([])))) fun W11 HS11 _ H11 => wl_ <| i_ H11 rfl (dd_cmp rfl (H11.ev 10 rfl) (H11.ev 13 rfl) (eq_t rfl)) fun _ H12 => wl_ <| p_ H12 rfl rfl fun _ H13 => wl_ <| cg H13 (wg_ H13 rfl rfl rfl rfl) rfl HS11 (dcs Tryd.func10 rfl (args0 ) (auwakes_any W11 (HT _ HS11.below)) (.bool true)) fun _ HS14 _ H14 => q_ H14 2 rfl fun _ H15 => ln_ <| nx <| wp_ret <| ret_run H15.env0 (res_t Tryd.results4 (H15.get 2 rfl)) <| ?_
  clear H7 HS5 H8 H9 HS8 H10 HS10 H11 H12 H13 HS11 H14
  exact ⟨rfl, HS14.below⟩
theorem auver_zero (ad : Addr) (c : Nat) (w : World) (hT : Tab w) : Calls Tryd.prog 4 #[.slice (some ad) 0 c] w fun x w' => x = .returned (.bool true) ∧ Below w.heap.size w w' := by
  have HS := St.nil w noF
  have HT : ∀ W, Below w.heap.size w W → Tab W := fun W hb => hT.below hb hT.pos
  refine enter_en Tryd.func4 rfl Tryd.ntmps4 (Nat.le_of_ble_eq_true rfl) fun a0 (HA0 : En 18 [(0, .slice (some ad) 0 c)] a0) => ?_
  refine sq_ <| rl_ <| wl_ <| p_ HA0 rfl rfl fun _ H1 => ln_ <| nx <| sq_ <| sq_ <| rl_ <| wl_ <| p_ H1 rfl rfl fun _ H2 => wl_ <| i_ H2 rfl (v := .int .i64 0) (dd_len rfl (H2.ev 3 rfl) Tryd.underlying28) fun _ H3 => wl_ <| i_ H3 rfl (dd_cmp rfl (H3.ev 4 rfl) rfl (gt_f (by decide))) fun _ H4 => ln_ <| nx <| cf_ H4 rfl <| wp_skip <| nx <| sq_ <| rl_ <| wl_ <| n_ H4 rfl (A := fun g7 => .slice (some ⟨g7, 0, none⟩) 0 0) (fun _ h => dd_lit0 HS rfl rfl Tryd.underlying28 (sz := 66) (by kernel_rfl) h) fun g7 _ HS5 _ H5 => wl_ <| p_ H5 rfl rfl fun _ H6 => wl_ <| a_ H6 rfl (fun g9_8 c9_8 => .slice (some ⟨g9_8, 0, none⟩) 0 c9_8) (T := fun _ c9_8 cb9_8 => OwnC cb9_8 c9_8 0 66 ([])) (fun _ h => dd_app HS5 0 rfl (ownc_nil0 66) rfl (H6.ev 7 rfl) (z := .agg (catA [bytesV (zer 32), [.int .i64 0], [.int .i64 0], bytesV (zer 32)])) (bytes := 80) Tryd.underlying28 (by kernel_rfl) rfl (by decide) ([]) (H6.ev 8 rfl) rfl (fun j u h9 => by simp at h9) (fun u h9 => by cases h9) (by unfold maxLen; omega) (by omega) h) fun g9_8 c9_8 cb9_8 W7 O9_8 HS7 _ H7 => wl_ <| c_ H7 rfl HS7 (dcs Tryd.func20 rfl (args1 (H7.ev 9 rfl)) (audver_any _ ([]) W7 (HT _ HS7.below) (ents_mk (show ([] : List Ae).length = 0 from rfl) wf_nil (cat_own (HS7.row 0 rfl) O9_8) O9_8.le) (by rw [(show ([] : List Ae).length = 0 from rfl)]; omega)) (.int .i64 (verI ([])))) fun W9 HS9 _ H9 => ?_
  clear HA0 H1 H2 H3 HS H4 H5 HS5 H6
  refine wl_ <| p_ H9 rfl rfl fun _ H10 => wl_ <| c_ H10 rfl HS9 (dcs Tryd.func22 rfl (args1 (H10.ev 11 rfl)) (auown_zero _ _ W9) (.slice none 0 0)) fun W11 HS11 _ H11 => wl_ <| c_ H11 rfl HS11 (dcs Tryd.func21 rfl (args1 (H11.ev 12 rfl)) (rver_any _ ([]) W11 (ents_nil _) (Nat.zero_le _)) (.int .i64 (verI ([])))) fun W12 HS12 _ H12 => wl_ <| i_ H12 rfl (dd_cmp rfl (H12.ev 10 rfl) (H12.ev 13 rfl) (eq_t rfl)) fun _ H13 => wl_ <| p_ H13 rfl rfl fun _ H14 => wl_ <| cg H14 (wg_ H14 rfl rfl rfl rfl) rfl HS12 (dcs Tryd.func10 rfl (args0 ) (auwakes_any W12 (HT _ HS12.below)) (.bool true)) fun _ HS15 _ H15 => q_ H15 2 rfl fun _ H16 => ln_ <| nx <| wp_ret <| ret_run H16.env0 (res_t Tryd.results4 (H16.get 2 rfl)) <| ?_
  clear H7 HS7 H9 H10 HS9 H11 HS11 H12 H13 H14 HS12 H15
  exact ⟨rfl, HS15.below⟩
theorem auver_walk (A : Option Addr) (n c : Nat) (X : List Ae) (w : World) (hT : Tab w) (hn : X.length = n) (h : EntsAt w (.slice A n c) X) (hN : A = none → c = 0) (hm : n ≤ maxLen) : Calls Tryd.prog 4 #[.slice A n c] w fun x w' => x = .returned (.bool true) ∧ Below w.heap.size w w' := by
  by_cases h0 : n = 0
  · subst h0
    cases A with
    | none => rw [hN rfl]; exact auver_nil w hT
    | some ad => exact auver_zero ad c w hT
  · obtain ⟨A', c', e, hc, hw, h1⟩ := h
    injection e with e1 _ e3
    subst e1 e3
    obtain ⟨b, o, rfl, h2⟩ := h1 (fun e => h0 (by rw [← hn, e]; rfl))
    exact auver_pos b o n c X w hn hw h2 (by rw [← hn]; exact hc) hT (by omega) hm
end Go.Proofs.YtbhmgnhiglpmhaaDoor

/- AuditVerifies, as its tied card: for every slice of entries the call returns true and changes nothing that it was handed. Conditions: those of the row (the table lies as the program's text lays it, which the card ties to the pruned copy). -/
set_option maxRecDepth 4000
namespace Go.Proofs.YtbhmgnhiglpmhaaDoor.auditVerifies
open Go Go.ChangeShapes Go.WideShapes Go.ChangeAt Go.RowKit

theorem contract (H : Type) (enc : TypeId × Value → H) (W : World) (base : Nat) (args : Array Value) (ds gs : List (DataW H)) (before : List MemPlace)
    (hval : ∀ (j : Nat) t v, Tryd.f4.params[j]? = some t → args[j]? = some v → Value.okWide Tryd.prog W .any base t v)
    (hW : DataW.Whole enc Tryd.prog Tryd.f4.params.toList Rows.auditVerifiesSpec.vars false W args.toList ds gs before) (hL : laidMetH Tryd.prog Rows.auditVerifiesRow.laid W) :
    Calls Tryd.prog 4 args W fun e W' => ∃ v, e = .returned v ∧ Rows.auditVerifiesSpec.post enc Tryd.prog Tryd.f4 false true false false W args v W' := by
  have hW' := hW
  obtain ⟨p, q, hA0, hV, rfl, _, _⟩ := hW
  have hA : DataW.TrodAll enc Tryd.prog W 0 (fun _ => true) true Tryd.f4.params.toList args.toList ds p := hA0
  rw [Tryd.params4] at hA hval
  obtain ⟨v0, vs0, d0, ds0, p0, q0, hargs, rfl, rfl, h0, r0⟩ := trodAll_cons hA
  obtain ⟨rfl, rfl, rfl⟩ := trodAll_nil r0
  obtain rfl : args = #[v0] := by cases args; simp_all
  obtain ⟨rfl, rfl⟩ := trodVars_none hV
  have hlt0 : ∀ x ∈ p0, x.block < W.heap.size := fun x hx => hW'.lt x (by simp [hx])
  obtain ⟨A0, n0, c0, l0, rfl, hl0, hS0, hN0, hm0⟩ := open_ents (hval 0 28 v0 rfl rfl) h0 hlt0
  refine (auver_walk A0 n0 c0 l0 W (tab_of_laid hL) hl0 hS0 hN0 hm0).mono fun e W' ⟨he, hb⟩ => ?_
  subst he
  exact ⟨_, rfl, [d0], [], _, [], _, [], hW', trodAll_cons_mk (shut_bool Tryd.underlying4 _) trodAll_mk0, trodAll_cons_mk (Below.trod laidOutT (by kernel_rfl) (of_decide_eq_true (by kernel_rfl)) h0 hb hlt0) trodAll_mk0, rfl, hb.frame _, fun h => by cases h⟩

theorem laid_met (os : Os) : laidMet Tryd.prog Rows.auditVerifiesRow.laid ((laidWorld os).forCall (fun _ _ => 0) ⟨#[], #[.slice none 0 0], []⟩).memory :=
  laidMet_of_run' 8 (by kernel_rfl) (by kernel_rfl)
theorem reads (os : Os) {H : Type} (enc : TypeId × Value → H) : ∃ places, DataW.whole enc Tryd.prog ((laidWorld os).forCall (fun _ _ => 0) ⟨#[], #[.slice none 0 0], []⟩).memory Tryd.f4.params.toList Rows.auditVerifiesSpec.vars false #[(Value.slice none 0 0)].toList 8 = some ([.nil], [], places) :=
  ⟨[], by kernel_rfl⟩

set_option maxRecDepth 100000 in
theorem lifted (os : Os) (started : os.Started) (H : Type) (enc : TypeId × Value → H) (F : Stop.Interp) :
    ReturnsInHanded {} Tryd.checked os 4 .any ((OpenSpec.ofChange Rows.auditVerifiesSpec).preRow enc Tryd.prog Tryd.f4 Rows.auditVerifiesRow.domain false Rows.auditVerifiesRow.laid) (((OpenSpec.ofChange Rows.auditVerifiesSpec).at F).post enc Tryd.prog Tryd.f4 false true false false) := by
  obtain ⟨places, hx⟩ := reads os enc
  refine returnsInHanded_of_row (C := Tryd.checked) (s := OpenSpec.ofChange Rows.auditVerifiesSpec) ownK started (by kernel_rfl) Tryd.func4
    (witness_row_at (enc := enc) (C := Tryd.checked) false (laidWorld os) #[.slice none 0 0] rfl (by kernel_rfl) (by kernel_rfl) (by kernel_rfl)
      (OpenSpec.preRow_of_cond 8 hx (by kernel_rfl) (fun k hk => by cases hk) (by kernel_rfl) (laid_met os))) ?_
  intro W base args ds gs before hval hW _ _ _ hL _ _
  exact contract H enc W base args ds gs before hval hW hL

theorem said : Rows.AuditVerifiesSaid :=
  OpenClaim.holds_of_cond 4 Tryd.f4 rfl rfl rfl rfl rfl rfl rfl ⟨rfl, rfl, rfl, rfl, rfl⟩ rfl rfl rfl rfl rfl (by kernel_rfl) Tryd.func4 (by kernel_rfl)
    (of_decide_eq_true (by kernel_rfl)) (by unfold Func.isWrapper; first | (rw [if_pos (by decide +kernel)]; kernel_rfl) | (rw [if_neg (by decide +kernel)]; exact ⟨rfl, rfl⟩))
    (fun os started H enc _ F => by rw [OpenClaim.pre_eq_preRow]; exact lifted os started H enc F)

theorem plain (f : FuncId) (fn : Func) (hf : Tryd.pinned.checked.prog.funcNamed Rows.auditVerifiesRow.func = some f) (hfn : Tryd.pinned.checked.prog.funcs[f]? = some fn) :
    false = Tryd.pinned.checked.prog.looks [] ∧ ∀ (j : Nat) t, fn.params[j]? = some t → Tryd.pinned.checked.prog.wantsStandIn t = false := by
  obtain rfl : f = 4 := Option.some.inj ((show Tryd.prog.funcNamed Rows.auditVerifiesRow.func = some 4 by kernel_rfl).symm.trans hf) |>.symm
  obtain rfl : fn = Tryd.f4 := (Option.some.inj (Tryd.func4.symm.trans hfn)).symm
  refine ⟨by kernel_rfl, fun j t ht => ?_⟩
  rw [Tryd.params4] at ht
  have hm : t = 28 := by simpa using Array.mem_of_getElem? ht
  subst hm
  exact (show Tryd.prog.wantsStandIn 28 = false by kernel_rfl)

theorem card : Rows.AuditVerifiesCardSaid :=
  Claim7.holds_tied_plain_at .later [] _ _ _ _ said (fun _ h => by cases h) (by kernel_rfl) (fun _ h => by cases h) auditVerifies_row_tie rfl ⟨rfl, rfl⟩ (by kernel_rfl) rfl plain (by kernel_rfl)
end Go.Proofs.YtbhmgnhiglpmhaaDoor.auditVerifies
