/- AuditSwaps, as its tied card: for everything that was said and every byte the call returns true and changes nothing that it was handed. Conditions: those of the row (the table lies as the program's text lays it, which the card ties to the pruned copy). -/
import Derived.Test.YtbhmgnhiglpmhaaDoorMAw1
import Derived.Test.YtbhmgnhiglpmhaaDoorMGen0
import Derived.Test.YtbhmgnhiglpmhaaDoorMGen1
/- The statement AuditSwaps: its walk. -/
set_option maxRecDepth 4000
namespace Go.Proofs.YtbhmgnhiglpmhaaDoor
open Go Go.RowKit
theorem own_app {cb : Array Value} {c n : Nat} {X Y : List Ae} (O : OwnC cb c n 66 (entsL X ++ entsL Y)) : OwnC cb c n 66 (entsL (X ++ Y)) := by rw [ents_app]; exact O
theorem wf_setE {X : List Ae} {k : Nat} {y : Ae} (hw : wfA X) (hy : y.1.length = 32 ∧ y.2.2.2.length = 32) : wfA (X.set k y) := fun x hx => by
  rcases List.mem_or_eq_of_mem_set hx with h | h
  · exact hw x h
  · subst h; exact hy
theorem own_fitE {cb cs : Array Value} {c n k : Nat} {L : List Value} (O : OwnC cb c n 66 L) (hk : k < n) (hs : cs.size = 66) : k * 66 + (Value.agg cs).cells.size ≤ cb.size := by
  have := O.le; have := O.size
  show k * 66 + cs.size ≤ cb.size
  omega
theorem own_setE {cb : Array Value} {c n k : Nat} {X : List Ae} {y : Ae} (O : OwnC cb c n 66 (entsL X)) (hw : wfA X) (hk : k < n) (hy : y.1.length = 32 ∧ y.2.2.2.length = 32) (hX : X.length = n) : OwnC (spl cb.toList (k * 66) (aecell y)).toArray c n 66 (entsL (X.set k y)) := by
  have hk2 : k < X.length := by omega
  have hxw := hw X[k] (List.getElem_mem hk2)
  have e1 : entsL X = entsL (X.take k) ++ (aecell X[k] ++ entsL (X.drop (k + 1))) := by
    conv => lhs; rw [← List.take_append_drop k X, List.drop_eq_getElem_cons hk2]
    rw [ents_app, show X[k] :: X.drop (k + 1) = [X[k]] ++ X.drop (k + 1) from rfl, ents_app, ents_one]
  have e2 : entsL (X.set k y) = entsL (X.take k) ++ (aecell y ++ entsL (X.drop (k + 1))) := by
    rw [List.set_eq_take_append_cons_drop, if_pos hk2, ents_app, show y :: X.drop (k + 1) = [y] ++ X.drop (k + 1) from rfl, ents_app, ents_one]
  have hl : (entsL (X.take k)).length = k * 66 := len_ents (wf_take k hw) (by rw [List.length_take]; omega)
  have hly := len_aecell hy.1 hy.2
  have hlx := len_aecell hxw.1 hxw.2
  have hle := O.le
  have hsz := O.size
  have hQ : (entsL (X.drop (k + 1))).length = (n - (k + 1)) * 66 := len_ents (wf_drop _ hw) (by rw [List.length_drop, hX])
  have eL : cb.toList = entsL (X.take k) ++ (aecell X[k] ++ (entsL (X.drop (k + 1)) ++ cb.toList.drop (n * 66))) := by
    conv => lhs; rw [← List.take_append_drop (n * 66) cb.toList, O.take, e1]
    simp only [List.append_assoc]
  have es : spl cb.toList (k * 66) (aecell y) = entsL (X.take k) ++ (aecell y ++ (entsL (X.drop (k + 1)) ++ cb.toList.drop (n * 66))) := by
    have h1 : cb.toList.take (k * 66) = entsL (X.take k) := by
      conv => lhs; rw [eL]
      rw [List.take_left' hl]
    have h2 : cb.toList.drop (k * 66 + (aecell y).length) = entsL (X.drop (k + 1)) ++ cb.toList.drop (n * 66) := by
      conv => lhs; rw [eL]
      rw [← List.append_assoc, List.drop_left' (by rw [List.length_append, hl, hly, hlx])]
    unfold spl
    rw [h1, h2]
    simp only [List.append_assoc]
  refine ⟨O.le, O.cap, ?_, ?_, ?_⟩
  · rw [List.size_toArray, es]
    have := congrArg List.length eL
    simp only [List.length_append, Array.length_toList] at this ⊢
    omega
  · rw [e2, List.length_append, List.length_append, hl, hly, hQ]; omega
  · show (spl cb.toList (k * 66) (aecell y)).take (n * 66) = _
    rw [es, e2, ← List.append_assoc (aecell y), ← List.append_assoc, List.take_left' (by rw [List.length_append, List.length_append, hl, hly, hQ]; omega)]
set_option maxHeartbeats 3200000 in
theorem auswap_pos (b o n c : Nat) (l : List Sd) (z : BitVec 8) (w : World) (hT : Tab w) (h0 : SaidsAt w (.slice (some ⟨b, o, none⟩) n c) l) (hm : n ≤ maxLen) (h0n : 2 ≤ n) : Calls Tryd.prog 8 #[.slice (some ⟨b, o, none⟩) n c, .int .u8 (bd z)] w fun x w' => x = .returned (.bool true) ∧ Below w.heap.size w w' := by
  unfold maxLen at hm
  have hln := saids_len h0
  have HS := St.nil w noF
  have HT : ∀ W, Below w.heap.size w W → Tab W := fun W hb => hT.below hb hT.pos
  refine enter_en Tryd.func8 rfl Tryd.ntmps8 (Nat.le_of_ble_eq_true rfl) fun a0 (HA0 : En 144 [(0, .slice (some ⟨b, o, none⟩) n c), (1, .int .u8 (bd z))] a0) => ?_
  refine sq_ <| rl_ <| wl_ <| p_ HA0 rfl rfl fun _ H1 => ln_ <| nx <| sq_ <| sq_ <| rl_ <| wl_ <| p_ H1 rfl rfl fun _ H2 => ?_
  clear HA0 H1
  cases hb4 : fairD l
  ·
   refine wl_ <| c_ H2 rfl HS (v := .bool false) (dc_ Tryd.func9 rfl (args1 (H2.ev 13 rfl)) (aufair_any _ _ _ l w (h0.below HS.below (Nat.le_refl _)) hm) (fun _ w9 h9 => ⟨_, h9.1, by rw [hb4], h9.2⟩)) fun W5 HS5 _ H5 => wl_ <| i_ H5 rfl (v := .bool true) (dd_nt rfl (H5.ev 14 rfl) rfl) fun _ H6 => wl_ <| p_ H6 rfl rfl fun _ H7 => wl_ <| k_ H7 (wg_ H7 rfl rfl rfl rfl) rfl fun _ H8 => wl_ <| k_ H8 (wg_ H8 rfl rfl rfl rfl) rfl fun a9 H9 => wl_ <| k_ H9 (wg_ H9 rfl rfl rfl rfl) rfl fun _ H10 => wl_ <| p_ H10 rfl rfl fun _ H11 => ln_ <| nx <| ct_ H11 rfl <| sq_ <| rl_ <| wl_ <| c_ H11 rfl HS5 (dcs Tryd.func10 rfl (args0 ) (auwakes_any W5 (HT _ HS5.below)) (.bool true)) fun _ HS12 _ H12 => ?_
   clear H2 HS H5 H6 H7 H8 H9 H10
   refine wl_ <| p_ H12 rfl rfl fun _ H13 => ln_ <| nx <| wp_ret <| tr <| ret_run H13.env0 (res_t Tryd.results8 (H13.get 4 rfl)) <| ?_
   clear H11 HS5 H12
   exact ⟨rfl, HS12.below⟩
  obtain ⟨hfl, hn30⟩ := fair_of hb4
  rw [hln] at hn30
  refine wl_ <| c_ H2 rfl HS (v := .bool true) (dc_ Tryd.func9 rfl (args1 (H2.ev 13 rfl)) (aufair_any _ _ _ l w (h0.below HS.below (Nat.le_refl _)) hm) (fun _ w9 h9 => ⟨_, h9.1, by rw [hb4], h9.2⟩)) fun _ HS14 _ H14 => wl_ <| i_ H14 rfl (v := .bool false) (dd_nt rfl (H14.ev 14 rfl) rfl) fun _ H15 => wl_ <| p_ H15 rfl rfl fun _ H16 => wl_ <| ig H16 (wg_ H16 rfl rfl rfl rfl) rfl (dd_mv rfl (H16.ev 0 rfl)) fun _ H17 => wl_ <| ig H17 (wg_ H17 rfl rfl rfl rfl) rfl (v := .int .i64 n) (dd_len rfl (H17.ev 17 rfl) Tryd.underlying22) fun _ H18 => wl_ <| ig H18 (wg_ H18 rfl rfl rfl rfl) rfl (dd_cmp rfl (H18.ev 18 rfl) rfl (lt_f (by omega))) fun _ H19 => wl_ <| p_ H19 rfl rfl fun _ H20 => ln_ <| nx <| cf_ H20 rfl <| wp_skip <| nx <| sq_ <| rl_ <| wl_ <| i_ H20 rfl (v := .agg #[.slice none 0 0]) (dd_bld rfl (ps := []) (pr0) (Lz := [[.slice none 0 0]]) (by kernel_rfl) (lens_cons rfl (lens_nil)) (fit_nil) (cs := #[.slice none 0 0]) rfl) fun _ H21 => ?_
  clear H2 HS H14 H15 H16 H17 H18 H19
  refine wl_ <| n_ H21 rfl (fun _ h => dd_box HS14 rfl (H21.ev 22 rfl) (cs := #[.slice none 0 0]) rfl h) fun g23 W22 HS22 _ H22 => wl_ <| p_ H22 rfl rfl fun _ H23 => ln_ <| nx <| sq_ <| sq_ <| rl_ <| wl_ <| p_ H23 rfl rfl fun _ H24 => ln_ <| nx <| wp_block <| ?_
  clear H20 HS14 H21 H22 H23
  refine wp_loop1 (ι := Nat) (fun K a9 w9 => ∃ X : List Ae, ∃ gA : Nat, ∃ cA : Nat, ∃ cbA : Array Value, (K + 1 ≤ n) ∧ (X.length = K + 1) ∧ (wfA X) ∧ (∀ j, j < X.length → goodAt X j = true) ∧ (bdA X) ∧ (OwnC cbA cA (K + 1) 66 (entsL X)) ∧ En 144 [(6, .int .i64 (K + 1)), (5, .pointer (some ⟨g23, 0, none⟩)), (0, .slice (some ⟨b, o, none⟩) n c), (1, .int .u8 (bd z))] a9 ∧ St w noF [⟨g23, 30, #[.slice (some ⟨gA, 0, none⟩) (K + 1) cA]⟩, ⟨gA, 59, cbA⟩] w9) (fun K => n - (K + 1)) (0) ?_ ?_
  ·
   refine sq_ <| sq_ <| rl_ <| q_ H24 2 rfl fun _ H26 => wl_ <| i_ H26 rfl (v := .int .i64 n) (dd_len rfl (H26.ev 25 rfl) Tryd.underlying22) fun _ H27 => wl_ <| i_ H27 rfl (dd_cmp rfl (H27.ev 24 rfl) (H27.ev 26 rfl) (lt_t (by omega))) fun _ H28 => ln_ <| nx <| ct_ H28 rfl <| wp_skip <| nx <| sq_ <| wp_block <| sq_ <| ?_
   clear H24 H26 H27
   refine wi_ HS22 [] rfl [0] rfl fun HSh29 hx29 => hp_ H28 0 hx29 rfl rfl rfl fun _ H30 => hp_ H30 1 hx29 rfl rfl rfl fun _ H31 => hp_ H31 2 hx29 rfl rfl rfl fun _ H32 => ht_ H32 3 hx29 rfl rfl (fun _ _ _ => xSo 4 (o + 0 * 4) rfl (H32.ev 31 rfl) (H32.ev 32 rfl)) fun _ H33 => ht_ H33 4 hx29 rfl rfl (fun _ _ _ => xf 0 (o + 0 * 4) rfl (H33.ev 33 rfl)) fun _ H34 => ?_
   clear HS22 H28 H30 H31 H32 H33
   obtain ⟨q0, i0, e0, d0, A10, c10, A20, c20, hg0, hc0, i10, i20, bi0, bj0, be0, bf0⟩ := saids_getB h0 (k := 0) (by omega)
   have hfa0 : q0.length ≤ 300 ∧ d0.length ≤ 600 := hfl _ (List.mem_of_getElem? hg0)
   refine ht_ H34 5 hx29 rfl rfl (fun _ _ HS9 => dd_at rfl (H34.ev 34 rfl) ((hc0.call HS9.below).at_ 0 _ rfl) Tryd.underlying35 rfl) fun _ H35 => hp_ H35 6 hx29 rfl rfl rfl fun _ H36 => hp_ H36 7 hx29 rfl rfl rfl fun _ H37 => hp_ H37 8 hx29 rfl rfl rfl fun _ H38 => ht_ H38 9 hx29 rfl rfl (fun _ _ _ => xSo 4 (o + 0 * 4) rfl (H38.ev 37 rfl) (H38.ev 38 rfl)) fun _ H39 => ht_ H39 10 hx29 rfl rfl (fun _ _ _ => xf 1 (o + 0 * 4 + 1) rfl (H39.ev 39 rfl)) fun _ H40 => ht_ H40 11 hx29 rfl rfl (fun _ _ _ => xf 1 (o + 0 * 4 + 1 + 1) rfl (H40.ev 40 rfl)) fun _ H41 => ht_ H41 12 hx29 rfl rfl (fun _ _ HS9 => dd_at rfl (H41.ev 41 rfl) ((hc0.call HS9.below).at_ 2 _ rfl) Tryd.underlying36 rfl) fun _ H42 => ?_
   clear H34 H35 H36 H37 H38 H39 H40
   refine h1_ 13 rfl <| ic H42 rfl (v := .int .i64 (modK e0 256)) (dc_ Tryd.func23 rfl (args2 (H42.ev 42 rfl) rfl) (mod_at e0 _ 256 W22.drew rfl (by decide) (by decide)) (fun _ w9 h9 => ⟨_, h9.1, rfl, h9.2.symm⟩)) fun _ H43 => sx_ (sxi HSh29 [0] rfl) fun hx44 => ht_ H43 14 hx44 rfl rfl (v := .agg #[.int .i64 0, .int .i64 (modK e0 256), .slice none 0 0]) (fun _ _ _ => dd_bld rfl (ps := [(0, .int .i64 0), (1, .int .i64 (modK e0 256))]) (pr1 (H43.ev 36 rfl) (pr1 (H43.ev 43 rfl) (pr0))) (Lz := [[.int .i64 0], [.int .i64 0], [.slice none 0 0]]) (by kernel_rfl) (lens_cons rfl (lens_cons rfl (lens_cons rfl (lens_nil)))) (fit_cons (i := 0) rfl rfl (fit_cons (i := 1) rfl rfl (fit_nil))) (cs := #[.int .i64 0, .int .i64 (modK e0 256), .slice none 0 0]) rfl) fun _ H45 => ?_
   clear H41 H42 hx29 H43
   refine h1_ 15 rfl <| d_ H45 rfl (R := fun v9 w9 => ∃ ge47 : Nat, ∃ ce47 : Nat, ∃ cbe47 : Array Value, v9 = .int .i64 0 ∧ (OwnC cbe47 ce47 1 66 (entsL ([] ++ [mkA [] q0 0 (modK e0 256)]))) ∧ St w noF [⟨g23, 30, #[.slice (some ⟨ge47, 0, none⟩) 1 ce47]⟩, ⟨ge47, 59, cbe47⟩] w9) (dc_ Tryd.func11 rfl (args3 (H45.ev 30 rfl) (H45.ev 35 rfl) (H45.ev 44 rfl)) (audadd_first _ g23 _ _ _ q0 0 (modK e0 256) (.slice none 0 0) _ (ss HSh29 [0]).frame  (HT _ HSh29.below) (nin_l (ss HSh29 [0]) hT.pos) (fun W9 k9 => slice_keepL i10.slice (ss HSh29 [0]) k9) rfl (by omega) (mayR_k _ (by omega) (by omega))) (fun _ w9 ⟨g9, c9, cb9, he, hO, hS⟩ => ⟨_, he, g9, c9, cb9, rfl, hO, St.reframe (ss HSh29 [0]) hS⟩)) ?_
   rintro _ W46 ⟨ge47, ce47, cbe47, rfl, Oe47, HS46⟩ a46 H46
   clear H45 HSh29
   refine sx_ (sxi HS46 [0, 1] rfl) fun hx48 => ht_ H46 16 hx48 rfl rfl (fun _ _ _ => dd_cmp rfl (H46.ev 45 rfl) rfl (ne_f (by decide))) fun _ H49 => ?_
   clear hx44 H46
   refine wpAnyH_done (by kernel_rfl) ?_ _
   clear hx48
   refine nx <| cf_ H49 rfl <| wp_skip <| bn <| nx <| rl_ <| wl_ <| p_ H49 rfl rfl fun _ H50 => wl_ <| i_ H50 rfl (v := .int .i64 1) (dd_ari rfl (H50.ev 28 rfl) rfl rfl (by decide)) fun _ H51 => wl_ <| p_ H51 rfl rfl fun _ H52 => ln_ <| ?_
   clear H49 H50 H51
   have H53 := H52.sel [1, 0, 5, 6] rfl
   clear H52
   exact nx ⟨([] ++ [mkA [] q0 0 (modK e0 256)]), ge47, ce47, cbe47, (by omega), (show ([] ++ [mkA [] q0 0 (modK e0 256)] : List Ae).length = 1 from rfl), (wf_mk wf_nil _ _ _), (good_mk (fun j hj => absurd hj (Nat.not_lt_zero _)) _ (mayR_k _ (by omega) (by omega))), (bdA_snoc bdA_nil ⟨by omega, by omega⟩ (modK_b _ (by decide))), Oe47, H53.sel [1, 0, 5, 6] rfl, ss HS46 [0, 1]⟩
  clear H24 HS22
  rintro K aL25 wL25 ⟨X, gA, cA, cbA, hi, hX, hw, hgd, hbd, OA, HL25, HSL25⟩
  refine sq_ <| sq_ <| rl_ <| q_ HL25 2 rfl fun _ H54 => wl_ <| i_ H54 rfl (v := .int .i64 n) (dd_len rfl (H54.ev 25 rfl) Tryd.underlying22) fun _ H55 => ?_
  clear HL25 H54
  by_cases hc57 : (K + 1 : Int) < n
  ·
   refine wl_ <| i_ H55 rfl (dd_cmp rfl (H55.ev 24 rfl) (H55.ev 26 rfl) (lt_t hc57)) fun _ H58 => ln_ <| nx <| ct_ H58 rfl <| wp_skip <| nx <| sq_ <| wp_block <| sq_ <| ?_
   clear H55
   refine wi_ HSL25 [] rfl [0, 1] rfl fun HSh59 hx59 => hp_ H58 0 hx59 rfl rfl rfl fun _ H60 => hp_ H60 1 hx59 rfl rfl rfl fun _ H61 => hp_ H61 2 hx59 rfl rfl rfl fun _ H62 => ht_ H62 3 hx59 rfl rfl (fun _ _ _ => xSo 4 (o + (K + 1) * 4) rfl (H62.ev 31 rfl) (H62.ev 32 rfl)) fun _ H63 => ht_ H63 4 hx59 rfl rfl (fun _ _ _ => xf 0 (o + (K + 1) * 4) rfl (H63.ev 33 rfl)) fun _ H64 => ?_
   clear HSL25 H58 H60 H61 H62 H63
   obtain ⟨qK_1, iK_1, eK_1, dK_1, A1K_1, c1K_1, A2K_1, c2K_1, hgK_1, hcK_1, i1K_1, i2K_1, biK_1, bjK_1, beK_1, bfK_1⟩ := saids_getB h0 (k := K + 1) (by omega)
   have hfaK_1 : qK_1.length ≤ 300 ∧ dK_1.length ≤ 600 := hfl _ (List.mem_of_getElem? hgK_1)
   refine ht_ H64 5 hx59 rfl rfl (fun _ _ HS9 => dd_at rfl (H64.ev 34 rfl) ((hcK_1.call HS9.below).at_ 0 _ rfl) Tryd.underlying35 rfl) fun _ H65 => hp_ H65 6 hx59 rfl rfl rfl fun _ H66 => hp_ H66 7 hx59 rfl rfl rfl fun _ H67 => hp_ H67 8 hx59 rfl rfl rfl fun _ H68 => ht_ H68 9 hx59 rfl rfl (fun _ _ _ => xSo 4 (o + (K + 1) * 4) rfl (H68.ev 37 rfl) (H68.ev 38 rfl)) fun _ H69 => ht_ H69 10 hx59 rfl rfl (fun _ _ _ => xf 1 (o + (K + 1) * 4 + 1) rfl (H69.ev 39 rfl)) fun _ H70 => ht_ H70 11 hx59 rfl rfl (fun _ _ _ => xf 1 (o + (K + 1) * 4 + 1 + 1) rfl (H70.ev 40 rfl)) fun _ H71 => ht_ H71 12 hx59 rfl rfl (fun _ _ HS9 => dd_at rfl (H71.ev 41 rfl) ((hcK_1.call HS9.below).at_ 2 _ rfl) Tryd.underlying36 rfl) fun _ H72 => ?_
   clear H64 H65 H66 H67 H68 H69 H70
   refine h1_ 13 rfl <| ic H72 rfl (v := .int .i64 (modK eK_1 256)) (dc_ Tryd.func23 rfl (args2 (H72.ev 42 rfl) rfl) (mod_at eK_1 _ 256 wL25.drew rfl (by decide) (by decide)) (fun _ w9 h9 => ⟨_, h9.1, rfl, h9.2.symm⟩)) fun _ H73 => sx_ (sxi HSh59 [0, 1] rfl) fun hx74 => ht_ H73 14 hx74 rfl rfl (v := .agg #[.int .i64 (K + 1), .int .i64 (modK eK_1 256), .slice none 0 0]) (fun _ _ _ => dd_bld rfl (ps := [(0, .int .i64 (K + 1)), (1, .int .i64 (modK eK_1 256))]) (pr1 (H73.ev 36 rfl) (pr1 (H73.ev 43 rfl) (pr0))) (Lz := [[.int .i64 0], [.int .i64 0], [.slice none 0 0]]) (by kernel_rfl) (lens_cons rfl (lens_cons rfl (lens_cons rfl (lens_nil)))) (fit_cons (i := 0) rfl rfl (fit_cons (i := 1) rfl rfl (fit_nil))) (cs := #[.int .i64 (K + 1), .int .i64 (modK eK_1 256), .slice none 0 0]) rfl) fun _ H75 => ?_
   clear H71 H72 hx59 H73
   refine h1_ 15 rfl <| d_ H75 rfl (R := fun v9 w9 => ∃ ge77 : Nat, ∃ ce77 : Nat, ∃ cbe77 : Array Value, v9 = .int .i64 0 ∧ (OwnC cbe77 ce77 (K + 1 + 1) 66 (entsL (X ++ [mkA X qK_1 (K + 1) (modK eK_1 256)]))) ∧ St w noF [⟨g23, 30, #[.slice (some ⟨ge77, 0, none⟩) (K + 1 + 1) ce77]⟩, ⟨ge77, 59, cbe77⟩] w9) (dc_ Tryd.func11 rfl (args3 (H75.ev 30 rfl) (H75.ev 35 rfl) (H75.ev 44 rfl)) (audadd_own _ g23 _ K _ _ X _ _ _ qK_1 (K + 1) (modK eK_1 256) (.slice none 0 0) _ (ss HSh59 [0, 1]).frame OA hX hw (by omega) (HT _ HSh59.below) (nin_l (ss HSh59 [0, 1]) hT.pos) (fun W9 k9 => slice_keepL i1K_1.slice (ss HSh59 [0, 1]) k9) rfl (by omega) (mayR_k _ (by omega) (by omega))) (fun _ w9 ⟨g9, c9, cb9, he, hO, hS⟩ => ⟨_, he, g9, c9, cb9, rfl, hO, St.reframe (ss HSh59 [0, 1]) hS⟩)) ?_
   rintro _ W76 ⟨ge77, ce77, cbe77, rfl, Oe77, HS76⟩ a76 H76
   clear H75 HSh59
   refine sx_ (sxi HS76 [0, 1] rfl) fun hx78 => ht_ H76 16 hx78 rfl rfl (fun _ _ _ => dd_cmp rfl (H76.ev 45 rfl) rfl (ne_f (by decide))) fun _ H79 => ?_
   clear hx74 H76
   refine wpAnyH_done (by kernel_rfl) ?_ _
   clear hx78
   refine nx <| cf_ H79 rfl <| wp_skip <| bn <| nx <| rl_ <| wl_ <| p_ H79 rfl rfl fun _ H80 => wl_ <| i_ H80 rfl (v := .int .i64 ((K + 1) + 1)) (dd_ari rfl (H80.ev 28 rfl) rfl rfl (i64_of (by first | omega | (have := bd_lo; omega)) (by omega))) fun _ H81 => wl_ <| p_ H81 rfl rfl fun _ H82 => ln_ <| ?_
   clear H79 H80 H81
   have H83 := H82.sel [1, 0, 5, 6] rfl
   clear H82
   refine nx ⟨K + 1, ⟨(X ++ [mkA X qK_1 (K + 1) (modK eK_1 256)]), ge77, ce77, cbe77, (by omega), (len_snoc hX), (wf_mk hw _ _ _), (good_mk hgd _ (mayR_k _ (by omega) (by omega))), (bdA_snoc hbd ⟨by omega, by omega⟩ (modK_b _ (by decide))), Oe77, H83.sel [1, 0, 5, 6] rfl, ss HS76 [0, 1]⟩, (by omega)⟩
  refine wl_ <| i_ H55 rfl (dd_cmp rfl (H55.ev 24 rfl) (H55.ev 26 rfl) (lt_f hc57)) fun _ H84 => ln_ <| nx <| cf_ H84 rfl <| wp_exit <| tx <| tx <| bx <| nx <| sq_ <| rl_ <| wl_ <| p_ H84 rfl rfl fun _ H85 => ?_
  clear H55 H84
  refine wl_ <| d_ H85 rfl (R := fun v w9 => ∃ gc87 cc87 cbc87, v = .slice (some ⟨gc87, 0, none⟩) (K + 1) cc87 ∧ (wL25.heap.size ≤ gc87) ∧ (Row w9 gc87 59 cbc87) ∧ (OwnC cbc87 cc87 (K + 1) 66 (entsL X)) ∧ Below wL25.heap.size wL25 w9) (dc_ Tryd.func19 rfl (args1 (H85.ev 47 rfl)) (audents_pos _ _ (K + 1) _ X wL25 (HSL25.row 0 rfl) (cat_own (HSL25.row 1 rfl) OA) hX hw (by omega)) (fun _ w9 ⟨g9, c9, cb9, he, h1, h2, h3, hb⟩ => ⟨_, he, g9, c9, cb9, rfl, h1, h2, h3, hb⟩)) ?_
  rintro _ W86 ⟨gc87, cc87, cbc87, rfl, hg87, hr87, Oc87, hb86⟩ a86 H86
  have HS86 := HSL25.same hb86
  clear H85
  have HS86j : St w noF [⟨g23, 30, #[.slice (some ⟨gA, 0, none⟩) (K + 1) cA]⟩, ⟨gA, 59, cbA⟩, ⟨gc87, 59, cbc87⟩] W86 := HSL25.joins hb86 hr87 hg87
  clear HS86 hr87 hg87
  clear HSL25 hb86
  refine wl_ <| p_ H86 rfl rfl fun _ H88 => ln_ <| nx <| sq_ <| sq_ <| rl_ <| wl_ <| p_ H88 rfl rfl fun _ H89 => wl_ <| i_ H89 rfl (v := .int .i64 (K + 1)) (dd_len rfl (H89.ev 49 rfl) Tryd.underlying28) fun _ H90 => wl_ <| p_ H90 rfl rfl fun _ H91 => wl_ <| i_ H91 rfl (v := .int .i64 n) (dd_len rfl (H91.ev 51 rfl) Tryd.underlying22) fun _ H92 => wl_ <| i_ H92 rfl (dd_cmp rfl (H92.ev 50 rfl) (H92.ev 52 rfl) (ne_f (by omega))) fun _ H93 => ln_ <| nx <| cf_ H93 rfl <| wp_skip <| nx <| sq_ <| rl_ <| wl_ <| p_ H93 rfl rfl fun _ H94 => wl_ <| i_ H94 rfl (v := .int .i64 (bd z)) (dd_conv (k := .i64) rfl (H94.ev 54 rfl) Tryd.underlying5 (by kernel_rfl) (i64_bdA _)) fun _ H95 => ?_
  clear H86 H88 H89 H90 H91 H92 H93
  refine wl_ <| p_ H95 rfl rfl fun _ H96 => wl_ <| i_ H96 rfl (v := .int .i64 n) (dd_len rfl (H96.ev 56 rfl) Tryd.underlying22) fun _ H97 => ?_
  clear H94 H95 H96
  obtain ⟨n1, hn1⟩ : ∃ n1 : Nat, n = n1 + 1 := ⟨n - 1, by omega⟩
  refine wl_ <| i_ H97 rfl (v := .int .i64 n1) (dd_ari rfl (H97.ev 57 rfl) rfl rfl (by rw [i64_id _ (by omega) (by omega)]; omega)) fun _ H98 => ?_
  clear H97
  obtain ⟨r, hr, lr⟩ := mod_nat (bd z) n1 (bd_lo _) (by omega)
  refine wl_ <| i_ H98 rfl (v := .int .i64 r) (dd_rem rfl (H98.ev 55 rfl) (H98.ev 58 rfl) (by omega) hr) fun _ H99 => wl_ <| p_ H99 rfl rfl fun _ H100 => ln_ <| ?_
  clear H98 H99
  have H101 := H100.sel [7, 8] rfl
  refine nx <| sq_ <| rl_ <| wl_ <| n_ H101 rfl (fun _ h => dd_new HS86j (bs (zer 32)) rfl (z := .agg (bs (zer 32))) (by kernel_rfl) rfl h) fun g9 W102 HS102 _ H102 => ln_ <| nx <| sq_ <| sq_ <| rl_ <| wl_ <| p_ H102 rfl rfl fun _ H103 => ?_
  clear H100 HS86j H101 H102
  by_cases hc105 : (0 : Int) < r
  ·
   refine wl_ <| i_ H103 rfl (dd_cmp rfl (H103.ev 60 rfl) rfl (gt_t hc105)) fun _ H106 => ln_ <| nx <| ct_ H106 rfl <| rl_ <| q_ H106 2 rfl fun _ H107 => ?_
   clear H103 H106
   obtain ⟨r1, hr1⟩ : ∃ r1 : Nat, r = r1 + 1 := ⟨r - 1, by omega⟩
   refine wl_ <| i_ H107 rfl (v := .int .i64 r1) (dd_ari rfl (H107.ev 63 rfl) rfl rfl (by rw [i64_id _ (by omega) (by omega)]; omega)) fun _ H108 => wl_ <| i_ H108 rfl (xSo 66 (r1 * 66) rfl (H108.ev 62 rfl) (H108.ev 64 rfl)) fun _ H109 => wl_ <| i_ H109 rfl (xf 34 (r1 * 66 + 34) rfl (H109.ev 65 rfl)) fun _ H110 => ?_
   clear H107 H108 H109
   obtain ⟨xr1, hxr1⟩ : ∃ x, X[r1]? = some x := ⟨_, List.getElem?_eq_getElem (by rw [hX]; omega)⟩
   have hwr1 := hw xr1 (List.mem_of_getElem? hxr1)
   have hqr1 := hbd xr1 (List.mem_of_getElem? hxr1)
   refine wl_ <| i_ H110 rfl (v := .agg (bs (lk X r))) (dd_atN (L := bytesV (lk X r)) rfl (H110.ev 66 rfl) (by rw [hr1, lk_succ hxr1]; exact ent_l0 (cat_own (HS102.row 2 rfl) Oc87) hw hxr1) Tryd.underlying24 rfl (by rw [len_bytesV, length_lk hw]; kernel_rfl)) fun _ H111 => wl_ <| t_ rfl (fun _ h => dd_setrow HS102 3 rfl rfl (H111.ev 9 rfl) (H111.ev 67 rfl) (by kernel_rfl) (((size_bs _).trans (length_lk hw _)) : (bs (lk X r)).size = 32) (((size_bs _).trans (length_zer 32)) : (bs (zer 32)).size = 32) (one_bs _) h) fun W112 HS112 => ln_ <| nx <| sq_ <| ?_
   clear H110 HS102
   refine wi_ HS112 [0, 1, 2, 3] rfl [0, 1, 2, 3] rfl fun HSh113 hx113 => hp_ H111 0 hx113 rfl rfl rfl fun _ H114 => hp_ H114 1 hx113 rfl rfl rfl fun _ H115 => ht_ H115 2 hx113 rfl rfl (v := .int .i64 (r + 1)) (fun _ _ _ => dd_ari rfl (H115.ev 70 rfl) rfl rfl (i64_of (by first | omega | (have := bd_lo; omega)) (by omega))) fun _ H116 => ht_ H116 3 hx113 rfl rfl (fun _ _ _ => xSo 66 ((r + 1) * 66) rfl (H116.ev 69 rfl) (H116.ev 71 rfl)) fun _ H117 => ht_ H117 4 hx113 rfl rfl (fun _ _ _ => xf 0 ((r + 1) * 66) rfl (H117.ev 72 rfl)) fun _ H118 => ?_
   clear HS112 H111 H114 H115 H116 H117
   obtain ⟨xr_1, hxr_1⟩ : ∃ x, X[r + 1]? = some x := ⟨_, List.getElem?_eq_getElem (by rw [hX]; omega)⟩
   have hwr_1 := hw xr_1 (List.mem_of_getElem? hxr_1)
   have hqr_1 := hbd xr_1 (List.mem_of_getElem? hxr_1)
   refine ht_ H118 5 hx113 rfl rfl (v := .agg (bs xr_1.1)) (fun _ _ HS9 => dd_atN rfl (H118.ev 73 rfl) (ent_h0 (cat_own (HS9.row 2 rfl) Oc87) hw hxr_1) Tryd.underlying24 rfl (by show _ = some (bytesV xr_1.1).length; rw [show (bytesV xr_1.1).length = 32 from len_bv hwr_1.1]; kernel_rfl)) fun _ H119 => hp_ H119 6 hx113 rfl rfl rfl fun _ H120 => hp_ H120 7 hx113 rfl rfl rfl fun _ H121 => ht_ H121 8 hx113 rfl rfl (v := .int .i64 (r + 1)) (fun _ _ _ => dd_ari rfl (H121.ev 76 rfl) rfl rfl (i64_of (by first | omega | (have := bd_lo; omega)) (by omega))) fun _ H122 => ht_ H122 9 hx113 rfl rfl (fun _ _ _ => xSo 66 ((r + 1) * 66) rfl (H122.ev 75 rfl) (H122.ev 77 rfl)) fun _ H123 => ht_ H123 10 hx113 rfl rfl (fun _ _ _ => xf 32 ((r + 1) * 66 + 32) rfl (H123.ev 78 rfl)) fun _ H124 => ht_ H124 11 hx113 rfl rfl (fun _ _ HS9 => dd_at rfl (H124.ev 79 rfl) (ent_i0 (cat_own (HS9.row 2 rfl) Oc87) hw hxr_1) Tryd.underlying3 rfl) fun _ H125 => hp_ H125 12 hx113 rfl rfl rfl fun _ H126 => ?_
   clear H118 H119 H120 H121 H122 H123 H124
   refine hp_ H126 13 hx113 rfl rfl rfl fun _ H127 => ht_ H127 14 hx113 rfl rfl (v := .int .i64 (r + 1)) (fun _ _ _ => dd_ari rfl (H127.ev 82 rfl) rfl rfl (i64_of (by first | omega | (have := bd_lo; omega)) (by omega))) fun _ H128 => ht_ H128 15 hx113 rfl rfl (fun _ _ _ => xSo 66 ((r + 1) * 66) rfl (H128.ev 81 rfl) (H128.ev 83 rfl)) fun _ H129 => ht_ H129 16 hx113 rfl rfl (fun _ _ _ => xf 33 ((r + 1) * 66 + 33) rfl (H129.ev 84 rfl)) fun _ H130 => ht_ H130 17 hx113 rfl rfl (fun _ _ HS9 => dd_at rfl (H130.ev 85 rfl) (ent_e0 (cat_own (HS9.row 2 rfl) Oc87) hw hxr_1) Tryd.underlying36 rfl) fun _ H131 => ht_ H131 18 hx113 rfl rfl (v := .agg #[.int .i64 xr_1.2.1, .int .i64 xr_1.2.2.1, .slice none 0 0]) (fun _ _ _ => dd_bld rfl (ps := [(0, .int .i64 xr_1.2.1), (1, .int .i64 xr_1.2.2.1)]) (pr1 (H131.ev 80 rfl) (pr1 (H131.ev 86 rfl) (pr0))) (Lz := [[.int .i64 0], [.int .i64 0], [.slice none 0 0]]) (by kernel_rfl) (lens_cons rfl (lens_cons rfl (lens_cons rfl (lens_nil)))) (fit_cons (i := 0) rfl rfl (fit_cons (i := 1) rfl rfl (fit_nil))) (cs := #[.int .i64 xr_1.2.1, .int .i64 xr_1.2.2.1, .slice none 0 0]) rfl) fun _ H132 => ?_
   clear H125 H126 H127 H128 H129 H130 H131
   refine h1_ 19 rfl <| d_ H132 rfl (R := fun v w9 => ∃ gc134 cc134 cbc134, v = .tuple #[.slice (some ⟨gc134, 0, none⟩) 40 cc134, .int .i64 0] ∧ (W112.drew.heap.size ≤ gc134) ∧ (Row w9 gc134 5 cbc134) ∧ (OwnC cbc134 cc134 40 1 (bytesV (recA xr_1.1 xr_1.2.1 xr_1.2.2.1))) ∧ Below W112.drew.heap.size W112.drew w9) (dc_ Tryd.func15 rfl (args2 (H132.ev 74 rfl) (H132.ev 87 rfl)) (audrec_good xr_1.1 xr_1.2.1 xr_1.2.2.1 _ W112.drew hwr_1.1 (mayR_in (by omega) (by omega) (by omega) (by omega))) (fun _ w9 ⟨g9, c9, cb9, he, h1, h2, h3, hb⟩ => ⟨_, he, g9, c9, cb9, rfl, h1, h2, h3, hb⟩)) ?_
   rintro _ W133 ⟨gc134, cc134, cbc134, rfl, hg134, hr134, Oc134, hb133⟩ a133 H133
   have HS133 := HSh113.same hb133
   clear H132
   have HS133j : St w noF [⟨g23, 30, #[.slice (some ⟨gA, 0, none⟩) (K + 1) cA]⟩, ⟨gA, 59, cbA⟩, ⟨gc87, 59, cbc87⟩, ⟨g9, 24, bs (lk X r)⟩, ⟨gc134, 5, cbc134⟩] W133 := HSh113.joins hb133 hr134 hg134
   clear HS133 hr134 hg134
   clear HSh113 hb133
   refine sx_ (sxi HS133j [0, 1, 2, 3, 4] rfl) fun hx135 => hp_ H133 20 hx135 rfl rfl rfl fun _ H136 => ht_ H136 21 hx135 rfl rfl (v := .slice (some ⟨gc134, 0, none⟩) 40 cc134) (fun _ _ _ => dd_ext rfl (H136.ev 68 rfl) rfl) fun _ H137 => ht_ H137 22 hx135 rfl rfl (v := .int .i64 0) (fun _ _ _ => dd_ext rfl (H137.ev 68 rfl) rfl) fun _ H138 => hp_ H138 23 hx135 rfl rfl rfl fun _ H139 => hp_ H139 24 hx135 rfl rfl rfl fun _ H140 => ?_
   clear hx113 H133 H136 H137 H138 H139
   refine wpAnyH_done (by kernel_rfl) ?_ _
   clear hx135
   refine nx <| sq_ <| sq_ <| rl_ <| wl_ <| p_ H140 rfl rfl fun _ H141 => wl_ <| i_ H141 rfl (dd_cmp rfl (H141.ev 91 rfl) rfl (ne_f (by decide))) fun _ H142 => ln_ <| ?_
   clear H140 H141
   have H143 := H142.sel [7, 8, 9, 10, 92] rfl
   refine nx <| cf_ H143 rfl <| wp_skip <| nx <| sq_ <| sq_ <| ?_
   clear H142
   cases hb157 : decide (nextL (lk X r) xr_1 = xr_1.2.2.2)
   ·
    refine wi_ HS133j [0, 1, 2, 3] rfl [0, 1, 2, 3, 4] rfl fun HSh158 hx158 => ht_ H143 0 hx158 rfl rfl (v := .agg (bs (lk X r))) (fun _ _ HS9 => dd_load HS9 3 0 rfl rfl (H143.ev 9 rfl) (slab_whole _) Tryd.underlying24 rfl (by rw [show (bs (lk X r)).size = 32 from ((size_bs _).trans (length_lk hw _))]; kernel_rfl)) fun _ H159 => hp_ H159 1 hx158 rfl rfl rfl fun _ H160 => hp_ H160 4 hx158 rfl rfl rfl fun _ H161 => hp_ H161 5 hx158 rfl rfl rfl fun _ H162 => ht_ H162 6 hx158 rfl rfl (v := .int .i64 (r + 1)) (fun _ _ _ => dd_ari rfl (H162.ev 98 rfl) rfl rfl (i64_of (by first | omega | (have := bd_lo; omega)) (by omega))) fun _ H163 => ht_ H163 7 hx158 rfl rfl (fun _ _ _ => xSo 66 ((r + 1) * 66) rfl (H163.ev 97 rfl) (H163.ev 99 rfl)) fun _ H164 => ht_ H164 8 hx158 rfl rfl (fun _ _ _ => xf 34 ((r + 1) * 66 + 34) rfl (H164.ev 100 rfl)) fun _ H165 => ?_
    clear HS133j H143 H159 H160 H161 H162 H163
    refine ht_ H165 9 hx158 rfl rfl (v := .agg (bs xr_1.2.2.2)) (fun _ _ HS9 => dd_atN rfl (H165.ev 101 rfl) (ent_l0 (cat_own (HS9.row 2 rfl) Oc87) hw hxr_1) Tryd.underlying24 rfl (by show _ = some (bytesV xr_1.2.2.2).length; rw [show (bytesV xr_1.2.2.2).length = 32 from len_bv hwr_1.2]; kernel_rfl)) fun _ H166 => h1_ 2 rfl <| n_ H166 rfl (fun _ h => dd_lits HSh158 #[.slice (some ⟨gc134, 0, none⟩) 40 cc134] rfl (ps := [(0, .slice (some ⟨gc134, 0, none⟩) 40 cc134)]) (pr1 (H166.ev 94 rfl) (pr0)) (z := .slice none 0 0) (sz := 1) Tryd.underlying67 (by kernel_rfl) rfl rfl (by kernel_rfl) h) fun g95 W167 HS167 _ H167 => sx_ (sxi HS167 [0, 1, 2, 3, 4, 5] rfl) fun hx168 => h1_ 3 rfl <| c_ H167 rfl HS167 (dcs Tryd.func24 rfl (args2 (H167.ev 93 rfl) (H167.ev 95 rfl)) (step_one (lk X r) (recA xr_1.1 xr_1.2.1 xr_1.2.2.1) _ W167 (HT _ HS167.below) (length_lk hw _) (parts_one1 (HS167.row 5 rfl) (slice_own (HS167.row 4 rfl) Oc134 (length_recA hwr_1.1))) (by rw [(length_recA hwr_1.1)]; decide) (nextL (lk X r) xr_1) rfl) (.agg (bs (nextL (lk X r) xr_1)))) fun _ HS169 _ H169 => sx_ (sxi HS169 [0, 1, 2, 3, 4, 5] rfl) fun hx170 => ht_ H169 10 hx170 rfl rfl (v := .bool false) (fun _ _ _ => dd_eqa (b := false) rfl (H169.ev 96 rfl) (H169.ev 102 rfl) (by kernel_rfl) (fun w => by rw [eql_dgs (nextL (lk X r) xr_1) xr_1.2.2.2 (len_next _ _) hwr_1.2 w, hb157])) fun _ H171 => ?_
    clear H164 H165 HSh158 H166 hx158 H167 HS167 hx168 H169
    refine wpAnyH_done (by kernel_rfl) ?_ _
    clear hx170
    refine nx <| cf_ H171 rfl <| wp_skip <| nx <| sq_ <| ?_
    have hle := Oc87.le
    refine wi_ HS169 [0, 1, 2, 3, 5] rfl [0, 1, 2, 3, 5, 4] rfl fun HSh172 hx172 => hp_ H171 1 hx172 rfl rfl rfl fun _ H173 => hp_ H173 2 hx172 rfl rfl rfl fun _ H174 => ht_ H174 3 hx172 rfl rfl (v := .slice (some ⟨gc87, 0, none⟩) r cc87) (fun _ _ _ => dd_slh (sz := 66) rfl (H174.ev 106 rfl) (H174.ev 107 rfl) (by kernel_rfl) (by omega) (by omega) rfl) fun _ H175 => hp_ H175 5 hx172 rfl rfl rfl fun _ H176 => hp_ H176 6 hx172 rfl rfl rfl fun _ H177 => ht_ H177 7 hx172 rfl rfl (v := .int .i64 (r + 1)) (fun _ _ _ => dd_ari rfl (H177.ev 111 rfl) rfl rfl (i64_of (by first | omega | (have := bd_lo; omega)) (by omega))) fun _ H178 => ht_ H178 8 hx172 rfl rfl (v := .slice (some ⟨gc87, (r + 1) * 66, none⟩) (K + 1 - (r + 1)) (cc87 - (r + 1))) (fun _ _ _ => dd_sll (l := r + 1) (sz := 66) (j := (r + 1) * 66) (n' := K + 1 - (r + 1)) (c' := cc87 - (r + 1)) rfl (H178.ev 110 rfl) (H178.ev 112 rfl) (by kernel_rfl) (by omega) (by omega) (Nat.zero_add _) rfl rfl) fun _ H179 => ?_
    clear HS169 H171 H173 H174 H175 H176 H177
    refine h1_ 0 rfl <| n_ H179 rfl (S := fun g105 => [⟨g23, 30, #[.slice (some ⟨gA, 0, none⟩) (K + 1) cA]⟩, ⟨gA, 59, cbA⟩, ⟨gc87, 59, cbc87⟩, ⟨g9, 24, bs (lk X r)⟩, ⟨gc134, 5, cbc134⟩, ⟨g95, 35, #[.slice (some ⟨gc134, 0, none⟩) 40 cc134]⟩, ⟨g105, 59, #[]⟩]) (A := fun g105 => .slice (some ⟨g105, 0, none⟩) 0 0) (fun _ h => dd_lit0 HSh172 rfl rfl Tryd.underlying28 (sz := 66) (by kernel_rfl) h) fun g105 _ HS180 _ H180 => sx_ (sxi HS180 [0, 1, 2, 3, 5, 4, 6] rfl) fun hx181 => h1_ 4 rfl <| a_ H180 rfl (fun g109_183 c109_183 => .slice (some ⟨g109_183, 0, none⟩) (0 + r) c109_183) (T := fun _ c109_183 cb109_183 => OwnC cb109_183 c109_183 (0 + r) 66 (entsL (X.take r))) (fun _ h => dd_app HS180 6 rfl (ownc_nil0 66) rfl (H180.ev 105 rfl) (z := .agg (catA [bytesV (zer 32), [.int .i64 0], [.int .i64 0], bytesV (zer 32)])) (bytes := 80) Tryd.underlying28 (by kernel_rfl) rfl (by decide) (entsL (X.take r)) (H180.ev 108 rfl) (len_ents (wf_take r hw) (take_lenE hX (by omega))) (cat_take (cat_own (HS180.row 2 rfl) Oc87) r).news (one_ents _) (by unfold maxLen; omega) (by omega) h) fun g109_183 c109_183 cb109_183 _ O109_183 HS182 _ H182 => sx_ (sxi HS182 [0, 1, 2, 3, 5, 4, 6] rfl) fun hx184 => h1_ 9 rfl <| a_ H182 rfl (fun g114_186 c114_186 => .slice (some ⟨g114_186, 0, none⟩) (0 + r + (K + 1 - (r + 1))) c114_186) (T := fun _ c114_186 cb114_186 => OwnC cb114_186 c114_186 (0 + r + (K + 1 - (r + 1))) 66 ((entsL (X.take r)) ++ entsL (X.drop (r + 1)))) (fun _ h => dd_app HS182 6 rfl O109_183 rfl (H182.ev 109 rfl) (z := .agg (catA [bytesV (zer 32), [.int .i64 0], [.int .i64 0], bytesV (zer 32)])) (bytes := 80) Tryd.underlying28 (by kernel_rfl) rfl (by decide) (entsL (X.drop (r + 1))) (H182.ev 113 rfl) (len_ents (wf_drop (r + 1) hw) (drop_lenE hX)) (cat_drop (cat_own (HS182.row 2 rfl) Oc87) hw (r + 1) (by rw [hX]; omega)).news (one_ents _) (by unfold maxLen; omega) (by omega) h) fun g114_186 c114_186 cb114_186 _ O114_186 HS185 _ H185 => sx_ (sxi HS185 [0, 1, 2, 3, 5, 4, 6] rfl) fun hx187 => hp_ H185 10 hx187 rfl rfl rfl fun _ H188 => ?_
    clear H178 HSh172 H179 hx172 HS180 H180 hx181 HS182 H182 hx184 H185
    refine wpAnyH_done (by kernel_rfl) ?_ _
    clear hx187
    refine nx <| sq_ <| ?_
    obtain ⟨xr, hxr⟩ : ∃ x, X[r]? = some x := ⟨_, List.getElem?_eq_getElem (by rw [hX]; omega)⟩
    have hwr := hw xr (List.mem_of_getElem? hxr)
    have hqr := hbd xr (List.mem_of_getElem? hxr)
    refine wp_cut (fun a9 w9 => En 144 [(12, .slice (some ⟨g114_186, 0, none⟩) (0 + r + (K + 1 - (r + 1))) c114_186), (8, .int .i64 r), (7, .slice (some ⟨gc87, 0, none⟩) (K + 1) cc87)] a9 ∧ St w noF [⟨g23, 30, #[.slice (some ⟨gA, 0, none⟩) (K + 1) cA]⟩, ⟨gA, 59, cbA⟩, ⟨gc87, 59, (spl ((spl cbc87.toList (r * 66) (aecell xr_1)).toArray).toList ((r + 1) * 66) (aecell xr)).toArray⟩, ⟨g9, 24, bs (lk X r)⟩, ⟨gc134, 5, cbc134⟩, ⟨g95, 35, #[.slice (some ⟨gc134, 0, none⟩) 40 cc134]⟩, ⟨g114_186, 59, cb114_186⟩] w9) ?_ ?_
    ·
     refine wi_ HS185 [0, 1, 3, 5, 6] rfl [0, 1, 3, 5, 6, 2, 4] rfl fun HSh189 hx189 => hp_ H188 0 hx189 rfl rfl rfl fun _ H190 => hp_ H190 1 hx189 rfl rfl rfl fun _ H191 => hp_ H191 2 hx189 rfl rfl rfl fun _ H192 => hp_ H192 3 hx189 rfl rfl rfl fun _ H193 => ht_ H193 4 hx189 rfl rfl (v := .int .i64 (r + 1)) (fun _ _ _ => dd_ari rfl (H193.ev 118 rfl) rfl rfl (i64_of (by first | omega | (have := bd_lo; omega)) (by omega))) fun _ H194 => hp_ H194 5 hx189 rfl rfl rfl fun _ H195 => hp_ H195 6 hx189 rfl rfl rfl fun _ H196 => ?_
     clear HS185 H188 H190 H191 H192 H193 H194
     refine ht_ H196 7 hx189 rfl rfl (v := .int .i64 (r + 1)) (fun _ _ _ => dd_ari rfl (H196.ev 121 rfl) rfl rfl (i64_of (by first | omega | (have := bd_lo; omega)) (by omega))) fun _ H197 => ht_ H197 8 hx189 rfl rfl (fun _ _ _ => xSo 66 ((r + 1) * 66) rfl (H197.ev 120 rfl) (H197.ev 122 rfl)) fun _ H198 => hp_ H198 10 hx189 rfl rfl rfl fun _ H199 => hp_ H199 11 hx189 rfl rfl rfl fun _ H200 => ht_ H200 12 hx189 rfl rfl (fun _ _ _ => xSo 66 (r * 66) rfl (H200.ev 125 rfl) (H200.ev 126 rfl)) fun _ H201 => ?_
     clear H195 H196 H197 H198 H199 H200
     refine wpAnyH_all (rs := [9, 13]) (by kernel_rfl) (by decide) (hm_cons ?_ (hm_cons ?_ hm_nil))
     ·
      refine ho_ rfl <| i_ H201 rfl (v := .agg (catA [bytesV xr_1.1, [.int .i64 xr_1.2.1], [.int .i64 xr_1.2.2.1], bytesV xr_1.2.2.2])) (dd_atN rfl (H201.ev 123 rfl) (ent_all0 (cat_own (HSh189.row 2 rfl) Oc87) hw hxr_1) Tryd.underlying59 rfl (by show _ = some (catA [bytesV xr_1.1, [.int .i64 xr_1.2.1], [.int .i64 xr_1.2.2.1], bytesV xr_1.2.2.2]).toList.length; rw [show (catA [bytesV xr_1.1, [.int .i64 xr_1.2.1], [.int .i64 xr_1.2.2.1], bytesV xr_1.2.2.2]).toList.length = 66 from (Array.length_toList).trans (cat_size (lens_cons (len_bv hwr_1.1) (lens_cons rfl (lens_cons rfl (lens_cons (len_bv hwr_1.2) (lens_nil))))))]; kernel_rfl)) fun _ H202 => sx_ (sxi HSh189 [0, 1, 3, 5, 6, 2, 4] rfl) fun hx203 => h1_ 13 rfl <| i_ H202 rfl (v := .agg (catA [bytesV xr.1, [.int .i64 xr.2.1], [.int .i64 xr.2.2.1], bytesV xr.2.2.2])) (dd_atN rfl (H202.ev 127 rfl) (ent_all0 (cat_own (HSh189.row 2 rfl) Oc87) hw hxr) Tryd.underlying59 rfl (by show _ = some (catA [bytesV xr.1, [.int .i64 xr.2.1], [.int .i64 xr.2.2.1], bytesV xr.2.2.2]).toList.length; rw [show (catA [bytesV xr.1, [.int .i64 xr.2.1], [.int .i64 xr.2.2.1], bytesV xr.2.2.2]).toList.length = 66 from (Array.length_toList).trans (cat_size (lens_cons (len_bv hwr.1) (lens_cons rfl (lens_cons rfl (lens_cons (len_bv hwr.2) (lens_nil))))))]; kernel_rfl)) fun _ H204 => sx_ (sxi HSh189 [0, 1, 3, 5, 6, 2, 4] rfl) fun hx205 => ht_ H204 14 hx205 rfl rfl (fun _ _ _ => xSo 66 (r * 66) rfl (H204.ev 115 rfl) (H204.ev 116 rfl)) fun _ H206 => h1_ 15 rfl <| t_ rfl (S := [⟨g23, 30, #[.slice (some ⟨gA, 0, none⟩) (K + 1) cA]⟩, ⟨gA, 59, cbA⟩, ⟨gc87, 59, (spl cbc87.toList (r * 66) (aecell xr_1)).toArray⟩, ⟨g9, 24, bs (lk X r)⟩, ⟨gc134, 5, cbc134⟩, ⟨g95, 35, #[.slice (some ⟨gc134, 0, none⟩) 40 cc134]⟩, ⟨g114_186, 59, cb114_186⟩]) (fun _ h => dd_store (cs := (spl cbc87.toList (r * 66) (aecell xr_1)).toArray) HSh189 2 (r * 66) rfl rfl (H206.ev 129 rfl) (H206.ev 124 rfl) (by rw [show Value.cells (.agg (catA [bytesV xr_1.1, [.int .i64 xr_1.2.1], [.int .i64 xr_1.2.2.1], bytesV xr_1.2.2.2])) = catA [bytesV xr_1.1, [.int .i64 xr_1.2.1], [.int .i64 xr_1.2.2.1], bytesV xr_1.2.2.2] from rfl, show (catA [bytesV xr_1.1, [.int .i64 xr_1.2.1], [.int .i64 xr_1.2.2.1], bytesV xr_1.2.2.2]).size = 66 from (cat_size (lens_cons (len_bv hwr_1.1) (lens_cons rfl (lens_cons rfl (lens_cons (len_bv hwr_1.2) (lens_nil))))))]; kernel_rfl) (own_fitE Oc87 (by omega) (cat_size (lens_cons (len_bv hwr_1.1) (lens_cons rfl (lens_cons rfl (lens_cons (len_bv hwr_1.2) (lens_nil))))))) (cat_one (ones_cons (one_bytesV _) (ones_cons (ones_c rfl) (ones_cons (ones_c rfl) (ones_cons (one_bytesV _) (ones_nil)))))) rfl h) fun _ HS207 => sx_ (sxi HS207 [0, 1, 3, 5, 6, 2, 4] rfl) fun hx209 => ht_ H206 16 hx209 rfl rfl (fun _ _ _ => xSo 66 ((r + 1) * 66) rfl (H206.ev 117 rfl) (H206.ev 119 rfl)) fun _ H210 => ?_
      clear H201 H202 hx203 H204 HSh189 hx205
      refine h1_ 17 rfl <| t_ rfl (S := [⟨g23, 30, #[.slice (some ⟨gA, 0, none⟩) (K + 1) cA]⟩, ⟨gA, 59, cbA⟩, ⟨gc87, 59, (spl ((spl cbc87.toList (r * 66) (aecell xr_1)).toArray).toList ((r + 1) * 66) (aecell xr)).toArray⟩, ⟨g9, 24, bs (lk X r)⟩, ⟨gc134, 5, cbc134⟩, ⟨g95, 35, #[.slice (some ⟨gc134, 0, none⟩) 40 cc134]⟩, ⟨g114_186, 59, cb114_186⟩]) (fun _ h => dd_store (cs := (spl ((spl cbc87.toList (r * 66) (aecell xr_1)).toArray).toList ((r + 1) * 66) (aecell xr)).toArray) HS207 2 ((r + 1) * 66) rfl rfl (H210.ev 130 rfl) (H210.ev 128 rfl) (by rw [show Value.cells (.agg (catA [bytesV xr.1, [.int .i64 xr.2.1], [.int .i64 xr.2.2.1], bytesV xr.2.2.2])) = catA [bytesV xr.1, [.int .i64 xr.2.1], [.int .i64 xr.2.2.1], bytesV xr.2.2.2] from rfl, show (catA [bytesV xr.1, [.int .i64 xr.2.1], [.int .i64 xr.2.2.1], bytesV xr.2.2.2]).size = 66 from (cat_size (lens_cons (len_bv hwr.1) (lens_cons rfl (lens_cons rfl (lens_cons (len_bv hwr.2) (lens_nil))))))]; kernel_rfl) (own_fitE (own_setE (n := K + 1) (k := r) Oc87 hw (by omega) hwr_1 hX) (by omega) (cat_size (lens_cons (len_bv hwr.1) (lens_cons rfl (lens_cons rfl (lens_cons (len_bv hwr.2) (lens_nil))))))) (cat_one (ones_cons (one_bytesV _) (ones_cons (ones_c rfl) (ones_cons (ones_c rfl) (ones_cons (one_bytesV _) (ones_nil)))))) rfl h) fun _ HS211 => sx_ (sxi HS211 [0, 1, 3, 5, 6, 2, 4] rfl) fun hx213 => ?_
      clear H206 HS207 hx209
      refine wpAnyH_done (by kernel_rfl) ?_ _
      clear hx213
      exact nx ⟨H210.sel [7, 8, 12] rfl, ss HS211 [0, 1, 2, 3, 4, 5, 6]⟩
     refine ho_ rfl <| i_ H201 rfl (v := .agg (catA [bytesV xr.1, [.int .i64 xr.2.1], [.int .i64 xr.2.2.1], bytesV xr.2.2.2])) (dd_atN rfl (H201.ev 127 rfl) (ent_all0 (cat_own (HSh189.row 2 rfl) Oc87) hw hxr) Tryd.underlying59 rfl (by show _ = some (catA [bytesV xr.1, [.int .i64 xr.2.1], [.int .i64 xr.2.2.1], bytesV xr.2.2.2]).toList.length; rw [show (catA [bytesV xr.1, [.int .i64 xr.2.1], [.int .i64 xr.2.2.1], bytesV xr.2.2.2]).toList.length = 66 from (Array.length_toList).trans (cat_size (lens_cons (len_bv hwr.1) (lens_cons rfl (lens_cons rfl (lens_cons (len_bv hwr.2) (lens_nil))))))]; kernel_rfl)) fun _ H214 => sx_ (sxi HSh189 [0, 1, 3, 5, 6, 2, 4] rfl) fun hx215 => h1_ 9 rfl <| i_ H214 rfl (v := .agg (catA [bytesV xr_1.1, [.int .i64 xr_1.2.1], [.int .i64 xr_1.2.2.1], bytesV xr_1.2.2.2])) (dd_atN rfl (H214.ev 123 rfl) (ent_all0 (cat_own (HSh189.row 2 rfl) Oc87) hw hxr_1) Tryd.underlying59 rfl (by show _ = some (catA [bytesV xr_1.1, [.int .i64 xr_1.2.1], [.int .i64 xr_1.2.2.1], bytesV xr_1.2.2.2]).toList.length; rw [show (catA [bytesV xr_1.1, [.int .i64 xr_1.2.1], [.int .i64 xr_1.2.2.1], bytesV xr_1.2.2.2]).toList.length = 66 from (Array.length_toList).trans (cat_size (lens_cons (len_bv hwr_1.1) (lens_cons rfl (lens_cons rfl (lens_cons (len_bv hwr_1.2) (lens_nil))))))]; kernel_rfl)) fun _ H216 => sx_ (sxi HSh189 [0, 1, 3, 5, 6, 2, 4] rfl) fun hx217 => ht_ H216 14 hx217 rfl rfl (fun _ _ _ => xSo 66 (r * 66) rfl (H216.ev 115 rfl) (H216.ev 116 rfl)) fun _ H218 => h1_ 15 rfl <| t_ rfl (S := [⟨g23, 30, #[.slice (some ⟨gA, 0, none⟩) (K + 1) cA]⟩, ⟨gA, 59, cbA⟩, ⟨gc87, 59, (spl cbc87.toList (r * 66) (aecell xr_1)).toArray⟩, ⟨g9, 24, bs (lk X r)⟩, ⟨gc134, 5, cbc134⟩, ⟨g95, 35, #[.slice (some ⟨gc134, 0, none⟩) 40 cc134]⟩, ⟨g114_186, 59, cb114_186⟩]) (fun _ h => dd_store (cs := (spl cbc87.toList (r * 66) (aecell xr_1)).toArray) HSh189 2 (r * 66) rfl rfl (H218.ev 129 rfl) (H218.ev 124 rfl) (by rw [show Value.cells (.agg (catA [bytesV xr_1.1, [.int .i64 xr_1.2.1], [.int .i64 xr_1.2.2.1], bytesV xr_1.2.2.2])) = catA [bytesV xr_1.1, [.int .i64 xr_1.2.1], [.int .i64 xr_1.2.2.1], bytesV xr_1.2.2.2] from rfl, show (catA [bytesV xr_1.1, [.int .i64 xr_1.2.1], [.int .i64 xr_1.2.2.1], bytesV xr_1.2.2.2]).size = 66 from (cat_size (lens_cons (len_bv hwr_1.1) (lens_cons rfl (lens_cons rfl (lens_cons (len_bv hwr_1.2) (lens_nil))))))]; kernel_rfl) (own_fitE Oc87 (by omega) (cat_size (lens_cons (len_bv hwr_1.1) (lens_cons rfl (lens_cons rfl (lens_cons (len_bv hwr_1.2) (lens_nil))))))) (cat_one (ones_cons (one_bytesV _) (ones_cons (ones_c rfl) (ones_cons (ones_c rfl) (ones_cons (one_bytesV _) (ones_nil)))))) rfl h) fun _ HS219 => sx_ (sxi HS219 [0, 1, 3, 5, 6, 2, 4] rfl) fun hx221 => ht_ H218 16 hx221 rfl rfl (fun _ _ _ => xSo 66 ((r + 1) * 66) rfl (H218.ev 117 rfl) (H218.ev 119 rfl)) fun _ H222 => ?_
     clear H201 H214 hx215 H216 HSh189 hx217
     refine h1_ 17 rfl <| t_ rfl (S := [⟨g23, 30, #[.slice (some ⟨gA, 0, none⟩) (K + 1) cA]⟩, ⟨gA, 59, cbA⟩, ⟨gc87, 59, (spl ((spl cbc87.toList (r * 66) (aecell xr_1)).toArray).toList ((r + 1) * 66) (aecell xr)).toArray⟩, ⟨g9, 24, bs (lk X r)⟩, ⟨gc134, 5, cbc134⟩, ⟨g95, 35, #[.slice (some ⟨gc134, 0, none⟩) 40 cc134]⟩, ⟨g114_186, 59, cb114_186⟩]) (fun _ h => dd_store (cs := (spl ((spl cbc87.toList (r * 66) (aecell xr_1)).toArray).toList ((r + 1) * 66) (aecell xr)).toArray) HS219 2 ((r + 1) * 66) rfl rfl (H222.ev 130 rfl) (H222.ev 128 rfl) (by rw [show Value.cells (.agg (catA [bytesV xr.1, [.int .i64 xr.2.1], [.int .i64 xr.2.2.1], bytesV xr.2.2.2])) = catA [bytesV xr.1, [.int .i64 xr.2.1], [.int .i64 xr.2.2.1], bytesV xr.2.2.2] from rfl, show (catA [bytesV xr.1, [.int .i64 xr.2.1], [.int .i64 xr.2.2.1], bytesV xr.2.2.2]).size = 66 from (cat_size (lens_cons (len_bv hwr.1) (lens_cons rfl (lens_cons rfl (lens_cons (len_bv hwr.2) (lens_nil))))))]; kernel_rfl) (own_fitE (own_setE (n := K + 1) (k := r) Oc87 hw (by omega) hwr_1 hX) (by omega) (cat_size (lens_cons (len_bv hwr.1) (lens_cons rfl (lens_cons rfl (lens_cons (len_bv hwr.2) (lens_nil))))))) (cat_one (ones_cons (one_bytesV _) (ones_cons (ones_c rfl) (ones_cons (ones_c rfl) (ones_cons (one_bytesV _) (ones_nil)))))) rfl h) fun _ HS223 => sx_ (sxi HS223 [0, 1, 3, 5, 6, 2, 4] rfl) fun hx225 => ?_
     clear H218 HS219 hx221
     refine wpAnyH_done (by kernel_rfl) ?_ _
     clear hx225
     exact nx ⟨H222.sel [7, 8, 12] rfl, ss HS223 [0, 1, 2, 3, 4, 5, 6]⟩
    rintro aj189 wj189 ⟨Hj189, HSj189⟩
    refine nx <| sq_ <| rl_ <| wl_ <| p_ Hj189 rfl rfl fun _ H227 => wl_ <| c_ H227 rfl HSj189 (dcs Tryd.func20 rfl (args1 (H227.ev 131 rfl)) (audver_any _ (((X).set r xr_1).set (r + 1) xr) wj189 (HT _ HSj189.below) (ents_mk ((List.length_set ..).trans ((List.length_set ..).trans hX)) (wf_setE (wf_setE hw hwr_1) hwr) (cat_own (HSj189.row 2 rfl) (own_setE (n := K + 1) (k := r + 1) (own_setE (n := K + 1) (k := r) Oc87 hw (by omega) hwr_1 hX) (wf_setE hw hwr_1) (by omega) hwr ((List.length_set ..).trans hX))) (own_setE (n := K + 1) (k := r + 1) (own_setE (n := K + 1) (k := r) Oc87 hw (by omega) hwr_1 hX) (wf_setE hw hwr_1) (by omega) hwr ((List.length_set ..).trans hX)).le) (by rw [((List.length_set ..).trans ((List.length_set ..).trans hX))]; omega)) (.int .i64 (verI (((X).set r xr_1).set (r + 1) xr)))) fun W228 HS228 _ H228 => wl_ <| p_ H228 rfl rfl fun _ H229 => wl_ <| i_ H229 rfl (dd_cmp rfl (H229.ev 132 rfl) (H229.ev 133 rfl) (eq_t (ver_swap (by omega) hgd (of_decide_eq_false hb157)))) fun _ H230 => wl_ <| p_ H230 rfl rfl fun _ H231 => wl_ <| ig H231 (wg_ H231 rfl rfl rfl rfl) rfl (dd_mv rfl (H231.ev 12 rfl)) fun _ H232 => wl_ <| cg H232 (wg_ H232 rfl rfl rfl rfl) rfl HS228 (dcs Tryd.func20 rfl (args1 (H232.ev 136 rfl)) (audver_any _ ((X.take r) ++ (X.drop (r + 1))) W228 (HT _ HS228.below) (ents_mk (len_appE ((take_lenE hX (by omega)).trans (Nat.zero_add r).symm) (drop_lenE hX)) (wf_app (wf_take r hw) (wf_drop (r + 1) hw)) (cat_own (HS228.row 6 rfl) (own_app O114_186)) O114_186.le) (by rw [(len_appE ((take_lenE hX (by omega)).trans (Nat.zero_add r).symm) (drop_lenE hX))]; omega)) (.int .i64 (verI ((X.take r) ++ (X.drop (r + 1)))))) fun W233 HS233 _ H233 => wl_ <| ig H233 (wg_ H233 rfl rfl rfl rfl) rfl (dd_mv rfl (H233.ev 8 rfl)) fun _ H234 => ?_
    clear Hj189 H227 HSj189 H228 H229 H230 H231 H232 HS228
    refine wl_ <| ig H234 (wg_ H234 rfl rfl rfl rfl) rfl (dd_cmp rfl (H234.ev 137 rfl) (H234.ev 138 rfl) (eq_t (ver_out hxr_1 hgd (of_decide_eq_false hb157)))) fun _ H235 => q_ H235 2 rfl fun _ H236 => wl_ <| cg H236 (wg_ H236 rfl rfl rfl rfl) rfl HS233 (dcs Tryd.func10 rfl (args0 ) (auwakes_any W233 (HT _ HS233.below)) (.bool true)) fun _ HS237 _ H237 => q_ H237 2 rfl fun _ H238 => ln_ <| ?_
    clear H233 H234 H235 H236 HS233 H237
    have H239 := H238.sel [4] rfl
    refine nx <| wp_ret <| ret_run H239.env0 (res_t Tryd.results8 (H239.get 4 rfl)) <| ?_
    clear H238
    exact ⟨rfl, HS237.below⟩
   refine wi_ HS133j [0, 1, 2, 3] rfl [0, 1, 2, 3, 4] rfl fun HSh240 hx240 => ht_ H143 0 hx240 rfl rfl (v := .agg (bs (lk X r))) (fun _ _ HS9 => dd_load HS9 3 0 rfl rfl (H143.ev 9 rfl) (slab_whole _) Tryd.underlying24 rfl (by rw [show (bs (lk X r)).size = 32 from ((size_bs _).trans (length_lk hw _))]; kernel_rfl)) fun _ H241 => hp_ H241 1 hx240 rfl rfl rfl fun _ H242 => hp_ H242 4 hx240 rfl rfl rfl fun _ H243 => hp_ H243 5 hx240 rfl rfl rfl fun _ H244 => ht_ H244 6 hx240 rfl rfl (v := .int .i64 (r + 1)) (fun _ _ _ => dd_ari rfl (H244.ev 98 rfl) rfl rfl (i64_of (by first | omega | (have := bd_lo; omega)) (by omega))) fun _ H245 => ht_ H245 7 hx240 rfl rfl (fun _ _ _ => xSo 66 ((r + 1) * 66) rfl (H245.ev 97 rfl) (H245.ev 99 rfl)) fun _ H246 => ht_ H246 8 hx240 rfl rfl (fun _ _ _ => xf 34 ((r + 1) * 66 + 34) rfl (H246.ev 100 rfl)) fun _ H247 => ?_
   clear HS133j H143 H241 H242 H243 H244 H245
   refine ht_ H247 9 hx240 rfl rfl (v := .agg (bs xr_1.2.2.2)) (fun _ _ HS9 => dd_atN rfl (H247.ev 101 rfl) (ent_l0 (cat_own (HS9.row 2 rfl) Oc87) hw hxr_1) Tryd.underlying24 rfl (by show _ = some (bytesV xr_1.2.2.2).length; rw [show (bytesV xr_1.2.2.2).length = 32 from len_bv hwr_1.2]; kernel_rfl)) fun _ H248 => h1_ 2 rfl <| n_ H248 rfl (fun _ h => dd_lits HSh240 #[.slice (some ⟨gc134, 0, none⟩) 40 cc134] rfl (ps := [(0, .slice (some ⟨gc134, 0, none⟩) 40 cc134)]) (pr1 (H248.ev 94 rfl) (pr0)) (z := .slice none 0 0) (sz := 1) Tryd.underlying67 (by kernel_rfl) rfl rfl (by kernel_rfl) h) fun g95 W249 HS249 _ H249 => sx_ (sxi HS249 [0, 1, 2, 3, 4, 5] rfl) fun hx250 => h1_ 3 rfl <| c_ H249 rfl HS249 (dcs Tryd.func24 rfl (args2 (H249.ev 93 rfl) (H249.ev 95 rfl)) (step_one (lk X r) (recA xr_1.1 xr_1.2.1 xr_1.2.2.1) _ W249 (HT _ HS249.below) (length_lk hw _) (parts_one1 (HS249.row 5 rfl) (slice_own (HS249.row 4 rfl) Oc134 (length_recA hwr_1.1))) (by rw [(length_recA hwr_1.1)]; decide) (nextL (lk X r) xr_1) rfl) (.agg (bs (nextL (lk X r) xr_1)))) fun W251 HS251 _ H251 => sx_ (sxi HS251 [0, 1, 2, 3, 4, 5] rfl) fun hx252 => ht_ H251 10 hx252 rfl rfl (v := .bool true) (fun _ _ _ => dd_eqa (b := true) rfl (H251.ev 96 rfl) (H251.ev 102 rfl) (by kernel_rfl) (fun w => by rw [eql_dgs (nextL (lk X r) xr_1) xr_1.2.2.2 (len_next _ _) hwr_1.2 w, hb157])) fun _ H253 => ?_
   clear H246 H247 HSh240 H248 hx240 H249 HS249 hx250 H251
   refine wpAnyH_done (by kernel_rfl) ?_ _
   clear hx252
   refine nx <| ct_ H253 rfl <| sq_ <| rl_ <| wl_ <| c_ H253 rfl HS251 (dcs Tryd.func10 rfl (args0 ) (auwakes_any W251 (HT _ HS251.below)) (.bool true)) fun _ HS254 _ H254 => wl_ <| p_ H254 rfl rfl fun _ H255 => ln_ <| ?_
   clear H253 HS251 H254
   have H256 := H255.sel [4] rfl
   refine nx <| wp_ret <| tr <| ret_run H256.env0 (res_t Tryd.results8 (H256.get 4 rfl)) <| ?_
   clear H255
   exact ⟨rfl, HS254.below⟩
  refine wl_ <| i_ H103 rfl (dd_cmp rfl (H103.ev 60 rfl) rfl (gt_f hc105)) fun _ H257 => ln_ <| nx <| cf_ H257 rfl <| wp_skip <| nx <| sq_ <| ?_
  clear H103
  refine wi_ HS102 [0, 1, 2, 3] rfl [0, 1, 2, 3] rfl fun HSh258 hx258 => hp_ H257 0 hx258 rfl rfl rfl fun _ H259 => hp_ H259 1 hx258 rfl rfl rfl fun _ H260 => ht_ H260 2 hx258 rfl rfl (v := .int .i64 (r + 1)) (fun _ _ _ => dd_ari rfl (H260.ev 70 rfl) rfl rfl (i64_of (by first | omega | (have := bd_lo; omega)) (by omega))) fun _ H261 => ht_ H261 3 hx258 rfl rfl (fun _ _ _ => xSo 66 ((r + 1) * 66) rfl (H261.ev 69 rfl) (H261.ev 71 rfl)) fun _ H262 => ht_ H262 4 hx258 rfl rfl (fun _ _ _ => xf 0 ((r + 1) * 66) rfl (H262.ev 72 rfl)) fun _ H263 => ?_
  clear HS102 H257 H259 H260 H261 H262
  obtain ⟨xr_1, hxr_1⟩ : ∃ x, X[r + 1]? = some x := ⟨_, List.getElem?_eq_getElem (by rw [hX]; omega)⟩
  have hwr_1 := hw xr_1 (List.mem_of_getElem? hxr_1)
  have hqr_1 := hbd xr_1 (List.mem_of_getElem? hxr_1)
  refine ht_ H263 5 hx258 rfl rfl (v := .agg (bs xr_1.1)) (fun _ _ HS9 => dd_atN rfl (H263.ev 73 rfl) (ent_h0 (cat_own (HS9.row 2 rfl) Oc87) hw hxr_1) Tryd.underlying24 rfl (by show _ = some (bytesV xr_1.1).length; rw [show (bytesV xr_1.1).length = 32 from len_bv hwr_1.1]; kernel_rfl)) fun _ H264 => hp_ H264 6 hx258 rfl rfl rfl fun _ H265 => hp_ H265 7 hx258 rfl rfl rfl fun _ H266 => ht_ H266 8 hx258 rfl rfl (v := .int .i64 (r + 1)) (fun _ _ _ => dd_ari rfl (H266.ev 76 rfl) rfl rfl (i64_of (by first | omega | (have := bd_lo; omega)) (by omega))) fun _ H267 => ht_ H267 9 hx258 rfl rfl (fun _ _ _ => xSo 66 ((r + 1) * 66) rfl (H267.ev 75 rfl) (H267.ev 77 rfl)) fun _ H268 => ht_ H268 10 hx258 rfl rfl (fun _ _ _ => xf 32 ((r + 1) * 66 + 32) rfl (H268.ev 78 rfl)) fun _ H269 => ht_ H269 11 hx258 rfl rfl (fun _ _ HS9 => dd_at rfl (H269.ev 79 rfl) (ent_i0 (cat_own (HS9.row 2 rfl) Oc87) hw hxr_1) Tryd.underlying3 rfl) fun _ H270 => hp_ H270 12 hx258 rfl rfl rfl fun _ H271 => ?_
  clear H263 H264 H265 H266 H267 H268 H269
  refine hp_ H271 13 hx258 rfl rfl rfl fun _ H272 => ht_ H272 14 hx258 rfl rfl (v := .int .i64 (r + 1)) (fun _ _ _ => dd_ari rfl (H272.ev 82 rfl) rfl rfl (i64_of (by first | omega | (have := bd_lo; omega)) (by omega))) fun _ H273 => ht_ H273 15 hx258 rfl rfl (fun _ _ _ => xSo 66 ((r + 1) * 66) rfl (H273.ev 81 rfl) (H273.ev 83 rfl)) fun _ H274 => ht_ H274 16 hx258 rfl rfl (fun _ _ _ => xf 33 ((r + 1) * 66 + 33) rfl (H274.ev 84 rfl)) fun _ H275 => ht_ H275 17 hx258 rfl rfl (fun _ _ HS9 => dd_at rfl (H275.ev 85 rfl) (ent_e0 (cat_own (HS9.row 2 rfl) Oc87) hw hxr_1) Tryd.underlying36 rfl) fun _ H276 => ht_ H276 18 hx258 rfl rfl (v := .agg #[.int .i64 xr_1.2.1, .int .i64 xr_1.2.2.1, .slice none 0 0]) (fun _ _ _ => dd_bld rfl (ps := [(0, .int .i64 xr_1.2.1), (1, .int .i64 xr_1.2.2.1)]) (pr1 (H276.ev 80 rfl) (pr1 (H276.ev 86 rfl) (pr0))) (Lz := [[.int .i64 0], [.int .i64 0], [.slice none 0 0]]) (by kernel_rfl) (lens_cons rfl (lens_cons rfl (lens_cons rfl (lens_nil)))) (fit_cons (i := 0) rfl rfl (fit_cons (i := 1) rfl rfl (fit_nil))) (cs := #[.int .i64 xr_1.2.1, .int .i64 xr_1.2.2.1, .slice none 0 0]) rfl) fun _ H277 => ?_
  clear H270 H271 H272 H273 H274 H275 H276
  refine h1_ 19 rfl <| d_ H277 rfl (R := fun v w9 => ∃ gc279 cc279 cbc279, v = .tuple #[.slice (some ⟨gc279, 0, none⟩) 40 cc279, .int .i64 0] ∧ (W102.drew.heap.size ≤ gc279) ∧ (Row w9 gc279 5 cbc279) ∧ (OwnC cbc279 cc279 40 1 (bytesV (recA xr_1.1 xr_1.2.1 xr_1.2.2.1))) ∧ Below W102.drew.heap.size W102.drew w9) (dc_ Tryd.func15 rfl (args2 (H277.ev 74 rfl) (H277.ev 87 rfl)) (audrec_good xr_1.1 xr_1.2.1 xr_1.2.2.1 _ W102.drew hwr_1.1 (mayR_in (by omega) (by omega) (by omega) (by omega))) (fun _ w9 ⟨g9, c9, cb9, he, h1, h2, h3, hb⟩ => ⟨_, he, g9, c9, cb9, rfl, h1, h2, h3, hb⟩)) ?_
  rintro _ W278 ⟨gc279, cc279, cbc279, rfl, hg279, hr279, Oc279, hb278⟩ a278 H278
  have HS278 := HSh258.same hb278
  clear H277
  have HS278j : St w noF [⟨g23, 30, #[.slice (some ⟨gA, 0, none⟩) (K + 1) cA]⟩, ⟨gA, 59, cbA⟩, ⟨gc87, 59, cbc87⟩, ⟨g9, 24, bs (zer 32)⟩, ⟨gc279, 5, cbc279⟩] W278 := HSh258.joins hb278 hr279 hg279
  clear HS278 hr279 hg279
  clear HSh258 hb278
  refine sx_ (sxi HS278j [0, 1, 2, 3, 4] rfl) fun hx280 => hp_ H278 20 hx280 rfl rfl rfl fun _ H281 => ht_ H281 21 hx280 rfl rfl (v := .slice (some ⟨gc279, 0, none⟩) 40 cc279) (fun _ _ _ => dd_ext rfl (H281.ev 68 rfl) rfl) fun _ H282 => ht_ H282 22 hx280 rfl rfl (v := .int .i64 0) (fun _ _ _ => dd_ext rfl (H282.ev 68 rfl) rfl) fun _ H283 => hp_ H283 23 hx280 rfl rfl rfl fun _ H284 => hp_ H284 24 hx280 rfl rfl rfl fun _ H285 => ?_
  clear hx258 H278 H281 H282 H283 H284
  refine wpAnyH_done (by kernel_rfl) ?_ _
  clear hx280
  refine nx <| sq_ <| sq_ <| rl_ <| wl_ <| p_ H285 rfl rfl fun _ H286 => wl_ <| i_ H286 rfl (dd_cmp rfl (H286.ev 91 rfl) rfl (ne_f (by decide))) fun _ H287 => ln_ <| ?_
  clear H285 H286
  have H288 := H287.sel [7, 8, 9, 10, 92] rfl
  refine nx <| cf_ H288 rfl <| wp_skip <| nx <| sq_ <| sq_ <| ?_
  clear H287
  cases hb302 : decide (nextL (zer 32) xr_1 = xr_1.2.2.2)
  ·
   refine wi_ HS278j [0, 1, 2, 3] rfl [0, 1, 2, 3, 4] rfl fun HSh303 hx303 => ht_ H288 0 hx303 rfl rfl (v := .agg (bs (zer 32))) (fun _ _ HS9 => dd_load HS9 3 0 rfl rfl (H288.ev 9 rfl) (slab_whole _) Tryd.underlying24 rfl (by rw [show (bs (zer 32)).size = 32 from ((size_bs _).trans (length_zer 32))]; kernel_rfl)) fun _ H304 => hp_ H304 1 hx303 rfl rfl rfl fun _ H305 => hp_ H305 4 hx303 rfl rfl rfl fun _ H306 => hp_ H306 5 hx303 rfl rfl rfl fun _ H307 => ht_ H307 6 hx303 rfl rfl (v := .int .i64 (r + 1)) (fun _ _ _ => dd_ari rfl (H307.ev 98 rfl) rfl rfl (i64_of (by first | omega | (have := bd_lo; omega)) (by omega))) fun _ H308 => ht_ H308 7 hx303 rfl rfl (fun _ _ _ => xSo 66 ((r + 1) * 66) rfl (H308.ev 97 rfl) (H308.ev 99 rfl)) fun _ H309 => ht_ H309 8 hx303 rfl rfl (fun _ _ _ => xf 34 ((r + 1) * 66 + 34) rfl (H309.ev 100 rfl)) fun _ H310 => ?_
   clear HS278j H288 H304 H305 H306 H307 H308
   refine ht_ H310 9 hx303 rfl rfl (v := .agg (bs xr_1.2.2.2)) (fun _ _ HS9 => dd_atN rfl (H310.ev 101 rfl) (ent_l0 (cat_own (HS9.row 2 rfl) Oc87) hw hxr_1) Tryd.underlying24 rfl (by show _ = some (bytesV xr_1.2.2.2).length; rw [show (bytesV xr_1.2.2.2).length = 32 from len_bv hwr_1.2]; kernel_rfl)) fun _ H311 => h1_ 2 rfl <| n_ H311 rfl (fun _ h => dd_lits HSh303 #[.slice (some ⟨gc279, 0, none⟩) 40 cc279] rfl (ps := [(0, .slice (some ⟨gc279, 0, none⟩) 40 cc279)]) (pr1 (H311.ev 94 rfl) (pr0)) (z := .slice none 0 0) (sz := 1) Tryd.underlying67 (by kernel_rfl) rfl rfl (by kernel_rfl) h) fun g95 W312 HS312 _ H312 => sx_ (sxi HS312 [0, 1, 2, 3, 4, 5] rfl) fun hx313 => h1_ 3 rfl <| c_ H312 rfl HS312 (dcs Tryd.func24 rfl (args2 (H312.ev 93 rfl) (H312.ev 95 rfl)) (step_one (zer 32) (recA xr_1.1 xr_1.2.1 xr_1.2.2.1) _ W312 (HT _ HS312.below) (length_zer 32) (parts_one1 (HS312.row 5 rfl) (slice_own (HS312.row 4 rfl) Oc279 (length_recA hwr_1.1))) (by rw [(length_recA hwr_1.1)]; decide) (nextL (zer 32) xr_1) rfl) (.agg (bs (nextL (zer 32) xr_1)))) fun _ HS314 _ H314 => sx_ (sxi HS314 [0, 1, 2, 3, 4, 5] rfl) fun hx315 => ht_ H314 10 hx315 rfl rfl (v := .bool false) (fun _ _ _ => dd_eqa (b := false) rfl (H314.ev 96 rfl) (H314.ev 102 rfl) (by kernel_rfl) (fun w => by rw [eql_dgs (nextL (zer 32) xr_1) xr_1.2.2.2 (len_next _ _) hwr_1.2 w, hb302])) fun _ H316 => ?_
   clear H309 H310 HSh303 H311 hx303 H312 HS312 hx313 H314
   refine wpAnyH_done (by kernel_rfl) ?_ _
   clear hx315
   refine nx <| cf_ H316 rfl <| wp_skip <| nx <| sq_ <| ?_
   have hle := Oc87.le
   refine wi_ HS314 [0, 1, 2, 3, 5] rfl [0, 1, 2, 3, 5, 4] rfl fun HSh317 hx317 => hp_ H316 1 hx317 rfl rfl rfl fun _ H318 => hp_ H318 2 hx317 rfl rfl rfl fun _ H319 => ht_ H319 3 hx317 rfl rfl (v := .slice (some ⟨gc87, 0, none⟩) r cc87) (fun _ _ _ => dd_slh (sz := 66) rfl (H319.ev 106 rfl) (H319.ev 107 rfl) (by kernel_rfl) (by omega) (by omega) rfl) fun _ H320 => hp_ H320 5 hx317 rfl rfl rfl fun _ H321 => hp_ H321 6 hx317 rfl rfl rfl fun _ H322 => ht_ H322 7 hx317 rfl rfl (v := .int .i64 (r + 1)) (fun _ _ _ => dd_ari rfl (H322.ev 111 rfl) rfl rfl (i64_of (by first | omega | (have := bd_lo; omega)) (by omega))) fun _ H323 => ht_ H323 8 hx317 rfl rfl (v := .slice (some ⟨gc87, (r + 1) * 66, none⟩) (K + 1 - (r + 1)) (cc87 - (r + 1))) (fun _ _ _ => dd_sll (l := r + 1) (sz := 66) (j := (r + 1) * 66) (n' := K + 1 - (r + 1)) (c' := cc87 - (r + 1)) rfl (H323.ev 110 rfl) (H323.ev 112 rfl) (by kernel_rfl) (by omega) (by omega) (Nat.zero_add _) rfl rfl) fun _ H324 => ?_
   clear HS314 H316 H318 H319 H320 H321 H322
   refine h1_ 0 rfl <| n_ H324 rfl (A := fun g105 => .slice (some ⟨g105, 0, none⟩) 0 0) (fun _ h => dd_lit0 HSh317 rfl rfl Tryd.underlying28 (sz := 66) (by kernel_rfl) h) fun g105 _ HS325 _ H325 => sx_ (sxi HS325 [0, 1, 2, 3, 5, 4, 6] rfl) fun hx326 => h1_ 4 rfl <| a_ H325 rfl (S := fun g109_328 cb109_328 => [⟨g23, 30, #[.slice (some ⟨gA, 0, none⟩) (K + 1) cA]⟩, ⟨gA, 59, cbA⟩, ⟨gc87, 59, cbc87⟩, ⟨g9, 24, bs (zer 32)⟩, ⟨gc279, 5, cbc279⟩, ⟨g95, 35, #[.slice (some ⟨gc279, 0, none⟩) 40 cc279]⟩, ⟨g109_328, 59, cb109_328⟩]) (fun g109_328 c109_328 => .slice (some ⟨g109_328, 0, none⟩) (0 + r) c109_328) (T := fun _ c109_328 cb109_328 => OwnC cb109_328 c109_328 (0 + r) 66 (entsL (X.take r))) (fun _ h => dd_app HS325 6 rfl (ownc_nil0 66) rfl (H325.ev 105 rfl) (z := .agg (catA [bytesV (zer 32), [.int .i64 0], [.int .i64 0], bytesV (zer 32)])) (bytes := 80) Tryd.underlying28 (by kernel_rfl) rfl (by decide) (entsL (X.take r)) (H325.ev 108 rfl) (len_ents (wf_take r hw) (take_lenE hX (by omega))) (cat_take (cat_own (HS325.row 2 rfl) Oc87) r).news (one_ents _) (by unfold maxLen; omega) (by omega) h) fun g109_328 c109_328 cb109_328 _ O109_328 HS327 _ H327 => sx_ (sxi HS327 [0, 1, 2, 3, 5, 4, 6] rfl) fun hx329 => h1_ 9 rfl <| a_ H327 rfl (fun g114_331 c114_331 => .slice (some ⟨g114_331, 0, none⟩) (0 + r + (K + 1 - (r + 1))) c114_331) (T := fun _ c114_331 cb114_331 => OwnC cb114_331 c114_331 (0 + r + (K + 1 - (r + 1))) 66 ((entsL (X.take r)) ++ entsL (X.drop (r + 1)))) (fun _ h => dd_app HS327 6 rfl O109_328 rfl (H327.ev 109 rfl) (z := .agg (catA [bytesV (zer 32), [.int .i64 0], [.int .i64 0], bytesV (zer 32)])) (bytes := 80) Tryd.underlying28 (by kernel_rfl) rfl (by decide) (entsL (X.drop (r + 1))) (H327.ev 113 rfl) (len_ents (wf_drop (r + 1) hw) (drop_lenE hX)) (cat_drop (cat_own (HS327.row 2 rfl) Oc87) hw (r + 1) (by rw [hX]; omega)).news (one_ents _) (by unfold maxLen; omega) (by omega) h) fun g114_331 c114_331 cb114_331 _ O114_331 HS330 _ H330 => sx_ (sxi HS330 [0, 1, 2, 3, 5, 4, 6] rfl) fun hx332 => hp_ H330 10 hx332 rfl rfl rfl fun _ H333 => ?_
   clear H323 HSh317 H324 hx317 HS325 H325 hx326 HS327 H327 hx329 H330
   refine wpAnyH_done (by kernel_rfl) ?_ _
   clear hx332
   refine nx <| sq_ <| ?_
   obtain ⟨xr, hxr⟩ : ∃ x, X[r]? = some x := ⟨_, List.getElem?_eq_getElem (by rw [hX]; omega)⟩
   have hwr := hw xr (List.mem_of_getElem? hxr)
   have hqr := hbd xr (List.mem_of_getElem? hxr)
   refine wp_cut (fun a9 w9 => En 144 [(12, .slice (some ⟨g114_331, 0, none⟩) (0 + r + (K + 1 - (r + 1))) c114_331), (8, .int .i64 r), (7, .slice (some ⟨gc87, 0, none⟩) (K + 1) cc87)] a9 ∧ St w noF [⟨g23, 30, #[.slice (some ⟨gA, 0, none⟩) (K + 1) cA]⟩, ⟨gA, 59, cbA⟩, ⟨gc87, 59, (spl ((spl cbc87.toList (r * 66) (aecell xr_1)).toArray).toList ((r + 1) * 66) (aecell xr)).toArray⟩, ⟨g9, 24, bs (zer 32)⟩, ⟨gc279, 5, cbc279⟩, ⟨g95, 35, #[.slice (some ⟨gc279, 0, none⟩) 40 cc279]⟩, ⟨g114_331, 59, cb114_331⟩] w9) ?_ ?_
   ·
    refine wi_ HS330 [0, 1, 3, 5, 6] rfl [0, 1, 3, 5, 6, 2, 4] rfl fun HSh334 hx334 => hp_ H333 0 hx334 rfl rfl rfl fun _ H335 => hp_ H335 1 hx334 rfl rfl rfl fun _ H336 => hp_ H336 2 hx334 rfl rfl rfl fun _ H337 => hp_ H337 3 hx334 rfl rfl rfl fun _ H338 => ht_ H338 4 hx334 rfl rfl (v := .int .i64 (r + 1)) (fun _ _ _ => dd_ari rfl (H338.ev 118 rfl) rfl rfl (i64_of (by first | omega | (have := bd_lo; omega)) (by omega))) fun _ H339 => hp_ H339 5 hx334 rfl rfl rfl fun _ H340 => hp_ H340 6 hx334 rfl rfl rfl fun _ H341 => ?_
    clear HS330 H333 H335 H336 H337 H338 H339
    refine ht_ H341 7 hx334 rfl rfl (v := .int .i64 (r + 1)) (fun _ _ _ => dd_ari rfl (H341.ev 121 rfl) rfl rfl (i64_of (by first | omega | (have := bd_lo; omega)) (by omega))) fun _ H342 => ht_ H342 8 hx334 rfl rfl (fun _ _ _ => xSo 66 ((r + 1) * 66) rfl (H342.ev 120 rfl) (H342.ev 122 rfl)) fun _ H343 => hp_ H343 10 hx334 rfl rfl rfl fun _ H344 => hp_ H344 11 hx334 rfl rfl rfl fun _ H345 => ht_ H345 12 hx334 rfl rfl (fun _ _ _ => xSo 66 (r * 66) rfl (H345.ev 125 rfl) (H345.ev 126 rfl)) fun _ H346 => ?_
    clear H340 H341 H342 H343 H344 H345
    refine wpAnyH_all (rs := [9, 13]) (by kernel_rfl) (by decide) (hm_cons ?_ (hm_cons ?_ hm_nil))
    ·
     refine ho_ rfl <| i_ H346 rfl (v := .agg (catA [bytesV xr_1.1, [.int .i64 xr_1.2.1], [.int .i64 xr_1.2.2.1], bytesV xr_1.2.2.2])) (dd_atN rfl (H346.ev 123 rfl) (ent_all0 (cat_own (HSh334.row 2 rfl) Oc87) hw hxr_1) Tryd.underlying59 rfl (by show _ = some (catA [bytesV xr_1.1, [.int .i64 xr_1.2.1], [.int .i64 xr_1.2.2.1], bytesV xr_1.2.2.2]).toList.length; rw [show (catA [bytesV xr_1.1, [.int .i64 xr_1.2.1], [.int .i64 xr_1.2.2.1], bytesV xr_1.2.2.2]).toList.length = 66 from (Array.length_toList).trans (cat_size (lens_cons (len_bv hwr_1.1) (lens_cons rfl (lens_cons rfl (lens_cons (len_bv hwr_1.2) (lens_nil))))))]; kernel_rfl)) fun _ H347 => sx_ (sxi HSh334 [0, 1, 3, 5, 6, 2, 4] rfl) fun hx348 => h1_ 13 rfl <| i_ H347 rfl (v := .agg (catA [bytesV xr.1, [.int .i64 xr.2.1], [.int .i64 xr.2.2.1], bytesV xr.2.2.2])) (dd_atN rfl (H347.ev 127 rfl) (ent_all0 (cat_own (HSh334.row 2 rfl) Oc87) hw hxr) Tryd.underlying59 rfl (by show _ = some (catA [bytesV xr.1, [.int .i64 xr.2.1], [.int .i64 xr.2.2.1], bytesV xr.2.2.2]).toList.length; rw [show (catA [bytesV xr.1, [.int .i64 xr.2.1], [.int .i64 xr.2.2.1], bytesV xr.2.2.2]).toList.length = 66 from (Array.length_toList).trans (cat_size (lens_cons (len_bv hwr.1) (lens_cons rfl (lens_cons rfl (lens_cons (len_bv hwr.2) (lens_nil))))))]; kernel_rfl)) fun _ H349 => sx_ (sxi HSh334 [0, 1, 3, 5, 6, 2, 4] rfl) fun hx350 => ht_ H349 14 hx350 rfl rfl (fun _ _ _ => xSo 66 (r * 66) rfl (H349.ev 115 rfl) (H349.ev 116 rfl)) fun _ H351 => h1_ 15 rfl <| t_ rfl (S := [⟨g23, 30, #[.slice (some ⟨gA, 0, none⟩) (K + 1) cA]⟩, ⟨gA, 59, cbA⟩, ⟨gc87, 59, (spl cbc87.toList (r * 66) (aecell xr_1)).toArray⟩, ⟨g9, 24, bs (zer 32)⟩, ⟨gc279, 5, cbc279⟩, ⟨g95, 35, #[.slice (some ⟨gc279, 0, none⟩) 40 cc279]⟩, ⟨g114_331, 59, cb114_331⟩]) (fun _ h => dd_store (cs := (spl cbc87.toList (r * 66) (aecell xr_1)).toArray) HSh334 2 (r * 66) rfl rfl (H351.ev 129 rfl) (H351.ev 124 rfl) (by rw [show Value.cells (.agg (catA [bytesV xr_1.1, [.int .i64 xr_1.2.1], [.int .i64 xr_1.2.2.1], bytesV xr_1.2.2.2])) = catA [bytesV xr_1.1, [.int .i64 xr_1.2.1], [.int .i64 xr_1.2.2.1], bytesV xr_1.2.2.2] from rfl, show (catA [bytesV xr_1.1, [.int .i64 xr_1.2.1], [.int .i64 xr_1.2.2.1], bytesV xr_1.2.2.2]).size = 66 from (cat_size (lens_cons (len_bv hwr_1.1) (lens_cons rfl (lens_cons rfl (lens_cons (len_bv hwr_1.2) (lens_nil))))))]; kernel_rfl) (own_fitE Oc87 (by omega) (cat_size (lens_cons (len_bv hwr_1.1) (lens_cons rfl (lens_cons rfl (lens_cons (len_bv hwr_1.2) (lens_nil))))))) (cat_one (ones_cons (one_bytesV _) (ones_cons (ones_c rfl) (ones_cons (ones_c rfl) (ones_cons (one_bytesV _) (ones_nil)))))) rfl h) fun _ HS352 => sx_ (sxi HS352 [0, 1, 3, 5, 6, 2, 4] rfl) fun hx354 => ht_ H351 16 hx354 rfl rfl (fun _ _ _ => xSo 66 ((r + 1) * 66) rfl (H351.ev 117 rfl) (H351.ev 119 rfl)) fun _ H355 => ?_
     clear H346 H347 hx348 H349 HSh334 hx350
     refine h1_ 17 rfl <| t_ rfl (S := [⟨g23, 30, #[.slice (some ⟨gA, 0, none⟩) (K + 1) cA]⟩, ⟨gA, 59, cbA⟩, ⟨gc87, 59, (spl ((spl cbc87.toList (r * 66) (aecell xr_1)).toArray).toList ((r + 1) * 66) (aecell xr)).toArray⟩, ⟨g9, 24, bs (zer 32)⟩, ⟨gc279, 5, cbc279⟩, ⟨g95, 35, #[.slice (some ⟨gc279, 0, none⟩) 40 cc279]⟩, ⟨g114_331, 59, cb114_331⟩]) (fun _ h => dd_store (cs := (spl ((spl cbc87.toList (r * 66) (aecell xr_1)).toArray).toList ((r + 1) * 66) (aecell xr)).toArray) HS352 2 ((r + 1) * 66) rfl rfl (H355.ev 130 rfl) (H355.ev 128 rfl) (by rw [show Value.cells (.agg (catA [bytesV xr.1, [.int .i64 xr.2.1], [.int .i64 xr.2.2.1], bytesV xr.2.2.2])) = catA [bytesV xr.1, [.int .i64 xr.2.1], [.int .i64 xr.2.2.1], bytesV xr.2.2.2] from rfl, show (catA [bytesV xr.1, [.int .i64 xr.2.1], [.int .i64 xr.2.2.1], bytesV xr.2.2.2]).size = 66 from (cat_size (lens_cons (len_bv hwr.1) (lens_cons rfl (lens_cons rfl (lens_cons (len_bv hwr.2) (lens_nil))))))]; kernel_rfl) (own_fitE (own_setE (n := K + 1) (k := r) Oc87 hw (by omega) hwr_1 hX) (by omega) (cat_size (lens_cons (len_bv hwr.1) (lens_cons rfl (lens_cons rfl (lens_cons (len_bv hwr.2) (lens_nil))))))) (cat_one (ones_cons (one_bytesV _) (ones_cons (ones_c rfl) (ones_cons (ones_c rfl) (ones_cons (one_bytesV _) (ones_nil)))))) rfl h) fun _ HS356 => sx_ (sxi HS356 [0, 1, 3, 5, 6, 2, 4] rfl) fun hx358 => ?_
     clear H351 HS352 hx354
     refine wpAnyH_done (by kernel_rfl) ?_ _
     clear hx358
     exact nx ⟨H355.sel [7, 8, 12] rfl, ss HS356 [0, 1, 2, 3, 4, 5, 6]⟩
    refine ho_ rfl <| i_ H346 rfl (v := .agg (catA [bytesV xr.1, [.int .i64 xr.2.1], [.int .i64 xr.2.2.1], bytesV xr.2.2.2])) (dd_atN rfl (H346.ev 127 rfl) (ent_all0 (cat_own (HSh334.row 2 rfl) Oc87) hw hxr) Tryd.underlying59 rfl (by show _ = some (catA [bytesV xr.1, [.int .i64 xr.2.1], [.int .i64 xr.2.2.1], bytesV xr.2.2.2]).toList.length; rw [show (catA [bytesV xr.1, [.int .i64 xr.2.1], [.int .i64 xr.2.2.1], bytesV xr.2.2.2]).toList.length = 66 from (Array.length_toList).trans (cat_size (lens_cons (len_bv hwr.1) (lens_cons rfl (lens_cons rfl (lens_cons (len_bv hwr.2) (lens_nil))))))]; kernel_rfl)) fun _ H359 => sx_ (sxi HSh334 [0, 1, 3, 5, 6, 2, 4] rfl) fun hx360 => h1_ 9 rfl <| i_ H359 rfl (v := .agg (catA [bytesV xr_1.1, [.int .i64 xr_1.2.1], [.int .i64 xr_1.2.2.1], bytesV xr_1.2.2.2])) (dd_atN rfl (H359.ev 123 rfl) (ent_all0 (cat_own (HSh334.row 2 rfl) Oc87) hw hxr_1) Tryd.underlying59 rfl (by show _ = some (catA [bytesV xr_1.1, [.int .i64 xr_1.2.1], [.int .i64 xr_1.2.2.1], bytesV xr_1.2.2.2]).toList.length; rw [show (catA [bytesV xr_1.1, [.int .i64 xr_1.2.1], [.int .i64 xr_1.2.2.1], bytesV xr_1.2.2.2]).toList.length = 66 from (Array.length_toList).trans (cat_size (lens_cons (len_bv hwr_1.1) (lens_cons rfl (lens_cons rfl (lens_cons (len_bv hwr_1.2) (lens_nil))))))]; kernel_rfl)) fun _ H361 => sx_ (sxi HSh334 [0, 1, 3, 5, 6, 2, 4] rfl) fun hx362 => ht_ H361 14 hx362 rfl rfl (fun _ _ _ => xSo 66 (r * 66) rfl (H361.ev 115 rfl) (H361.ev 116 rfl)) fun _ H363 => h1_ 15 rfl <| t_ rfl (S := [⟨g23, 30, #[.slice (some ⟨gA, 0, none⟩) (K + 1) cA]⟩, ⟨gA, 59, cbA⟩, ⟨gc87, 59, (spl cbc87.toList (r * 66) (aecell xr_1)).toArray⟩, ⟨g9, 24, bs (zer 32)⟩, ⟨gc279, 5, cbc279⟩, ⟨g95, 35, #[.slice (some ⟨gc279, 0, none⟩) 40 cc279]⟩, ⟨g114_331, 59, cb114_331⟩]) (fun _ h => dd_store (cs := (spl cbc87.toList (r * 66) (aecell xr_1)).toArray) HSh334 2 (r * 66) rfl rfl (H363.ev 129 rfl) (H363.ev 124 rfl) (by rw [show Value.cells (.agg (catA [bytesV xr_1.1, [.int .i64 xr_1.2.1], [.int .i64 xr_1.2.2.1], bytesV xr_1.2.2.2])) = catA [bytesV xr_1.1, [.int .i64 xr_1.2.1], [.int .i64 xr_1.2.2.1], bytesV xr_1.2.2.2] from rfl, show (catA [bytesV xr_1.1, [.int .i64 xr_1.2.1], [.int .i64 xr_1.2.2.1], bytesV xr_1.2.2.2]).size = 66 from (cat_size (lens_cons (len_bv hwr_1.1) (lens_cons rfl (lens_cons rfl (lens_cons (len_bv hwr_1.2) (lens_nil))))))]; kernel_rfl) (own_fitE Oc87 (by omega) (cat_size (lens_cons (len_bv hwr_1.1) (lens_cons rfl (lens_cons rfl (lens_cons (len_bv hwr_1.2) (lens_nil))))))) (cat_one (ones_cons (one_bytesV _) (ones_cons (ones_c rfl) (ones_cons (ones_c rfl) (ones_cons (one_bytesV _) (ones_nil)))))) rfl h) fun _ HS364 => sx_ (sxi HS364 [0, 1, 3, 5, 6, 2, 4] rfl) fun hx366 => ht_ H363 16 hx366 rfl rfl (fun _ _ _ => xSo 66 ((r + 1) * 66) rfl (H363.ev 117 rfl) (H363.ev 119 rfl)) fun _ H367 => ?_
    clear H346 H359 hx360 H361 HSh334 hx362
    refine h1_ 17 rfl <| t_ rfl (S := [⟨g23, 30, #[.slice (some ⟨gA, 0, none⟩) (K + 1) cA]⟩, ⟨gA, 59, cbA⟩, ⟨gc87, 59, (spl ((spl cbc87.toList (r * 66) (aecell xr_1)).toArray).toList ((r + 1) * 66) (aecell xr)).toArray⟩, ⟨g9, 24, bs (zer 32)⟩, ⟨gc279, 5, cbc279⟩, ⟨g95, 35, #[.slice (some ⟨gc279, 0, none⟩) 40 cc279]⟩, ⟨g114_331, 59, cb114_331⟩]) (fun _ h => dd_store (cs := (spl ((spl cbc87.toList (r * 66) (aecell xr_1)).toArray).toList ((r + 1) * 66) (aecell xr)).toArray) HS364 2 ((r + 1) * 66) rfl rfl (H367.ev 130 rfl) (H367.ev 128 rfl) (by rw [show Value.cells (.agg (catA [bytesV xr.1, [.int .i64 xr.2.1], [.int .i64 xr.2.2.1], bytesV xr.2.2.2])) = catA [bytesV xr.1, [.int .i64 xr.2.1], [.int .i64 xr.2.2.1], bytesV xr.2.2.2] from rfl, show (catA [bytesV xr.1, [.int .i64 xr.2.1], [.int .i64 xr.2.2.1], bytesV xr.2.2.2]).size = 66 from (cat_size (lens_cons (len_bv hwr.1) (lens_cons rfl (lens_cons rfl (lens_cons (len_bv hwr.2) (lens_nil))))))]; kernel_rfl) (own_fitE (own_setE (n := K + 1) (k := r) Oc87 hw (by omega) hwr_1 hX) (by omega) (cat_size (lens_cons (len_bv hwr.1) (lens_cons rfl (lens_cons rfl (lens_cons (len_bv hwr.2) (lens_nil))))))) (cat_one (ones_cons (one_bytesV _) (ones_cons (ones_c rfl) (ones_cons (ones_c rfl) (ones_cons (one_bytesV _) (ones_nil)))))) rfl h) fun _ HS368 => sx_ (sxi HS368 [0, 1, 3, 5, 6, 2, 4] rfl) fun hx370 => ?_
    clear H363 HS364 hx366
    refine wpAnyH_done (by kernel_rfl) ?_ _
    clear hx370
    exact nx ⟨H367.sel [7, 8, 12] rfl, ss HS368 [0, 1, 2, 3, 4, 5, 6]⟩
   rintro aj334 wj334 ⟨Hj334, HSj334⟩
   refine nx <| sq_ <| rl_ <| wl_ <| p_ Hj334 rfl rfl fun _ H372 => wl_ <| c_ H372 rfl HSj334 (dcs Tryd.func20 rfl (args1 (H372.ev 131 rfl)) (audver_any _ (((X).set r xr_1).set (r + 1) xr) wj334 (HT _ HSj334.below) (ents_mk ((List.length_set ..).trans ((List.length_set ..).trans hX)) (wf_setE (wf_setE hw hwr_1) hwr) (cat_own (HSj334.row 2 rfl) (own_setE (n := K + 1) (k := r + 1) (own_setE (n := K + 1) (k := r) Oc87 hw (by omega) hwr_1 hX) (wf_setE hw hwr_1) (by omega) hwr ((List.length_set ..).trans hX))) (own_setE (n := K + 1) (k := r + 1) (own_setE (n := K + 1) (k := r) Oc87 hw (by omega) hwr_1 hX) (wf_setE hw hwr_1) (by omega) hwr ((List.length_set ..).trans hX)).le) (by rw [((List.length_set ..).trans ((List.length_set ..).trans hX))]; omega)) (.int .i64 (verI (((X).set r xr_1).set (r + 1) xr)))) fun W373 HS373 _ H373 => wl_ <| p_ H373 rfl rfl fun _ H374 => wl_ <| i_ H374 rfl (dd_cmp rfl (H374.ev 132 rfl) (H374.ev 133 rfl) (eq_t (ver_swap (by omega) hgd (by rw [lk_z (X := X) (show r = 0 by omega)]; exact of_decide_eq_false hb302)))) fun _ H375 => wl_ <| p_ H375 rfl rfl fun _ H376 => wl_ <| ig H376 (wg_ H376 rfl rfl rfl rfl) rfl (dd_mv rfl (H376.ev 12 rfl)) fun _ H377 => wl_ <| cg H377 (wg_ H377 rfl rfl rfl rfl) rfl HS373 (dcs Tryd.func20 rfl (args1 (H377.ev 136 rfl)) (audver_any _ ((X.take r) ++ (X.drop (r + 1))) W373 (HT _ HS373.below) (ents_mk (len_appE ((take_lenE hX (by omega)).trans (Nat.zero_add r).symm) (drop_lenE hX)) (wf_app (wf_take r hw) (wf_drop (r + 1) hw)) (cat_own (HS373.row 6 rfl) (own_app O114_331)) O114_331.le) (by rw [(len_appE ((take_lenE hX (by omega)).trans (Nat.zero_add r).symm) (drop_lenE hX))]; omega)) (.int .i64 (verI ((X.take r) ++ (X.drop (r + 1)))))) fun W378 HS378 _ H378 => wl_ <| ig H378 (wg_ H378 rfl rfl rfl rfl) rfl (dd_mv rfl (H378.ev 8 rfl)) fun _ H379 => ?_
   clear Hj334 H372 HSj334 H373 H374 H375 H376 H377 HS373
   refine wl_ <| ig H379 (wg_ H379 rfl rfl rfl rfl) rfl (dd_cmp rfl (H379.ev 137 rfl) (H379.ev 138 rfl) (eq_t (ver_out hxr_1 hgd (by rw [lk_z (X := X) (show r = 0 by omega)]; exact of_decide_eq_false hb302)))) fun _ H380 => q_ H380 2 rfl fun _ H381 => wl_ <| cg H381 (wg_ H381 rfl rfl rfl rfl) rfl HS378 (dcs Tryd.func10 rfl (args0 ) (auwakes_any W378 (HT _ HS378.below)) (.bool true)) fun _ HS382 _ H382 => q_ H382 2 rfl fun _ H383 => ln_ <| ?_
   clear H378 H379 H380 H381 HS378 H382
   have H384 := H383.sel [4] rfl
   refine nx <| wp_ret <| ret_run H384.env0 (res_t Tryd.results8 (H384.get 4 rfl)) <| ?_
   clear H383
   exact ⟨rfl, HS382.below⟩
  refine wi_ HS278j [0, 1, 2, 3] rfl [0, 1, 2, 3, 4] rfl fun HSh385 hx385 => ht_ H288 0 hx385 rfl rfl (v := .agg (bs (zer 32))) (fun _ _ HS9 => dd_load HS9 3 0 rfl rfl (H288.ev 9 rfl) (slab_whole _) Tryd.underlying24 rfl (by rw [show (bs (zer 32)).size = 32 from ((size_bs _).trans (length_zer 32))]; kernel_rfl)) fun _ H386 => hp_ H386 1 hx385 rfl rfl rfl fun _ H387 => hp_ H387 4 hx385 rfl rfl rfl fun _ H388 => hp_ H388 5 hx385 rfl rfl rfl fun _ H389 => ht_ H389 6 hx385 rfl rfl (v := .int .i64 (r + 1)) (fun _ _ _ => dd_ari rfl (H389.ev 98 rfl) rfl rfl (i64_of (by first | omega | (have := bd_lo; omega)) (by omega))) fun _ H390 => ht_ H390 7 hx385 rfl rfl (fun _ _ _ => xSo 66 ((r + 1) * 66) rfl (H390.ev 97 rfl) (H390.ev 99 rfl)) fun _ H391 => ht_ H391 8 hx385 rfl rfl (fun _ _ _ => xf 34 ((r + 1) * 66 + 34) rfl (H391.ev 100 rfl)) fun _ H392 => ?_
  clear HS278j H288 H386 H387 H388 H389 H390
  refine ht_ H392 9 hx385 rfl rfl (v := .agg (bs xr_1.2.2.2)) (fun _ _ HS9 => dd_atN rfl (H392.ev 101 rfl) (ent_l0 (cat_own (HS9.row 2 rfl) Oc87) hw hxr_1) Tryd.underlying24 rfl (by show _ = some (bytesV xr_1.2.2.2).length; rw [show (bytesV xr_1.2.2.2).length = 32 from len_bv hwr_1.2]; kernel_rfl)) fun _ H393 => h1_ 2 rfl <| n_ H393 rfl (fun _ h => dd_lits HSh385 #[.slice (some ⟨gc279, 0, none⟩) 40 cc279] rfl (ps := [(0, .slice (some ⟨gc279, 0, none⟩) 40 cc279)]) (pr1 (H393.ev 94 rfl) (pr0)) (z := .slice none 0 0) (sz := 1) Tryd.underlying67 (by kernel_rfl) rfl rfl (by kernel_rfl) h) fun g95 W394 HS394 _ H394 => sx_ (sxi HS394 [0, 1, 2, 3, 4, 5] rfl) fun hx395 => h1_ 3 rfl <| c_ H394 rfl HS394 (dcs Tryd.func24 rfl (args2 (H394.ev 93 rfl) (H394.ev 95 rfl)) (step_one (zer 32) (recA xr_1.1 xr_1.2.1 xr_1.2.2.1) _ W394 (HT _ HS394.below) (length_zer 32) (parts_one1 (HS394.row 5 rfl) (slice_own (HS394.row 4 rfl) Oc279 (length_recA hwr_1.1))) (by rw [(length_recA hwr_1.1)]; decide) (nextL (zer 32) xr_1) rfl) (.agg (bs (nextL (zer 32) xr_1)))) fun W396 HS396 _ H396 => sx_ (sxi HS396 [0, 1, 2, 3, 4, 5] rfl) fun hx397 => ht_ H396 10 hx397 rfl rfl (v := .bool true) (fun _ _ _ => dd_eqa (b := true) rfl (H396.ev 96 rfl) (H396.ev 102 rfl) (by kernel_rfl) (fun w => by rw [eql_dgs (nextL (zer 32) xr_1) xr_1.2.2.2 (len_next _ _) hwr_1.2 w, hb302])) fun _ H398 => ?_
  clear H391 H392 HSh385 H393 hx385 H394 HS394 hx395 H396
  refine wpAnyH_done (by kernel_rfl) ?_ _
  clear hx397
  refine nx <| ct_ H398 rfl <| sq_ <| rl_ <| wl_ <| c_ H398 rfl HS396 (dcs Tryd.func10 rfl (args0 ) (auwakes_any W396 (HT _ HS396.below)) (.bool true)) fun _ HS399 _ H399 => wl_ <| p_ H399 rfl rfl fun _ H400 => ln_ <| ?_
  clear H398 HS396 H399
  have H401 := H400.sel [4] rfl
  refine nx <| wp_ret <| tr <| ret_run H401.env0 (res_t Tryd.results8 (H401.get 4 rfl)) <| ?_
  clear H400
  exact ⟨rfl, HS399.below⟩
theorem auswap_one (b o c : Nat) (l : List Sd) (z : BitVec 8) (w : World) (hT : Tab w) (h0 : SaidsAt w (.slice (some ⟨b, o, none⟩) 1 c) l) : Calls Tryd.prog 8 #[.slice (some ⟨b, o, none⟩) 1 c, .int .u8 (bd z)] w fun x w' => x = .returned (.bool true) ∧ Below w.heap.size w w' := by
  have hm : 1 ≤ maxLen := by decide
  have HS := St.nil w noF
  have HT : ∀ W, Below w.heap.size w W → Tab W := fun W hb => hT.below hb hT.pos
  refine enter_en Tryd.func8 rfl Tryd.ntmps8 (Nat.le_of_ble_eq_true rfl) fun a0 (HA0 : En 144 [(0, .slice (some ⟨b, o, none⟩) 1 c), (1, .int .u8 (bd z))] a0) => ?_
  refine sq_ <| rl_ <| wl_ <| p_ HA0 rfl rfl fun _ H1 => ln_ <| nx <| sq_ <| sq_ <| rl_ <| wl_ <| p_ H1 rfl rfl fun _ H2 => ?_
  clear HA0 H1
  cases hb4 : fairD l
  ·
   refine wl_ <| c_ H2 rfl HS (v := .bool false) (dc_ Tryd.func9 rfl (args1 (H2.ev 13 rfl)) (aufair_any _ _ _ l w (h0.below HS.below (Nat.le_refl _)) hm) (fun _ w9 h9 => ⟨_, h9.1, by rw [hb4], h9.2⟩)) fun W5 HS5 _ H5 => wl_ <| i_ H5 rfl (v := .bool true) (dd_nt rfl (H5.ev 14 rfl) rfl) fun _ H6 => wl_ <| p_ H6 rfl rfl fun _ H7 => wl_ <| k_ H7 (wg_ H7 rfl rfl rfl rfl) rfl fun _ H8 => wl_ <| k_ H8 (wg_ H8 rfl rfl rfl rfl) rfl fun _ H9 => wl_ <| k_ H9 (wg_ H9 rfl rfl rfl rfl) rfl fun _ H10 => wl_ <| p_ H10 rfl rfl fun _ H11 => ln_ <| nx <| ct_ H11 rfl <| sq_ <| rl_ <| wl_ <| c_ H11 rfl HS5 (dcs Tryd.func10 rfl (args0 ) (auwakes_any W5 (HT _ HS5.below)) (.bool true)) fun _ HS12 _ H12 => ?_
   clear H2 HS H5 H6 H7 H8 H9 H10
   refine wl_ <| p_ H12 rfl rfl fun _ H13 => ln_ <| nx <| wp_ret <| tr <| ret_run H13.env0 (res_t Tryd.results8 (H13.get 4 rfl)) <| ?_
   clear H11 HS5 H12
   exact ⟨rfl, HS12.below⟩
  refine wl_ <| c_ H2 rfl HS (v := .bool true) (dc_ Tryd.func9 rfl (args1 (H2.ev 13 rfl)) (aufair_any _ _ _ l w (h0.below HS.below (Nat.le_refl _)) hm) (fun _ w9 h9 => ⟨_, h9.1, by rw [hb4], h9.2⟩)) fun W14 HS14 _ H14 => wl_ <| i_ H14 rfl (v := .bool false) (dd_nt rfl (H14.ev 14 rfl) rfl) fun _ H15 => wl_ <| p_ H15 rfl rfl fun _ H16 => wl_ <| ig H16 (wg_ H16 rfl rfl rfl rfl) rfl (dd_mv rfl (H16.ev 0 rfl)) fun _ H17 => wl_ <| ig H17 (wg_ H17 rfl rfl rfl rfl) rfl (v := .int .i64 1) (dd_len rfl (H17.ev 17 rfl) Tryd.underlying22) fun _ H18 => wl_ <| ig H18 (wg_ H18 rfl rfl rfl rfl) rfl (dd_cmp rfl (H18.ev 18 rfl) rfl (lt_t (by decide))) fun _ H19 => wl_ <| p_ H19 rfl rfl fun _ H20 => ln_ <| nx <| ct_ H20 rfl <| sq_ <| rl_ <| wl_ <| c_ H20 rfl HS14 (dcs Tryd.func10 rfl (args0 ) (auwakes_any W14 (HT _ HS14.below)) (.bool true)) fun _ HS21 _ H21 => ?_
  clear H2 HS H14 H15 H16 H17 H18 H19
  refine wl_ <| p_ H21 rfl rfl fun _ H22 => ln_ <| nx <| wp_ret <| tr <| ret_run H22.env0 (res_t Tryd.results8 (H22.get 4 rfl)) <| ?_
  clear H20 HS14 H21
  exact ⟨rfl, HS21.below⟩
theorem auswap_zero (A : Option Addr) (c : Nat) (z : BitVec 8)  (w : World) (hT : Tab w) (h0z : SaidsAt w (.slice A 0 c) []) : Calls Tryd.prog 8 #[.slice A 0 c, .int .u8 (bd z)] w fun x w' => x = .returned (.bool true) ∧ Below w.heap.size w w' := by
  have HS := St.nil w noF
  have HT : ∀ W, Below w.heap.size w W → Tab W := fun W hb => hT.below hb hT.pos
  refine enter_en Tryd.func8 rfl Tryd.ntmps8 (Nat.le_of_ble_eq_true rfl) fun a0 (HA0 : En 144 [(0, .slice A 0 c), (1, .int .u8 (bd z))] a0) => ?_
  refine sq_ <| rl_ <| wl_ <| p_ HA0 rfl rfl fun _ H1 => ln_ <| nx <| sq_ <| sq_ <| rl_ <| wl_ <| p_ H1 rfl rfl fun _ H2 => wl_ <| c_ H2 rfl HS (v := .bool true) (dc_ Tryd.func9 rfl (args1 (H2.ev 13 rfl)) (aufair_any _ _ _ ([]) w (h0z.below HS.below (Nat.le_refl _)) (Nat.zero_le _)) (fun _ w9 h9 => ⟨_, h9.1, by rw [(show fairD [] = true from rfl)], h9.2⟩)) fun W3 HS3 _ H3 => wl_ <| i_ H3 rfl (v := .bool false) (dd_nt rfl (H3.ev 14 rfl) rfl) fun _ H4 => wl_ <| p_ H4 rfl rfl fun _ H5 => wl_ <| ig H5 (wg_ H5 rfl rfl rfl rfl) rfl (dd_mv rfl (H5.ev 0 rfl)) fun _ H6 => wl_ <| ig H6 (wg_ H6 rfl rfl rfl rfl) rfl (v := .int .i64 0) (dd_len rfl (H6.ev 17 rfl) Tryd.underlying22) fun _ H7 => wl_ <| ig H7 (wg_ H7 rfl rfl rfl rfl) rfl (dd_cmp rfl (H7.ev 18 rfl) rfl (lt_t (by decide))) fun _ H8 => ?_
  clear HA0 H1 H2 HS H3 H4 H5 H6
  refine wl_ <| p_ H8 rfl rfl fun _ H9 => ln_ <| nx <| ct_ H9 rfl <| sq_ <| rl_ <| wl_ <| c_ H9 rfl HS3 (dcs Tryd.func10 rfl (args0 ) (auwakes_any W3 (HT _ HS3.below)) (.bool true)) fun _ HS10 _ H10 => wl_ <| p_ H10 rfl rfl fun _ H11 => ln_ <| nx <| wp_ret <| tr <| ret_run H11.env0 (res_t Tryd.results8 (H11.get 4 rfl)) <| ?_
  clear H7 H8 H9 HS3 H10
  exact ⟨rfl, HS10.below⟩
theorem auswap_walk (A : Option Addr) (n c : Nat) (l : List Sd) (z : BitVec 8) (w : World) (hT : Tab w) (h0 : SaidsAt w (.slice A n c) l) (hm : n ≤ maxLen) : Calls Tryd.prog 8 #[.slice A n c, .int .u8 (bd z)] w fun x w' => x = .returned (.bool true) ∧ Below w.heap.size w w' := by
  by_cases hn : n = 0
  · have hl := saids_len h0
    subst hn
    obtain rfl : l = [] := List.eq_nil_of_length_eq_zero hl
    exact auswap_zero A c z w hT h0
  · obtain ⟨b, o, rfl⟩ := saids_some h0 (by omega)
    by_cases h1 : n = 1
    · subst h1; exact auswap_one b o c l z w hT h0
    · exact auswap_pos b o n c l z w hT h0 hm (by omega)
end Go.Proofs.YtbhmgnhiglpmhaaDoor

/- AuditSwaps, as its tied card: for everything that was said and every byte the call returns true and changes nothing that it was handed. Conditions: those of the row (the table lies as the program's text lays it, which the card ties to the pruned copy). -/
set_option maxRecDepth 4000
namespace Go.Proofs.YtbhmgnhiglpmhaaDoor.auditSwaps
open Go Go.ChangeShapes Go.WideShapes Go.ChangeAt Go.RowKit

theorem contract (H : Type) (enc : TypeId × Value → H) (W : World) (base : Nat) (args : Array Value) (ds gs : List (DataW H)) (before : List MemPlace)
    (hval : ∀ (j : Nat) t v, Tryd.f8.params[j]? = some t → args[j]? = some v → Value.okWide Tryd.prog W .any base t v)
    (hW : DataW.Whole enc Tryd.prog Tryd.f8.params.toList Rows.auditSwapsSpec.vars false W args.toList ds gs before) (hL : laidMetH Tryd.prog Rows.auditSwapsRow.laid W) :
    Calls Tryd.prog 8 args W fun e W' => ∃ v, e = .returned v ∧ Rows.auditSwapsSpec.post enc Tryd.prog Tryd.f8 false true false false W args v W' := by
  have hW' := hW
  obtain ⟨p, q, hA0, hV, rfl, _, _⟩ := hW
  have hA : DataW.TrodAll enc Tryd.prog W 0 (fun _ => true) true Tryd.f8.params.toList args.toList ds p := hA0
  rw [Tryd.params8] at hA hval
  obtain ⟨v0, vs0, d0, ds0, p0, q0, hargs, rfl, rfl, h0, r0⟩ := trodAll_cons hA
  obtain ⟨v1, vs1, d1, ds1, p1, q1, rfl, rfl, rfl, h1, r1⟩ := trodAll_cons r0
  obtain ⟨rfl, rfl, rfl⟩ := trodAll_nil r1
  obtain rfl : args = #[v0, v1] := by cases args; simp_all
  obtain ⟨rfl, rfl⟩ := trodVars_none hV
  have hlt0 : ∀ x ∈ p0, x.block < W.heap.size := fun x hx => hW'.lt x (by simp [hx])
  have hlt1 : ∀ x ∈ p1, x.block < W.heap.size := fun x hx => hW'.lt x (by simp [hx])
  obtain ⟨A0, n0, c0, l0, rfl, hS0, hm0⟩ := open_saids (hval 0 22 v0 rfl rfl) h0 hlt0
  obtain ⟨n1, rfl⟩ := open_argU8 Tryd.underlying5 (hval 1 5 v1 rfl rfl) h1 hlt1
  refine (auswap_walk A0 n0 c0 l0 n1 W (tab_of_laid hL) hS0 hm0 ).mono fun e W' ⟨he, hb⟩ => ?_
  subst he
  exact ⟨_, rfl, [d0, d1], [], _, [], _, [], hW', trodAll_cons_mk (shut_bool Tryd.underlying4 _) trodAll_mk0, trodAll_cons_mk (Below.trod laidOutT (by kernel_rfl) (of_decide_eq_true (by kernel_rfl)) h0 hb hlt0) (trodAll_cons_mk (Below.trod laidOutT (by kernel_rfl) (of_decide_eq_true (by kernel_rfl)) h1 hb hlt1) trodAll_mk0), rfl, hb.frame _, fun h => by cases h⟩

theorem laid_met (os : Os) : laidMet Tryd.prog Rows.auditSwapsRow.laid ((laidWorld os).forCall (fun _ _ => 0) ⟨#[], #[.slice none 0 0, .int .u8 0], []⟩).memory :=
  laidMet_of_run' 8 (by kernel_rfl) (by kernel_rfl)
theorem reads (os : Os) {H : Type} (enc : TypeId × Value → H) : ∃ places, DataW.whole enc Tryd.prog ((laidWorld os).forCall (fun _ _ => 0) ⟨#[], #[.slice none 0 0, .int .u8 0], []⟩).memory Tryd.f8.params.toList Rows.auditSwapsSpec.vars false #[(Value.slice none 0 0), (Value.int .u8 0)].toList 8 = some ([.nil, .lit (.int .u8 0)], [], places) :=
  ⟨[], by kernel_rfl⟩

set_option maxRecDepth 100000 in
theorem lifted (os : Os) (started : os.Started) (H : Type) (enc : TypeId × Value → H) (F : Stop.Interp) :
    ReturnsInHanded {} Tryd.checked os 8 .any ((OpenSpec.ofChange Rows.auditSwapsSpec).preRow enc Tryd.prog Tryd.f8 Rows.auditSwapsRow.domain false Rows.auditSwapsRow.laid) (((OpenSpec.ofChange Rows.auditSwapsSpec).at F).post enc Tryd.prog Tryd.f8 false true false false) := by
  obtain ⟨places, hx⟩ := reads os enc
  refine returnsInHanded_of_row (C := Tryd.checked) (s := OpenSpec.ofChange Rows.auditSwapsSpec) ownK started (by kernel_rfl) Tryd.func8
    (witness_row_at (enc := enc) (C := Tryd.checked) false (laidWorld os) #[.slice none 0 0, .int .u8 0] rfl (by kernel_rfl) (by kernel_rfl) (by kernel_rfl)
      (OpenSpec.preRow_of_cond 8 hx (by kernel_rfl) (fun k hk => by cases hk) (by kernel_rfl) (laid_met os))) ?_
  intro W base args ds gs before hval hW _ _ _ hL _ _
  exact contract H enc W base args ds gs before hval hW hL

theorem said : Rows.AuditSwapsSaid :=
  OpenClaim.holds_of_cond 8 Tryd.f8 rfl rfl rfl rfl rfl rfl rfl ⟨rfl, rfl, rfl, rfl, rfl⟩ rfl rfl rfl rfl rfl (by kernel_rfl) Tryd.func8 (by kernel_rfl)
    (of_decide_eq_true (by kernel_rfl)) (by unfold Func.isWrapper; first | (rw [if_pos (by decide +kernel)]; kernel_rfl) | (rw [if_neg (by decide +kernel)]; exact ⟨rfl, rfl⟩))
    (fun os started H enc _ F => by rw [OpenClaim.pre_eq_preRow]; exact lifted os started H enc F)

theorem plain (f : FuncId) (fn : Func) (hf : Tryd.pinned.checked.prog.funcNamed Rows.auditSwapsRow.func = some f) (hfn : Tryd.pinned.checked.prog.funcs[f]? = some fn) :
    false = Tryd.pinned.checked.prog.looks [] ∧ ∀ (j : Nat) t, fn.params[j]? = some t → Tryd.pinned.checked.prog.wantsStandIn t = false := by
  obtain rfl : f = 8 := Option.some.inj ((show Tryd.prog.funcNamed Rows.auditSwapsRow.func = some 8 by kernel_rfl).symm.trans hf) |>.symm
  obtain rfl : fn = Tryd.f8 := (Option.some.inj (Tryd.func8.symm.trans hfn)).symm
  refine ⟨by kernel_rfl, fun j t ht => ?_⟩
  rw [Tryd.params8] at ht
  have hm : t = 22 ∨ t = 5 := by simpa using Array.mem_of_getElem? ht
  rcases hm with rfl | rfl
  · exact (show Tryd.prog.wantsStandIn 22 = false by kernel_rfl)
  · exact (show Tryd.prog.wantsStandIn 5 = false by kernel_rfl)

theorem card : Rows.AuditSwapsCardSaid :=
  Claim7.holds_tied_plain_at .later [] _ _ _ _ said (fun _ h => by cases h) (by kernel_rfl) (fun _ h => by cases h) auditSwaps_row_tie rfl ⟨rfl, rfl⟩ (by kernel_rfl) rfl plain (by kernel_rfl)
end Go.Proofs.YtbhmgnhiglpmhaaDoor.auditSwaps
