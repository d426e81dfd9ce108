/- CapsWards, as its tied card: for every ward, claim and two bytes the call returns true and changes nothing that it was handed. Conditions: those of the row (the table of round words lies as the program's text lays it, which the card ties to the pruned copy). -/
import Derived.Test.YtcheflcfoiclgaaDoorMAw0
import Derived.Test.YtcheflcfoiclgaaDoorMGen0
import Derived.Test.YtcheflcfoiclgaaDoorMLabel0
/- CapsWards: the walk. -/
set_option maxRecDepth 4000
namespace Go.Proofs.YtcheflcfoiclgaaDoor
open Go Go.RowKit
theorem u8_add1 (x : BitVec 8) : IntKind.u8.wrap (bd x + 1) = bd (x + 1#8) := by
  rw [IntKind.wrap_u8]; unfold bd; rw [BitVec.toNat_add]; simp
theorem u32_bd (x : BitVec 8) : IntKind.u32.wrap (bd x) = bd x := by
  have := bd_lo x; have := bd_hi x
  rw [IntKind.wrap_u32']; omega
theorem u32_1bd (x : BitVec 8) : IntKind.u32.wrap (1 + bd x) = 1 + bd x := by
  have := bd_lo x; have := bd_hi x
  rw [IntKind.wrap_u32']; omega
theorem u32_addw (g : BitVec 32) (z : Int) : IntKind.u32.wrap (wd g + z) = wd (g + BitVec.ofInt 32 z) := by
  rw [IntKind.wrap_u32']; unfold wd; rw [BitVec.toNat_add, BitVec.toNat_ofInt]; omega
theorem gen_ne (g : BitVec 32) (x : BitVec 8) : ¬ wd g = wd (g + BitVec.ofInt 32 (1 + bd x)) := fun h => by
  have h1 := bd_lo x; have h2 := bd_hi x; have h3 := g.isLt
  unfold wd at h
  rw [BitVec.toNat_add, BitVec.toNat_ofInt] at h
  omega
theorem tag_set {q : List (BitVec 8)} (hq : q.length = 32) : ¬ q = q.set 0 (q.getD 0 0#8 + 1#8) := fun h => by
  have h0 : q[0]? = some (q.getD 0 0#8) := by rw [List.getD_eq_getElem?_getD, List.getElem?_eq_getElem (by omega)]; rfl
  have h1 := congrArg (fun l : List (BitVec 8) => l[0]?) h
  simp only [List.getElem?_set_self (show 0 < q.length by omega), h0, Option.some.injEq] at h1
  bv_omega
theorem tk_getT {c : Clm} {t : List (BitVec 8)} (ht : t.length = 32) (i : Nat) (hi : i < 32) : (tokCells c t)[5 + i]? = some (.int .u8 (bd (t.getD i 0#8))) := by
  unfold tokCells
  rw [Array.getElem?_append_right (show (clmCells c).size ≤ 5 + i from Nat.le_add_right 5 i), show 5 + i - (clmCells c).size = i from Nat.add_sub_cancel_left 5 i]
  exact bs_get ht i hi
set_option maxHeartbeats 1600000 in
theorem capwards_walk (A : Option Addr) (n cc : Nat) (key : List (BitVec 8)) (pl : Int) (gn tk : BitVec 32) (c : Clm) (z : List (BitVec 8)) (w : World) (hT : Tab w) (hk : Item w (.slice A n cc) key) (hn : c.n.length ≤ maxLen) (hz : z.length = 2) :
    Calls Tryd.prog 5 #[.agg #[.slice A n cc, .int .i64 pl, .int .u32 (wd gn), .int .u32 (wd tk)], .agg (clmCells c), .agg (bs z)] w fun e w' => e = .returned (.bool true) ∧ Below w.heap.size w w' := by
  have HS := St.nil w noF
  have HK : ∀ W, Below w.heap.size w W → Item W (.slice A n cc) key := fun W hb => hk.below hb (Nat.le_refl _)
  have hkl : key.length = n := by obtain ⟨_, _, e, _⟩ := hk; injection e with _ e _; exact e.symm
  have HKN : A = none → cc = 0 := by obtain ⟨A', c', e, _, h, _⟩ := hk; injection e with e1 _ e2; rw [e1, e2]; exact h
  have HT : ∀ W, Below w.heap.size w W → Tab W := fun W hb => hT.below hb hT.pos
  refine enter_en Tryd.func5 rfl Tryd.ntmps5 (Nat.le_of_ble_eq_true rfl) fun a0 (HA0 : En 102 [(0, .agg #[.slice A n cc, .int .i64 pl, .int .u32 (wd gn), .int .u32 (wd tk)]), (1, .agg (clmCells c)), (2, .agg (bs z))] a0) => ?_
  refine sq_ <| rl_ <| wl_ <| n_ HA0 rfl (fun _ h => dd_box HS rfl (HA0.ev 0 rfl) (cs := #[.slice A n cc, .int .i64 pl, .int .u32 (wd gn), .int .u32 (wd tk)]) rfl h) fun g3 W1 HS1 a1 H1 => wl_ <| n_ H1 rfl (fun _ h => dd_box HS1 rfl (H1.ev 1 rfl) (cs := (clmCells c)) rfl h) fun g4 W2 HS2 a2 H2 => wl_ <| n_ H2 rfl (fun _ h => dd_box HS2 rfl (H2.ev 2 rfl) (cs := (bs z)) rfl h) fun g5 W3 HS3 a3 H3 => wl_ <| p_ H3 rfl rfl fun a4 H4 => ln_ <| nx <| sq_ <| sq_ <| rl_ <| wl_ <| i_ H4 rfl (xf 0 0 rfl (H4.ev 3 rfl)) fun a5 H5 => wl_ <| i_ H5 rfl (dd_get HS3 0 0 rfl rfl (H5.ev 12 rfl) rfl Tryd.underlying22 rfl) fun a6 H6 => wl_ <| i_ H6 rfl (v := .int .i64 n) (dd_len rfl (H6.ev 13 rfl) Tryd.underlying22) fun a7 H7 => ?_
  clear HS HA0 a0 HS1 H1 a1 HS2 H2 a2 H3 a3 H4 a4 H5 a5 H6 a6
  by_cases hc9 : (200 : Int) < n
  ·
   refine wl_ <| i_ H7 rfl (dd_cmp rfl (H7.ev 14 rfl) rfl (gt_t hc9)) fun a10 H10 => wl_ <| p_ H10 rfl rfl fun a11 H11 => wl_ <| k_ H11 (wg_ H11 rfl rfl rfl rfl) rfl fun a12 H12 => wl_ <| k_ H12 (wg_ H12 rfl rfl rfl rfl) rfl fun a13 H13 => wl_ <| k_ H13 (wg_ H13 rfl rfl rfl rfl) rfl fun a14 H14 => wl_ <| k_ H14 (wg_ H14 rfl rfl rfl rfl) rfl fun a15 H15 => wl_ <| p_ H15 rfl rfl fun a16 H16 => ln_ <| nx <| ct_ H16 rfl <| sq_ <| rl_ <| wl_ <| c_ H16 rfl HS3 (dcs Tryd.func6 rfl (args0 ) (capwakes_any W3 (HT _ HS3.below)) (.bool true)) fun W17 HS17 a17 H17 => ?_
   clear H7 a7 H10 a10 H11 a11 H12 a12 H13 a13 H14 a14 H15 a15
   refine wl_ <| p_ H17 rfl rfl fun a18 H18 => ln_ <| ?_
   clear H16 a16 HS3 H17 a17
   have H19 := H18.sel [6] rfl
   refine nx <| wp_ret <| tr <| ret_run H19.env0 (res_t Tryd.results5 (H19.get 6 rfl)) <| ?_
   clear H18
   exact ⟨rfl, HS17.below⟩
  ·
   refine wl_ <| i_ H7 rfl (dd_cmp rfl (H7.ev 14 rfl) rfl (gt_f hc9)) fun a20 H20 => wl_ <| p_ H20 rfl rfl fun a21 H21 => wl_ <| ig H21 (wg_ H21 rfl rfl rfl rfl) rfl (xf 1 1 rfl (H21.ev 4 rfl)) fun a22 H22 => wl_ <| ig H22 (wg_ H22 rfl rfl rfl rfl) rfl (dd_get HS3 1 1 rfl rfl (H22.ev 17 rfl) rfl Tryd.underlying9 rfl) fun a23 H23 => wl_ <| ig H23 (wg_ H23 rfl rfl rfl rfl) rfl (v := .int .i64 c.n.length) (dd_lens rfl (H23.ev 18 rfl) Tryd.underlying9 (by rw [strB_size])) fun a24 H24 => ?_
   clear H7 a7 H20 a20 H21 a21 H22 a22 H23 a23
   by_cases hc26 : (100 : Int) < c.n.length
   ·
    refine wl_ <| ig H24 (wg_ H24 rfl rfl rfl rfl) rfl (dd_cmp rfl (H24.ev 19 rfl) rfl (gt_t hc26)) fun a27 H27 => wl_ <| p_ H27 rfl rfl fun a28 H28 => ln_ <| nx <| ct_ H28 rfl <| sq_ <| rl_ <| wl_ <| c_ H28 rfl HS3 (dcs Tryd.func6 rfl (args0 ) (capwakes_any W3 (HT _ HS3.below)) (.bool true)) fun W29 HS29 a29 H29 => wl_ <| p_ H29 rfl rfl fun a30 H30 => ln_ <| ?_
    clear H24 a24 H27 a27 H28 a28 HS3 H29 a29
    have H31 := H30.sel [6] rfl
    refine nx <| wp_ret <| tr <| ret_run H31.env0 (res_t Tryd.results5 (H31.get 6 rfl)) <| ?_
    clear H30
    exact ⟨rfl, HS29.below⟩
   ·
    refine wl_ <| ig H24 (wg_ H24 rfl rfl rfl rfl) rfl (dd_cmp rfl (H24.ev 19 rfl) rfl (gt_f hc26)) fun a32 H32 => wl_ <| p_ H32 rfl rfl fun a33 H33 => ln_ <| nx <| cf_ H33 rfl <| wp_skip <| nx <| sq_ <| rl_ <| wl_ <| i_ H33 rfl (xf 0 0 rfl (H33.ev 3 rfl)) fun a34 H34 => wl_ <| i_ H34 rfl (dd_get HS3 0 0 rfl rfl (H34.ev 24 rfl) rfl Tryd.underlying22 rfl) fun a35 H35 => wl_ <| i_ H35 rfl (v := .agg (clmCells c)) (dd_load HS3 1 0 rfl rfl (H35.ev 4 rfl) (slab_whole _) Tryd.underlying27 rfl (by rw [show (clmCells c).size = 5 from rfl]; kernel_rfl)) fun a36 H36 => ?_
    clear H24 a24 H32 a32 H33 a33 H34 a34 H35 a35
    cases hb38 : mayC c
    case false =>
     refine wl_ <| c_ H36 rfl HS3 (v := .tuple #[.agg (tokCells clm0 (zer 32)), .int .i64 11]) (dc_ Tryd.func7 rfl (args2 (H36.ev 25 rfl) (H36.ev 26 rfl)) (mint_any _ _ _ key c W3 (HT _ HS3.below) (HK _ HS3.below) (by omega) hn) (fun _ w9 h9 => ⟨_, h9.1, by rw [mintK_n hb38, mintE_n hb38], h9.2⟩)) fun W39 HS39 a39 H39 => wl_ <| p_ H39 rfl rfl fun a40 H40 => wl_ <| i_ H40 rfl (dd_ext rfl (H40.ev 23 rfl) rfl) fun a41 H41 => wl_ <| i_ H41 rfl (dd_ext rfl (H41.ev 23 rfl) rfl) fun a42 H42 => wl_ <| n_ H42 rfl (fun _ h => dd_new HS39 (catA [[.int .i64 0], [.string (⟨#[]⟩)], [.int .i64 0], [.int .u32 0], [.int .u32 0], bytesV (zer 32)]) rfl (z := .agg (catA [[.int .i64 0], [.string (⟨#[]⟩)], [.int .i64 0], [.int .u32 0], [.int .u32 0], bytesV (zer 32)])) (by kernel_rfl) rfl h) fun g7 W43 HS43 a43 H43 => wl_ <| t_ rfl (fun _ h => dd_setrow HS43 3 rfl rfl (H43.ev 7 rfl) (H43.ev 28 rfl) (by kernel_rfl) ((tk_size _ (length_zer 32)) : (tokCells clm0 (zer 32)).size = 37) ((cat_size (lens_cons rfl (lens_cons rfl (lens_cons rfl (lens_cons rfl (lens_cons rfl (lens_cons (len_bv (length_zer 32)) (lens_nil)))))))) : (catA [[.int .i64 0], [.string (⟨#[]⟩)], [.int .i64 0], [.int .u32 0], [.int .u32 0], bytesV (zer 32)]).size = 37) (tk_one _ _) h) fun W44 HS44 => wl_ <| p_ H43 rfl rfl fun a45 H45 => ln_ <| ?_
     clear H36 a36 HS3 H39 a39 H40 a40 H41 a41 HS39 H42 a42 HS43 H43 a43
     have H46 := H45.sel [3, 4, 5, 7, 8] rfl
     refine nx <| sq_ <| sq_ <| rl_ <| wl_ <| p_ H46 rfl rfl fun a47 H47 => wl_ <| i_ H47 rfl (dd_cmp rfl (H47.ev 30 rfl) rfl (ne_t (by decide))) fun a48 H48 => ln_ <| nx <| ct_ H48 rfl <| sq_ <| rl_ <| wl_ <| c_ H48 rfl HS44 (dcs Tryd.func6 rfl (args0 ) (capwakes_any W44 (HT _ HS44.below)) (.bool true)) fun W49 HS49 a49 H49 => wl_ <| p_ H49 rfl rfl fun a50 H50 => ln_ <| nx <| wp_ret <| tr <| ret_run H50.env0 (res_t Tryd.results5 (H50.get 6 rfl)) <| ?_
     clear H45 H46 a45 H47 a47 H48 a48 HS44 H49 a49
     exact ⟨rfl, HS49.below⟩
    case true =>
     refine wl_ <| c_ H36 rfl HS3 (v := .tuple #[.agg (tokCells c (tagOf key (clmB c))), .int .i64 0]) (dc_ Tryd.func7 rfl (args2 (H36.ev 25 rfl) (H36.ev 26 rfl)) (mint_any _ _ _ key c W3 (HT _ HS3.below) (HK _ HS3.below) (by omega) hn) (fun _ w9 h9 => ⟨_, h9.1, by rw [mintK_y hb38, mintE_y hb38], h9.2⟩)) fun W51 HS51 a51 H51 => wl_ <| p_ H51 rfl rfl fun a52 H52 => wl_ <| i_ H52 rfl (dd_ext rfl (H52.ev 23 rfl) rfl) fun a53 H53 => wl_ <| i_ H53 rfl (dd_ext rfl (H53.ev 23 rfl) rfl) fun a54 H54 => wl_ <| n_ H54 rfl (fun _ h => dd_new HS51 (catA [[.int .i64 0], [.string (⟨#[]⟩)], [.int .i64 0], [.int .u32 0], [.int .u32 0], bytesV (zer 32)]) rfl (z := .agg (catA [[.int .i64 0], [.string (⟨#[]⟩)], [.int .i64 0], [.int .u32 0], [.int .u32 0], bytesV (zer 32)])) (by kernel_rfl) rfl h) fun g7 W55 HS55 a55 H55 => wl_ <| t_ rfl (fun _ h => dd_setrow HS55 3 rfl rfl (H55.ev 7 rfl) (H55.ev 28 rfl) (by kernel_rfl) ((tk_size _ (len_tag _ _)) : (tokCells c (tagOf key (clmB c))).size = 37) ((cat_size (lens_cons rfl (lens_cons rfl (lens_cons rfl (lens_cons rfl (lens_cons rfl (lens_cons (len_bv (length_zer 32)) (lens_nil)))))))) : (catA [[.int .i64 0], [.string (⟨#[]⟩)], [.int .i64 0], [.int .u32 0], [.int .u32 0], bytesV (zer 32)]).size = 37) (tk_one _ _) h) fun W56 HS56 => wl_ <| p_ H55 rfl rfl fun a57 H57 => ln_ <| ?_
     clear H36 a36 HS3 H51 a51 H52 a52 H53 a53 HS51 H54 a54 HS55 H55 a55
     have H58 := H57.sel [3, 4, 5, 7, 8] rfl
     refine nx <| sq_ <| sq_ <| rl_ <| wl_ <| p_ H58 rfl rfl fun a59 H59 => wl_ <| i_ H59 rfl (dd_cmp rfl (H59.ev 30 rfl) rfl (ne_f (by decide))) fun a60 H60 => ln_ <| nx <| cf_ H60 rfl <| wp_skip <| nx <| sq_ <| ?_
     clear H57 H58 a57 H59 a59
     refine wi_ HS56 [1, 2, 3] rfl [1, 2, 3, 0] rfl fun HSh61 hx61 => ht_ H60 0 hx61 rfl rfl (fun _ _ _ => xf 0 0 rfl (H60.ev 4 rfl)) fun a62 H62 => ht_ H62 1 hx61 rfl rfl (fun _ _ HS9 => dd_get HS9 0 0 rfl rfl (H62.ev 33 rfl) rfl Tryd.underlying3 rfl) fun a63 H63 => ht_ H63 2 hx61 rfl rfl (fun _ _ _ => xf 4 4 rfl (H63.ev 4 rfl)) fun a64 H64 => ht_ H64 3 hx61 rfl rfl (fun _ _ HS9 => dd_get HS9 0 4 rfl rfl (H64.ev 35 rfl) rfl Tryd.underlying23 rfl) fun a65 H65 => ht_ H65 4 hx61 rfl rfl (fun _ _ _ => xf 3 3 rfl (H65.ev 4 rfl)) fun a66 H66 => ht_ H66 5 hx61 rfl rfl (fun _ _ HS9 => dd_get HS9 0 3 rfl rfl (H66.ev 37 rfl) rfl Tryd.underlying23 rfl) fun a67 H67 => ht_ H67 6 hx61 rfl rfl (fun _ _ _ => xf 1 1 rfl (H67.ev 3 rfl)) fun a68 H68 => ?_
     clear HS56 H60 a60 H62 a62 H63 a63 H64 a64 H65 a65 H66 a66
     refine h1_ 7 rfl <| t_ rfl (fun _ h => dd_put (cs := #[.slice A n cc, .int .i64 c.p, .int .u32 (wd gn), .int .u32 (wd tk)]) HSh61 0 1 rfl rfl (H68.ev 39 rfl) (H68.ev 34 rfl) (by kernel_rfl) rfl rfl rfl rfl h) fun W69 HS69 => sx_ (sxi HS69 [1, 2, 3, 0] rfl) fun hx70 => ht_ H68 8 hx70 rfl rfl (fun _ _ _ => xf 2 2 rfl (H68.ev 3 rfl)) fun a71 H71 => h1_ 9 rfl <| t_ rfl (fun _ h => dd_put (cs := #[.slice A n cc, .int .i64 c.p, .int .u32 (wd c.g), .int .u32 (wd tk)]) HS69 0 2 rfl rfl (H71.ev 40 rfl) (H71.ev 36 rfl) (by kernel_rfl) rfl rfl rfl rfl h) fun W72 HS72 => sx_ (sxi HS72 [1, 2, 3, 0] rfl) fun hx73 => ht_ H71 10 hx73 rfl rfl (fun _ _ _ => xf 3 3 rfl (H71.ev 3 rfl)) fun a74 H74 => h1_ 11 rfl <| t_ rfl (fun _ h => dd_put (cs := #[.slice A n cc, .int .i64 c.p, .int .u32 (wd c.g), .int .u32 (wd c.u)]) HS72 0 3 rfl rfl (H74.ev 41 rfl) (H74.ev 38 rfl) (by kernel_rfl) rfl rfl rfl rfl h) fun W75 HS75 => sx_ (sxi HS75 [1, 2, 3, 0] rfl) fun hx76 => ?_
     clear H67 a67 HSh61 hx61 H68 a68 HS69 hx70 H71 a71 HS72
     clear hx73
     refine wpAnyH_done (by kernel_rfl) ?_ _
     clear hx76
     refine nx <| sq_ <| rl_ <| wl_ <| p_ H74 rfl rfl fun a77 H77 => ln_ <| nx <| sq_ <| sq_ <| rl_ <| wl_ <| i_ H77 rfl (xf 1 1 rfl (H77.ev 4 rfl)) fun a78 H78 => wl_ <| i_ H78 rfl (dd_get HS75 1 1 rfl rfl (H78.ev 42 rfl) rfl Tryd.underlying9 rfl) fun a79 H79 => ?_
     clear H74 a74 H77 a77 H78 a78
     by_cases hc81 : c.n = []
     ·
      refine wl_ <| i_ H79 rfl (v := .bool false) (dd_nes rfl (H79.ev 43 rfl) rfl (by rw [bne, sbz_t hc81]; rfl)) fun a82 H82 => ln_ <| nx <| cf_ H82 rfl <| wp_skip <| nx <| sq_ <| sq_ <| rl_ <| wl_ <| i_ H82 rfl (v := .agg #[.slice A n cc, .int .i64 c.p, .int .u32 (wd c.g), .int .u32 (wd c.u)]) (dd_load HS75 0 0 rfl rfl (H82.ev 3 rfl) (slab_whole _) Tryd.underlying25 rfl (by kernel_rfl)) fun a83 H83 => wl_ <| i_ H83 rfl (v := .agg (tokCells c (tagOf key (clmB c)))) (dd_load HS75 3 0 rfl rfl (H83.ev 7 rfl) (slab_whole _) Tryd.underlying31 rfl (by rw [show (tokCells c (tagOf key (clmB c))).size = 37 from (tk_size _ (len_tag _ _))]; kernel_rfl)) fun a84 H84 => wl_ <| p_ H84 rfl rfl fun a85 H85 => wl_ <| i_ H85 rfl (xf 2 2 rfl (H85.ev 4 rfl)) fun a86 H86 => wl_ <| i_ H86 rfl (dd_get HS75 1 2 rfl rfl (H86.ev 50 rfl) rfl Tryd.underlying3 rfl) fun a87 H87 => wl_ <| c_ H87 rfl HS75 (v := .int .i64 0) (dc_ Tryd.func9 rfl (args4 (H87.ev 47 rfl) (H87.ev 48 rfl) (H87.ev 49 rfl) (H87.ev 51 rfl)) (capcheck_any _ _ _ key c.p c.g c.u c (tagOf key (clmB c)) ([120#8]) c.r W75 (HT _ HS75.below) (HK _ HS75.below) (by omega) hn (len_tag _ _)) (fun _ w9 h9 => ⟨_, h9.1, by rw [(show chkT key c.p c.g c.u c (tagOf key (clmB c)) ([120#8]) c.r = 0 from chk_own hb38 (.inl hc81) (cand_self3 (may_parts hb38).2.2.2.1 (may_parts hb38).2.2.2.2))], h9.2⟩)) fun W88 HS88 a88 H88 => wl_ <| i_ H88 rfl (dd_cmp rfl (H88.ev 52 rfl) rfl (ne_f (by decide))) fun a89 H89 => ?_
      clear H79 a79 H82 a82 H83 a83 H84 a84 H85 a85 H86 a86 H87 a87 HS75
      refine ln_ <| ?_
      clear H88 a88
      have H90 := H89.sel [3, 4, 5, 7, 9, 53] rfl
      refine nx <| cf_ H90 rfl <| wp_skip <| nx <| sq_ <| ?_
      clear H89
      refine wp_cut (fun a9 w9 => ∃ g11 : Nat, ∃ g10 : Nat, En 102 [(11, .pointer (some ⟨g11, 0, none⟩)), (10, .pointer (some ⟨g10, 0, none⟩)), (9, .string (⟨#[120]⟩)), (7, .pointer (some ⟨g7, 0, none⟩)), (5, .pointer (some ⟨g5, 0, none⟩)), (4, .pointer (some ⟨g4, 0, none⟩))] a9 ∧ St w noF [⟨g3, 25, #[.slice A n cc, .int .i64 c.p, .int .u32 (wd c.g), .int .u32 (wd c.u)]⟩, ⟨g4, 27, clmCells c⟩, ⟨g5, 47, bs z⟩, ⟨g7, 31, tokCells c (tagOf key (clmB c))⟩, ⟨g10, 25, #[.slice A n cc, .int .i64 c.p, .int .u32 (wd c.g), .int .u32 (wd c.u)]⟩, ⟨g11, 25, #[.slice A n cc, .int .i64 c.p, .int .u32 (wd c.g), .int .u32 (wd c.u)]⟩] w9) ?_ ?_
      ·
       refine wi_ HS88 [0, 1, 2, 3] rfl [0, 1, 2, 3] rfl fun HSh91 hx91 => ht_ H90 0 hx91 rfl rfl (v := .agg #[.slice A n cc, .int .i64 c.p, .int .u32 (wd c.g), .int .u32 (wd c.u)]) (fun _ _ HS9 => dd_load HS9 0 0 rfl rfl (H90.ev 3 rfl) (slab_whole _) Tryd.underlying25 rfl (by kernel_rfl)) fun a92 H92 => ht_ H92 1 hx91 rfl rfl (v := .agg #[.slice A n cc, .int .i64 c.p, .int .u32 (wd c.g), .int .u32 (wd c.u)]) (fun _ _ HS9 => dd_load HS9 0 0 rfl rfl (H92.ev 3 rfl) (slab_whole _) Tryd.underlying25 rfl (by kernel_rfl)) fun a93 H93 => ?_
       clear HS88 H90 a89 H92 a92
       refine wpAnyH_all (rs := [2, 3]) (by kernel_rfl) (by decide) (hm_cons ?_ (hm_cons ?_ hm_nil))
       ·
        refine ho_ rfl <| n_ H93 rfl (fun _ h => dd_new HSh91 #[.slice none 0 0, .int .i64 0, .int .u32 0, .int .u32 0] rfl (z := .agg #[.slice none 0 0, .int .i64 0, .int .u32 0, .int .u32 0]) (by kernel_rfl) rfl h) fun g10 W94 HS94 a94 H94 => sx_ (sxi HS94 [0, 1, 2, 3, 4] rfl) fun hx95 => h1_ 3 rfl <| n_ H94 rfl (fun _ h => dd_new HS94 #[.slice none 0 0, .int .i64 0, .int .u32 0, .int .u32 0] rfl (z := .agg #[.slice none 0 0, .int .i64 0, .int .u32 0, .int .u32 0]) (by kernel_rfl) rfl h) fun g11 W96 HS96 a96 H96 => sx_ (sxi HS96 [0, 1, 2, 3, 4, 5] rfl) fun hx97 => h1_ 4 rfl <| t_ rfl (fun _ h => dd_setrow HS96 4 rfl rfl (H96.ev 10 rfl) (H96.ev 54 rfl) (by kernel_rfl) (rfl : #[.slice A n cc, .int .i64 c.p, .int .u32 (wd c.g), .int .u32 (wd c.u)].size = 4) (rfl : #[.slice none 0 0, .int .i64 0, .int .u32 0, .int .u32 0].size = 4) (one_l (ao_cons rfl (ao_cons rfl (ao_cons rfl (ao_cons rfl ao_nil))))) h) fun W98 HS98 => sx_ (sxi HS98 [0, 1, 2, 3, 4, 5] rfl) fun hx99 => h1_ 5 rfl <| t_ rfl (fun _ h => dd_setrow HS98 5 rfl rfl (H96.ev 11 rfl) (H96.ev 55 rfl) (by kernel_rfl) (rfl : #[.slice A n cc, .int .i64 c.p, .int .u32 (wd c.g), .int .u32 (wd c.u)].size = 4) (rfl : #[.slice none 0 0, .int .i64 0, .int .u32 0, .int .u32 0].size = 4) (one_l (ao_cons rfl (ao_cons rfl (ao_cons rfl (ao_cons rfl ao_nil))))) h) fun W100 HS100 => sx_ (sxi HS100 [0, 1, 2, 3, 4, 5] rfl) fun hx101 => ?_
        clear HSh91 H93 a93 HS94 H94 a94 hx95 HS96 hx97 HS98
        clear hx99
        refine wpAnyH_done (by kernel_rfl) ?_ _
        clear hx101
        exact nx ⟨g11, g10, H96.sel [4, 5, 7, 9, 10, 11] rfl, ss HS100 [0, 1, 2, 3, 4, 5]⟩
       ·
        refine ho_ rfl <| n_ H93 rfl (fun _ h => dd_new HSh91 #[.slice none 0 0, .int .i64 0, .int .u32 0, .int .u32 0] rfl (z := .agg #[.slice none 0 0, .int .i64 0, .int .u32 0, .int .u32 0]) (by kernel_rfl) rfl h) fun g11 W102 HS102 a102 H102 => sx_ (sxi HS102 [0, 1, 2, 3, 4] rfl) fun hx103 => h1_ 2 rfl <| n_ H102 rfl (fun _ h => dd_new HS102 #[.slice none 0 0, .int .i64 0, .int .u32 0, .int .u32 0] rfl (z := .agg #[.slice none 0 0, .int .i64 0, .int .u32 0, .int .u32 0]) (by kernel_rfl) rfl h) fun g10 W104 HS104 a104 H104 => sx_ (sxi HS104 [0, 1, 2, 3, 4, 5] rfl) fun hx105 => h1_ 4 rfl <| t_ rfl (fun _ h => dd_setrow HS104 5 rfl rfl (H104.ev 10 rfl) (H104.ev 54 rfl) (by kernel_rfl) (rfl : #[.slice A n cc, .int .i64 c.p, .int .u32 (wd c.g), .int .u32 (wd c.u)].size = 4) (rfl : #[.slice none 0 0, .int .i64 0, .int .u32 0, .int .u32 0].size = 4) (one_l (ao_cons rfl (ao_cons rfl (ao_cons rfl (ao_cons rfl ao_nil))))) h) fun W106 HS106 => sx_ (sxi HS106 [0, 1, 2, 3, 4, 5] rfl) fun hx107 => h1_ 5 rfl <| t_ rfl (fun _ h => dd_setrow HS106 4 rfl rfl (H104.ev 11 rfl) (H104.ev 55 rfl) (by kernel_rfl) (rfl : #[.slice A n cc, .int .i64 c.p, .int .u32 (wd c.g), .int .u32 (wd c.u)].size = 4) (rfl : #[.slice none 0 0, .int .i64 0, .int .u32 0, .int .u32 0].size = 4) (one_l (ao_cons rfl (ao_cons rfl (ao_cons rfl (ao_cons rfl ao_nil))))) h) fun W108 HS108 => sx_ (sxi HS108 [0, 1, 2, 3, 4, 5] rfl) fun hx109 => ?_
        clear HSh91 H93 a93 HS102 H102 a102 hx103 HS104 hx105 HS106
        clear hx107
        refine wpAnyH_done (by kernel_rfl) ?_ _
        clear hx109
        exact nx ⟨g11, g10, H104.sel [4, 5, 7, 9, 10, 11] rfl, ss HS108 [0, 1, 2, 3, 5, 4]⟩
      ·
       rintro aj91 wj91 ⟨g11, g10, Hj91, HSj91⟩
       refine nx <| sq_ <| rl_ <| wl_ <| i_ Hj91 rfl (xf 1 1 rfl (Hj91.ev 10 rfl)) fun a111 H111 => wl_ <| i_ H111 rfl (dd_get HSj91 4 1 rfl rfl (H111.ev 56 rfl) rfl Tryd.underlying3 rfl) fun a112 H112 => wl_ <| i_ H112 rfl (xA 2 1 0 rfl (H112.ev 5 rfl) rfl) fun a113 H113 => wl_ <| i_ H113 rfl (dd_get HSj91 2 0 rfl rfl (H113.ev 58 rfl) (bs_get hz 0 (by decide)) Tryd.underlying5 rfl) fun a114 H114 => wl_ <| i_ H114 rfl (v := .int .i64 (bd (z.getD 0 0#8))) (dd_conv (k := .i64) rfl (H114.ev 59 rfl) Tryd.underlying5 (by kernel_rfl) (i64_bdA _)) fun a115 H115 => ?_
       clear Hj91 aj91 H111 a111 H112 a112 H113 a113 H114 a114
       obtain ⟨r, hr, hr3⟩ := mod_nat (bd (z.getD 0 0#8)) 3 (bd_lo _) (by decide)
       obtain ⟨hp0, hp4, _, hr1, hr2⟩ := may_parts hb38
       refine wl_ <| i_ H115 rfl (v := .int .i64 r) (dd_rem rfl (H115.ev 60 rfl) rfl (by decide) hr) fun a116 H116 => wl_ <| i_ H116 rfl (v := .int .i64 (1 + r)) (dd_ari rfl rfl (H116.ev 61 rfl) rfl (i64_of (by first | omega | (have := bd_lo; omega)) (by omega))) fun a117 H117 => wl_ <| i_ H117 rfl (v := .int .i64 (c.p + (1 + r))) (dd_ari rfl (H117.ev 57 rfl) (H117.ev 62 rfl) rfl (i64_of (by first | omega | (have := bd_lo; omega)) (by omega))) fun a118 H118 => wl_ <| i_ H118 rfl (xf 1 1 rfl (H118.ev 10 rfl)) fun a119 H119 => wl_ <| t_ rfl (fun _ h => dd_put (cs := #[.slice A n cc, .int .i64 (c.p + (1 + r)), .int .u32 (wd c.g), .int .u32 (wd c.u)]) HSj91 4 1 rfl rfl (H119.ev 64 rfl) (H119.ev 63 rfl) (by kernel_rfl) rfl rfl rfl rfl h) fun W120 HS120 => ln_ <| nx <| sq_ <| rl_ <| wl_ <| i_ H119 rfl (xf 2 2 rfl (H119.ev 11 rfl)) fun a121 H121 => wl_ <| i_ H121 rfl (dd_get HS120 5 2 rfl rfl (H121.ev 65 rfl) rfl Tryd.underlying23 rfl) fun a122 H122 => wl_ <| i_ H122 rfl (xA 2 1 1 rfl (H122.ev 5 rfl) rfl) fun a123 H123 => ?_
       clear H115 a115 H116 a116 H117 a117 H118 a118 HSj91 H119 a119 H121 a121
       refine wl_ <| i_ H123 rfl (dd_get HS120 2 1 rfl rfl (H123.ev 67 rfl) (bs_get hz 1 (by decide)) Tryd.underlying5 rfl) fun a124 H124 => wl_ <| i_ H124 rfl (v := .int .u32 (bd (z.getD 1 0#8))) (dd_conv (k := .u32) rfl (H124.ev 68 rfl) Tryd.underlying5 (by kernel_rfl) (u32_bd _)) fun a125 H125 => wl_ <| i_ H125 rfl (v := .int .u32 (1 + bd (z.getD 1 0#8))) (dd_ari rfl rfl (H125.ev 69 rfl) rfl (u32_1bd _)) fun a126 H126 => wl_ <| i_ H126 rfl (v := .int .u32 (wd (c.g + BitVec.ofInt 32 (1 + bd (z.getD 1 0#8))))) (dd_ari rfl (H126.ev 66 rfl) (H126.ev 70 rfl) rfl (u32_addw _ _)) fun a127 H127 => wl_ <| i_ H127 rfl (xf 2 2 rfl (H127.ev 11 rfl)) fun a128 H128 => wl_ <| t_ rfl (fun _ h => dd_put (cs := #[.slice A n cc, .int .i64 c.p, .int .u32 (wd (c.g + BitVec.ofInt 32 (1 + bd (z.getD 1 0#8)))), .int .u32 (wd c.u)]) HS120 5 2 rfl rfl (H128.ev 72 rfl) (H128.ev 71 rfl) (by kernel_rfl) rfl rfl rfl rfl h) fun W129 HS129 => ln_ <| ?_
       clear H122 a122 H123 a123 H124 a124 H125 a125 H126 a126 H127 a127 HS120
       have H130 := H128.sel [4, 7, 9, 10, 11] rfl
       refine nx <| sq_ <| sq_ <| rl_ <| wl_ <| i_ H130 rfl (v := .agg #[.slice A n cc, .int .i64 (c.p + (1 + r)), .int .u32 (wd c.g), .int .u32 (wd c.u)]) (dd_load HS129 4 0 rfl rfl (H130.ev 10 rfl) (slab_whole _) Tryd.underlying25 rfl (by kernel_rfl)) fun a131 H131 => wl_ <| i_ H131 rfl (v := .agg (tokCells c (tagOf key (clmB c)))) (dd_load HS129 3 0 rfl rfl (H131.ev 7 rfl) (slab_whole _) Tryd.underlying31 rfl (by rw [show (tokCells c (tagOf key (clmB c))).size = 37 from (tk_size _ (len_tag _ _))]; kernel_rfl)) fun a132 H132 => wl_ <| p_ H132 rfl rfl fun a133 H133 => wl_ <| i_ H133 rfl (xf 2 2 rfl (H133.ev 4 rfl)) fun a134 H134 => wl_ <| i_ H134 rfl (dd_get HS129 1 2 rfl rfl (H134.ev 76 rfl) rfl Tryd.underlying3 rfl) fun a135 H135 => wl_ <| c_ H135 rfl HS129 (v := .int .i64 12) (dc_ Tryd.func9 rfl (args4 (H135.ev 73 rfl) (H135.ev 74 rfl) (H135.ev 75 rfl) (H135.ev 77 rfl)) (capcheck_any _ _ _ key (c.p + (1 + r)) c.g c.u c (tagOf key (clmB c)) ([120#8]) c.r W129 (HT _ HS129.below) (HK _ HS129.below) (by omega) hn (len_tag _ _)) (fun _ w9 h9 => ⟨_, h9.1, by rw [(show chkT key (c.p + (1 + r)) c.g c.u c (tagOf key (clmB c)) ([120#8]) c.r = 12 from chk_12 (minB_p (show ¬ c.p = c.p + (1 + r) by omega)))], h9.2⟩)) fun W136 HS136 a136 H136 => wl_ <| i_ H136 rfl (dd_cmp rfl (H136.ev 78 rfl) rfl (ne_f (by decide))) fun a137 H137 => wl_ <| p_ H137 rfl rfl fun a138 H138 => ?_
       clear H128 H130 a128 H131 a131 H132 a132 H133 a133 H134 a134 H135 a135 HS129 H136 a136
       refine wl_ <| ig H138 (wg_ H138 rfl rfl rfl rfl) rfl (v := .agg #[.slice A n cc, .int .i64 c.p, .int .u32 (wd (c.g + BitVec.ofInt 32 (1 + bd (z.getD 1 0#8)))), .int .u32 (wd c.u)]) (dd_load HS136 5 0 rfl rfl (H138.ev 11 rfl) (slab_whole _) Tryd.underlying25 rfl (by kernel_rfl)) fun a139 H139 => wl_ <| ig H139 (wg_ H139 rfl rfl rfl rfl) rfl (v := .agg (tokCells c (tagOf key (clmB c)))) (dd_load HS136 3 0 rfl rfl (H139.ev 7 rfl) (slab_whole _) Tryd.underlying31 rfl (by rw [show (tokCells c (tagOf key (clmB c))).size = 37 from (tk_size _ (len_tag _ _))]; kernel_rfl)) fun a140 H140 => wl_ <| ig H140 (wg_ H140 rfl rfl rfl rfl) rfl (dd_mv rfl (H140.ev 9 rfl)) fun a141 H141 => wl_ <| ig H141 (wg_ H141 rfl rfl rfl rfl) rfl (xf 2 2 rfl (H141.ev 4 rfl)) fun a142 H142 => wl_ <| ig H142 (wg_ H142 rfl rfl rfl rfl) rfl (dd_get HS136 1 2 rfl rfl (H142.ev 84 rfl) rfl Tryd.underlying3 rfl) fun a143 H143 => wl_ <| cg H143 (wg_ H143 rfl rfl rfl rfl) rfl HS136 (v := .int .i64 14) (dc_ Tryd.func9 rfl (args4 (H143.ev 81 rfl) (H143.ev 82 rfl) (H143.ev 83 rfl) (H143.ev 85 rfl)) (capcheck_any _ _ _ key c.p (c.g + BitVec.ofInt 32 (1 + bd (z.getD 1 0#8))) c.u c (tagOf key (clmB c)) ([120#8]) c.r W136 (HT _ HS136.below) (HK _ HS136.below) (by omega) hn (len_tag _ _)) (fun _ w9 h9 => ⟨_, h9.1, by rw [(show chkT key c.p (c.g + BitVec.ofInt 32 (1 + bd (z.getD 1 0#8))) c.u c (tagOf key (clmB c)) ([120#8]) c.r = 14 from chk_14 (minO hb38) (gen_ne _ _))], h9.2⟩)) fun W144 HS144 a144 H144 => wl_ <| ig H144 (wg_ H144 rfl rfl rfl rfl) rfl (dd_cmp rfl (H144.ev 86 rfl) rfl (ne_f (by decide))) fun a145 H145 => wl_ <| p_ H145 rfl rfl fun a146 H146 => ?_
       clear H137 a137 H138 a138 H139 a139 H140 a140 H141 a141 H142 a142 H143 a143 HS136 H144 a144
       refine ln_ <| ?_
       clear H145 a145
       have H147 := H146.sel [7, 11, 88] rfl
       refine nx <| cf_ H147 rfl <| wp_skip <| nx <| sq_ <| rl_ <| wl_ <| i_ H147 rfl (xf 5 5 rfl (H147.ev 7 rfl)) fun a148 H148 => wl_ <| i_ H148 rfl (xA 32 1 5 rfl (H148.ev 89 rfl) rfl) fun a149 H149 => wl_ <| i_ H149 rfl (dd_get HS144 3 5 rfl rfl (H149.ev 90 rfl) (tk_getT (len_tag _ _) 0 (by decide)) Tryd.underlying5 rfl) fun a150 H150 => wl_ <| i_ H150 rfl (v := .int .u8 (bd (((tagOf key (clmB c)).getD 0 0#8) + 1#8))) (dd_ari rfl (H150.ev 91 rfl) rfl rfl (u8_add1 _)) fun a151 H151 => wl_ <| i_ H151 rfl (xf 5 5 rfl (H151.ev 7 rfl)) fun a152 H152 => wl_ <| i_ H152 rfl (xA 32 1 5 rfl (H152.ev 93 rfl) rfl) fun a153 H153 => wl_ <| t_ rfl (S := [⟨g3, 25, #[.slice A n cc, .int .i64 c.p, .int .u32 (wd c.g), .int .u32 (wd c.u)]⟩, ⟨g4, 27, clmCells c⟩, ⟨g5, 47, bs z⟩, ⟨g7, 31, tokCells c ((tagOf key (clmB c)).set 0 (((tagOf key (clmB c)).getD 0 0#8) + 1#8))⟩, ⟨g10, 25, #[.slice A n cc, .int .i64 (c.p + (1 + r)), .int .u32 (wd c.g), .int .u32 (wd c.u)]⟩, ⟨g11, 25, #[.slice A n cc, .int .i64 c.p, .int .u32 (wd (c.g + BitVec.ofInt 32 (1 + bd (z.getD 1 0#8)))), .int .u32 (wd c.u)]⟩]) (fun _ h => dd_put HS144 3 5 rfl rfl (H153.ev 94 rfl) (H153.ev 92 rfl) (by kernel_rfl) rfl rfl (by rw [(tk_size _ (len_tag _ _))]; rfl) (tk_put _ _ 0 _) h) fun W154 HS154 => ln_ <| nx <| sq_ <| rl_ <| wl_ <| i_ H153 rfl (v := .agg #[.slice A n cc, .int .i64 c.p, .int .u32 (wd (c.g + BitVec.ofInt 32 (1 + bd (z.getD 1 0#8)))), .int .u32 (wd c.u)]) (dd_load HS154 5 0 rfl rfl (H153.ev 11 rfl) (slab_whole _) Tryd.underlying25 rfl (by kernel_rfl)) fun a155 H155 => ?_
       clear H146 H147 a146 H148 a148 H149 a149 H150 a150 H151 a151 H152 a152 HS144
       refine wl_ <| i_ H155 rfl (v := .agg (tokCells c ((tagOf key (clmB c)).set 0 (((tagOf key (clmB c)).getD 0 0#8) + 1#8)))) (dd_load HS154 3 0 rfl rfl (H155.ev 7 rfl) (slab_whole _) Tryd.underlying31 rfl (by rw [show (tokCells c ((tagOf key (clmB c)).set 0 (((tagOf key (clmB c)).getD 0 0#8) + 1#8))).size = 37 from (tk_size _ (len_set (len_tag _ _)))]; kernel_rfl)) fun a156 H156 => wl_ <| c_ H156 rfl HS154 (v := .int .i64 12) (dc_ Tryd.func9 rfl (args4 (H156.ev 95 rfl) (H156.ev 96 rfl) rfl rfl) (capcheck_any _ _ _ key c.p (c.g + BitVec.ofInt 32 (1 + bd (z.getD 1 0#8))) c.u c ((tagOf key (clmB c)).set 0 (((tagOf key (clmB c)).getD 0 0#8) + 1#8)) ([111#8, 116#8, 104#8, 101#8, 114#8]) 7 W154 (HT _ HS154.below) (HK _ HS154.below) (by omega) hn (len_set (len_tag _ _))) (fun _ w9 h9 => ⟨_, h9.1, by rw [(show chkT key c.p (c.g + BitVec.ofInt 32 (1 + bd (z.getD 1 0#8))) c.u c ((tagOf key (clmB c)).set 0 (((tagOf key (clmB c)).getD 0 0#8) + 1#8)) ([111#8, 116#8, 104#8, 101#8, 114#8]) 7 = 12 from chk_12 ((minB_y hb38 rfl).trans (decide_eq_false (tag_set (len_tag _ _)))))], h9.2⟩)) fun W157 HS157 a157 H157 => wl_ <| i_ H157 rfl (dd_cmp rfl (H157.ev 97 rfl) rfl (eq_t (by decide))) fun a158 H158 => wl_ <| p_ H158 rfl rfl fun a159 H159 => wl_ <| cg H159 (wg_ H159 rfl rfl rfl rfl) rfl HS157 (dcs Tryd.func6 rfl (args0 ) (capwakes_any W157 (HT _ HS157.below)) (.bool true)) fun W160 HS160 a160 H160 => q_ H160 2 rfl fun a161 H161 => ln_ <| ?_
       clear H153 a153 H155 a155 H156 a156 HS154 H157 a157 H158 a158 H159 a159 HS157 H160 a160
       have H162 := H161.sel [6] rfl
       refine nx <| wp_ret <| ret_run H162.env0 (res_t Tryd.results5 (H162.get 6 rfl)) <| ?_
       clear H161
       exact ⟨rfl, HS160.below⟩
     ·
      refine wl_ <| i_ H79 rfl (v := .bool true) (dd_nes rfl (H79.ev 43 rfl) rfl (by rw [bne, sbz_f hc81]; rfl)) fun a163 H163 => ln_ <| nx <| ct_ H163 rfl <| rl_ <| wl_ <| i_ H163 rfl (xf 1 1 rfl (H163.ev 4 rfl)) fun a164 H164 => wl_ <| i_ H164 rfl (dd_get HS75 1 1 rfl rfl (H164.ev 45 rfl) rfl Tryd.underlying9 rfl) fun a165 H165 => wl_ <| p_ H165 rfl rfl fun a166 H166 => ln_ <| ?_
      clear H79 a79 H163 a163 H164 a164 H165 a165
      have H167 := H166.sel [3, 4, 5, 7, 9] rfl
      refine nx <| sq_ <| sq_ <| rl_ <| wl_ <| i_ H167 rfl (v := .agg #[.slice A n cc, .int .i64 c.p, .int .u32 (wd c.g), .int .u32 (wd c.u)]) (dd_load HS75 0 0 rfl rfl (H167.ev 3 rfl) (slab_whole _) Tryd.underlying25 rfl (by kernel_rfl)) fun a168 H168 => wl_ <| i_ H168 rfl (v := .agg (tokCells c (tagOf key (clmB c)))) (dd_load HS75 3 0 rfl rfl (H168.ev 7 rfl) (slab_whole _) Tryd.underlying31 rfl (by rw [show (tokCells c (tagOf key (clmB c))).size = 37 from (tk_size _ (len_tag _ _))]; kernel_rfl)) fun a169 H169 => wl_ <| p_ H169 rfl rfl fun a170 H170 => wl_ <| i_ H170 rfl (xf 2 2 rfl (H170.ev 4 rfl)) fun a171 H171 => wl_ <| i_ H171 rfl (dd_get HS75 1 2 rfl rfl (H171.ev 50 rfl) rfl Tryd.underlying3 rfl) fun a172 H172 => wl_ <| c_ H172 rfl HS75 (v := .int .i64 0) (dc_ Tryd.func9 rfl (args4 (H172.ev 47 rfl) (H172.ev 48 rfl) (H172.ev 49 rfl) (H172.ev 51 rfl)) (capcheck_any _ _ _ key c.p c.g c.u c (tagOf key (clmB c)) c.n c.r W75 (HT _ HS75.below) (HK _ HS75.below) (by omega) hn (len_tag _ _)) (fun _ w9 h9 => ⟨_, h9.1, by rw [(show chkT key c.p c.g c.u c (tagOf key (clmB c)) c.n c.r = 0 from chk_own hb38 (.inr rfl) (cand_self3 (may_parts hb38).2.2.2.1 (may_parts hb38).2.2.2.2))], h9.2⟩)) fun W173 HS173 a173 H173 => wl_ <| i_ H173 rfl (dd_cmp rfl (H173.ev 52 rfl) rfl (ne_f (by decide))) fun a174 H174 => ln_ <| nx <| cf_ H174 rfl <| wp_skip <| nx <| sq_ <| ?_
      clear H166 H167 a166 H168 a168 H169 a169 H170 a170 H171 a171 H172 a172 HS75 H173 a173
      refine wp_cut (fun a9 w9 => ∃ g11 : Nat, ∃ g10 : Nat, En 102 [(11, .pointer (some ⟨g11, 0, none⟩)), (10, .pointer (some ⟨g10, 0, none⟩)), (9, .string (strB c.n)), (7, .pointer (some ⟨g7, 0, none⟩)), (5, .pointer (some ⟨g5, 0, none⟩)), (4, .pointer (some ⟨g4, 0, none⟩))] a9 ∧ St w noF [⟨g3, 25, #[.slice A n cc, .int .i64 c.p, .int .u32 (wd c.g), .int .u32 (wd c.u)]⟩, ⟨g4, 27, clmCells c⟩, ⟨g5, 47, bs z⟩, ⟨g7, 31, tokCells c (tagOf key (clmB c))⟩, ⟨g10, 25, #[.slice A n cc, .int .i64 c.p, .int .u32 (wd c.g), .int .u32 (wd c.u)]⟩, ⟨g11, 25, #[.slice A n cc, .int .i64 c.p, .int .u32 (wd c.g), .int .u32 (wd c.u)]⟩] w9) ?_ ?_
      ·
       refine wi_ HS173 [0, 1, 2, 3] rfl [0, 1, 2, 3] rfl fun HSh175 hx175 => ht_ H174 0 hx175 rfl rfl (v := .agg #[.slice A n cc, .int .i64 c.p, .int .u32 (wd c.g), .int .u32 (wd c.u)]) (fun _ _ HS9 => dd_load HS9 0 0 rfl rfl (H174.ev 3 rfl) (slab_whole _) Tryd.underlying25 rfl (by kernel_rfl)) fun a176 H176 => ht_ H176 1 hx175 rfl rfl (v := .agg #[.slice A n cc, .int .i64 c.p, .int .u32 (wd c.g), .int .u32 (wd c.u)]) (fun _ _ HS9 => dd_load HS9 0 0 rfl rfl (H176.ev 3 rfl) (slab_whole _) Tryd.underlying25 rfl (by kernel_rfl)) fun a177 H177 => ?_
       clear HS173 H174 a174 H176 a176
       refine wpAnyH_all (rs := [2, 3]) (by kernel_rfl) (by decide) (hm_cons ?_ (hm_cons ?_ hm_nil))
       ·
        refine ho_ rfl <| n_ H177 rfl (fun _ h => dd_new HSh175 #[.slice none 0 0, .int .i64 0, .int .u32 0, .int .u32 0] rfl (z := .agg #[.slice none 0 0, .int .i64 0, .int .u32 0, .int .u32 0]) (by kernel_rfl) rfl h) fun g10 W178 HS178 a178 H178 => sx_ (sxi HS178 [0, 1, 2, 3, 4] rfl) fun hx179 => h1_ 3 rfl <| n_ H178 rfl (fun _ h => dd_new HS178 #[.slice none 0 0, .int .i64 0, .int .u32 0, .int .u32 0] rfl (z := .agg #[.slice none 0 0, .int .i64 0, .int .u32 0, .int .u32 0]) (by kernel_rfl) rfl h) fun g11 W180 HS180 a180 H180 => sx_ (sxi HS180 [0, 1, 2, 3, 4, 5] rfl) fun hx181 => h1_ 4 rfl <| t_ rfl (fun _ h => dd_setrow HS180 4 rfl rfl (H180.ev 10 rfl) (H180.ev 54 rfl) (by kernel_rfl) (rfl : #[.slice A n cc, .int .i64 c.p, .int .u32 (wd c.g), .int .u32 (wd c.u)].size = 4) (rfl : #[.slice none 0 0, .int .i64 0, .int .u32 0, .int .u32 0].size = 4) (one_l (ao_cons rfl (ao_cons rfl (ao_cons rfl (ao_cons rfl ao_nil))))) h) fun W182 HS182 => sx_ (sxi HS182 [0, 1, 2, 3, 4, 5] rfl) fun hx183 => h1_ 5 rfl <| t_ rfl (fun _ h => dd_setrow HS182 5 rfl rfl (H180.ev 11 rfl) (H180.ev 55 rfl) (by kernel_rfl) (rfl : #[.slice A n cc, .int .i64 c.p, .int .u32 (wd c.g), .int .u32 (wd c.u)].size = 4) (rfl : #[.slice none 0 0, .int .i64 0, .int .u32 0, .int .u32 0].size = 4) (one_l (ao_cons rfl (ao_cons rfl (ao_cons rfl (ao_cons rfl ao_nil))))) h) fun W184 HS184 => sx_ (sxi HS184 [0, 1, 2, 3, 4, 5] rfl) fun hx185 => ?_
        clear HSh175 H177 a177 HS178 H178 a178 hx179 HS180 hx181 HS182
        clear hx183
        refine wpAnyH_done (by kernel_rfl) ?_ _
        clear hx185
        exact nx ⟨g11, g10, H180.sel [4, 5, 7, 9, 10, 11] rfl, ss HS184 [0, 1, 2, 3, 4, 5]⟩
       ·
        refine ho_ rfl <| n_ H177 rfl (fun _ h => dd_new HSh175 #[.slice none 0 0, .int .i64 0, .int .u32 0, .int .u32 0] rfl (z := .agg #[.slice none 0 0, .int .i64 0, .int .u32 0, .int .u32 0]) (by kernel_rfl) rfl h) fun g11 W186 HS186 a186 H186 => sx_ (sxi HS186 [0, 1, 2, 3, 4] rfl) fun hx187 => h1_ 2 rfl <| n_ H186 rfl (fun _ h => dd_new HS186 #[.slice none 0 0, .int .i64 0, .int .u32 0, .int .u32 0] rfl (z := .agg #[.slice none 0 0, .int .i64 0, .int .u32 0, .int .u32 0]) (by kernel_rfl) rfl h) fun g10 W188 HS188 a188 H188 => sx_ (sxi HS188 [0, 1, 2, 3, 4, 5] rfl) fun hx189 => h1_ 4 rfl <| t_ rfl (fun _ h => dd_setrow HS188 5 rfl rfl (H188.ev 10 rfl) (H188.ev 54 rfl) (by kernel_rfl) (rfl : #[.slice A n cc, .int .i64 c.p, .int .u32 (wd c.g), .int .u32 (wd c.u)].size = 4) (rfl : #[.slice none 0 0, .int .i64 0, .int .u32 0, .int .u32 0].size = 4) (one_l (ao_cons rfl (ao_cons rfl (ao_cons rfl (ao_cons rfl ao_nil))))) h) fun W190 HS190 => sx_ (sxi HS190 [0, 1, 2, 3, 4, 5] rfl) fun hx191 => h1_ 5 rfl <| t_ rfl (fun _ h => dd_setrow HS190 4 rfl rfl (H188.ev 11 rfl) (H188.ev 55 rfl) (by kernel_rfl) (rfl : #[.slice A n cc, .int .i64 c.p, .int .u32 (wd c.g), .int .u32 (wd c.u)].size = 4) (rfl : #[.slice none 0 0, .int .i64 0, .int .u32 0, .int .u32 0].size = 4) (one_l (ao_cons rfl (ao_cons rfl (ao_cons rfl (ao_cons rfl ao_nil))))) h) fun W192 HS192 => sx_ (sxi HS192 [0, 1, 2, 3, 4, 5] rfl) fun hx193 => ?_
        clear HSh175 H177 a177 HS186 H186 a186 hx187 HS188 hx189 HS190
        clear hx191
        refine wpAnyH_done (by kernel_rfl) ?_ _
        clear hx193
        exact nx ⟨g11, g10, H188.sel [4, 5, 7, 9, 10, 11] rfl, ss HS192 [0, 1, 2, 3, 5, 4]⟩
      ·
       rintro aj175 wj175 ⟨g11, g10, Hj175, HSj175⟩
       refine nx <| sq_ <| rl_ <| wl_ <| i_ Hj175 rfl (xf 1 1 rfl (Hj175.ev 10 rfl)) fun a195 H195 => wl_ <| i_ H195 rfl (dd_get HSj175 4 1 rfl rfl (H195.ev 56 rfl) rfl Tryd.underlying3 rfl) fun a196 H196 => wl_ <| i_ H196 rfl (xA 2 1 0 rfl (H196.ev 5 rfl) rfl) fun a197 H197 => wl_ <| i_ H197 rfl (dd_get HSj175 2 0 rfl rfl (H197.ev 58 rfl) (bs_get hz 0 (by decide)) Tryd.underlying5 rfl) fun a198 H198 => wl_ <| i_ H198 rfl (v := .int .i64 (bd (z.getD 0 0#8))) (dd_conv (k := .i64) rfl (H198.ev 59 rfl) Tryd.underlying5 (by kernel_rfl) (i64_bdA _)) fun a199 H199 => ?_
       clear Hj175 aj175 H195 a195 H196 a196 H197 a197 H198 a198
       obtain ⟨r, hr, hr3⟩ := mod_nat (bd (z.getD 0 0#8)) 3 (bd_lo _) (by decide)
       obtain ⟨hp0, hp4, _, hr1, hr2⟩ := may_parts hb38
       refine wl_ <| i_ H199 rfl (v := .int .i64 r) (dd_rem rfl (H199.ev 60 rfl) rfl (by decide) hr) fun a200 H200 => wl_ <| i_ H200 rfl (v := .int .i64 (1 + r)) (dd_ari rfl rfl (H200.ev 61 rfl) rfl (i64_of (by first | omega | (have := bd_lo; omega)) (by omega))) fun a201 H201 => wl_ <| i_ H201 rfl (v := .int .i64 (c.p + (1 + r))) (dd_ari rfl (H201.ev 57 rfl) (H201.ev 62 rfl) rfl (i64_of (by first | omega | (have := bd_lo; omega)) (by omega))) fun a202 H202 => wl_ <| i_ H202 rfl (xf 1 1 rfl (H202.ev 10 rfl)) fun a203 H203 => wl_ <| t_ rfl (fun _ h => dd_put (cs := #[.slice A n cc, .int .i64 (c.p + (1 + r)), .int .u32 (wd c.g), .int .u32 (wd c.u)]) HSj175 4 1 rfl rfl (H203.ev 64 rfl) (H203.ev 63 rfl) (by kernel_rfl) rfl rfl rfl rfl h) fun W204 HS204 => ln_ <| nx <| sq_ <| rl_ <| wl_ <| i_ H203 rfl (xf 2 2 rfl (H203.ev 11 rfl)) fun a205 H205 => wl_ <| i_ H205 rfl (dd_get HS204 5 2 rfl rfl (H205.ev 65 rfl) rfl Tryd.underlying23 rfl) fun a206 H206 => wl_ <| i_ H206 rfl (xA 2 1 1 rfl (H206.ev 5 rfl) rfl) fun a207 H207 => ?_
       clear H199 a199 H200 a200 H201 a201 H202 a202 HSj175 H203 a203 H205 a205
       refine wl_ <| i_ H207 rfl (dd_get HS204 2 1 rfl rfl (H207.ev 67 rfl) (bs_get hz 1 (by decide)) Tryd.underlying5 rfl) fun a208 H208 => wl_ <| i_ H208 rfl (v := .int .u32 (bd (z.getD 1 0#8))) (dd_conv (k := .u32) rfl (H208.ev 68 rfl) Tryd.underlying5 (by kernel_rfl) (u32_bd _)) fun a209 H209 => wl_ <| i_ H209 rfl (v := .int .u32 (1 + bd (z.getD 1 0#8))) (dd_ari rfl rfl (H209.ev 69 rfl) rfl (u32_1bd _)) fun a210 H210 => wl_ <| i_ H210 rfl (v := .int .u32 (wd (c.g + BitVec.ofInt 32 (1 + bd (z.getD 1 0#8))))) (dd_ari rfl (H210.ev 66 rfl) (H210.ev 70 rfl) rfl (u32_addw _ _)) fun a211 H211 => wl_ <| i_ H211 rfl (xf 2 2 rfl (H211.ev 11 rfl)) fun a212 H212 => wl_ <| t_ rfl (fun _ h => dd_put (cs := #[.slice A n cc, .int .i64 c.p, .int .u32 (wd (c.g + BitVec.ofInt 32 (1 + bd (z.getD 1 0#8)))), .int .u32 (wd c.u)]) HS204 5 2 rfl rfl (H212.ev 72 rfl) (H212.ev 71 rfl) (by kernel_rfl) rfl rfl rfl rfl h) fun W213 HS213 => ln_ <| ?_
       clear H206 a206 H207 a207 H208 a208 H209 a209 H210 a210 H211 a211 HS204
       have H214 := H212.sel [4, 7, 9, 10, 11] rfl
       refine nx <| sq_ <| sq_ <| rl_ <| wl_ <| i_ H214 rfl (v := .agg #[.slice A n cc, .int .i64 (c.p + (1 + r)), .int .u32 (wd c.g), .int .u32 (wd c.u)]) (dd_load HS213 4 0 rfl rfl (H214.ev 10 rfl) (slab_whole _) Tryd.underlying25 rfl (by kernel_rfl)) fun a215 H215 => wl_ <| i_ H215 rfl (v := .agg (tokCells c (tagOf key (clmB c)))) (dd_load HS213 3 0 rfl rfl (H215.ev 7 rfl) (slab_whole _) Tryd.underlying31 rfl (by rw [show (tokCells c (tagOf key (clmB c))).size = 37 from (tk_size _ (len_tag _ _))]; kernel_rfl)) fun a216 H216 => wl_ <| p_ H216 rfl rfl fun a217 H217 => wl_ <| i_ H217 rfl (xf 2 2 rfl (H217.ev 4 rfl)) fun a218 H218 => wl_ <| i_ H218 rfl (dd_get HS213 1 2 rfl rfl (H218.ev 76 rfl) rfl Tryd.underlying3 rfl) fun a219 H219 => wl_ <| c_ H219 rfl HS213 (v := .int .i64 12) (dc_ Tryd.func9 rfl (args4 (H219.ev 73 rfl) (H219.ev 74 rfl) (H219.ev 75 rfl) (H219.ev 77 rfl)) (capcheck_any _ _ _ key (c.p + (1 + r)) c.g c.u c (tagOf key (clmB c)) c.n c.r W213 (HT _ HS213.below) (HK _ HS213.below) (by omega) hn (len_tag _ _)) (fun _ w9 h9 => ⟨_, h9.1, by rw [(show chkT key (c.p + (1 + r)) c.g c.u c (tagOf key (clmB c)) c.n c.r = 12 from chk_12 (minB_p (show ¬ c.p = c.p + (1 + r) by omega)))], h9.2⟩)) fun W220 HS220 a220 H220 => wl_ <| i_ H220 rfl (dd_cmp rfl (H220.ev 78 rfl) rfl (ne_f (by decide))) fun a221 H221 => wl_ <| p_ H221 rfl rfl fun a222 H222 => ?_
       clear H212 H214 a212 H215 a215 H216 a216 H217 a217 H218 a218 H219 a219 HS213 H220 a220
       refine wl_ <| ig H222 (wg_ H222 rfl rfl rfl rfl) rfl (v := .agg #[.slice A n cc, .int .i64 c.p, .int .u32 (wd (c.g + BitVec.ofInt 32 (1 + bd (z.getD 1 0#8)))), .int .u32 (wd c.u)]) (dd_load HS220 5 0 rfl rfl (H222.ev 11 rfl) (slab_whole _) Tryd.underlying25 rfl (by kernel_rfl)) fun a223 H223 => wl_ <| ig H223 (wg_ H223 rfl rfl rfl rfl) rfl (v := .agg (tokCells c (tagOf key (clmB c)))) (dd_load HS220 3 0 rfl rfl (H223.ev 7 rfl) (slab_whole _) Tryd.underlying31 rfl (by rw [show (tokCells c (tagOf key (clmB c))).size = 37 from (tk_size _ (len_tag _ _))]; kernel_rfl)) fun a224 H224 => wl_ <| ig H224 (wg_ H224 rfl rfl rfl rfl) rfl (dd_mv rfl (H224.ev 9 rfl)) fun a225 H225 => wl_ <| ig H225 (wg_ H225 rfl rfl rfl rfl) rfl (xf 2 2 rfl (H225.ev 4 rfl)) fun a226 H226 => wl_ <| ig H226 (wg_ H226 rfl rfl rfl rfl) rfl (dd_get HS220 1 2 rfl rfl (H226.ev 84 rfl) rfl Tryd.underlying3 rfl) fun a227 H227 => wl_ <| cg H227 (wg_ H227 rfl rfl rfl rfl) rfl HS220 (v := .int .i64 14) (dc_ Tryd.func9 rfl (args4 (H227.ev 81 rfl) (H227.ev 82 rfl) (H227.ev 83 rfl) (H227.ev 85 rfl)) (capcheck_any _ _ _ key c.p (c.g + BitVec.ofInt 32 (1 + bd (z.getD 1 0#8))) c.u c (tagOf key (clmB c)) c.n c.r W220 (HT _ HS220.below) (HK _ HS220.below) (by omega) hn (len_tag _ _)) (fun _ w9 h9 => ⟨_, h9.1, by rw [(show chkT key c.p (c.g + BitVec.ofInt 32 (1 + bd (z.getD 1 0#8))) c.u c (tagOf key (clmB c)) c.n c.r = 14 from chk_14 (minO hb38) (gen_ne _ _))], h9.2⟩)) fun W228 HS228 a228 H228 => wl_ <| ig H228 (wg_ H228 rfl rfl rfl rfl) rfl (dd_cmp rfl (H228.ev 86 rfl) rfl (ne_f (by decide))) fun a229 H229 => wl_ <| p_ H229 rfl rfl fun a230 H230 => ?_
       clear H221 a221 H222 a222 H223 a223 H224 a224 H225 a225 H226 a226 H227 a227 HS220 H228 a228
       refine ln_ <| ?_
       clear H229 a229
       have H231 := H230.sel [7, 11, 88] rfl
       refine nx <| cf_ H231 rfl <| wp_skip <| nx <| sq_ <| rl_ <| wl_ <| i_ H231 rfl (xf 5 5 rfl (H231.ev 7 rfl)) fun a232 H232 => wl_ <| i_ H232 rfl (xA 32 1 5 rfl (H232.ev 89 rfl) rfl) fun a233 H233 => wl_ <| i_ H233 rfl (dd_get HS228 3 5 rfl rfl (H233.ev 90 rfl) (tk_getT (len_tag _ _) 0 (by decide)) Tryd.underlying5 rfl) fun a234 H234 => wl_ <| i_ H234 rfl (v := .int .u8 (bd (((tagOf key (clmB c)).getD 0 0#8) + 1#8))) (dd_ari rfl (H234.ev 91 rfl) rfl rfl (u8_add1 _)) fun a235 H235 => wl_ <| i_ H235 rfl (xf 5 5 rfl (H235.ev 7 rfl)) fun a236 H236 => wl_ <| i_ H236 rfl (xA 32 1 5 rfl (H236.ev 93 rfl) rfl) fun a237 H237 => wl_ <| t_ rfl (S := [⟨g3, 25, #[.slice A n cc, .int .i64 c.p, .int .u32 (wd c.g), .int .u32 (wd c.u)]⟩, ⟨g4, 27, clmCells c⟩, ⟨g5, 47, bs z⟩, ⟨g7, 31, tokCells c ((tagOf key (clmB c)).set 0 (((tagOf key (clmB c)).getD 0 0#8) + 1#8))⟩, ⟨g10, 25, #[.slice A n cc, .int .i64 (c.p + (1 + r)), .int .u32 (wd c.g), .int .u32 (wd c.u)]⟩, ⟨g11, 25, #[.slice A n cc, .int .i64 c.p, .int .u32 (wd (c.g + BitVec.ofInt 32 (1 + bd (z.getD 1 0#8)))), .int .u32 (wd c.u)]⟩]) (fun _ h => dd_put HS228 3 5 rfl rfl (H237.ev 94 rfl) (H237.ev 92 rfl) (by kernel_rfl) rfl rfl (by rw [(tk_size _ (len_tag _ _))]; rfl) (tk_put _ _ 0 _) h) fun W238 HS238 => ln_ <| nx <| sq_ <| rl_ <| wl_ <| i_ H237 rfl (v := .agg #[.slice A n cc, .int .i64 c.p, .int .u32 (wd (c.g + BitVec.ofInt 32 (1 + bd (z.getD 1 0#8)))), .int .u32 (wd c.u)]) (dd_load HS238 5 0 rfl rfl (H237.ev 11 rfl) (slab_whole _) Tryd.underlying25 rfl (by kernel_rfl)) fun a239 H239 => ?_
       clear H230 H231 a230 H232 a232 H233 a233 H234 a234 H235 a235 H236 a236 HS228
       refine wl_ <| i_ H239 rfl (v := .agg (tokCells c ((tagOf key (clmB c)).set 0 (((tagOf key (clmB c)).getD 0 0#8) + 1#8)))) (dd_load HS238 3 0 rfl rfl (H239.ev 7 rfl) (slab_whole _) Tryd.underlying31 rfl (by rw [show (tokCells c ((tagOf key (clmB c)).set 0 (((tagOf key (clmB c)).getD 0 0#8) + 1#8))).size = 37 from (tk_size _ (len_set (len_tag _ _)))]; kernel_rfl)) fun a240 H240 => wl_ <| c_ H240 rfl HS238 (v := .int .i64 12) (dc_ Tryd.func9 rfl (args4 (H240.ev 95 rfl) (H240.ev 96 rfl) rfl rfl) (capcheck_any _ _ _ key c.p (c.g + BitVec.ofInt 32 (1 + bd (z.getD 1 0#8))) c.u c ((tagOf key (clmB c)).set 0 (((tagOf key (clmB c)).getD 0 0#8) + 1#8)) ([111#8, 116#8, 104#8, 101#8, 114#8]) 7 W238 (HT _ HS238.below) (HK _ HS238.below) (by omega) hn (len_set (len_tag _ _))) (fun _ w9 h9 => ⟨_, h9.1, by rw [(show chkT key c.p (c.g + BitVec.ofInt 32 (1 + bd (z.getD 1 0#8))) c.u c ((tagOf key (clmB c)).set 0 (((tagOf key (clmB c)).getD 0 0#8) + 1#8)) ([111#8, 116#8, 104#8, 101#8, 114#8]) 7 = 12 from chk_12 ((minB_y hb38 rfl).trans (decide_eq_false (tag_set (len_tag _ _)))))], h9.2⟩)) fun W241 HS241 a241 H241 => wl_ <| i_ H241 rfl (dd_cmp rfl (H241.ev 97 rfl) rfl (eq_t (by decide))) fun a242 H242 => wl_ <| p_ H242 rfl rfl fun a243 H243 => wl_ <| cg H243 (wg_ H243 rfl rfl rfl rfl) rfl HS241 (dcs Tryd.func6 rfl (args0 ) (capwakes_any W241 (HT _ HS241.below)) (.bool true)) fun W244 HS244 a244 H244 => q_ H244 2 rfl fun a245 H245 => ln_ <| ?_
       clear H237 a237 H239 a239 H240 a240 HS238 H241 a241 H242 a242 H243 a243 HS241 H244 a244
       have H246 := H245.sel [6] rfl
       refine nx <| wp_ret <| ret_run H246.env0 (res_t Tryd.results5 (H246.get 6 rfl)) <| ?_
       clear H245
       exact ⟨rfl, HS244.below⟩
end Go.Proofs.YtcheflcfoiclgaaDoor

/- CapsWards, as its tied card: for every ward, claim and two bytes the call returns true and changes nothing that it was handed. Conditions: those of the row (the table of round words lies as the program's text lays it, which the card ties to the pruned copy). -/
set_option maxRecDepth 4000
namespace Go.Proofs.YtcheflcfoiclgaaDoor.capsWards
open Go Go.ChangeShapes Go.WideShapes Go.ChangeAt Go.RowKit

theorem contract (H : Type) (enc : TypeId × Value → H) (W : World) (base : Nat) (args : Array Value) (ds gs : List (DataW H)) (before : List MemPlace)
    (hval : ∀ (j : Nat) t v, Tryd.f5.params[j]? = some t → args[j]? = some v → Value.okWide Tryd.prog W .any base t v)
    (hW : DataW.Whole enc Tryd.prog Tryd.f5.params.toList Rows.capsWardsSpec.vars false W args.toList ds gs before) (hL : laidMetH Tryd.prog Rows.capsWardsRow.laid W) :
    Calls Tryd.prog 5 args W fun e W' => ∃ v, e = .returned v ∧ Rows.capsWardsSpec.post enc Tryd.prog Tryd.f5 false true false false W args v W' := by
  have hW' := hW
  obtain ⟨p, q, hA0, hV, rfl, _, _⟩ := hW
  have hA : DataW.TrodAll enc Tryd.prog W 0 (fun _ => true) true Tryd.f5.params.toList args.toList ds p := hA0
  rw [Tryd.params5] at hA hval
  obtain ⟨v0, vs0, d0, ds0, p0, q0, hargs, rfl, rfl, h0, r0⟩ := trodAll_cons hA
  obtain ⟨v1, vs1, d1, ds1, p1, q1, rfl, rfl, rfl, h1, r1⟩ := trodAll_cons r0
  obtain ⟨v2, vs2, d2, ds2, p2, q2, rfl, rfl, rfl, h2, r2⟩ := trodAll_cons r1
  obtain ⟨rfl, rfl, rfl⟩ := trodAll_nil r2
  obtain rfl : args = #[v0, v1, v2] := by cases args; simp_all
  obtain ⟨rfl, rfl⟩ := trodVars_none hV
  have hlt0 : ∀ x ∈ p0, x.block < W.heap.size := fun x hx => hW'.lt x (by simp [hx])
  have hlt1 : ∀ x ∈ p1, x.block < W.heap.size := fun x hx => hW'.lt x (by simp [hx])
  have hlt2 : ∀ x ∈ p2, x.block < W.heap.size := fun x hx => hW'.lt x (by simp [hx])
  obtain ⟨A0, m0, c0, q0, pl0, gn0, tk0, rfl, hS0⟩ := open_ward (hval 0 25 v0 rfl rfl) h0 hlt0
  obtain ⟨k1, rfl, hm1⟩ := open_clm15 (hval 1 27 v1 rfl rfl) h1 hlt1
  obtain ⟨q2, hq2, rfl⟩ := open_argBytes Tryd.underlying47 Tryd.underlying5 (by kernel_rfl) (by kernel_rfl) (hval 2 47 v2 rfl rfl) h2 hlt2
  refine (capwards_walk A0 m0 c0 q0 pl0 gn0 tk0 k1 q2 W (tab_of_laid hL) hS0 hm1 hq2).mono fun e W' ⟨he, hb⟩ => ?_
  subst he
  exact ⟨_, rfl, [d0, d1, d2], [], _, [], _, [], hW', trodAll_cons_mk (shut_bool Tryd.underlying4 _) trodAll_mk0, trodAll_cons_mk (Below.trod laidOutT (by kernel_rfl) (of_decide_eq_true (by kernel_rfl)) h0 hb hlt0) (trodAll_cons_mk (Below.trod laidOutT (by kernel_rfl) (of_decide_eq_true (by kernel_rfl)) h1 hb hlt1) (trodAll_cons_mk (Below.trod laidOutT (by kernel_rfl) (of_decide_eq_true (by kernel_rfl)) h2 hb hlt2) trodAll_mk0)), rfl, hb.frame _, fun h => by cases h⟩

theorem laid_met (os : Os) : laidMet Tryd.prog Rows.capsWardsRow.laid ((laidWorld os).forCall (fun _ _ => 0) ⟨#[], #[.agg #[.slice none 0 0, .int .i64 0, .int .u32 0, .int .u32 0], .agg #[.int .i64 0, .string ⟨#[]⟩, .int .i64 0, .int .u32 0, .int .u32 0], .agg #[.int .u8 0, .int .u8 0]], []⟩).memory :=
  laidMet_of_run' 8 (by kernel_rfl) (by kernel_rfl)
theorem reads (os : Os) {H : Type} (enc : TypeId × Value → H) : ∃ places, DataW.whole enc Tryd.prog ((laidWorld os).forCall (fun _ _ => 0) ⟨#[], #[.agg #[.slice none 0 0, .int .i64 0, .int .u32 0, .int .u32 0], .agg #[.int .i64 0, .string ⟨#[]⟩, .int .i64 0, .int .u32 0, .int .u32 0], .agg #[.int .u8 0, .int .u8 0]], []⟩).memory Tryd.f5.params.toList Rows.capsWardsSpec.vars false #[(Value.agg #[.slice none 0 0, .int .i64 0, .int .u32 0, .int .u32 0]), (Value.agg #[.int .i64 0, .string ⟨#[]⟩, .int .i64 0, .int .u32 0, .int .u32 0]), (Value.agg #[.int .u8 0, .int .u8 0])].toList 8 = some ([.agg [.nil, .lit (.int .i64 0), .lit (.int .u32 0), .lit (.int .u32 0)], .agg [.lit (.int .i64 0), .lit (.string []), .lit (.int .i64 0), .lit (.int .u32 0), .lit (.int .u32 0)], .agg (List.replicate 2 (.lit (.int .u8 0)))], [], places) :=
  ⟨[], by kernel_rfl⟩

set_option maxRecDepth 100000 in
theorem lifted (os : Os) (started : os.Started) (H : Type) (enc : TypeId × Value → H) (F : Stop.Interp) :
    ReturnsInHanded {} Tryd.checked os 5 .any ((OpenSpec.ofChange Rows.capsWardsSpec).preRow enc Tryd.prog Tryd.f5 Rows.capsWardsRow.domain false Rows.capsWardsRow.laid) (((OpenSpec.ofChange Rows.capsWardsSpec).at F).post enc Tryd.prog Tryd.f5 false true false false) := by
  obtain ⟨places, hx⟩ := reads os enc
  refine returnsInHanded_of_row (C := Tryd.checked) (s := OpenSpec.ofChange Rows.capsWardsSpec) ownK started (by kernel_rfl) Tryd.func5
    (witness_row_at (enc := enc) (C := Tryd.checked) false (laidWorld os) #[.agg #[.slice none 0 0, .int .i64 0, .int .u32 0, .int .u32 0], .agg #[.int .i64 0, .string ⟨#[]⟩, .int .i64 0, .int .u32 0, .int .u32 0], .agg #[.int .u8 0, .int .u8 0]] rfl (by kernel_rfl) (by kernel_rfl) (by kernel_rfl)
      (OpenSpec.preRow_of_cond 8 hx (by kernel_rfl) (fun k hk => by cases hk) (by kernel_rfl) (laid_met os))) ?_
  intro W base args ds gs before hval hW _ _ _ hL _ _
  exact contract H enc W base args ds gs before hval hW hL

theorem said : Rows.CapsWardsSaid :=
  OpenClaim.holds_of_cond 5 Tryd.f5 rfl rfl rfl rfl rfl rfl rfl ⟨rfl, rfl, rfl, rfl, rfl⟩ rfl rfl rfl rfl rfl (by kernel_rfl) Tryd.func5 (by kernel_rfl)
    (of_decide_eq_true (by kernel_rfl)) (by unfold Func.isWrapper; first | (rw [if_pos (by decide +kernel)]; kernel_rfl) | (rw [if_neg (by decide +kernel)]; exact ⟨rfl, rfl⟩))
    (fun os started H enc _ F => by rw [OpenClaim.pre_eq_preRow]; exact lifted os started H enc F)

theorem plain (f : FuncId) (fn : Func) (hf : Tryd.pinned.checked.prog.funcNamed Rows.capsWardsRow.func = some f) (hfn : Tryd.pinned.checked.prog.funcs[f]? = some fn) :
    false = Tryd.pinned.checked.prog.looks [] ∧ ∀ (j : Nat) t, fn.params[j]? = some t → Tryd.pinned.checked.prog.wantsStandIn t = false := by
  obtain rfl : f = 5 := Option.some.inj ((show Tryd.prog.funcNamed Rows.capsWardsRow.func = some 5 by kernel_rfl).symm.trans hf) |>.symm
  obtain rfl : fn = Tryd.f5 := (Option.some.inj (Tryd.func5.symm.trans hfn)).symm
  refine ⟨by kernel_rfl, fun j t ht => ?_⟩
  rw [Tryd.params5] at ht
  have hm : t = 25 ∨ t = 27 ∨ t = 47 := by simpa using Array.mem_of_getElem? ht
  rcases hm with rfl | rfl | rfl
  · exact (show Tryd.prog.wantsStandIn 25 = false by kernel_rfl)
  · exact (show Tryd.prog.wantsStandIn 27 = false by kernel_rfl)
  · exact (show Tryd.prog.wantsStandIn 47 = false by kernel_rfl)

theorem card : Rows.CapsWardsCardSaid :=
  Claim7.holds_tied_plain_at .later [] _ _ _ _ said (fun _ h => by cases h) (by kernel_rfl) (fun _ h => by cases h) capsWards_row_tie rfl ⟨rfl, rfl⟩ (by kernel_rfl) rfl plain (by kernel_rfl)
end Go.Proofs.YtcheflcfoiclgaaDoor.capsWards
