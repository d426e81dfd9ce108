/- TableOrder, as its tied card: for every slice of volumes the call returns true and changes nothing that it was handed. Conditions: those of the row (the tables of runes lie as the program's text lays them, which the card ties to the pruned copy). -/
import Derived.Test.YtpmedgibnnonkaaDoorMGen2
import Derived.Test.YtpmedgibnnonkaaDoorMNode0
import Derived.Test.YtpmedgibnnonkaaDoorMGen0
/- The statement TableOrder: its walk. -/
set_option maxRecDepth 4000
namespace Go.Proofs.YtpmedgibnnonkaaDoor
open Go Go.RowKit
theorem vol_litN {base : Nat} {W : World} {g n : Nat} {s : ByteArray} {A : Option Addr} {c : Nat} {L : List Int} (hn : L.length = n) (hr : Row W g 45 #[.string s, .slice A n c]) (hi : InV base W A c L) (hs : s.size ≤ maxLen) : VolsIn base W (some ⟨g, 0, none⟩) 1 1 [(s, L)] := by
  subst hn; exact vol_lit hr hi hs
theorem rev_snoc {l : List Tv} {n k : Nat} {p : List (BitVec 8)} {L : List Int} (h : l[n - 1 - k]? = some (p, L)) (hl : l.length = n) (hk : k < n) : volL (l.reverse.take k) ++ [(strB p, L)] = volL (l.reverse.take (k + 1)) := by
  have e : l.reverse[k]? = some (p, L) := by
    rw [List.getElem?_reverse (by omega), hl]; exact h
  rw [List.take_add_one, e]
  unfold volL
  simp
theorem rev_len {l : List Tv} {n k : Nat} (hk : k ≤ n) (hl : l.length = n) : (volL (l.reverse.take k)).length = k := by rw [len_volL, List.length_take, List.length_reverse]; omega
theorem rev_form {l : List Tv} {n k c : Nat} {A : Option Addr} (hk : k ≤ n) (hl : l.length = n) : Value.slice A (volL (l.reverse.take k)).length c = .slice A k c := by rw [rev_len hk hl]
theorem rev_ov {base : Nat} {W : World} {l : List Tv} {n k c : Nat} {A : Option Addr} (h : OV base W (.slice A (volL (l.reverse.take k)).length c) (volL (l.reverse.take k))) (hk : k ≤ n) (hl : l.length = n) : OV base W (.slice A k c) (volL (l.reverse.take k)) := by
  rw [rev_len hk hl] at h; exact h
theorem rev_all {base : Nat} {W : World} {l : List Tv} {k c : Nat} {A : Option Addr} (h : OV base W (.slice A k c) (volL (l.reverse.take k))) (hk : l.length ≤ k) (hm : k ≤ maxLen) : VolsAt W (.slice A k c) (volL l.reverse) := by
  rw [List.take_of_length_le (by rw [List.length_reverse]; exact hk)] at h
  exact h.vols (by rw [len_volL, List.length_reverse]; omega)
theorem rev_nil {W : World} {l : List Tv} (h : l.length = 0) : VolsAt W (.slice none 0 0) (volL l.reverse) := by
  rw [List.length_eq_zero_iff.1 h]; exact vols_none W
set_option maxHeartbeats 3200000 in
theorem taborder_pos (b o n c : Nat) (l : List Tv) (w : World) (h0 : VolsAt w (.slice (some ⟨b, o, none⟩) n c) (volL l)) (hn0 : n ≤ maxLen) :
    Calls Tryd.prog 6 #[.slice (some ⟨b, o, none⟩) n c] w fun e w' => e = .returned (.bool true) ∧ Below w.heap.size w w' := by
  have HS := St.nil w noF
  have HVl : ∀ W, Below w.heap.size w W → VolsAt W (.slice (some ⟨b, o, none⟩) n c) (volL l) := fun W hb => h0.below hb (Nat.le_refl _)
  have hln : l.length = n := by rw [← len_volL]; exact vols_len h0
  refine enter_en Tryd.func6 rfl Tryd.ntmps6 (Nat.le_of_ble_eq_true rfl) fun a0 (HA0 : En 96 [(0, .slice (some ⟨b, o, none⟩) n c)] a0) => ?_
  refine sq_ <| rl_ <| wl_ <| p_ HA0 rfl rfl fun a1 H1 => ln_ <| nx <| sq_ <| sq_ <| rl_ <| wl_ <| p_ H1 rfl rfl fun a2 H2 => ?_
  clear HA0 a0 H1 a1
  cases hb4 : fairV (volL l)
  case false =>
   refine wl_ <| ic H2 rfl (v := .bool false) (dc_ Tryd.func7 rfl (args1 (H2.ev 10 rfl)) (fairV_any _ _ _ (volL l) w (HVl _ HS.below) hn0) (fun _ w9 h9 => ⟨_, h9.1, by rw [hb4], h9.2.symm⟩)) fun a5 H5 => wl_ <| i_ H5 rfl (v := .bool true) (dd_nt rfl (H5.ev 11 rfl) rfl) fun a6 H6 => ln_ <| nx <| ct_ H6 rfl <| sq_ <| rl_ <| wl_ <| c_ H6 rfl HS (dcs Tryd.func8 rfl (args0 ) (tabwakes_any w) (.bool true)) fun W7 HS7 a7 H7 => wl_ <| p_ H7 rfl rfl fun a8 H8 => ln_ <| nx <| wp_ret <| tr <| ret_run H8.env0 (res_t Tryd.results6 (H8.get 2 rfl)) <| ?_
   clear H2 a2 H5 a5 H6 a6 HS H7 a7
   exact ⟨rfl, HS7.below⟩
  case true =>
   refine wl_ <| ic H2 rfl (v := .bool true) (dc_ Tryd.func7 rfl (args1 (H2.ev 10 rfl)) (fairV_any _ _ _ (volL l) w (HVl _ HS.below) hn0) (fun _ w9 h9 => ⟨_, h9.1, by rw [hb4], h9.2.symm⟩)) fun a9 H9 => wl_ <| i_ H9 rfl (v := .bool false) (dd_nt rfl (H9.ev 11 rfl) rfl) fun a10 H10 => ln_ <| nx <| cf_ H10 rfl <| wp_skip <| nx <| sq_ <| rl_ <| ?_
   clear H2 a2 H9 a9
   have hn1 := fair_n hb4 hln
   have hm1 := fair_m hb4
   refine wl_ <| p_ H10 rfl rfl fun a11 H11 => ln_ <| nx <| sq_ <| sq_ <| rl_ <| wl_ <| p_ H11 rfl rfl fun a12 H12 => ln_ <| nx <| wp_block <| ?_
   clear H10 a10 H11 a11
   refine wp_loopG (ι := Nat) (fun k a9 w9 => ∃ Ar : Option Addr, ∃ Cr : Nat, (k ≤ n) ∧ (OV w.heap.size w9 (.slice Ar k Cr) (volL (l.reverse.take k))) ∧ En 96 [(4, .int .i64 k), (3, .slice Ar k Cr), (0, .slice (some ⟨b, o, none⟩) n c)] a9 ∧ St w noF [] w9) (fun k => n - k) (0) ⟨none, 0, Nat.zero_le _, OV.nil _ _, H12.sel [0, 3, 4] rfl, ss HS []⟩ ?_
   clear H12 a12 HS
   rintro k aL13 wL13 ⟨Ar, Cr, hk, hovr, HL13, HSL13⟩
   have HBs14 : Below w.heap.size w wL13 := HSL13.below
   have HVlr := fun (W9 : World) (hb9 : Below wL13.heap.size wL13 W9) => HVl W9 (HBs14.trans (hb9.mono HBs14.size))
   clear HVl
   have HVl := HVlr
   clear HVlr
   have HSb14 := St.nil wL13 noF
   have HOr := fun (W9 : World) (hb9 : Below wL13.heap.size wL13 W9) => hovr.call hb9 HBs14.size
   refine sq_ <| sq_ <| rl_ <| q_ HL13 2 rfl fun a15 H15 => wl_ <| i_ H15 rfl (v := .int .i64 n) (dd_len rfl (H15.ev 15 rfl) Tryd.underlying22) fun a16 H16 => ?_
   clear HL13 aL13 H15 a15
   by_cases hc18 : (k : Int) < n
   ·
    refine wl_ <| i_ H16 rfl (dd_cmp rfl (H16.ev 14 rfl) (H16.ev 16 rfl) (lt_t hc18)) fun a19 H19 => ln_ <| nx <| ct_ H19 rfl <| wp_skip <| nx <| sq_ <| wp_block <| rl_ <| q_ H19 3 rfl fun a20 H20 => wl_ <| i_ H20 rfl (v := .int .i64 n) (dd_len rfl (H20.ev 22 rfl) Tryd.underlying22) fun a21 H21 => wl_ <| i_ H21 rfl (v := .int .i64 (n - 1)) (dd_ari rfl (H21.ev 23 rfl) rfl rfl (i64_of (by first | omega | (have := bd_lo; omega)) (by omega))) fun a22 H22 => wl_ <| p_ H22 rfl rfl fun a23 H23 => wl_ <| i_ H23 rfl (v := .int .i64 ((n - 1) - k)) (dd_ari rfl (H23.ev 24 rfl) (H23.ev 25 rfl) rfl (i64_of (by first | omega | (have := bd_lo; omega)) (by omega))) fun a24 H24 => wl_ <| i_ H24 rfl (xSo 2 (o + ((n - 1) - k) * 2) rfl (H24.ev 21 rfl) (H24.ev 26 rfl)) fun a25 H25 => ?_
    clear H16 a16 H19 a19 H20 a20 H21 a21 H22 a22 H23 a23 H24 a24
    obtain ⟨p27, L27, B27, m27, c27, hg27, hr027, hm27, hp27⟩ := vols_getC h0 (k := ((n - 1) - k)) (by omega)
    have hr27 := fun (W9 : World) (hb9 : Below wL13.heap.size wL13 W9) => hr027 W9 (HBs14.trans (hb9.mono HBs14.size))
    refine wl_ <| i_ H25 rfl (v := .agg #[.string (strB p27), .slice B27 m27 c27]) (dd_atN rfl (H25.ev 27 rfl) (hr27 _ HSb14.below).1 Tryd.underlying45 rfl (by kernel_rfl)) fun a26 H26 => wl_ <| n_ H26 rfl (fun _ h => dd_lits HSb14 #[.string (strB p27), .slice B27 m27 c27] rfl (ps := [(0, .agg #[.string (strB p27), .slice B27 m27 c27])]) (pr1 (H26.ev 28 rfl) (pr0)) (z := .agg #[.string (⟨#[]⟩), .slice none 0 0]) (sz := 2) Tryd.underlying22 (by kernel_rfl) rfl rfl (by kernel_rfl) h) fun g29 W28 HS28 a28 H28 => ?_
    clear H25 a25 HSb14 H26 a26
    have hbl9 := (HBs14.trans (HS28.below.mono HBs14.size))
    refine wl_ <| d_ H28 rfl (R := fun v9 w9 => ∃ Ar2 : Option Addr, ∃ Cr2 : Nat, v9 = .slice Ar2 (k + 1) Cr2 ∧ (OV w.heap.size w9 (.slice Ar2 (k + 1) Cr2) (volL (l.reverse.take (k + 1)))) ∧ St w noF [] w9) (fun K9 Q9 hK9 => wp_append_vols _ _ rfl w.heap.size _ (volL (l.reverse.take k)) (H28.ev 20 rfl) (HOr _ HS28.below) _ _ _ [(strB p27, L27)] (H28.ev 29 rfl) (vol_litN (by rw [hm27]) (HS28.row 0 rfl) (.inl ⟨w, Nat.le_refl _, hbl9, (hm27 ▸ (hr027 w (Below.refl _ _)).2)⟩) (by rw [strB_size]; exact hp27)) (by rw [len_volL, List.length_take, List.length_reverse]; show _ + 1 ≤ _; omega) hbl9.size (fun v9 w9 h1 h2 => by obtain ⟨A9, c9, rfl, _⟩ := h1.form; rw [rev_snoc hg27 hln (by omega)] at h1 ⊢; exact hK9 _ _ ⟨A9, c9, rev_form (by omega) hln, rev_ov h1 (by omega) hln, (St.nil w noF).same (hbl9.trans h2)⟩)) ?_
    rintro _ W29 ⟨Ar2, Cr2, rfl, hov2, HS29⟩ a29 H29
    clear H28 a28 HS28
    refine wl_ <| p_ H29 rfl rfl fun a30 H30 => ln_ <| bn <| nx <| rl_ <| wl_ <| p_ H30 rfl rfl fun a31 H31 => wl_ <| i_ H31 rfl (v := .int .i64 (k + 1)) (dd_ari rfl (H31.ev 18 rfl) rfl rfl (i64_of (by first | omega | (have := bd_lo; omega)) (by omega))) fun a32 H32 => wl_ <| p_ H32 rfl rfl fun a33 H33 => ln_ <| ?_
    clear H29 a29 H30 a30 H31 a31 H32 a32
    have H34 := H33.sel [0, 3, 4] rfl
    clear H33
    refine nx ⟨k + 1, ⟨Ar2, Cr2, (by omega), hov2, H34.sel [0, 3, 4] rfl, ss HS29 []⟩, (by omega)⟩
   ·
    refine wl_ <| i_ H16 rfl (dd_cmp rfl (H16.ev 14 rfl) (H16.ev 16 rfl) (lt_f hc18)) fun a35 H35 => ln_ <| nx <| cf_ H35 rfl <| wp_exit <| tx <| tx <| bx <| nx <| sq_ <| sq_ <| rl_ <| ?_
    clear H16 a16
    have HRv := fun (W9 : World) (hb9 : Below wL13.heap.size wL13 W9) => rev_all (HOr W9 hb9) (show l.length ≤ k by omega) (show k ≤ maxLen by unfold maxLen; omega)
    have hmr : ∀ x ∈ l.reverse, x.2.length ≤ 1000000 := fun x hx => hm1 x (by simpa using hx)
    refine wl_ <| p_ H35 rfl rfl fun a36 H36 => ?_
    clear H35 a35
    cases hb38 : goodT l
    case false =>
     refine wl_ <| c_ H36 rfl HSb14 (v := .bool false) (dc_ Tryd.func14 rfl (args1 (H36.ev 31 rfl)) (goodt_any _ _ _ l.reverse wL13 (HRv _ HSb14.below) (show k ≤ 1000000 by omega) hmr) (fun _ w9 h9 => ⟨_, h9.1, by rw [goodT_rev, hb38], h9.2⟩)) fun W39 HS39 a39 H39 => wl_ <| p_ H39 rfl rfl fun a40 H40 => wl_ <| c_ H40 rfl HS39 (v := .bool false) (dc_ Tryd.func14 rfl (args1 (H40.ev 33 rfl)) (goodt_any _ _ _ l W39 (HVl _ HS39.below) (Nat.le_trans hn1 (by decide)) hm1) (fun _ w9 h9 => ⟨_, h9.1, by rw [hb38], h9.2⟩)) fun W41 HS41 a41 H41 => wl_ <| i_ H41 rfl (v := .bool false) (dd_neb rfl (H41.ev 32 rfl) (H41.ev 34 rfl) Tryd.underlying4 rfl) fun a42 H42 => ln_ <| nx <| cf_ H42 rfl <| wp_skip <| nx <| sq_ <| rl_ <| wl_ <| p_ H42 rfl rfl fun a43 H43 => wl_ <| c_ H43 rfl HS41 (dcs Tryd.func10 rfl (args1 (H43.ev 37 rfl)) (enct_any _ _ _ l W41 (HVl _ HS41.below) (Nat.le_trans hn1 (by decide)) hm1) (.tuple #[.agg (bs (encT l)), .int .i64 (encE l)])) fun W44 HS44 a44 H44 => wl_ <| p_ H44 rfl rfl fun a45 H45 => wl_ <| i_ H45 rfl (dd_ext rfl (H45.ev 36 rfl) rfl) fun a46 H46 => ?_
     clear H36 a36 HSb14 H39 a39 H40 a40 HS39 H41 a41 H42 a42 H43 a43 HS41 H44 a44
     refine wl_ <| i_ H46 rfl (dd_ext rfl (H46.ev 36 rfl) rfl) fun a47 H47 => wl_ <| n_ H47 rfl (fun _ h => dd_new HS44 (bs (zer 32)) rfl (z := .agg (bs (zer 32))) (by kernel_rfl) rfl h) fun g5 W48 HS48 a48 H48 => wl_ <| t_ rfl (fun _ h => dd_setrow HS48 0 rfl rfl (H48.ev 5 rfl) (H48.ev 39 rfl) (by kernel_rfl) (((size_bs _).trans (length_encT _)) : (bs (encT l)).size = 32) (((size_bs _).trans (length_zer 32)) : (bs (zer 32)).size = 32) (one_bs _) h) fun W49 HS49 => wl_ <| p_ H48 rfl rfl fun a50 H50 => ln_ <| nx <| sq_ <| rl_ <| wl_ <| p_ H50 rfl rfl fun a51 H51 => wl_ <| c_ H51 rfl HS49 (v := .tuple #[.agg (bs (encT l.reverse)), .int .i64 (encE l)]) (dc_ Tryd.func10 rfl (args1 (H51.ev 42 rfl)) (enct_any _ _ _ l.reverse W49 (HRv _ HS49.below) (show k ≤ 1000000 by omega) hmr) (fun _ w9 h9 => ⟨_, by rw [encE_rev l] at h9; exact h9.1, rfl, h9.2⟩)) fun W52 HS52 a52 H52 => wl_ <| p_ H52 rfl rfl fun a53 H53 => wl_ <| i_ H53 rfl (dd_ext rfl (H53.ev 41 rfl) rfl) fun a54 H54 => ?_
     clear H45 a45 H46 a46 HS44 H47 a47 HS48 H48 a48 H50 a50 H51 a51 HS49 H52 a52
     refine wl_ <| i_ H54 rfl (dd_ext rfl (H54.ev 41 rfl) rfl) fun a55 H55 => wl_ <| n_ H55 rfl (fun _ h => dd_new HS52 (bs (zer 32)) rfl (z := .agg (bs (zer 32))) (by kernel_rfl) rfl h) fun g7 W56 HS56 a56 H56 => wl_ <| t_ rfl (fun _ h => dd_setrow HS56 1 rfl rfl (H56.ev 7 rfl) (H56.ev 44 rfl) (by kernel_rfl) (((size_bs _).trans (length_encT _)) : (bs (encT l.reverse)).size = 32) (((size_bs _).trans (length_zer 32)) : (bs (zer 32)).size = 32) (one_bs _) h) fun W57 HS57 => wl_ <| p_ H56 rfl rfl fun a58 H58 => ln_ <| ?_
     clear H53 a53 H54 a54 HS52 H55 a55 HS56 H56 a56
     have H59 := H58.sel [0, 3, 5, 6, 7, 8] rfl
     refine nx <| sq_ <| sq_ <| rl_ <| q_ H59 2 rfl fun a60 H60 => wl_ <| i_ H60 rfl (dd_cmp rfl (H60.ev 46 rfl) (H60.ev 47 rfl) (ne_f rfl)) fun a61 H61 => ln_ <| nx <| cf_ H61 rfl <| wp_skip <| nx <| sq_ <| sq_ <| rl_ <| wl_ <| p_ H61 rfl rfl fun a62 H62 => wl_ <| i_ H62 rfl (dd_cmp rfl (H62.ev 49 rfl) rfl (ne_t (fun h9 => by rw [encE_z.1 h9] at hb38; cases hb38))) fun a63 H63 => ln_ <| nx <| ct_ H63 rfl <| sq_ <| rl_ <| wl_ <| p_ H63 rfl rfl fun a64 H64 => wl_ <| i_ H64 rfl (dd_cmp rfl (H64.ev 51 rfl) rfl (eq_t ((encE_or l).resolve_left (fun h9 => by rw [encE_z.1 h9] at hb38; cases hb38)))) fun a65 H65 => wl_ <| p_ H65 rfl rfl fun a66 H66 => wl_ <| cg H66 (wg_ H66 rfl rfl rfl rfl) rfl HS57 (dcs Tryd.func8 rfl (args0 ) (tabwakes_any W57) (.bool true)) fun W67 HS67 a67 H67 => ?_
     clear H58 H59 a58 H60 a60 H61 a61 H62 a62 H63 a63 H64 a64 H65 a65
     refine q_ H67 2 rfl fun a68 H68 => ln_ <| ?_
     clear H66 a66 HS57 H67 a67
     have H69 := H68.sel [2] rfl
     refine nx <| wp_ret <| tr <| ret_run H69.env0 (res_t Tryd.results6 (H69.get 2 rfl)) <| ?_
     clear H68
     exact ⟨rfl, (HBs14.trans (HS67.below.mono HBs14.size))⟩
    case true =>
     refine wl_ <| c_ H36 rfl HSb14 (v := .bool true) (dc_ Tryd.func14 rfl (args1 (H36.ev 31 rfl)) (goodt_any _ _ _ l.reverse wL13 (HRv _ HSb14.below) (show k ≤ 1000000 by omega) hmr) (fun _ w9 h9 => ⟨_, h9.1, by rw [goodT_rev, hb38], h9.2⟩)) fun W70 HS70 a70 H70 => wl_ <| p_ H70 rfl rfl fun a71 H71 => wl_ <| c_ H71 rfl HS70 (v := .bool true) (dc_ Tryd.func14 rfl (args1 (H71.ev 33 rfl)) (goodt_any _ _ _ l W70 (HVl _ HS70.below) (Nat.le_trans hn1 (by decide)) hm1) (fun _ w9 h9 => ⟨_, h9.1, by rw [hb38], h9.2⟩)) fun W72 HS72 a72 H72 => wl_ <| i_ H72 rfl (v := .bool false) (dd_neb rfl (H72.ev 32 rfl) (H72.ev 34 rfl) Tryd.underlying4 rfl) fun a73 H73 => ln_ <| nx <| cf_ H73 rfl <| wp_skip <| nx <| sq_ <| rl_ <| wl_ <| p_ H73 rfl rfl fun a74 H74 => wl_ <| c_ H74 rfl HS72 (dcs Tryd.func10 rfl (args1 (H74.ev 37 rfl)) (enct_any _ _ _ l W72 (HVl _ HS72.below) (Nat.le_trans hn1 (by decide)) hm1) (.tuple #[.agg (bs (encT l)), .int .i64 (encE l)])) fun W75 HS75 a75 H75 => wl_ <| p_ H75 rfl rfl fun a76 H76 => wl_ <| i_ H76 rfl (dd_ext rfl (H76.ev 36 rfl) rfl) fun a77 H77 => ?_
     clear H36 a36 HSb14 H70 a70 H71 a71 HS70 H72 a72 H73 a73 H74 a74 HS72 H75 a75
     refine wl_ <| i_ H77 rfl (dd_ext rfl (H77.ev 36 rfl) rfl) fun a78 H78 => wl_ <| n_ H78 rfl (fun _ h => dd_new HS75 (bs (zer 32)) rfl (z := .agg (bs (zer 32))) (by kernel_rfl) rfl h) fun g5 W79 HS79 a79 H79 => wl_ <| t_ rfl (fun _ h => dd_setrow HS79 0 rfl rfl (H79.ev 5 rfl) (H79.ev 39 rfl) (by kernel_rfl) (((size_bs _).trans (length_encT _)) : (bs (encT l)).size = 32) (((size_bs _).trans (length_zer 32)) : (bs (zer 32)).size = 32) (one_bs _) h) fun W80 HS80 => wl_ <| p_ H79 rfl rfl fun a81 H81 => ln_ <| nx <| sq_ <| rl_ <| wl_ <| p_ H81 rfl rfl fun a82 H82 => wl_ <| c_ H82 rfl HS80 (v := .tuple #[.agg (bs (encT l.reverse)), .int .i64 (encE l)]) (dc_ Tryd.func10 rfl (args1 (H82.ev 42 rfl)) (enct_any _ _ _ l.reverse W80 (HRv _ HS80.below) (show k ≤ 1000000 by omega) hmr) (fun _ w9 h9 => ⟨_, by rw [encE_rev l] at h9; exact h9.1, rfl, h9.2⟩)) fun W83 HS83 a83 H83 => wl_ <| p_ H83 rfl rfl fun a84 H84 => wl_ <| i_ H84 rfl (dd_ext rfl (H84.ev 41 rfl) rfl) fun a85 H85 => ?_
     clear H76 a76 H77 a77 HS75 H78 a78 HS79 H79 a79 H81 a81 H82 a82 HS80 H83 a83
     refine wl_ <| i_ H85 rfl (dd_ext rfl (H85.ev 41 rfl) rfl) fun a86 H86 => wl_ <| n_ H86 rfl (fun _ h => dd_new HS83 (bs (zer 32)) rfl (z := .agg (bs (zer 32))) (by kernel_rfl) rfl h) fun g7 W87 HS87 a87 H87 => wl_ <| t_ rfl (fun _ h => dd_setrow HS87 1 rfl rfl (H87.ev 7 rfl) (H87.ev 44 rfl) (by kernel_rfl) (((size_bs _).trans (length_encT _)) : (bs (encT l.reverse)).size = 32) (((size_bs _).trans (length_zer 32)) : (bs (zer 32)).size = 32) (one_bs _) h) fun W88 HS88 => wl_ <| p_ H87 rfl rfl fun a89 H89 => ln_ <| ?_
     clear H84 a84 H85 a85 HS83 H86 a86 HS87 H87 a87
     have H90 := H89.sel [0, 3, 5, 6, 7, 8] rfl
     refine nx <| sq_ <| sq_ <| rl_ <| q_ H90 2 rfl fun a91 H91 => wl_ <| i_ H91 rfl (dd_cmp rfl (H91.ev 46 rfl) (H91.ev 47 rfl) (ne_f rfl)) fun a92 H92 => ln_ <| nx <| cf_ H92 rfl <| wp_skip <| nx <| sq_ <| sq_ <| rl_ <| wl_ <| p_ H92 rfl rfl fun a93 H93 => wl_ <| i_ H93 rfl (dd_cmp rfl (H93.ev 49 rfl) rfl (ne_f (encE_z.2 hb38))) fun a94 H94 => ln_ <| nx <| cf_ H94 rfl <| wp_skip <| nx <| sq_ <| sq_ <| rl_ <| wl_ <| p_ H94 rfl rfl fun a95 H95 => ln_ <| nx <| wp_block <| ?_
     clear H89 H90 a89 H91 a91 H92 a92 H93 a93 H94 a94
     refine wp_loopG (ι := Nat) (fun j a9 w9 => (j ≤ n) ∧ En 96 [(9, .int .i64 j), (7, .pointer (some ⟨g7, 0, none⟩)), (5, .pointer (some ⟨g5, 0, none⟩)), (3, .slice Ar k Cr), (0, .slice (some ⟨b, o, none⟩) n c)] a9 ∧ St wL13 noF [⟨g5, 24, bs (encT l)⟩, ⟨g7, 24, bs (encT l.reverse)⟩] w9) (fun j => n - j) (0) ⟨Nat.zero_le _, H95.sel [0, 3, 5, 7, 9] rfl, ss HS88 [0, 1]⟩ ?_
     clear H95 a95 HS88
     rintro j aL96 wL96 ⟨hj, HL96, HSL96⟩
     refine sq_ <| sq_ <| rl_ <| q_ HL96 2 rfl fun a97 H97 => wl_ <| i_ H97 rfl (v := .int .i64 n) (dd_len rfl (H97.ev 57 rfl) Tryd.underlying22) fun a98 H98 => ?_
     clear HL96 aL96 H97 a97
     by_cases hc100 : (j : Int) < n
     ·
      refine wl_ <| i_ H98 rfl (dd_cmp rfl (H98.ev 56 rfl) (H98.ev 58 rfl) (lt_t hc100)) fun a101 H101 => ln_ <| nx <| ct_ H101 rfl <| wp_skip <| nx <| sq_ <| wp_block <| sq_ <| rl_ <| q_ H101 2 rfl fun a102 H102 => wl_ <| i_ H102 rfl (xSo 2 (o + j * 2) rfl (H102.ev 62 rfl) (H102.ev 63 rfl)) fun a103 H103 => wl_ <| i_ H103 rfl (xf 0 (o + j * 2) rfl (H103.ev 64 rfl)) fun a104 H104 => ?_
      clear H98 a98 H101 a101 H102 a102 H103 a103
      obtain ⟨p106, L106, B106, m106, c106, hg106, hr0106, hm106, hp106⟩ := vols_getC h0 (k := j) (by omega)
      have hr106 := fun (W9 : World) (hb9 : Below wL13.heap.size wL13 W9) => hr0106 W9 (HBs14.trans (hb9.mono HBs14.size))
      refine wl_ <| i_ H104 rfl (dd_at rfl (H104.ev 65 rfl) ((hr106 _ HSL96.below).1 0 _ rfl) Tryd.underlying9 rfl) fun a105 H105 => wl_ <| p_ H105 rfl rfl fun a107 H107 => wl_ <| c_ H107 rfl HSL96 (v := .int .i64 j) (dc_ Tryd.func17 rfl (args2 (H107.ev 66 rfl) (H107.ev 67 rfl)) (find_any _ _ _ p106 l wL96 (HVl _ HSL96.below) (Nat.le_trans hn1 (by decide))) (fun _ w9 h9 => ⟨_, h9.1, by rw [find_good hb38 hg106], h9.2⟩)) fun W108 HS108 a108 H108 => wl_ <| p_ H108 rfl rfl fun a109 H109 => wl_ <| i_ H109 rfl (dd_cmp rfl (H109.ev 68 rfl) (H109.ev 69 rfl) (ne_f rfl)) fun a110 H110 => wl_ <| p_ H110 rfl rfl fun a111 H111 => wl_ <| ig H111 (wg_ H111 rfl rfl rfl rfl) rfl (dd_mv rfl (H111.ev 0 rfl)) fun a112 H112 => wl_ <| ig H112 (wg_ H112 rfl rfl rfl rfl) rfl (dd_mv rfl (H112.ev 9 rfl)) fun a113 H113 => ?_
      clear H104 a104 H105 a105 H107 a107 HSL96 H108 a108 H109 a109 H110 a110 H111 a111
      refine wl_ <| ig H113 (wg_ H113 rfl rfl rfl rfl) rfl (xSo 2 (o + j * 2) rfl (H113.ev 72 rfl) (H113.ev 73 rfl)) fun a114 H114 => wl_ <| ig H114 (wg_ H114 rfl rfl rfl rfl) rfl (xf 0 (o + j * 2) rfl (H114.ev 74 rfl)) fun a115 H115 => wl_ <| ig H115 (wg_ H115 rfl rfl rfl rfl) rfl (dd_at rfl (H115.ev 75 rfl) ((hr106 _ HS108.below).1 0 _ rfl) Tryd.underlying9 rfl) fun a116 H116 => wl_ <| ig H116 (wg_ H116 rfl rfl rfl rfl) rfl (dd_mv rfl (H116.ev 3 rfl)) fun a117 H117 => wl_ <| cg H117 (wg_ H117 rfl rfl rfl rfl) rfl HS108 (v := .int .i64 ((n - 1) - j)) (dc_ Tryd.func17 rfl (args2 (H117.ev 76 rfl) (H117.ev 77 rfl)) (find_any _ _ _ p106 l.reverse W108 (HRv _ HS108.below) (show k ≤ 1000000 by omega)) (fun _ w9 h9 => ⟨_, h9.1, by rw [find_rev hb38 hg106, hln], h9.2⟩)) fun W118 HS118 a118 H118 => wl_ <| ig H118 (wg_ H118 rfl rfl rfl rfl) rfl (dd_mv rfl (H118.ev 0 rfl)) fun a119 H119 => wl_ <| ig H119 (wg_ H119 rfl rfl rfl rfl) rfl (v := .int .i64 n) (dd_len rfl (H119.ev 79 rfl) Tryd.underlying22) fun a120 H120 => wl_ <| ig H120 (wg_ H120 rfl rfl rfl rfl) rfl (v := .int .i64 (n - 1)) (dd_ari rfl (H120.ev 80 rfl) rfl rfl (i64_of (by first | omega | (have := bd_lo; omega)) (by omega))) fun a121 H121 => ?_
      clear H112 a112 H113 a113 H114 a114 H115 a115 H116 a116 H117 a117 HS108 H118 a118 H119 a119
      refine wl_ <| ig H121 (wg_ H121 rfl rfl rfl rfl) rfl (dd_mv rfl (H121.ev 9 rfl)) fun a122 H122 => wl_ <| ig H122 (wg_ H122 rfl rfl rfl rfl) rfl (v := .int .i64 ((n - 1) - j)) (dd_ari rfl (H122.ev 81 rfl) (H122.ev 82 rfl) rfl (i64_of (by first | omega | (have := bd_lo; omega)) (by omega))) fun a123 H123 => wl_ <| ig H123 (wg_ H123 rfl rfl rfl rfl) rfl (dd_cmp rfl (H123.ev 78 rfl) (H123.ev 83 rfl) (ne_f rfl)) fun a124 H124 => wl_ <| p_ H124 rfl rfl fun a125 H125 => ln_ <| ?_
      clear H120 a120 H121 a121 H122 a122 H123 a123 H124 a124
      have H126 := H125.sel [0, 3, 5, 7, 9, 85] rfl
      refine nx <| cf_ H126 rfl <| wp_skip <| bn <| nx <| rl_ <| wl_ <| p_ H126 rfl rfl fun a127 H127 => wl_ <| i_ H127 rfl (v := .int .i64 (j + 1)) (dd_ari rfl (H127.ev 60 rfl) rfl rfl (i64_of (by first | omega | (have := bd_lo; omega)) (by omega))) fun a128 H128 => wl_ <| p_ H128 rfl rfl fun a129 H129 => ln_ <| ?_
      clear H125 H126 a125 H127 a127 H128 a128
      refine nx ⟨j + 1, ⟨(by omega), H129.sel [0, 3, 5, 7, 9] rfl, ss HS118 [0, 1]⟩, (by omega)⟩
     ·
      refine wl_ <| i_ H98 rfl (dd_cmp rfl (H98.ev 56 rfl) (H98.ev 58 rfl) (lt_f hc100)) fun a130 H130 => ln_ <| nx <| cf_ H130 rfl <| wp_exit <| tx <| tx <| bx <| nx <| sq_ <| rl_ <| wl_ <| i_ H130 rfl (v := .agg (bs (encT l))) (dd_load HSL96 0 0 rfl rfl (H130.ev 5 rfl) (slab_whole _) Tryd.underlying24 rfl (by rw [show (bs (encT l)).size = 32 from ((size_bs _).trans (length_encT _))]; kernel_rfl)) fun a131 H131 => wl_ <| i_ H131 rfl (v := .agg (bs (encT l.reverse))) (dd_load HSL96 1 0 rfl rfl (H131.ev 7 rfl) (slab_whole _) Tryd.underlying24 rfl (by rw [show (bs (encT l.reverse)).size = 32 from ((size_bs _).trans (length_encT _))]; kernel_rfl)) fun a132 H132 => ?_
      clear H98 a98 H130 a130 H131 a131
      by_cases hc134 : (n : Int) < 2
      ·
       refine wl_ <| i_ H132 rfl (v := .bool true) (dd_eqa (b := true) rfl (H132.ev 86 rfl) (H132.ev 87 rfl) (by kernel_rfl) (fun w => by have h9 := eql_blk (encT l) (encT l.reverse) (length_encT _) (length_encT _) w; rw [enc_rev hb38, hln, decide_eq_true hc134] at h9; exact h9)) fun a135 H135 => wl_ <| p_ H135 rfl rfl fun a136 H136 => wl_ <| i_ H136 rfl (v := .int .i64 n) (dd_len rfl (H136.ev 89 rfl) Tryd.underlying22) fun a137 H137 => wl_ <| i_ H137 rfl (dd_cmp rfl (H137.ev 90 rfl) rfl (lt_t hc134)) fun a138 H138 => wl_ <| i_ H138 rfl (v := .bool true) (dd_eqb rfl (H138.ev 88 rfl) (H138.ev 91 rfl) Tryd.underlying4 rfl) fun a139 H139 => wl_ <| p_ H139 rfl rfl fun a140 H140 => wl_ <| cg H140 (wg_ H140 rfl rfl rfl rfl) rfl HSL96 (dcs Tryd.func8 rfl (args0 ) (tabwakes_any wL96) (.bool true)) fun W141 HS141 a141 H141 => q_ H141 2 rfl fun a142 H142 => ?_
       clear H132 a132 H135 a135 H136 a136 H137 a137 H138 a138 H139 a139 H140 a140 HSL96
       refine ln_ <| ?_
       clear H141 a141
       have H143 := H142.sel [2] rfl
       refine nx <| wp_ret <| ret_run H143.env0 (res_t Tryd.results6 (H143.get 2 rfl)) <| ?_
       clear H142
       exact ⟨rfl, (HBs14.trans (HS141.below.mono HBs14.size))⟩
      ·
       refine wl_ <| i_ H132 rfl (v := .bool false) (dd_eqa (b := false) rfl (H132.ev 86 rfl) (H132.ev 87 rfl) (by kernel_rfl) (fun w => by have h9 := eql_blk (encT l) (encT l.reverse) (length_encT _) (length_encT _) w; rw [enc_rev hb38, hln, decide_eq_false hc134] at h9; exact h9)) fun a144 H144 => wl_ <| p_ H144 rfl rfl fun a145 H145 => wl_ <| i_ H145 rfl (v := .int .i64 n) (dd_len rfl (H145.ev 89 rfl) Tryd.underlying22) fun a146 H146 => wl_ <| i_ H146 rfl (dd_cmp rfl (H146.ev 90 rfl) rfl (lt_f hc134)) fun a147 H147 => wl_ <| i_ H147 rfl (v := .bool true) (dd_eqb rfl (H147.ev 88 rfl) (H147.ev 91 rfl) Tryd.underlying4 rfl) fun a148 H148 => wl_ <| p_ H148 rfl rfl fun a149 H149 => wl_ <| cg H149 (wg_ H149 rfl rfl rfl rfl) rfl HSL96 (dcs Tryd.func8 rfl (args0 ) (tabwakes_any wL96) (.bool true)) fun W150 HS150 a150 H150 => q_ H150 2 rfl fun a151 H151 => ?_
       clear H132 a132 H144 a144 H145 a145 H146 a146 H147 a147 H148 a148 H149 a149 HSL96
       refine ln_ <| ?_
       clear H150 a150
       have H152 := H151.sel [2] rfl
       refine nx <| wp_ret <| ret_run H152.env0 (res_t Tryd.results6 (H152.get 2 rfl)) <| ?_
       clear H151
       exact ⟨rfl, (HBs14.trans (HS150.below.mono HBs14.size))⟩
set_option maxHeartbeats 1600000 in
theorem taborder_zero (A : Option Addr) (c : Nat) (l : List Tv) (w : World) (h0 : VolsAt w (.slice A 0 c) (volL l)) (hn0 : 0 ≤ maxLen) :
    Calls Tryd.prog 6 #[.slice A 0 c] w fun e w' => e = .returned (.bool true) ∧ Below w.heap.size w w' := by
  have HS := St.nil w noF
  have HVl : ∀ W, Below w.heap.size w W → VolsAt W (.slice A 0 c) (volL l) := fun W hb => h0.below hb (Nat.le_refl _)
  have hln : l.length = 0 := by rw [← len_volL]; exact vols_len h0
  refine enter_en Tryd.func6 rfl Tryd.ntmps6 (Nat.le_of_ble_eq_true rfl) fun a0 (HA0 : En 96 [(0, .slice A 0 c)] a0) => ?_
  refine sq_ <| rl_ <| wl_ <| p_ HA0 rfl rfl fun a1 H1 => ln_ <| nx <| sq_ <| sq_ <| rl_ <| wl_ <| p_ H1 rfl rfl fun a2 H2 => ?_
  clear HA0 a0 H1 a1
  cases hb4 : fairV (volL l)
  case false =>
   refine wl_ <| ic H2 rfl (v := .bool false) (dc_ Tryd.func7 rfl (args1 (H2.ev 10 rfl)) (fairV_any _ _ _ (volL l) w (HVl _ HS.below) hn0) (fun _ w9 h9 => ⟨_, h9.1, by rw [hb4], h9.2.symm⟩)) fun a5 H5 => wl_ <| i_ H5 rfl (v := .bool true) (dd_nt rfl (H5.ev 11 rfl) rfl) fun a6 H6 => ln_ <| nx <| ct_ H6 rfl <| sq_ <| rl_ <| wl_ <| c_ H6 rfl HS (dcs Tryd.func8 rfl (args0 ) (tabwakes_any w) (.bool true)) fun W7 HS7 a7 H7 => wl_ <| p_ H7 rfl rfl fun a8 H8 => ln_ <| nx <| wp_ret <| tr <| ret_run H8.env0 (res_t Tryd.results6 (H8.get 2 rfl)) <| ?_
   clear H2 a2 H5 a5 H6 a6 HS H7 a7
   exact ⟨rfl, HS7.below⟩
  case true =>
   refine wl_ <| ic H2 rfl (v := .bool true) (dc_ Tryd.func7 rfl (args1 (H2.ev 10 rfl)) (fairV_any _ _ _ (volL l) w (HVl _ HS.below) hn0) (fun _ w9 h9 => ⟨_, h9.1, by rw [hb4], h9.2.symm⟩)) fun a9 H9 => wl_ <| i_ H9 rfl (v := .bool false) (dd_nt rfl (H9.ev 11 rfl) rfl) fun a10 H10 => ln_ <| nx <| cf_ H10 rfl <| wp_skip <| nx <| sq_ <| rl_ <| ?_
   clear H2 a2 H9 a9
   have hn1 := fair_n hb4 hln
   have hm1 := fair_m hb4
   refine wl_ <| p_ H10 rfl rfl fun a11 H11 => ln_ <| nx <| sq_ <| sq_ <| rl_ <| wl_ <| p_ H11 rfl rfl fun a12 H12 => ln_ <| nx <| wp_block <| wp_unr 1 <| unr_go <| sq_ <| sq_ <| rl_ <| q_ H12 2 rfl fun a13 H13 => wl_ <| i_ H13 rfl (v := .int .i64 0) (dd_len rfl (H13.ev 15 rfl) Tryd.underlying22) fun a14 H14 => wl_ <| i_ H14 rfl (dd_cmp rfl (H14.ev 14 rfl) (H14.ev 16 rfl) (lt_f (by decide))) fun a15 H15 => ln_ <| nx <| cf_ H15 rfl <| wp_exit <| tx <| tx <| bx <| nx <| sq_ <| sq_ <| rl_ <| ?_
   clear H10 a10 H11 a11 H12 a12 H13 a13 H14 a14
   have hmr : ∀ x ∈ l.reverse, x.2.length ≤ 1000000 := fun x hx => hm1 x (by simpa using hx)
   refine wl_ <| p_ H15 rfl rfl fun a16 H16 => ?_
   clear H15 a15
   cases hb18 : goodT l
   case false =>
    refine wl_ <| c_ H16 rfl HS (v := .bool false) (dc_ Tryd.func14 rfl (args1 (H16.ev 31 rfl)) (goodt_any _ _ _ l.reverse w (rev_nil hln) (by decide) hmr) (fun _ w9 h9 => ⟨_, h9.1, by rw [goodT_rev, hb18], h9.2⟩)) fun W19 HS19 a19 H19 => wl_ <| p_ H19 rfl rfl fun a20 H20 => wl_ <| c_ H20 rfl HS19 (v := .bool false) (dc_ Tryd.func14 rfl (args1 (H20.ev 33 rfl)) (goodt_any _ _ _ l W19 (HVl _ HS19.below) (by decide) hm1) (fun _ w9 h9 => ⟨_, h9.1, by rw [hb18], h9.2⟩)) fun W21 HS21 a21 H21 => wl_ <| i_ H21 rfl (v := .bool false) (dd_neb rfl (H21.ev 32 rfl) (H21.ev 34 rfl) Tryd.underlying4 rfl) fun a22 H22 => ln_ <| nx <| cf_ H22 rfl <| wp_skip <| nx <| sq_ <| rl_ <| wl_ <| p_ H22 rfl rfl fun a23 H23 => wl_ <| c_ H23 rfl HS21 (dcs Tryd.func10 rfl (args1 (H23.ev 37 rfl)) (enct_any _ _ _ l W21 (HVl _ HS21.below) (by decide) hm1) (.tuple #[.agg (bs (encT l)), .int .i64 (encE l)])) fun W24 HS24 a24 H24 => wl_ <| p_ H24 rfl rfl fun a25 H25 => wl_ <| i_ H25 rfl (dd_ext rfl (H25.ev 36 rfl) rfl) fun a26 H26 => ?_
    clear H16 a16 HS H19 a19 H20 a20 HS19 H21 a21 H22 a22 H23 a23 HS21 H24 a24
    refine wl_ <| i_ H26 rfl (dd_ext rfl (H26.ev 36 rfl) rfl) fun a27 H27 => wl_ <| n_ H27 rfl (fun _ h => dd_new HS24 (bs (zer 32)) rfl (z := .agg (bs (zer 32))) (by kernel_rfl) rfl h) fun g5 W28 HS28 a28 H28 => wl_ <| t_ rfl (fun _ h => dd_setrow HS28 0 rfl rfl (H28.ev 5 rfl) (H28.ev 39 rfl) (by kernel_rfl) (((size_bs _).trans (length_encT _)) : (bs (encT l)).size = 32) (((size_bs _).trans (length_zer 32)) : (bs (zer 32)).size = 32) (one_bs _) h) fun W29 HS29 => wl_ <| p_ H28 rfl rfl fun a30 H30 => ln_ <| ?_
    clear H25 a25 H26 a26 HS24 H27 a27 HS28 H28 a28
    have H31 := H30.sel [0, 3, 5, 6] rfl
    refine nx <| sq_ <| rl_ <| wl_ <| p_ H31 rfl rfl fun a32 H32 => wl_ <| c_ H32 rfl HS29 (v := .tuple #[.agg (bs (encT l.reverse)), .int .i64 (encE l)]) (dc_ Tryd.func10 rfl (args1 (H32.ev 42 rfl)) (enct_any _ _ _ l.reverse W29 (rev_nil hln) (by decide) hmr) (fun _ w9 h9 => ⟨_, by rw [encE_rev l] at h9; exact h9.1, rfl, h9.2⟩)) fun W33 HS33 a33 H33 => wl_ <| p_ H33 rfl rfl fun a34 H34 => wl_ <| i_ H34 rfl (dd_ext rfl (H34.ev 41 rfl) rfl) fun a35 H35 => wl_ <| i_ H35 rfl (dd_ext rfl (H35.ev 41 rfl) rfl) fun a36 H36 => wl_ <| n_ H36 rfl (fun _ h => dd_new HS33 (bs (zer 32)) rfl (z := .agg (bs (zer 32))) (by kernel_rfl) rfl h) fun g7 W37 HS37 a37 H37 => wl_ <| t_ rfl (fun _ h => dd_setrow HS37 1 rfl rfl (H37.ev 7 rfl) (H37.ev 44 rfl) (by kernel_rfl) (((size_bs _).trans (length_encT _)) : (bs (encT l.reverse)).size = 32) (((size_bs _).trans (length_zer 32)) : (bs (zer 32)).size = 32) (one_bs _) h) fun W38 HS38 => wl_ <| p_ H37 rfl rfl fun a39 H39 => ?_
    clear H30 H31 a30 H32 a32 HS29 H33 a33 H34 a34 H35 a35 HS33 H36 a36 HS37
    refine ln_ <| nx <| sq_ <| sq_ <| rl_ <| q_ H39 2 rfl fun a40 H40 => wl_ <| i_ H40 rfl (dd_cmp rfl (H40.ev 46 rfl) (H40.ev 47 rfl) (ne_f rfl)) fun a41 H41 => ln_ <| nx <| cf_ H41 rfl <| wp_skip <| nx <| sq_ <| sq_ <| rl_ <| wl_ <| p_ H41 rfl rfl fun a42 H42 => wl_ <| i_ H42 rfl (dd_cmp rfl (H42.ev 49 rfl) rfl (ne_t (fun h9 => by rw [encE_z.1 h9] at hb18; cases hb18))) fun a43 H43 => ln_ <| nx <| ct_ H43 rfl <| sq_ <| rl_ <| wl_ <| p_ H43 rfl rfl fun a44 H44 => wl_ <| i_ H44 rfl (dd_cmp rfl (H44.ev 51 rfl) rfl (eq_t ((encE_or l).resolve_left (fun h9 => by rw [encE_z.1 h9] at hb18; cases hb18)))) fun a45 H45 => wl_ <| p_ H45 rfl rfl fun a46 H46 => wl_ <| cg H46 (wg_ H46 rfl rfl rfl rfl) rfl HS38 (dcs Tryd.func8 rfl (args0 ) (tabwakes_any W38) (.bool true)) fun W47 HS47 a47 H47 => ?_
    clear H37 a37 H39 a39 H40 a40 H41 a41 H42 a42 H43 a43 H44 a44 H45 a45
    refine q_ H47 2 rfl fun a48 H48 => ln_ <| ?_
    clear H46 a46 HS38 H47 a47
    have H49 := H48.sel [2] rfl
    refine nx <| wp_ret <| tr <| ret_run H49.env0 (res_t Tryd.results6 (H49.get 2 rfl)) <| ?_
    clear H48
    exact ⟨rfl, HS47.below⟩
   case true =>
    refine wl_ <| c_ H16 rfl HS (v := .bool true) (dc_ Tryd.func14 rfl (args1 (H16.ev 31 rfl)) (goodt_any _ _ _ l.reverse w (rev_nil hln) (by decide) hmr) (fun _ w9 h9 => ⟨_, h9.1, by rw [goodT_rev, hb18], h9.2⟩)) fun W50 HS50 a50 H50 => wl_ <| p_ H50 rfl rfl fun a51 H51 => wl_ <| c_ H51 rfl HS50 (v := .bool true) (dc_ Tryd.func14 rfl (args1 (H51.ev 33 rfl)) (goodt_any _ _ _ l W50 (HVl _ HS50.below) (by decide) hm1) (fun _ w9 h9 => ⟨_, h9.1, by rw [hb18], h9.2⟩)) fun W52 HS52 a52 H52 => wl_ <| i_ H52 rfl (v := .bool false) (dd_neb rfl (H52.ev 32 rfl) (H52.ev 34 rfl) Tryd.underlying4 rfl) fun a53 H53 => ln_ <| nx <| cf_ H53 rfl <| wp_skip <| nx <| sq_ <| rl_ <| wl_ <| p_ H53 rfl rfl fun a54 H54 => wl_ <| c_ H54 rfl HS52 (dcs Tryd.func10 rfl (args1 (H54.ev 37 rfl)) (enct_any _ _ _ l W52 (HVl _ HS52.below) (by decide) hm1) (.tuple #[.agg (bs (encT l)), .int .i64 (encE l)])) fun W55 HS55 a55 H55 => wl_ <| p_ H55 rfl rfl fun a56 H56 => wl_ <| i_ H56 rfl (dd_ext rfl (H56.ev 36 rfl) rfl) fun a57 H57 => ?_
    clear H16 a16 HS H50 a50 H51 a51 HS50 H52 a52 H53 a53 H54 a54 HS52 H55 a55
    refine wl_ <| i_ H57 rfl (dd_ext rfl (H57.ev 36 rfl) rfl) fun a58 H58 => wl_ <| n_ H58 rfl (fun _ h => dd_new HS55 (bs (zer 32)) rfl (z := .agg (bs (zer 32))) (by kernel_rfl) rfl h) fun g5 W59 HS59 a59 H59 => wl_ <| t_ rfl (fun _ h => dd_setrow HS59 0 rfl rfl (H59.ev 5 rfl) (H59.ev 39 rfl) (by kernel_rfl) (((size_bs _).trans (length_encT _)) : (bs (encT l)).size = 32) (((size_bs _).trans (length_zer 32)) : (bs (zer 32)).size = 32) (one_bs _) h) fun W60 HS60 => wl_ <| p_ H59 rfl rfl fun a61 H61 => ln_ <| ?_
    clear H56 a56 H57 a57 HS55 H58 a58 HS59 H59 a59
    have H62 := H61.sel [0, 3, 5, 6] rfl
    refine nx <| sq_ <| rl_ <| wl_ <| p_ H62 rfl rfl fun a63 H63 => wl_ <| c_ H63 rfl HS60 (v := .tuple #[.agg (bs (encT l.reverse)), .int .i64 (encE l)]) (dc_ Tryd.func10 rfl (args1 (H63.ev 42 rfl)) (enct_any _ _ _ l.reverse W60 (rev_nil hln) (by decide) hmr) (fun _ w9 h9 => ⟨_, by rw [encE_rev l] at h9; exact h9.1, rfl, h9.2⟩)) fun W64 HS64 a64 H64 => wl_ <| p_ H64 rfl rfl fun a65 H65 => wl_ <| i_ H65 rfl (dd_ext rfl (H65.ev 41 rfl) rfl) fun a66 H66 => wl_ <| i_ H66 rfl (dd_ext rfl (H66.ev 41 rfl) rfl) fun a67 H67 => wl_ <| n_ H67 rfl (fun _ h => dd_new HS64 (bs (zer 32)) rfl (z := .agg (bs (zer 32))) (by kernel_rfl) rfl h) fun g7 W68 HS68 a68 H68 => wl_ <| t_ rfl (fun _ h => dd_setrow HS68 1 rfl rfl (H68.ev 7 rfl) (H68.ev 44 rfl) (by kernel_rfl) (((size_bs _).trans (length_encT _)) : (bs (encT l.reverse)).size = 32) (((size_bs _).trans (length_zer 32)) : (bs (zer 32)).size = 32) (one_bs _) h) fun W69 HS69 => wl_ <| p_ H68 rfl rfl fun a70 H70 => ?_
    clear H61 H62 a61 H63 a63 HS60 H64 a64 H65 a65 H66 a66 HS64 H67 a67 HS68
    refine ln_ <| nx <| sq_ <| sq_ <| rl_ <| q_ H70 2 rfl fun a71 H71 => wl_ <| i_ H71 rfl (dd_cmp rfl (H71.ev 46 rfl) (H71.ev 47 rfl) (ne_f rfl)) fun a72 H72 => ln_ <| nx <| cf_ H72 rfl <| wp_skip <| nx <| sq_ <| sq_ <| rl_ <| wl_ <| p_ H72 rfl rfl fun a73 H73 => wl_ <| i_ H73 rfl (dd_cmp rfl (H73.ev 49 rfl) rfl (ne_f (encE_z.2 hb18))) fun a74 H74 => ln_ <| nx <| cf_ H74 rfl <| wp_skip <| nx <| sq_ <| sq_ <| rl_ <| wl_ <| p_ H74 rfl rfl fun a75 H75 => ln_ <| nx <| wp_block <| wp_unr 1 <| unr_go <| sq_ <| sq_ <| rl_ <| q_ H75 2 rfl fun a76 H76 => wl_ <| i_ H76 rfl (v := .int .i64 0) (dd_len rfl (H76.ev 57 rfl) Tryd.underlying22) fun a77 H77 => wl_ <| i_ H77 rfl (dd_cmp rfl (H77.ev 56 rfl) (H77.ev 58 rfl) (lt_f (by decide))) fun a78 H78 => ?_
    clear H68 a68 H70 a70 H71 a71 H72 a72 H73 a73 H74 a74 H75 a75 H76 a76
    refine ln_ <| nx <| cf_ H78 rfl <| wp_exit <| tx <| tx <| bx <| nx <| sq_ <| rl_ <| wl_ <| i_ H78 rfl (v := .agg (bs (encT l))) (dd_load HS69 0 0 rfl rfl (H78.ev 5 rfl) (slab_whole _) Tryd.underlying24 rfl (by rw [show (bs (encT l)).size = 32 from ((size_bs _).trans (length_encT _))]; kernel_rfl)) fun a79 H79 => wl_ <| i_ H79 rfl (v := .agg (bs (encT l.reverse))) (dd_load HS69 1 0 rfl rfl (H79.ev 7 rfl) (slab_whole _) Tryd.underlying24 rfl (by rw [show (bs (encT l.reverse)).size = 32 from ((size_bs _).trans (length_encT _))]; kernel_rfl)) fun a80 H80 => wl_ <| i_ H80 rfl (v := .bool true) (dd_eqa (b := true) rfl (H80.ev 86 rfl) (H80.ev 87 rfl) (by kernel_rfl) (fun w => by have h9 := eql_blk (encT l) (encT l.reverse) (length_encT _) (length_encT _) w; rw [enc_rev hb18, hln, decide_eq_true (by decide)] at h9; exact h9)) fun a81 H81 => wl_ <| p_ H81 rfl rfl fun a82 H82 => wl_ <| i_ H82 rfl (v := .int .i64 0) (dd_len rfl (H82.ev 89 rfl) Tryd.underlying22) fun a83 H83 => wl_ <| i_ H83 rfl (dd_cmp rfl (H83.ev 90 rfl) rfl (lt_t (by decide))) fun a84 H84 => wl_ <| i_ H84 rfl (v := .bool true) (dd_eqb rfl (H84.ev 88 rfl) (H84.ev 91 rfl) Tryd.underlying4 rfl) fun a85 H85 => wl_ <| p_ H85 rfl rfl fun a86 H86 => ?_
    clear H77 a77 H78 a78 H79 a79 H80 a80 H81 a81 H82 a82 H83 a83 H84 a84
    refine wl_ <| cg H86 (wg_ H86 rfl rfl rfl rfl) rfl HS69 (dcs Tryd.func8 rfl (args0 ) (tabwakes_any W69) (.bool true)) fun W87 HS87 a87 H87 => q_ H87 2 rfl fun a88 H88 => ln_ <| ?_
    clear H85 a85 H86 a86 HS69 H87 a87
    have H89 := H88.sel [2] rfl
    refine nx <| wp_ret <| ret_run H89.env0 (res_t Tryd.results6 (H89.get 2 rfl)) <| ?_
    clear H88
    exact ⟨rfl, HS87.below⟩
theorem taborder_walk (A : Option Addr) (n c : Nat) (l0 : List Vl) (w : World) (h0 : VolsAt w (.slice A n c) l0) (hn0 : n ≤ maxLen) :
    Calls Tryd.prog 6 #[.slice A n c] w fun e w' => e = .returned (.bool true) ∧ Below w.heap.size w w' := by
  obtain ⟨l, rfl⟩ := volL_all l0
  by_cases hz : n = 0
  · subst hz; exact taborder_zero A c l w h0 hn0
  · obtain ⟨b, o, rfl⟩ := vols_some h0 (by omega)
    exact taborder_pos b o n c l w h0 hn0
end Go.Proofs.YtpmedgibnnonkaaDoor

/- TableOrder, as its tied card: for every slice of volumes the call returns true and changes nothing that it was handed. Conditions: those of the row (the tables of runes lie as the program's text lays them, which the card ties to the pruned copy). -/
set_option maxRecDepth 4000
namespace Go.Proofs.YtpmedgibnnonkaaDoor.tableOrder
open Go Go.ChangeShapes Go.WideShapes Go.ChangeAt Go.RowKit

theorem contract (H : Type) (enc : TypeId × Value → H) (W : World) (base : Nat) (args : Array Value) (ds gs : List (DataW H)) (before : List MemPlace)
    (hval : ∀ (j : Nat) t v, Tryd.f6.params[j]? = some t → args[j]? = some v → Value.okWide Tryd.prog W .any base t v)
    (hW : DataW.Whole enc Tryd.prog Tryd.f6.params.toList Rows.tableOrderSpec.vars false W args.toList ds gs before) (_ : laidMetH Tryd.prog Rows.tableOrderRow.laid W) :
    Calls Tryd.prog 6 args W fun e W' => ∃ v, e = .returned v ∧ Rows.tableOrderSpec.post enc Tryd.prog Tryd.f6 false true false false W args v W' := by
  have hW' := hW
  obtain ⟨p, q, hA0, hV, rfl, _, _⟩ := hW
  have hA : DataW.TrodAll enc Tryd.prog W 0 (fun _ => true) true Tryd.f6.params.toList args.toList ds p := hA0
  rw [Tryd.params6] at hA hval
  obtain ⟨v0, vs0, d0, ds0, p0, q0, hargs, rfl, rfl, h0, r0⟩ := trodAll_cons hA
  obtain ⟨rfl, rfl, rfl⟩ := trodAll_nil r0
  obtain rfl : args = #[v0] := by cases args; simp_all
  obtain ⟨rfl, rfl⟩ := trodVars_none hV
  have hlt0 : ∀ x ∈ p0, x.block < W.heap.size := fun x hx => hW'.lt x (by simp [hx])
  obtain ⟨A0, n0, c0, l0, rfl, hS0, hm0⟩ := open_vols (hval 0 22 v0 rfl rfl) h0 hlt0
  refine (taborder_walk A0 n0 c0 l0 W hS0 hm0).mono fun e W' ⟨he, hb⟩ => ?_
  subst he
  exact ⟨_, rfl, [d0], [], _, [], _, [], hW', trodAll_cons_mk (shut_bool Tryd.underlying4 _) trodAll_mk0, trodAll_cons_mk (Below.trod laidOutT (by kernel_rfl) (of_decide_eq_true (by kernel_rfl)) h0 hb hlt0) trodAll_mk0, rfl, hb.frame _, fun h => by cases h⟩

theorem laid_met (os : Os) : laidMet Tryd.prog Rows.tableOrderRow.laid ((laidWorld os).forCall (fun _ _ => 0) ⟨#[], #[.slice none 0 0], []⟩).memory :=
  laidMet_of_run' 8 (by kernel_rfl) (by kernel_rfl)
theorem reads (os : Os) {H : Type} (enc : TypeId × Value → H) : ∃ places, DataW.whole enc Tryd.prog ((laidWorld os).forCall (fun _ _ => 0) ⟨#[], #[.slice none 0 0], []⟩).memory Tryd.f6.params.toList Rows.tableOrderSpec.vars false #[(Value.slice none 0 0)].toList 8 = some ([.nil], [], places) :=
  ⟨[], by kernel_rfl⟩

set_option maxRecDepth 100000 in
theorem lifted (os : Os) (started : os.Started) (H : Type) (enc : TypeId × Value → H) (F : Stop.Interp) :
    ReturnsInHanded {} Tryd.checked os 6 .any ((OpenSpec.ofChange Rows.tableOrderSpec).preRow enc Tryd.prog Tryd.f6 Rows.tableOrderRow.domain false Rows.tableOrderRow.laid) (((OpenSpec.ofChange Rows.tableOrderSpec).at F).post enc Tryd.prog Tryd.f6 false true false false) := by
  obtain ⟨places, hx⟩ := reads os enc
  refine returnsInHanded_of_row (C := Tryd.checked) (s := OpenSpec.ofChange Rows.tableOrderSpec) ownK started (by kernel_rfl) Tryd.func6
    (witness_row_at (enc := enc) (C := Tryd.checked) false (laidWorld os) #[.slice none 0 0] rfl (by kernel_rfl) (by kernel_rfl) (by kernel_rfl)
      (OpenSpec.preRow_of_cond 8 hx (by kernel_rfl) (fun k hk => by cases hk) (by kernel_rfl) (laid_met os))) ?_
  intro W base args ds gs before hval hW _ _ _ hL _ _
  exact contract H enc W base args ds gs before hval hW hL

theorem said : Rows.TableOrderSaid :=
  OpenClaim.holds_of_cond 6 Tryd.f6 rfl rfl rfl rfl rfl rfl rfl ⟨rfl, rfl, rfl, rfl, rfl⟩ rfl rfl rfl rfl rfl (by kernel_rfl) Tryd.func6 (by kernel_rfl)
    (of_decide_eq_true (by kernel_rfl)) (by unfold Func.isWrapper; first | (rw [if_pos (by decide +kernel)]; kernel_rfl) | (rw [if_neg (by decide +kernel)]; exact ⟨rfl, rfl⟩))
    (fun os started H enc _ F => by rw [OpenClaim.pre_eq_preRow]; exact lifted os started H enc F)

theorem plain (f : FuncId) (fn : Func) (hf : Tryd.pinned.checked.prog.funcNamed Rows.tableOrderRow.func = some f) (hfn : Tryd.pinned.checked.prog.funcs[f]? = some fn) :
    false = Tryd.pinned.checked.prog.looks [] ∧ ∀ (j : Nat) t, fn.params[j]? = some t → Tryd.pinned.checked.prog.wantsStandIn t = false := by
  obtain rfl : f = 6 := Option.some.inj ((show Tryd.prog.funcNamed Rows.tableOrderRow.func = some 6 by kernel_rfl).symm.trans hf) |>.symm
  obtain rfl : fn = Tryd.f6 := (Option.some.inj (Tryd.func6.symm.trans hfn)).symm
  refine ⟨by kernel_rfl, fun j t ht => ?_⟩
  rw [Tryd.params6] at ht
  have hm : t = 22 := by simpa using Array.mem_of_getElem? ht
  subst hm
  exact (show Tryd.prog.wantsStandIn 22 = false by kernel_rfl)

theorem card : Rows.TableOrderCardSaid :=
  Claim7.holds_tied_plain_at .later [] _ _ _ _ said (fun _ h => by cases h) (by kernel_rfl) (fun _ h => by cases h) tableOrder_row_tie rfl ⟨rfl, rfl⟩ (by kernel_rfl) rfl plain (by kernel_rfl)
end Go.Proofs.YtpmedgibnnonkaaDoor.tableOrder
