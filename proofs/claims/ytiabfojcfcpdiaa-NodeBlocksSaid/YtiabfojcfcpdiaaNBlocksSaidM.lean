/- NodeBlocks: for every list of lists of puts the call returns true and changes nothing that it was handed. Conditions: those of the row. -/
import Derived.Test.YtiabfojcfcpdiaaRows
import Derived.Test.YtiabfojcfcpdiaaMAw0
import Derived.Test.YtiabfojcfcpdiaaMGen0
import Derived.Test.YtiabfojcfcpdiaaMWal0
/- The statement NodeBlocks: its walk. -/
set_option maxRecDepth 4000
namespace Go.Proofs.Ytiabfojcfcpdiaa
open Go Go.RowKit
theorem updB_0 (l : List (Int × List (BitVec 8))) (B : Bks) : cat12 B = cat12 (updB (l.take 0) B) := rfl
theorem wd_ofn (n : Nat) : IntKind.u32.wrap (((n + 1 : Nat) : Int)) = wd (BitVec.ofNat 32 (n + 1)) := by
  show _ = ((BitVec.ofNat 32 (n + 1)).toNat : Int)
  rw [BitVec.toNat_ofNat, IntKind.wrap_u32]; omega
theorem nb_l {L : Lab} {i : Nat} {l : List (Int × List (BitVec 8))} (h : (L.e = 0#32 ∨ L.e = 1#32) ∧ L.s.toNat ≤ i) (hi : i < 1000) : ndLater L (⟨1#32, BitVec.ofNat 32 (i + 1), l⟩ : Rec) = true := by
  have e : (BitVec.ofNat 32 (i + 1)).toNat = i + 1 := by rw [BitVec.toNat_ofNat]; omega
  unfold ndLater laterB
  simp only [Bool.or_eq_true, Bool.and_eq_true, decide_eq_true_eq, e]
  rcases h.1 with h1 | h1
  · left; rw [h1]; decide
  · right; exact ⟨h1.symm, by omega⟩
theorem nb_s (L : Lab) (i : Nat) (l : List (Int × List (BitVec 8))) (d : BitVec 16) : ((doneLab L (⟨1#32, BitVec.ofNat 32 (i + 1), l⟩ : Rec) d).e = 0#32 ∨ (doneLab L (⟨1#32, BitVec.ofNat 32 (i + 1), l⟩ : Rec) d).e = 1#32) ∧ (doneLab L (⟨1#32, BitVec.ofNat 32 (i + 1), l⟩ : Rec) d).s.toNat ≤ i + 1 :=
  ⟨.inr rfl, by show (BitVec.ofNat 32 (i + 1)).toNat ≤ i + 1; rw [BitVec.toNat_ofNat]; exact Nat.mod_le _ _⟩
theorem spl_blkN (q d : List (BitVec 8)) (i : Nat) : (spl (bs q).toList i (Value.agg (bs d)).cells.toList).toArray = bs (spl q i d) := by
  show (spl (bs q).toList i (bs d).toList).toArray = _
  rw [bs_toList]; exact spl_bs q d i
attribute [local irreducible] blk zer spl updB cat12
variable (D : DiskOps) (O : WalOps D)
include O in
set_option maxHeartbeats 1600000 in
theorem nblocks_walk (Al : Option Addr) (nl cl : Nat) (X : List (List (Int × List (BitVec 8)))) (w : World) (hX : PPs w Al nl X) (_ : nl ≤ maxLen) : Calls Try.prog 6 #[.slice Al nl cl] w fun x w' => x = .returned (.bool true) ∧ Below w.heap.size w w' := by
  have HS := St.nil w noF
  have HX : Rs w noF [] [] w := Rs.of HS
  clear HS
  obtain ⟨G1, HZ1, HS1⟩ := HX.anchor
  clear HX
  refine enter_en Try.func6 rfl Try.ntmps6 (Nat.le_of_ble_eq_true rfl) fun a0 (HA0 : En 152 [(0, .slice Al nl cl)] a0) => ?_
  refine sq_ <| rl_ <| wl_ <| p_ HA0 rfl rfl fun _ H2 => ln_ <| nx <| sq_ <| sq_ <| rl_ <| wl_ <| p_ H2 rfl rfl fun _ H3 => wl_ <| i_ H3 rfl (v := .int .i64 nl) (dd_len rfl (H3.ev 18 rfl) Try.underlying60) fun _ H4 => ?_
  clear HA0 H2 H3
  by_cases hc6 : (20 : Int) < nl
  ·
   refine wl_ <| i_ H4 rfl (dd_cmp rfl (H4.ev 19 rfl) rfl (gt_t hc6)) fun _ H7 => ln_ <| nx <| ct_ H7 rfl <| sq_ <| rl_ <| wl_ <| c_ H7 rfl HS1 (dcs Try.func8 rfl (args0 ) (ndwakes D O w) (.bool true)) fun _ HS8 _ H8 => wl_ <| p_ H8 rfl rfl fun a9 H9 => ln_ <| nx <| wp_ret <| tr <| ret_run H9.env0 (res_t Try.results6 (H9.get 2 rfl)) <| ?_
   clear H4 H7 HS1 H8
   exact ⟨rfl, (HZ1.bel HS8)⟩
  refine wl_ <| i_ H4 rfl (dd_cmp rfl (H4.ev 19 rfl) rfl (gt_f hc6)) fun _ H10 => ln_ <| nx <| cf_ H10 rfl <| wp_skip <| nx <| sq_ <| rl_ <| ?_
  clear H4
  obtain ⟨Gc12, hc12, hf12, hk12, hq12⟩ := Rs.reframe (R1 := []) (R2 := []) (Q1 := []) (Q2 := []) ((HZ1.move HS1).sel [] [])
  refine wl_ <| d_ H10 rfl (R := fun v9 w9 => ∃ gd11 : Nat, v9 = .pointer (some ⟨gd11, 0, none⟩) ∧ Rs w noF [] [dskT D (.pointer (some ⟨gd11, 0, none⟩)) (rest (List.replicate 19 (blk 0#8)) (-1))] w9) (dc_ Try.func9 rfl (args0) (nd_new D Gc12 w) (fun _ w9 ⟨gd11, he, hX⟩ => ⟨_, he, gd11, rfl, hk12 _ _ _ hX⟩)) ?_
  rintro _ W12 ⟨gd11, rfl, HX12⟩ a12 H12
  clear hc12 hk12 hf12 hq12 HS1 HZ1
  clear H10
  obtain ⟨G13, HZ13, HS13⟩ := HX12.anchor
  clear HX12
  refine wl_ <| p_ H12 rfl rfl fun _ H14 => ln_ <| nx <| sq_ <| rl_ <| wl_ <| p_ H14 rfl rfl fun _ H15 => ?_
  clear H12 H14
  obtain ⟨Gc17, hc17, hf17, hk17, hq17⟩ := Rs.reframe (R1 := []) (R2 := []) (Q1 := [dskT D (.pointer (some ⟨gd11, 0, none⟩)) (rest (List.replicate 19 (blk 0#8)) (-1))]) (Q2 := []) ((HZ13.move HS13).sel [] [0])
  refine wl_ <| d_ H15 rfl (R := fun v9 w9 => ∃ gn16 : Nat, v9 = .tuple #[.pointer (some ⟨gn16, 0, none⟩), .int .i64 0] ∧ Rs w noF [⟨gn16, 69, #[.pointer (some ⟨gd11, 0, none⟩), .int .u32 (wd lab0.e), .int .u32 (wd lab0.s), .int .u32 (wd lab0.n), .int .u16 (hd lab0.d), .int .u16 (hd lab0.l)]⟩] [dskT D (.pointer (some ⟨gd11, 0, none⟩)) (rest (List.replicate 19 (blk 0#8)) (-1))] w9) (dc_ Try.func10 rfl (args1 (H15.ev 24 rfl)) (lw_open (O := O) hc17 nds_new) (fun _ w9 ⟨gn16, he, hX⟩ => ⟨_, he, gn16, rfl, hk17 _ _ _ hX⟩)) ?_
  rintro _ W17 ⟨gn16, rfl, HX17⟩ a17 H17
  clear hc17 hk17 hf17 hq17 HS13 HZ13
  clear H15
  obtain ⟨G18, HZ18, HS18⟩ := HX17.anchor
  clear HX17
  refine wl_ <| p_ H17 rfl rfl fun _ H19 => wl_ <| i_ H19 rfl (v := .pointer (some ⟨gn16, 0, none⟩)) (dd_ext rfl (H19.ev 23 rfl) rfl) fun _ H20 => wl_ <| i_ H20 rfl (v := .int .i64 0) (dd_ext rfl (H20.ev 23 rfl) rfl) fun _ H21 => q_ H21 2 rfl fun _ H22 => ln_ <| nx <| sq_ <| sq_ <| rl_ <| wl_ <| p_ H22 rfl rfl fun _ H23 => wl_ <| i_ H23 rfl (dd_cmp rfl (H23.ev 28 rfl) rfl (ne_f (by decide))) fun _ H24 => wl_ <| p_ H24 rfl rfl fun _ H25 => wl_ <| ig H25 (wg_ H25 rfl rfl rfl rfl) rfl (dd_mv rfl (H25.ev 4 rfl)) fun _ H26 => ?_
  clear H17 H19 H20 H21 H22 H23 H24
  refine wl_ <| ig H26 (wg_ H26 rfl rfl rfl rfl) rfl (v := .bool false) (dd_eqp rfl (H26.ev 31 rfl) rfl Try.underlying28 rfl) fun _ H27 => q_ H27 2 rfl fun _ H28 => wl_ <| ig H28 (wg_ H28 rfl rfl rfl rfl) rfl (dd_mv rfl (H28.ev 3 rfl)) fun _ H29 => wl_ <| ig H29 (wg_ H29 rfl rfl rfl rfl) rfl (v := .bool false) (dd_eqp rfl (H29.ev 35 rfl) rfl Try.underlying26 rfl) fun _ H30 => wl_ <| p_ H30 rfl rfl fun _ H31 => ln_ <| ?_
  clear H25 H26 H27 H28 H29 H30
  have H32 := H31.sel [0, 3, 4, 37] rfl
  refine nx <| cf_ H32 rfl <| wp_skip <| nx <| sq_ <| rl_ <| wl_ <| n_ H32 rfl (fun _ h => dd_new HS18 (bs (cat12 (fun _ => blk 0#8))) rfl (z := .agg (bs (cat12 (fun _ => blk 0#8)))) (by kernel_rfl) rfl h) fun gW _ HS33 _ H33 => ln_ <| nx <| sq_ <| sq_ <| rl_ <| wl_ <| p_ H33 rfl rfl fun _ H34 => ln_ <| nx <| wp_block <| ?_
  clear H31 HS18 H32 H33
  refine wp_loopG (ι := Nat) (fun i a9 w9 => ∃ sL : Secs, ∃ Lk : Lab, ∃ Bk : Bks, (i ≤ nl) ∧ (Nds sL Lk Bk) ∧ (∀ i : Nat, i < 12 → (Bk i).length = 32) ∧ ((Lk.e = 0#32 ∨ Lk.e = 1#32) ∧ Lk.s.toNat ≤ i) ∧ En 152 [(7, .int .i64 i), (6, .pointer (some ⟨gW, 0, none⟩)), (4, .pointer (some ⟨gn16, 0, none⟩)), (3, .pointer (some ⟨gd11, 0, none⟩)), (0, .slice Al nl cl)] a9 ∧ Rs w noF [⟨gn16, 69, #[.pointer (some ⟨gd11, 0, none⟩), .int .u32 (wd Lk.e), .int .u32 (wd Lk.s), .int .u32 (wd Lk.n), .int .u16 (hd Lk.d), .int .u16 (hd Lk.l)]⟩, ⟨gW, 34, bs (cat12 Bk)⟩] [dskT D (.pointer (some ⟨gd11, 0, none⟩)) (rest sL (-1))] w9) (fun i => nl - i) (0) ⟨(List.replicate 19 (blk 0#8)), lab0, (fun _ => blk 0#8), (Nat.zero_le _), nds_new, (fun _ _ => length_blk _), ⟨.inl rfl, Nat.le_refl _⟩, H34.sel [0, 3, 4, 6, 7] rfl, (HZ18.move HS33).sel [0, 1] [0]⟩ ?_
  clear H34 HS33 HZ18
  rintro i aL35 wL35 ⟨sL, Lk, Bk, hi, hNL, hBk, hLs, HL35, HXL35⟩
  obtain ⟨G36, HZ36, HS36⟩ := HXL35.anchor
  clear HXL35
  refine sq_ <| sq_ <| rl_ <| q_ HL35 2 rfl fun _ H37 => wl_ <| i_ H37 rfl (v := .int .i64 nl) (dd_len rfl (H37.ev 39 rfl) Try.underlying60) fun _ H38 => ?_
  clear HL35 H37
  by_cases hc40 : (i : Int) < nl
  ·
   refine wl_ <| i_ H38 rfl (dd_cmp rfl (H38.ev 38 rfl) (H38.ev 40 rfl) (lt_t hc40)) fun _ H41 => ln_ <| nx <| ct_ H41 rfl <| wp_skip <| nx <| sq_ <| wp_block <| sq_ <| sq_ <| ?_
   clear H38
   obtain ⟨b8, o8, hA8, hb8, hall⟩ := hX.at_ (by omega)
   obtain ⟨xi, hxi⟩ : ∃ x, X[i]? = some x := ⟨_, List.getElem?_eq_getElem (by rw [hX.len]; omega)⟩
   obtain ⟨A2, c2, hc2, hp2, hm2⟩ := hall i xi hxi
   obtain ⟨n2, hn⟩ : ∃ n, xi.length = n := ⟨_, rfl⟩
   rw [hn] at hc2 hp2
   have HC2 := fun (W9 : World) (hb9 : Below w.heap.size w W9) => cell_stay hc2 hb8 hb9
   have HP := fun (W9 : World) (hb9 : Below w.heap.size w W9) => hp2.below hb9 (Nat.le_refl _)
   have hwf := (puts_open hp2).2.2.1
   have hA0 := (puts_open hp2).2.2.2
   have hmx : n2 ≤ 9223372036854775807 := by have := hm2; unfold maxLen at this; omega
   refine rl_ <| q_ H41 2 rfl fun _ H42 => wl_ <| i_ H42 rfl (dd_idxS (sz := 1) (j := o8 + i) rfl (sl_at (H42.ev 44 rfl) hA8) (H42.ev 45 rfl) (by kernel_rfl) (by omega) (by omega) (by omega)) fun _ H43 => wl_ <| i_ H43 rfl (dd_at rfl (H43.ev 46 rfl) (HC2 _ (HZ36.bel HS36)) Try.underlying40 rfl) fun _ H44 => ?_
   clear H41 H42 H43
   cases hb45 : goodB (xi.map (·.1))
   ·
    refine wl_ <| c_ H44 rfl HS36 (v := .bool false) (dc_ Try.func12 rfl (args1 (H44.ev 47 rfl)) (refgood_any xi _ wL35 (HP _ (HZ36.bel HS36)) (by rw [hn]; unfold maxLen; omega)) (fun _ w9 h9 => ⟨_, h9.1, by rw [hb45], h9.2⟩)) fun _ HS46 _ H46 => wl_ <| i_ H46 rfl (v := .bool true) (dd_nt rfl (H46.ev 48 rfl) rfl) fun _ H47 => ln_ <| nx <| ct_ H47 rfl <| wp_exit <| tx <| bx <| nx <| rl_ <| wl_ <| p_ H47 rfl rfl fun _ H48 => wl_ <| i_ H48 rfl (v := .int .i64 (i + 1)) (dd_ari rfl (H48.ev 42 rfl) rfl rfl (i64_of (by first | omega | (have := bd_lo; omega)) (by omega))) fun _ H49 => wl_ <| p_ H49 rfl rfl fun _ H50 => ln_ <| ?_
    clear H44 HS36 H46 H47 H48 H49
    refine nx ⟨i + 1, ⟨sL, Lk, Bk, (by omega), hNL, hBk, ⟨hLs.1, by omega⟩, H50.sel [0, 3, 4, 6, 7] rfl, (HZ36.move HS46).sel [0, 1] [0]⟩, (by omega)⟩
   refine wl_ <| c_ H44 rfl HS36 (v := .bool true) (dc_ Try.func12 rfl (args1 (H44.ev 47 rfl)) (refgood_any xi _ wL35 (HP _ (HZ36.bel HS36)) (by rw [hn]; unfold maxLen; omega)) (fun _ w9 h9 => ⟨_, h9.1, by rw [hb45], h9.2⟩)) fun _ HS51 _ H51 => wl_ <| i_ H51 rfl (v := .bool false) (dd_nt rfl (H51.ev 48 rfl) rfl) fun _ H52 => ln_ <| nx <| cf_ H52 rfl <| wp_skip <| nx <| sq_ <| sq_ <| rl_ <| q_ H52 2 rfl fun _ H53 => wl_ <| i_ H53 rfl (v := .int .i64 (i + 1)) (dd_ari rfl (H53.ev 51 rfl) rfl rfl (i64_of (by first | omega | (have := bd_lo; omega)) (by omega))) fun _ H54 => wl_ <| i_ H54 rfl (v := .int .u32 (wd (BitVec.ofNat 32 (i + 1)))) (dd_conv (k := .u32) rfl (H54.ev 52 rfl) Try.underlying3 (by kernel_rfl) (wd_ofn _)) fun _ H55 => q_ H55 2 rfl fun _ H56 => wl_ <| i_ H56 rfl (dd_idxS (sz := 1) (j := o8 + i) rfl (sl_at (H56.ev 54 rfl) hA8) (H56.ev 55 rfl) (by kernel_rfl) (by omega) (by omega) (by omega)) fun _ H57 => wl_ <| i_ H57 rfl (dd_at rfl (H57.ev 56 rfl) (HC2 _ (HZ36.bel HS51)) Try.underlying40 rfl) fun _ H58 => ?_
   clear H44 HS36 H51 H52 H53 H54 H55 H56
   refine wl_ <| i_ H58 rfl (v := .agg #[.int .u32 1, .int .u32 (wd (BitVec.ofNat 32 (i + 1))), .slice A2 n2 c2]) (dd_bld rfl (ps := [(0, .int .u32 1), (1, .int .u32 (wd (BitVec.ofNat 32 (i + 1)))), (2, .slice A2 n2 c2)]) (pr1 rfl (pr1 (H58.ev 53 rfl) (pr1 (H58.ev 57 rfl) (pr0)))) (Lz := [[.int .u32 0], [.int .u32 0], [.slice none 0 0]]) (by kernel_rfl) (lens_cons rfl (lens_cons rfl (lens_cons rfl (lens_nil)))) (fit_cons (i := 0) rfl rfl (fit_cons (i := 1) rfl rfl (fit_cons (i := 2) rfl rfl (fit_nil)))) (cs := #[.int .u32 1, .int .u32 (wd (BitVec.ofNat 32 (i + 1))), .slice A2 n2 c2]) rfl) fun _ H59 => ?_
   clear H57 H58
   obtain ⟨Gc61, hc61, hf61, hk61, hq61⟩ := Rs.reframe (R1 := [⟨gn16, 69, #[.pointer (some ⟨gd11, 0, none⟩), .int .u32 (wd Lk.e), .int .u32 (wd Lk.s), .int .u32 (wd Lk.n), .int .u16 (hd Lk.d), .int .u16 (hd Lk.l)]⟩]) (R2 := [⟨gW, 34, bs (cat12 Bk)⟩]) (Q1 := [dskT D (.pointer (some ⟨gd11, 0, none⟩)) (rest sL (-1))]) (Q2 := []) ((HZ36.move HS51).sel [0, 1] [0])
   refine wl_ <| d_ H59 rfl (R := fun v9 w9 => ∃ s60 : Secs, v9 = .int .i64 0 ∧ (Nds s60 (doneLab Lk (⟨1#32, (BitVec.ofNat 32 (i + 1)), xi⟩ : Rec) (0#16)) (updB xi Bk)) ∧ (at0 s60 1 = headB (⟨1#32, (BitVec.ofNat 32 (i + 1)), xi⟩ : Rec).e (⟨1#32, (BitVec.ofNat 32 (i + 1)), xi⟩ : Rec).s (⟨1#32, (BitVec.ofNat 32 (i + 1)), xi⟩ : Rec).ats) ∧ Rs w noF [⟨gn16, 69, #[.pointer (some ⟨gd11, 0, none⟩), .int .u32 (wd (doneLab Lk (⟨1#32, (BitVec.ofNat 32 (i + 1)), xi⟩ : Rec) (0#16)).e), .int .u32 (wd (doneLab Lk (⟨1#32, (BitVec.ofNat 32 (i + 1)), xi⟩ : Rec) (0#16)).s), .int .u32 (wd (doneLab Lk (⟨1#32, (BitVec.ofNat 32 (i + 1)), xi⟩ : Rec) (0#16)).n), .int .u16 (hd (doneLab Lk (⟨1#32, (BitVec.ofNat 32 (i + 1)), xi⟩ : Rec) (0#16)).d), .int .u16 (hd (doneLab Lk (⟨1#32, (BitVec.ofNat 32 (i + 1)), xi⟩ : Rec) (0#16)).l)]⟩, ⟨gW, 34, bs (cat12 Bk)⟩] [dskT D (.pointer (some ⟨gd11, 0, none⟩)) (rest s60 (-1))] w9) (dc_ Try.func14 rfl (args3 (H59.ev 50 rfl) (H59.ev 58 rfl) rfl) (lw_apply (O := O) (⟨1#32, (BitVec.ofNat 32 (i + 1)), xi⟩ : Rec) (0#16) hc61 hNL (by decide) hb45 (nb_l hLs (by omega)) (HP _ (HZ36.bel HS51)) (far_off hp2 (HZ36.move HS51).st.chg.size hf61)) (fun _ w9 ⟨s60, he, hN60, hh60, hX⟩ => ⟨_, he, s60, rfl, hN60, hh60, hk61 _ _ _ hX⟩)) ?_
   rintro _ W61 ⟨s60, rfl, hN60, hh60, HX61⟩ a61 H61
   clear hc61 hk61 hf61 hq61 HS51 HZ36
   clear H59
   obtain ⟨G62, HZ62, HS62⟩ := HX61.anchor
   clear HX61
   refine wl_ <| i_ H61 rfl (dd_cmp rfl (H61.ev 59 rfl) rfl (ne_f (by decide))) fun _ H63 => wl_ <| p_ H63 rfl rfl fun _ H64 => wl_ <| ig H64 (wg_ H64 rfl rfl rfl rfl) rfl (dd_mv rfl (H64.ev 3 rfl)) fun _ H65 => wl_ <| cg H65 (wg_ H65 rfl rfl rfl rfl) rfl HS62 (dcs Try.func21 rfl (args1 (H65.ev 62 rfl)) (lw_loose ((HZ62.move HS62).sel [] [0])) (.int .i64 0)) fun W66 HS66 _ H66 => wl_ <| ig H66 (wg_ H66 rfl rfl rfl rfl) rfl (dd_cmp rfl (H66.ev 63 rfl) rfl (ne_f (by decide))) fun _ H67 => wl_ <| p_ H67 rfl rfl fun _ H68 => ln_ <| ?_
   clear H61 H63 H64 H65 HS62 H66 H67
   have H69 := H68.sel [0, 3, 4, 6, 7, 65] rfl
   refine nx <| cf_ H69 rfl <| wp_skip <| nx <| sq_ <| rl_ <| wl_ <| p_ H69 rfl rfl fun _ H70 => ln_ <| nx <| wp_block <| ?_
   clear H68 H69
   have HXr71 : Rs w noF [⟨gn16, 69, #[.pointer (some ⟨gd11, 0, none⟩), .int .u32 (wd (doneLab Lk (⟨1#32, (BitVec.ofNat 32 (i + 1)), xi⟩ : Rec) (0#16)).e), .int .u32 (wd (doneLab Lk (⟨1#32, (BitVec.ofNat 32 (i + 1)), xi⟩ : Rec) (0#16)).s), .int .u32 (wd (doneLab Lk (⟨1#32, (BitVec.ofNat 32 (i + 1)), xi⟩ : Rec) (0#16)).n), .int .u16 (hd (doneLab Lk (⟨1#32, (BitVec.ofNat 32 (i + 1)), xi⟩ : Rec) (0#16)).d), .int .u16 (hd (doneLab Lk (⟨1#32, (BitVec.ofNat 32 (i + 1)), xi⟩ : Rec) (0#16)).l)]⟩, ⟨gW, 34, bs (cat12 Bk)⟩] [dskT D (.pointer (some ⟨gd11, 0, none⟩)) (rest s60 (-1))] W66 := (HZ62.move HS66)
   rw [updB_0 xi Bk] at HXr71
   clear HS66 HZ62
   obtain ⟨G72, HZ72, HS72⟩ := HXr71.anchor
   clear HXr71
   refine wp_loopG (ι := Nat) (fun k a9 w9 => (k ≤ n2) ∧ En 152 [(8, .int .i64 k), (7, .int .i64 i), (6, .pointer (some ⟨gW, 0, none⟩)), (4, .pointer (some ⟨gn16, 0, none⟩)), (3, .pointer (some ⟨gd11, 0, none⟩)), (0, .slice Al nl cl)] a9 ∧ Rs w noF [⟨gn16, 69, #[.pointer (some ⟨gd11, 0, none⟩), .int .u32 (wd (doneLab Lk (⟨1#32, (BitVec.ofNat 32 (i + 1)), xi⟩ : Rec) (0#16)).e), .int .u32 (wd (doneLab Lk (⟨1#32, (BitVec.ofNat 32 (i + 1)), xi⟩ : Rec) (0#16)).s), .int .u32 (wd (doneLab Lk (⟨1#32, (BitVec.ofNat 32 (i + 1)), xi⟩ : Rec) (0#16)).n), .int .u16 (hd (doneLab Lk (⟨1#32, (BitVec.ofNat 32 (i + 1)), xi⟩ : Rec) (0#16)).d), .int .u16 (hd (doneLab Lk (⟨1#32, (BitVec.ofNat 32 (i + 1)), xi⟩ : Rec) (0#16)).l)]⟩, ⟨gW, 34, bs (cat12 (updB (xi.take k) Bk))⟩] [dskT D (.pointer (some ⟨gd11, 0, none⟩)) (rest s60 (-1))] w9) (fun k => n2 - k) (0) ⟨(Nat.zero_le _), H70.sel [0, 3, 4, 6, 7, 8] rfl, (HZ72.move HS72).sel [0, 1] [0]⟩ ?_
   clear H70 HS72 HZ72
   rintro k aL73 wL73 ⟨hk, HL73, HXL73⟩
   obtain ⟨G74, HZ74, HS74⟩ := HXL73.anchor
   clear HXL73
   refine sq_ <| sq_ <| rl_ <| q_ HL73 3 rfl fun _ H75 => wl_ <| i_ H75 rfl (dd_idxS (sz := 1) (j := o8 + i) rfl (sl_at (H75.ev 67 rfl) hA8) (H75.ev 68 rfl) (by kernel_rfl) (by omega) (by omega) (by omega)) fun _ H76 => wl_ <| i_ H76 rfl (dd_at rfl (H76.ev 69 rfl) (HC2 _ (HZ74.bel HS74)) Try.underlying40 rfl) fun _ H77 => wl_ <| i_ H77 rfl (v := .int .i64 n2) (dd_len rfl (H77.ev 70 rfl) Try.underlying40) fun _ H78 => ?_
   clear HL73 H75 H76 H77
   by_cases hc80 : (k : Int) < n2
   ·
    refine wl_ <| i_ H78 rfl (dd_cmp rfl (H78.ev 66 rfl) (H78.ev 71 rfl) (lt_t hc80)) fun _ H81 => ln_ <| nx <| ct_ H81 rfl <| wp_skip <| nx <| sq_ <| wp_block <| ?_
    clear H78
    obtain ⟨b9, o9, hA9⟩ := hA0 (by omega)
    have HB := fun (W9 : World) (hb9 : Below w.heap.size w W9) => puts_all_at (hA9 ▸ HP W9 hb9)
    have hat : ∀ x ∈ xi, 0 ≤ x.1 ∧ x.1 < 12 := fun x hx => goodB_at hb45 x.1 (List.mem_map.2 ⟨x, hx, rfl⟩)
    obtain ⟨xk, hxk⟩ : ∃ x, xi[k]? = some x := ⟨_, List.getElem?_eq_getElem (by rw [hn]; omega)⟩
    have hwk := hwf xk (List.mem_of_getElem? hxk)
    have hatk := hat xk (List.mem_of_getElem? hxk)
    refine wr_ (HZ74.move HS74) [0] [0, 1] rfl rfl fun HXd83 hx82 => ?_
    obtain ⟨G84, HZ84, HS84⟩ := HXd83.anchor
    clear HXd83
    refine hp_ H81 0 hx82 rfl rfl rfl fun _ H85 => hp_ H85 1 hx82 rfl rfl rfl fun _ H86 => ht_ H86 2 hx82 rfl rfl (fun _ _ _ => dd_idxS (sz := 1) (j := o8 + i) rfl (sl_at (H86.ev 75 rfl) hA8) (H86.ev 76 rfl) (by kernel_rfl) (by omega) (by omega) (by omega)) fun _ H87 => ht_ H87 3 hx82 rfl rfl (fun _ _ HS9 => dd_at rfl (H87.ev 77 rfl) (HC2 _ HS9.below) Try.underlying40 rfl) fun _ H88 => hp_ H88 4 hx82 rfl rfl rfl fun _ H89 => ht_ H89 5 hx82 rfl rfl (fun _ _ _ => dd_idxS (sz := 33) (j := o9 + k * 33) rfl (sl_at (H89.ev 78 rfl) hA9) (H89.ev 79 rfl) (by kernel_rfl) (by omega) (by omega) (by omega)) fun _ H90 => ht_ H90 6 hx82 rfl rfl (fun _ _ _ => xf 0 (o9 + k * 33) rfl (H90.ev 80 rfl)) fun _ H91 => ht_ H91 7 hx82 rfl rfl (fun _ _ HS9 => dd_at rfl (H91.ev 81 rfl) (pc_c0 (pc_cat (HB _ HS9.below k xk hxk))) Try.underlying3 rfl) fun _ H92 => ?_
    clear H81 H85 H86 H87 H88 H89 H90
    refine hp_ H92 8 hx82 rfl rfl rfl fun _ H93 => hp_ H93 9 hx82 rfl rfl rfl fun _ H94 => ht_ H94 10 hx82 rfl rfl (fun _ _ _ => dd_idxS (sz := 1) (j := o8 + i) rfl (sl_at (H94.ev 83 rfl) hA8) (H94.ev 84 rfl) (by kernel_rfl) (by omega) (by omega) (by omega)) fun _ H95 => ht_ H95 11 hx82 rfl rfl (fun _ _ HS9 => dd_at rfl (H95.ev 85 rfl) (HC2 _ HS9.below) Try.underlying40 rfl) fun _ H96 => hp_ H96 12 hx82 rfl rfl rfl fun _ H97 => ht_ H97 13 hx82 rfl rfl (fun _ _ _ => dd_idxS (sz := 33) (j := o9 + k * 33) rfl (sl_at (H97.ev 86 rfl) hA9) (H97.ev 87 rfl) (by kernel_rfl) (by omega) (by omega) (by omega)) fun _ H98 => ht_ H98 14 hx82 rfl rfl (fun _ _ _ => xf 1 (o9 + k * 33 + 1) rfl (H98.ev 88 rfl)) fun _ H99 => ht_ H99 15 hx82 rfl rfl (v := .agg (bs xk.2)) (fun _ _ HS9 => dd_atN rfl (H99.ev 89 rfl) (pc_c1 (pc_cat (HB _ HS9.below k xk hxk))) Try.underlying33 rfl (by show _ = some (bytesV xk.2).length; rw [show (bytesV xk.2).length = 32 from len_bv hwk.1]; kernel_rfl)) fun _ H100 => ?_
    clear H91 H92 H93 H94 H95 H96 H97 H98
    refine ht_ H100 16 hx82 rfl rfl (fun _ _ _ => xAo 12 32 ((Int.toNat xk.1) * 32) rfl (H100.ev 6 rfl) (H100.ev 82 rfl)) fun _ H101 => h1_ 17 rfl <| t_ rfl (S := [⟨gn16, 69, #[.pointer (some ⟨gd11, 0, none⟩), .int .u32 (wd (doneLab Lk (⟨1#32, (BitVec.ofNat 32 (i + 1)), xi⟩ : Rec) (0#16)).e), .int .u32 (wd (doneLab Lk (⟨1#32, (BitVec.ofNat 32 (i + 1)), xi⟩ : Rec) (0#16)).s), .int .u32 (wd (doneLab Lk (⟨1#32, (BitVec.ofNat 32 (i + 1)), xi⟩ : Rec) (0#16)).n), .int .u16 (hd (doneLab Lk (⟨1#32, (BitVec.ofNat 32 (i + 1)), xi⟩ : Rec) (0#16)).d), .int .u16 (hd (doneLab Lk (⟨1#32, (BitVec.ofNat 32 (i + 1)), xi⟩ : Rec) (0#16)).l)]⟩, ⟨gW, 34, bs (cat12 (updB (xi.take (k + 1)) Bk))⟩]) (fun _ h => dd_store HS84 1 ((Int.toNat xk.1) * 32) rfl rfl (H101.ev 91 rfl) (H101.ev 90 rfl) (by rw [show Value.cells (.agg (bs xk.2)) = bs xk.2 from rfl, show (bs xk.2).size = 32 from ((size_bs _).trans hwk.1)]; kernel_rfl) (by rw [show (Value.agg (bs xk.2)).cells.size = 32 from ((size_bs _).trans hwk.1), show (bs (cat12 (updB (xi.take k) Bk))).size = 384 from ((size_bs _).trans (cat12_len (updB_len hBk (xi.take k) (fun x9 hx9 => (hwf x9 (List.mem_of_mem_take hx9)).1))))]; omega) (one_bs _) ((spl_blkN _ _ _).trans (congrArg bs ((cat12_set (updB_len hBk (xi.take k) (fun x9 hx9 => (hwf x9 (List.mem_of_mem_take hx9)).1)) (by omega) hwk.1).trans (congrArg cat12 (updB_S hxk hatk.1).symm)))) h) fun _ HS102 => sx_ (sxi (HZ84.move HS102).st [0, 1] rfl) fun hx103 => ?_
    clear H99 H100 HS84 hx82
    refine wpAnyH_done (by kernel_rfl) ?_ _
    clear hx103
    refine bn <| nx <| rl_ <| wl_ <| p_ H101 rfl rfl fun _ H104 => wl_ <| i_ H104 rfl (v := .int .i64 (k + 1)) (dd_ari rfl (H104.ev 73 rfl) rfl rfl (i64_of (by first | omega | (have := bd_lo; omega)) (by omega))) fun _ H105 => wl_ <| p_ H105 rfl rfl fun _ H106 => ln_ <| ?_
    clear H101 H104 H105
    have H107 := H106.sel [0, 3, 4, 6, 7, 8] rfl
    clear H106
    refine nx ⟨k + 1, ⟨(by omega), H107.sel [0, 3, 4, 6, 7, 8] rfl, (HZ84.move HS102).sel [0, 1] [0]⟩, (by omega)⟩
   refine wl_ <| i_ H78 rfl (dd_cmp rfl (H78.ev 66 rfl) (H78.ev 71 rfl) (lt_f hc80)) fun _ H108 => ln_ <| nx <| cf_ H108 rfl <| wp_exit <| tx <| tx <| bx <| bn <| nx <| rl_ <| wl_ <| p_ H108 rfl rfl fun _ H109 => wl_ <| i_ H109 rfl (v := .int .i64 (i + 1)) (dd_ari rfl (H109.ev 42 rfl) rfl rfl (i64_of (by first | omega | (have := bd_lo; omega)) (by omega))) fun _ H110 => wl_ <| p_ H110 rfl rfl fun _ H111 => ln_ <| ?_
   clear H78 H108 H109 H110
   have HXr112 : Rs w noF [⟨gn16, 69, #[.pointer (some ⟨gd11, 0, none⟩), .int .u32 (wd (doneLab Lk (⟨1#32, (BitVec.ofNat 32 (i + 1)), xi⟩ : Rec) (0#16)).e), .int .u32 (wd (doneLab Lk (⟨1#32, (BitVec.ofNat 32 (i + 1)), xi⟩ : Rec) (0#16)).s), .int .u32 (wd (doneLab Lk (⟨1#32, (BitVec.ofNat 32 (i + 1)), xi⟩ : Rec) (0#16)).n), .int .u16 (hd (doneLab Lk (⟨1#32, (BitVec.ofNat 32 (i + 1)), xi⟩ : Rec) (0#16)).d), .int .u16 (hd (doneLab Lk (⟨1#32, (BitVec.ofNat 32 (i + 1)), xi⟩ : Rec) (0#16)).l)]⟩, ⟨gW, 34, bs (cat12 (updB (xi.take k) Bk))⟩] [dskT D (.pointer (some ⟨gd11, 0, none⟩)) (rest s60 (-1))] wL73 := (HZ74.move HS74)
   rw [show xi.take k = xi from List.take_of_length_le (by omega)] at HXr112
   clear HS74 HZ74
   obtain ⟨G113, HZ113, HS113⟩ := HXr112.anchor
   clear HXr112
   refine nx ⟨i + 1, ⟨s60, (doneLab Lk (⟨1#32, (BitVec.ofNat 32 (i + 1)), xi⟩ : Rec) (0#16)), (updB xi Bk), (by omega), hN60, (updB_len hBk xi (fun x9 hx9 => (hwf x9 hx9).1)), (nb_s _ _ _ _), H111.sel [0, 3, 4, 6, 7] rfl, (HZ113.move HS113).sel [0, 1] [0]⟩, (by omega)⟩
  refine wl_ <| i_ H38 rfl (dd_cmp rfl (H38.ev 38 rfl) (H38.ev 40 rfl) (lt_f hc40)) fun _ H114 => ln_ <| nx <| cf_ H114 rfl <| wp_exit <| tx <| tx <| bx <| nx <| sq_ <| rl_ <| wl_ <| p_ H114 rfl rfl fun _ H115 => wl_ <| c_ H115 rfl HS36 (dcs Try.func16 rfl (args1 (H115.ev 92 rfl)) (ndlabel_at gn16 _ Lk wL35 (HS36.row 0 rfl)) (.agg #[.int .u32 (wd Lk.e), .int .u32 (wd Lk.s), .int .u32 (wd Lk.n), .int .u16 (hd Lk.d), .int .u16 (hd Lk.l)])) fun _ HS116 _ H116 => wl_ <| n_ H116 rfl (fun _ h => dd_new HS116 #[.int .u32 0, .int .u32 0, .int .u32 0, .int .u16 0, .int .u16 0] rfl (z := .agg #[.int .u32 0, .int .u32 0, .int .u32 0, .int .u16 0, .int .u16 0]) (by kernel_rfl) rfl h) fun g9 _ HS117 _ H117 => wl_ <| t_ rfl (fun _ h => dd_setrow HS117 2 rfl rfl (H117.ev 9 rfl) (H117.ev 93 rfl) (by kernel_rfl) (rfl : #[.int .u32 (wd Lk.e), .int .u32 (wd Lk.s), .int .u32 (wd Lk.n), .int .u16 (hd Lk.d), .int .u16 (hd Lk.l)].size = 5) (rfl : #[.int .u32 0, .int .u32 0, .int .u32 0, .int .u16 0, .int .u16 0].size = 5) (one_l (ao_cons rfl (ao_cons rfl (ao_cons rfl (ao_cons rfl (ao_cons rfl ao_nil)))))) h) fun _ HS118 => ln_ <| nx <| sq_ <| sq_ <| rl_ <| wl_ <| p_ H117 rfl rfl fun _ H119 => ln_ <| nx <| wp_block <| ?_
  clear H38 H114 H115 HS36 HS116 H116 HS117 H117
  refine wp_loopG (ι := Nat) (fun j4 a9 w9 => (j4 ≤ 12) ∧ En 152 [(10, .int .i64 j4), (9, .pointer (some ⟨g9, 0, none⟩)), (6, .pointer (some ⟨gW, 0, none⟩)), (4, .pointer (some ⟨gn16, 0, none⟩)), (3, .pointer (some ⟨gd11, 0, none⟩))] a9 ∧ Rs w noF [⟨gn16, 69, #[.pointer (some ⟨gd11, 0, none⟩), .int .u32 (wd Lk.e), .int .u32 (wd Lk.s), .int .u32 (wd Lk.n), .int .u16 (hd Lk.d), .int .u16 (hd Lk.l)]⟩, ⟨gW, 34, bs (cat12 Bk)⟩, ⟨g9, 37, #[.int .u32 (wd Lk.e), .int .u32 (wd Lk.s), .int .u32 (wd Lk.n), .int .u16 (hd Lk.d), .int .u16 (hd Lk.l)]⟩] [dskT D (.pointer (some ⟨gd11, 0, none⟩)) (rest sL (-1))] w9) (fun j4 => 12 - j4) (0) ⟨(Nat.zero_le _), H119.sel [3, 4, 6, 9, 10] rfl, (HZ36.move HS118).sel [0, 1, 2] [0]⟩ ?_
  clear H119 HS118 HZ36
  rintro j4 aL120 wL120 ⟨hj4, HL120, HXL120⟩
  obtain ⟨G121, HZ121, HS121⟩ := HXL120.anchor
  clear HXL120
  refine sq_ <| sq_ <| rl_ <| wl_ <| p_ HL120 rfl rfl fun _ H122 => ?_
  clear HL120
  by_cases hc124 : (j4 : Int) < 12
  ·
   refine wl_ <| i_ H122 rfl (dd_cmp rfl (H122.ev 94 rfl) rfl (lt_t hc124)) fun _ H125 => ln_ <| nx <| ct_ H125 rfl <| wp_skip <| nx <| sq_ <| wp_block <| sq_ <| rl_ <| q_ H125 2 rfl fun _ H126 => ?_
   clear H122 H125
   refine wl_ <| d_ H126 rfl (R := fun v w9 => v = .tuple #[.agg (bs (Bk j4)), .int .i64 0] ∧ ((Bk j4).length = 32) ∧ Below wL120.heap.size wL120 w9) (dc_ Try.func18 rfl (args2 (H126.ev 99 rfl) (H126.ev 100 rfl)) (lw_block j4 ((HZ121.move HS121).sel [] [0]) (HS121.row 0 rfl) hNL (by omega)) (fun _ w9 h9 => ⟨_, h9.1, rfl, (lw_sec ((HZ121.move HS121).sel [] [0]) hNL j4 (by omega)), h9.2⟩)) ?_
   rintro _ W128 ⟨rfl, hbl129, hb128⟩ a128 H128
   have HS128 := HS121.same hb128
   clear H126
   clear HS121 hb128
   refine wl_ <| p_ H128 rfl rfl fun _ H130 => wl_ <| i_ H130 rfl (v := .agg (bs (Bk j4))) (dd_ext rfl (H130.ev 98 rfl) rfl) fun _ H131 => wl_ <| i_ H131 rfl (v := .int .i64 0) (dd_ext rfl (H131.ev 98 rfl) rfl) fun _ H132 => wl_ <| n_ H132 rfl (fun _ h => dd_new HS128 (bs (zer 32)) rfl (z := .agg (bs (zer 32))) (by kernel_rfl) rfl h) fun g11 _ HS133 _ H133 => wl_ <| t_ rfl (S := [⟨gn16, 69, #[.pointer (some ⟨gd11, 0, none⟩), .int .u32 (wd Lk.e), .int .u32 (wd Lk.s), .int .u32 (wd Lk.n), .int .u16 (hd Lk.d), .int .u16 (hd Lk.l)]⟩, ⟨gW, 34, bs (cat12 Bk)⟩, ⟨g9, 37, #[.int .u32 (wd Lk.e), .int .u32 (wd Lk.s), .int .u32 (wd Lk.n), .int .u16 (hd Lk.d), .int .u16 (hd Lk.l)]⟩, ⟨g11, 33, bs (Bk j4)⟩]) (fun _ h => dd_setrow HS133 3 rfl rfl (H133.ev 11 rfl) (H133.ev 102 rfl) (by kernel_rfl) (((size_bs _).trans hbl129) : (bs (Bk j4)).size = 32) (((size_bs _).trans (length_zer 32)) : (bs (zer 32)).size = 32) (one_bs _) h) fun _ HS134 => wl_ <| p_ H133 rfl rfl fun _ H135 => ln_ <| nx <| sq_ <| ?_
   clear H128 H130 H131 HS128 H132 HS133 H133
   refine wr_ (HZ121.move HS134) [0, 1, 2, 3] [0, 1, 2, 3] rfl rfl fun HXd137 hx136 => ?_
   obtain ⟨G138, HZ138, HS138⟩ := HXd137.anchor
   clear HXd137
   refine hp_ H135 0 hx136 rfl rfl rfl fun _ H139 => ht_ H139 1 hx136 rfl rfl (fun _ _ _ => dd_cmp rfl (H139.ev 104 rfl) rfl (ne_f (by decide))) fun _ H140 => hp_ H140 2 hx136 rfl rfl rfl fun _ H141 => htg H141 3 hx136 rfl (wg_ H141 rfl rfl rfl rfl) rfl (v := .agg (bs (Bk j4))) (fun _ _ HS9 => dd_load HS9 3 0 rfl rfl (H141.ev 11 rfl) (slab_whole _) Try.underlying33 rfl (by rw [show (bs (Bk j4)).size = 32 from ((size_bs _).trans hbl129)]; kernel_rfl)) fun _ H142 => htg H142 4 hx136 rfl (wg_ H142 rfl rfl rfl rfl) rfl (fun _ _ _ => dd_mv rfl (H142.ev 10 rfl)) fun _ H143 => htg H143 5 hx136 rfl (wg_ H143 rfl rfl rfl rfl) rfl (fun _ _ _ => xAo 12 32 (j4 * 32) rfl (H143.ev 6 rfl) (H143.ev 108 rfl)) fun _ H144 => htg H144 6 hx136 rfl (wg_ H144 rfl rfl rfl rfl) rfl (v := .agg (bs (((cat12 Bk).drop (j4 * 32)).take 32))) (fun _ _ HS9 => dd_load HS9 1 (j4 * 32) rfl rfl (H144.ev 109 rfl) (bs_slab (cat12_len hBk) (j4 * 32) 32 (by omega)) Try.underlying33 rfl (by rw [show (bs (((cat12 Bk).drop (j4 * 32)).take 32)).size = 32 from ((size_bs _).trans (len_take (n := 384 - j4 * 32) (len_drop (cat12_len hBk) rfl) (by omega)))]; kernel_rfl)) fun _ H145 => htg H145 7 hx136 rfl (wg_ H145 rfl rfl rfl rfl) rfl (v := .bool false) (fun _ _ _ => dd_nea (b := true) rfl (H145.ev 107 rfl) (H145.ev 110 rfl) (by kernel_rfl) (fun w => by have h9 := eql_blk (Bk j4) (((cat12 Bk).drop (j4 * 32)).take 32) hbl129 (len_take (n := 384 - j4 * 32) (len_drop (cat12_len hBk) rfl) (by omega)) w; rw [decide_eq_true (show (Bk j4) = ((cat12 Bk).drop (j4 * 32)).take 32 from (cat12_get hBk (by omega)).symm)] at h9; exact h9) rfl) fun _ H146 => ?_
   clear H135 H139 H140 H141 H142 H143 H144
   refine hp_ H146 8 hx136 rfl rfl rfl fun _ H147 => ?_
   clear H145 H146
   refine wpAnyH_done (by kernel_rfl) ?_ _
   clear hx136
   refine nx <| cf_ H147 rfl <| wp_skip <| bn <| nx <| rl_ <| wl_ <| p_ H147 rfl rfl fun _ H148 => wl_ <| i_ H148 rfl (v := .int .i64 (j4 + 1)) (dd_ari rfl (H148.ev 96 rfl) rfl rfl (i64_of (by first | omega | (have := bd_lo; omega)) (by omega))) fun _ H149 => wl_ <| p_ H149 rfl rfl fun _ H150 => ln_ <| ?_
   clear H147 H148 H149
   have H151 := H150.sel [3, 4, 6, 9, 10] rfl
   clear H150
   refine nx ⟨j4 + 1, ⟨(by omega), H151.sel [3, 4, 6, 9, 10] rfl, (HZ138.move HS138).sel [0, 1, 2] [0]⟩, (by omega)⟩
  refine wl_ <| i_ H122 rfl (dd_cmp rfl (H122.ev 94 rfl) rfl (lt_f hc124)) fun _ H152 => ln_ <| nx <| cf_ H152 rfl <| wp_exit <| tx <| tx <| bx <| nx <| sq_ <| rl_ <| wl_ <| p_ H152 rfl rfl fun _ H153 => ?_
  clear H122 H152
  obtain ⟨Gc154, hc154, hf154, hk154, hq154⟩ := Rs.reframe (R1 := []) (R2 := [⟨gn16, 69, #[.pointer (some ⟨gd11, 0, none⟩), .int .u32 (wd Lk.e), .int .u32 (wd Lk.s), .int .u32 (wd Lk.n), .int .u16 (hd Lk.d), .int .u16 (hd Lk.l)]⟩, ⟨gW, 34, bs (cat12 Bk)⟩, ⟨g9, 37, #[.int .u32 (wd Lk.e), .int .u32 (wd Lk.s), .int .u32 (wd Lk.n), .int .u16 (hd Lk.d), .int .u16 (hd Lk.l)]⟩]) (Q1 := [dskT D (.pointer (some ⟨gd11, 0, none⟩)) (rest sL (-1))]) (Q2 := []) ((HZ121.move HS121).sel [0, 1, 2] [0])
  refine wl_ <| d_ H153 rfl (R := fun v9 w9 => v9 = .tuple #[] ∧ Rs w noF [⟨gn16, 69, #[.pointer (some ⟨gd11, 0, none⟩), .int .u32 (wd Lk.e), .int .u32 (wd Lk.s), .int .u32 (wd Lk.n), .int .u16 (hd Lk.d), .int .u16 (hd Lk.l)]⟩, ⟨gW, 34, bs (cat12 Bk)⟩, ⟨g9, 37, #[.int .u32 (wd Lk.e), .int .u32 (wd Lk.s), .int .u32 (wd Lk.n), .int .u16 (hd Lk.d), .int .u16 (hd Lk.l)]⟩] [dskT D (.pointer (some ⟨gd11, 0, none⟩)) (rest sL (-1))] w9) (dc_ Try.func17 rfl (args2 (H153.ev 113 rfl) (show _ = (.slice none 0 0 : Value) from rfl)) (lw_up (.slice none 0 0) ([]) hc154 (slice_nil0 _) (by decide) (fun _ h9 => by cases h9)) (fun _ w9 ⟨he, hX⟩ => ⟨_, he, rfl, hk154 _ _ _ hX⟩)) ?_
  rintro _ W154 ⟨rfl, HX154⟩ a154 H154
  clear hc154 hk154 hf154 hq154 HS121 HZ121
  clear H153
  obtain ⟨G155, HZ155, HS155⟩ := HX154.anchor
  clear HX154
  refine ln_ <| nx <| sq_ <| rl_ <| wl_ <| p_ H154 rfl rfl fun _ H156 => ?_
  clear H154
  obtain ⟨Gc158, hc158, hf158, hk158, hq158⟩ := Rs.reframe (R1 := []) (R2 := [⟨gn16, 69, #[.pointer (some ⟨gd11, 0, none⟩), .int .u32 (wd Lk.e), .int .u32 (wd Lk.s), .int .u32 (wd Lk.n), .int .u16 (hd Lk.d), .int .u16 (hd Lk.l)]⟩, ⟨gW, 34, bs (cat12 Bk)⟩, ⟨g9, 37, #[.int .u32 (wd Lk.e), .int .u32 (wd Lk.s), .int .u32 (wd Lk.n), .int .u16 (hd Lk.d), .int .u16 (hd Lk.l)]⟩]) (Q1 := [dskT D (.pointer (some ⟨gd11, 0, none⟩)) (rest sL (-1))]) (Q2 := []) ((HZ155.move HS155).sel [0, 1, 2] [0])
  refine wl_ <| d_ H156 rfl (R := fun v9 w9 => ∃ gn157 : Nat, v9 = .tuple #[.pointer (some ⟨gn157, 0, none⟩), .int .i64 0] ∧ Rs w noF [⟨gn157, 69, #[.pointer (some ⟨gd11, 0, none⟩), .int .u32 (wd Lk.e), .int .u32 (wd Lk.s), .int .u32 (wd Lk.n), .int .u16 (hd Lk.d), .int .u16 (hd Lk.l)]⟩, ⟨gn16, 69, #[.pointer (some ⟨gd11, 0, none⟩), .int .u32 (wd Lk.e), .int .u32 (wd Lk.s), .int .u32 (wd Lk.n), .int .u16 (hd Lk.d), .int .u16 (hd Lk.l)]⟩, ⟨gW, 34, bs (cat12 Bk)⟩, ⟨g9, 37, #[.int .u32 (wd Lk.e), .int .u32 (wd Lk.s), .int .u32 (wd Lk.n), .int .u16 (hd Lk.d), .int .u16 (hd Lk.l)]⟩] [dskT D (.pointer (some ⟨gd11, 0, none⟩)) (rest sL (-1))] w9) (dc_ Try.func10 rfl (args1 (H156.ev 116 rfl)) (lw_open (O := O) hc158 hNL) (fun _ w9 ⟨gn157, he, hX⟩ => ⟨_, he, gn157, rfl, hk158 _ _ _ hX⟩)) ?_
  rintro _ W158 ⟨gn157, rfl, HX158⟩ a158 H158
  clear hc158 hk158 hf158 hq158 HS155 HZ155
  clear H156
  obtain ⟨G159, HZ159, HS159⟩ := HX158.anchor
  clear HX158
  refine wl_ <| p_ H158 rfl rfl fun _ H160 => wl_ <| i_ H160 rfl (v := .pointer (some ⟨gn157, 0, none⟩)) (dd_ext rfl (H160.ev 115 rfl) rfl) fun _ H161 => wl_ <| i_ H161 rfl (v := .int .i64 0) (dd_ext rfl (H161.ev 115 rfl) rfl) fun _ H162 => q_ H162 2 rfl fun _ H163 => ln_ <| nx <| sq_ <| sq_ <| ?_
  clear H158 H160 H161 H162
  refine wr_ (HZ159.move HS159) [0, 1, 2, 3] [0, 1, 2, 3] rfl rfl fun HXd165 hx164 => ?_
  obtain ⟨G166, HZ166, HS166⟩ := HXd165.anchor
  clear HXd165
  refine hp_ H163 0 hx164 rfl rfl rfl fun _ H167 => ht_ H167 1 hx164 rfl rfl (fun _ _ _ => dd_cmp rfl (H167.ev 120 rfl) rfl (ne_f (by decide))) fun _ H168 => hp_ H168 2 hx164 rfl rfl rfl fun _ H169 => htg H169 3 hx164 rfl (wg_ H169 rfl rfl rfl rfl) rfl (fun _ _ _ => dd_mv rfl (H169.ev 13 rfl)) fun _ H170 => htg H170 4 hx164 rfl (wg_ H170 rfl rfl rfl rfl) rfl (v := .bool false) (fun _ _ _ => dd_eqp rfl (H170.ev 123 rfl) rfl Try.underlying28 rfl) fun _ H171 => hp_ H171 5 hx164 rfl rfl rfl fun _ H172 => hp_ H172 6 hx164 rfl rfl rfl fun _ H173 => htg H173 7 hx164 rfl (wg_ H173 rfl rfl rfl rfl) rfl (fun _ _ _ => dd_mv rfl (H173.ev 13 rfl)) fun _ H174 => ?_
  clear H163 H167 H168 H169 H170 H171 H172
  refine htg H174 9 hx164 rfl (wg_ H174 rfl rfl rfl rfl) rfl (v := .agg #[.int .u32 (wd Lk.e), .int .u32 (wd Lk.s), .int .u32 (wd Lk.n), .int .u16 (hd Lk.d), .int .u16 (hd Lk.l)]) (fun _ _ HS9 => dd_load HS9 3 0 rfl rfl (H174.ev 9 rfl) (slab_whole _) Try.underlying37 rfl (by kernel_rfl)) fun _ H175 => h1_ 8 rfl <| cg H175 (wg_ H175 rfl rfl rfl rfl) rfl HS166 (dcs Try.func16 rfl (args1 (H175.ev 127 rfl)) (ndlabel_at gn157 _ Lk W158.drew (HS166.row 0 rfl)) (.agg #[.int .u32 (wd Lk.e), .int .u32 (wd Lk.s), .int .u32 (wd Lk.n), .int .u16 (hd Lk.d), .int .u16 (hd Lk.l)])) fun _ HS176 _ H176 => sx_ (sxi (HZ166.move HS176).st [0, 1, 2, 3] rfl) fun hx177 => htg H176 10 hx177 rfl (wg_ H176 rfl rfl rfl rfl) rfl (v := .bool false) (fun _ _ _ => dd_nea (b := true) rfl (H176.ev 128 rfl) (H176.ev 129 rfl) (by kernel_rfl) (fun w => by have h9 := eql_lab Lk Lk w; rw [decide_eq_true rfl] at h9; exact h9) rfl) fun _ H178 => hp_ H178 11 hx177 rfl rfl rfl fun _ H179 => ?_
  clear H173 H174 H175 HS166 hx164 H176 H178
  refine wpAnyH_done (by kernel_rfl) ?_ _
  clear hx177
  refine nx <| cf_ H179 rfl <| wp_skip <| nx <| sq_ <| sq_ <| rl_ <| wl_ <| p_ H179 rfl rfl fun _ H180 => ln_ <| ?_
  clear H179
  have H181 := H180.sel [6, 13, 15] rfl
  refine nx <| wp_block <| ?_
  clear H180
  refine wp_loopG (ι := Nat) (fun j6 a9 w9 => (j6 ≤ 12) ∧ En 152 [(15, .int .i64 j6), (13, .pointer (some ⟨gn157, 0, none⟩)), (6, .pointer (some ⟨gW, 0, none⟩))] a9 ∧ Rs w noF [⟨gn157, 69, #[.pointer (some ⟨gd11, 0, none⟩), .int .u32 (wd Lk.e), .int .u32 (wd Lk.s), .int .u32 (wd Lk.n), .int .u16 (hd Lk.d), .int .u16 (hd Lk.l)]⟩, ⟨gn16, 69, #[.pointer (some ⟨gd11, 0, none⟩), .int .u32 (wd Lk.e), .int .u32 (wd Lk.s), .int .u32 (wd Lk.n), .int .u16 (hd Lk.d), .int .u16 (hd Lk.l)]⟩, ⟨gW, 34, bs (cat12 Bk)⟩, ⟨g9, 37, #[.int .u32 (wd Lk.e), .int .u32 (wd Lk.s), .int .u32 (wd Lk.n), .int .u16 (hd Lk.d), .int .u16 (hd Lk.l)]⟩] [dskT D (.pointer (some ⟨gd11, 0, none⟩)) (rest sL (-1))] w9) (fun j6 => 12 - j6) (0) ⟨(Nat.zero_le _), H181.sel [6, 13, 15] rfl, (HZ166.move HS176).sel [0, 1, 2, 3] [0]⟩ ?_
  clear H181 HS176 HZ166
  rintro j6 aL182 wL182 ⟨hj6, HL182, HXL182⟩
  obtain ⟨G183, HZ183, HS183⟩ := HXL182.anchor
  clear HXL182
  refine sq_ <| sq_ <| rl_ <| wl_ <| p_ HL182 rfl rfl fun _ H184 => ?_
  clear HL182
  by_cases hc186 : (j6 : Int) < 12
  ·
   refine wl_ <| i_ H184 rfl (dd_cmp rfl (H184.ev 132 rfl) rfl (lt_t hc186)) fun _ H187 => ln_ <| nx <| ct_ H187 rfl <| wp_skip <| nx <| sq_ <| wp_block <| sq_ <| rl_ <| q_ H187 2 rfl fun _ H188 => ?_
   clear H184 H187
   refine wl_ <| d_ H188 rfl (R := fun v w9 => v = .tuple #[.agg (bs (Bk j6)), .int .i64 0] ∧ ((Bk j6).length = 32) ∧ Below wL182.heap.size wL182 w9) (dc_ Try.func18 rfl (args2 (H188.ev 137 rfl) (H188.ev 138 rfl)) (lw_block j6 ((HZ183.move HS183).sel [] [0]) (HS183.row 0 rfl) hNL (by omega)) (fun _ w9 h9 => ⟨_, h9.1, rfl, (lw_sec ((HZ183.move HS183).sel [] [0]) hNL j6 (by omega)), h9.2⟩)) ?_
   rintro _ W190 ⟨rfl, hbl191, hb190⟩ a190 H190
   have HS190 := HS183.same hb190
   clear H188
   clear HS183 hb190
   refine wl_ <| p_ H190 rfl rfl fun _ H192 => wl_ <| i_ H192 rfl (v := .agg (bs (Bk j6))) (dd_ext rfl (H192.ev 136 rfl) rfl) fun _ H193 => wl_ <| i_ H193 rfl (v := .int .i64 0) (dd_ext rfl (H193.ev 136 rfl) rfl) fun _ H194 => wl_ <| n_ H194 rfl (fun _ h => dd_new HS190 (bs (zer 32)) rfl (z := .agg (bs (zer 32))) (by kernel_rfl) rfl h) fun g16 _ HS195 _ H195 => wl_ <| t_ rfl (S := [⟨gn157, 69, #[.pointer (some ⟨gd11, 0, none⟩), .int .u32 (wd Lk.e), .int .u32 (wd Lk.s), .int .u32 (wd Lk.n), .int .u16 (hd Lk.d), .int .u16 (hd Lk.l)]⟩, ⟨gn16, 69, #[.pointer (some ⟨gd11, 0, none⟩), .int .u32 (wd Lk.e), .int .u32 (wd Lk.s), .int .u32 (wd Lk.n), .int .u16 (hd Lk.d), .int .u16 (hd Lk.l)]⟩, ⟨gW, 34, bs (cat12 Bk)⟩, ⟨g9, 37, #[.int .u32 (wd Lk.e), .int .u32 (wd Lk.s), .int .u32 (wd Lk.n), .int .u16 (hd Lk.d), .int .u16 (hd Lk.l)]⟩, ⟨g16, 33, bs (Bk j6)⟩]) (fun _ h => dd_setrow HS195 4 rfl rfl (H195.ev 16 rfl) (H195.ev 140 rfl) (by kernel_rfl) (((size_bs _).trans hbl191) : (bs (Bk j6)).size = 32) (((size_bs _).trans (length_zer 32)) : (bs (zer 32)).size = 32) (one_bs _) h) fun _ HS196 => wl_ <| p_ H195 rfl rfl fun _ H197 => ln_ <| nx <| sq_ <| ?_
   clear H190 H192 H193 HS190 H194 HS195 H195
   refine wr_ (HZ183.move HS196) [0, 1, 2, 3, 4] [0, 1, 2, 3, 4] rfl rfl fun HXd199 hx198 => ?_
   obtain ⟨G200, HZ200, HS200⟩ := HXd199.anchor
   clear HXd199
   refine hp_ H197 0 hx198 rfl rfl rfl fun _ H201 => ht_ H201 1 hx198 rfl rfl (fun _ _ _ => dd_cmp rfl (H201.ev 142 rfl) rfl (ne_f (by decide))) fun _ H202 => hp_ H202 2 hx198 rfl rfl rfl fun _ H203 => htg H203 3 hx198 rfl (wg_ H203 rfl rfl rfl rfl) rfl (v := .agg (bs (Bk j6))) (fun _ _ HS9 => dd_load HS9 4 0 rfl rfl (H203.ev 16 rfl) (slab_whole _) Try.underlying33 rfl (by rw [show (bs (Bk j6)).size = 32 from ((size_bs _).trans hbl191)]; kernel_rfl)) fun _ H204 => htg H204 4 hx198 rfl (wg_ H204 rfl rfl rfl rfl) rfl (fun _ _ _ => dd_mv rfl (H204.ev 15 rfl)) fun _ H205 => htg H205 5 hx198 rfl (wg_ H205 rfl rfl rfl rfl) rfl (fun _ _ _ => xAo 12 32 (j6 * 32) rfl (H205.ev 6 rfl) (H205.ev 146 rfl)) fun _ H206 => htg H206 6 hx198 rfl (wg_ H206 rfl rfl rfl rfl) rfl (v := .agg (bs (((cat12 Bk).drop (j6 * 32)).take 32))) (fun _ _ HS9 => dd_load HS9 2 (j6 * 32) rfl rfl (H206.ev 147 rfl) (bs_slab (cat12_len hBk) (j6 * 32) 32 (by omega)) Try.underlying33 rfl (by rw [show (bs (((cat12 Bk).drop (j6 * 32)).take 32)).size = 32 from ((size_bs _).trans (len_take (n := 384 - j6 * 32) (len_drop (cat12_len hBk) rfl) (by omega)))]; kernel_rfl)) fun _ H207 => htg H207 7 hx198 rfl (wg_ H207 rfl rfl rfl rfl) rfl (v := .bool false) (fun _ _ _ => dd_nea (b := true) rfl (H207.ev 145 rfl) (H207.ev 148 rfl) (by kernel_rfl) (fun w => by have h9 := eql_blk (Bk j6) (((cat12 Bk).drop (j6 * 32)).take 32) hbl191 (len_take (n := 384 - j6 * 32) (len_drop (cat12_len hBk) rfl) (by omega)) w; rw [decide_eq_true (show (Bk j6) = ((cat12 Bk).drop (j6 * 32)).take 32 from (cat12_get hBk (by omega)).symm)] at h9; exact h9) rfl) fun _ H208 => ?_
   clear H197 H201 H202 H203 H204 H205 H206
   refine hp_ H208 8 hx198 rfl rfl rfl fun _ H209 => ?_
   clear H207 H208
   refine wpAnyH_done (by kernel_rfl) ?_ _
   clear hx198
   refine nx <| cf_ H209 rfl <| wp_skip <| bn <| nx <| rl_ <| wl_ <| p_ H209 rfl rfl fun _ H210 => wl_ <| i_ H210 rfl (v := .int .i64 (j6 + 1)) (dd_ari rfl (H210.ev 134 rfl) rfl rfl (i64_of (by first | omega | (have := bd_lo; omega)) (by omega))) fun _ H211 => wl_ <| p_ H211 rfl rfl fun _ H212 => ln_ <| ?_
   clear H209 H210 H211
   have H213 := H212.sel [6, 13, 15] rfl
   clear H212
   refine nx ⟨j6 + 1, ⟨(by omega), H213.sel [6, 13, 15] rfl, (HZ200.move HS200).sel [0, 1, 2, 3] [0]⟩, (by omega)⟩
  refine wl_ <| i_ H184 rfl (dd_cmp rfl (H184.ev 132 rfl) rfl (lt_f hc186)) fun _ H214 => ln_ <| nx <| cf_ H214 rfl <| wp_exit <| tx <| tx <| bx <| nx <| sq_ <| rl_ <| wl_ <| c_ H214 rfl HS183 (dcs Try.func8 rfl (args0 ) (ndwakes D O wL182) (.bool true)) fun _ HS215 _ H215 => wl_ <| p_ H215 rfl rfl fun _ H216 => ln_ <| nx <| wp_ret <| ret_run H216.env0 (res_t Try.results6 (H216.get 2 rfl)) <| ?_
  clear H184 H214 HS183 H215
  exact ⟨rfl, (HZ183.bel HS215)⟩
end Go.Proofs.Ytiabfojcfcpdiaa

/- NodeBlocks: for every list of lists of puts the call returns true and changes nothing that it was handed. Conditions: those of the row. -/
set_option maxRecDepth 4000
namespace Go.Proofs.Ytiabfojcfcpdiaa.nodeBlocks
open Go Go.ChangeShapes Go.WideShapes Go.ChangeAt Go.RowKit

theorem contract (H : Type) (enc : TypeId × Value → H) (W : World) (base : Nat) (args : Array Value) (ds gs : List (DataW H)) (before : List MemPlace)
    (hval : ∀ (j : Nat) t v, Try.f6.params[j]? = some t → args[j]? = some v → Value.okWide Try.prog W .any base t v)
    (hW : DataW.Whole enc Try.prog Try.f6.params.toList Rows.nodeBlocksSpec.vars false W args.toList ds gs before) :
    Calls Try.prog 6 args W fun e W' => ∃ v, e = .returned v ∧ Rows.nodeBlocksSpec.post enc Try.prog Try.f6 false true false false W args v W' := by
  have hW' := hW
  obtain ⟨p, q, hA0, hV, rfl, _, _⟩ := hW
  have hA : DataW.TrodAll enc Try.prog W 0 (fun _ => true) true Try.f6.params.toList args.toList ds p := hA0
  rw [Try.params6] at hA hval
  obtain ⟨v0, vs0, d0, ds0, p0, q0, hargs, rfl, rfl, h0, r0⟩ := trodAll_cons hA
  obtain ⟨rfl, rfl, rfl⟩ := trodAll_nil r0
  obtain rfl : args = #[v0] := by cases args; simp_all
  obtain ⟨rfl, rfl⟩ := trodVars_none hV
  have hlt0 : ∀ x ∈ p0, x.block < W.heap.size := fun x hx => hW'.lt x (by simp [hx])
  obtain ⟨A0, n0, c0, l0, rfl, hS0, hm0⟩ := open_pps (hval 0 60 v0 rfl rfl) h0 hlt0
  refine (nblocks_walk diskOps walOps A0 n0 c0 l0 W hS0 hm0).mono fun e W' ⟨he, hb⟩ => ?_
  subst he
  exact ⟨_, rfl, [d0], [], _, [], _, [], hW', trodAll_cons_mk (shut_bool Try.underlying4 _) trodAll_mk0, trodAll_cons_mk (Below.trod laidOutT (by kernel_rfl) (of_decide_eq_true (by kernel_rfl)) h0 hb hlt0) trodAll_mk0, rfl, hb.frame _, fun h => by cases h⟩

set_option maxRecDepth 100000 in
theorem lifted (os : Os) (started : os.Started) (H : Type) (enc : TypeId × Value → H) :
    ReturnsInHanded {} Try.checked os 6 .any (Rows.nodeBlocksSpec.pre6 enc Try.prog Try.f6 Rows.nodeBlocksRow.domain false) (Rows.nodeBlocksSpec.post enc Try.prog Try.f6 false true false false) := by
  refine returnsInHanded_of_change (C := Try.checked) ownK started (by kernel_rfl) Try.func6
    (ChangeSpec.witness6 (enc := enc) (C := Try.checked) false ⟨#[], #[.slice none 0 0], []⟩ 8 (by kernel_rfl) (by kernel_rfl) (by kernel_rfl) (by kernel_rfl)) ?_
  intro W base args ds gs before hval hW _ _
  exact contract H enc W base args ds gs before hval hW

theorem said : Rows.NodeBlocksSaid :=
  OpenClaim.holds_of_wide 6 Try.f6 rfl rfl rfl rfl rfl rfl rfl ⟨rfl, rfl, rfl, rfl, rfl⟩ rfl rfl rfl rfl rfl (by kernel_rfl) Try.func6 (by kernel_rfl)
    (of_decide_eq_true (by kernel_rfl)) (by unfold Func.isWrapper; first | (rw [if_pos (by decide +kernel)]; kernel_rfl) | (rw [if_neg (by decide +kernel)]; exact ⟨rfl, rfl⟩))
    (fun os started H enc _ => lifted os started H enc)
end Go.Proofs.Ytiabfojcfcpdiaa.nodeBlocks
