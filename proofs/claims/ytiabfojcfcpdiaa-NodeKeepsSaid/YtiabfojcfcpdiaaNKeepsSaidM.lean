/- NodeKeeps: for every list of puts, list of labels and bytes the call returns true and changes nothing that it was handed. Conditions: those of the row. -/
import Derived.Test.YtiabfojcfcpdiaaRows
import Derived.Test.YtiabfojcfcpdiaaMAw0
import Derived.Test.YtiabfojcfcpdiaaMLabel0
import Derived.Test.YtiabfojcfcpdiaaMGen0
import Derived.Test.YtiabfojcfcpdiaaMWal0
/- The statement NodeKeeps: its walk. -/
set_option maxRecDepth 4000
namespace Go.Proofs.Ytiabfojcfcpdiaa
open Go Go.RowKit
theorem nk_l (l : List (Int × List (BitVec 8))) : ndLater lab0 (⟨1#32, 1#32, l⟩ : Rec) = true := by unfold ndLater; show laterB 1#32 1#32 0#32 0#32 = true; decide
theorem nk_r {e s : BitVec 32} (h : laterB e s 1#32 0#32 = true) : laterB 1#32 1#32 e s = false := by
  unfold laterB at h ⊢
  simp only [Bool.or_eq_true, Bool.and_eq_true, decide_eq_true_eq, Bool.or_eq_false_iff, Bool.and_eq_false_imp, decide_eq_false_iff_not] at h ⊢
  have e1 : (1#32).toNat = 1 := rfl
  have e0 : (0#32).toNat = 0 := rfl
  rw [e1, e0] at h
  rw [e1]
  rcases h with h | ⟨h1, h2⟩
  · exact ⟨by omega, fun h9 => by rw [← h9, e1] at h; omega⟩
  · subst h1
    exact ⟨by omega, fun _ => by omega⟩
theorem pc_c0 {w : World} {b o : Nat} {x : Int × List (BitVec 8)} (h : w.rangeAt b o (catA [[.int .i64 x.1], bytesV x.2]).toList) : w.cell? ⟨b, o, none⟩ = some (.int .i64 x.1) := h 0 _ (by unfold catA; simp)
theorem pc_c1 {w : World} {b o : Nat} {x : Int × List (BitVec 8)} (h : w.rangeAt b o (catA [[.int .i64 x.1], bytesV x.2]).toList) : w.rangeAt b (o + 1) (bytesV x.2) := fun j v hv => by
  have := h (1 + j) v (by unfold catA; simp [Nat.add_comm 1 j]; exact hv)
  rwa [← Nat.add_assoc] at this
attribute [local irreducible] blk zer spl updB
variable (D : DiskOps) (O : WalOps D)
include O in
set_option maxHeartbeats 1600000 in
theorem nkeeps_walk (A : Option Addr) (c : Nat) (l : List (Int × List (BitVec 8))) (Al : Option Addr) (nl cl : Nat) (X : List Lab) (Ak : Option Addr) (ck : Nat) (kq : List (BitVec 8)) (w : World) (hp0' : PutsAt w (.slice A l.length c) l) (hm : l.length ≤ maxLen) (hX : LabsAt w Al nl X) (_ : nl ≤ maxLen) (hk : Slice w (.slice Ak kq.length ck) kq) (hAk : Ak = none → ck = 0) (_ : kq.length ≤ maxLen) : Calls Try.prog 7 #[.slice A l.length c, .slice Al nl cl, .slice Ak kq.length ck] w fun x w' => x = .returned (.bool true) ∧ Below w.heap.size w w' := by
  obtain ⟨n, hn⟩ : ∃ n, l.length = n := ⟨_, rfl⟩
  rw [hn] at hp0' ⊢
  have hp0 := hp0'
  have hmx : n ≤ 9223372036854775807 := by have := hm; unfold maxLen at this; omega
  have hA0 := (puts_open hp0).2.2.2
  have hwf := (puts_open hp0).2.2.1
  have HS := St.nil w noF
  have HX : Rs w noF [] [] w := Rs.of HS
  clear HS
  have HP : ∀ W, Below w.heap.size w W → PutsAt W (.slice A n c) l := fun W hb => hp0.below hb (Nat.le_refl _)
  have HK : ∀ W, Below w.heap.size w W → Slice W (.slice Ak kq.length ck) kq := fun W hb => hk.below hb (Nat.le_refl _)
  obtain ⟨G1, HZ1, HS1⟩ := HX.anchor
  clear HX
  refine enter_en Try.func7 rfl Try.ntmps7 (Nat.le_of_ble_eq_true rfl) fun a0 (HA0 : En 163 [(0, .slice A n c), (1, .slice Al nl cl), (2, .slice Ak kq.length ck)] a0) => ?_
  refine sq_ <| rl_ <| wl_ <| p_ HA0 rfl rfl fun _ H2 => ln_ <| nx <| sq_ <| sq_ <| rl_ <| wl_ <| p_ H2 rfl rfl fun _ H3 => ?_
  clear HA0 H2
  cases hb4 : goodB (l.map (·.1))
  ·
   refine wl_ <| c_ H3 rfl HS1 (v := .bool false) (dc_ Try.func12 rfl (args1 (H3.ev 22 rfl)) (refgood_any l _ w (HP _ (HZ1.bel HS1)) hm) (fun _ w9 h9 => ⟨_, h9.1, by rw [hb4], h9.2⟩)) fun W5 HS5 _ H5 => wl_ <| i_ H5 rfl (v := .bool true) (dd_nt rfl (H5.ev 23 rfl) rfl) fun _ H6 => wl_ <| p_ H6 rfl rfl fun _ H7 => wl_ <| k_ H7 (wg_ H7 rfl rfl rfl rfl) rfl fun _ H8 => wl_ <| k_ H8 (wg_ H8 rfl rfl rfl rfl) rfl fun a9 H9 => wl_ <| k_ H9 (wg_ H9 rfl rfl rfl rfl) rfl fun _ H10 => q_ H10 2 rfl fun _ H11 => wl_ <| k_ H11 (wg_ H11 rfl rfl rfl rfl) rfl fun _ H12 => ?_
   clear H3 HS1 H5 H6 H7 H8 H9 H10
   refine wl_ <| k_ H12 (wg_ H12 rfl rfl rfl rfl) rfl fun _ H13 => wl_ <| k_ H13 (wg_ H13 rfl rfl rfl rfl) rfl fun _ H14 => wl_ <| p_ H14 rfl rfl fun _ H15 => ln_ <| nx <| ct_ H15 rfl <| sq_ <| rl_ <| wl_ <| c_ H15 rfl HS5 (dcs Try.func8 rfl (args0 ) (ndwakes D O W5) (.bool true)) fun _ HS16 _ H16 => wl_ <| p_ H16 rfl rfl fun _ H17 => ln_ <| ?_
   clear H11 H12 H13 H14 H15 HS5 H16
   have H18 := H17.sel [6] rfl
   refine nx <| wp_ret <| tr <| ret_run H18.env0 (res_t Try.results7 (H18.get 6 rfl)) <| ?_
   clear H17
   exact ⟨rfl, (HZ1.bel HS16)⟩
  refine wl_ <| c_ H3 rfl HS1 (v := .bool true) (dc_ Try.func12 rfl (args1 (H3.ev 22 rfl)) (refgood_any l _ w (HP _ (HZ1.bel HS1)) hm) (fun _ w9 h9 => ⟨_, h9.1, by rw [hb4], h9.2⟩)) fun W19 HS19 _ H19 => wl_ <| i_ H19 rfl (v := .bool false) (dd_nt rfl (H19.ev 23 rfl) rfl) fun _ H20 => wl_ <| p_ H20 rfl rfl fun _ H21 => wl_ <| ig H21 (wg_ H21 rfl rfl rfl rfl) rfl (dd_mv rfl (H21.ev 1 rfl)) fun _ H22 => wl_ <| ig H22 (wg_ H22 rfl rfl rfl rfl) rfl (v := .int .i64 nl) (dd_len rfl (H22.ev 26 rfl) Try.underlying63) fun _ H23 => ?_
  clear H3 HS1 H19 H20 H21 H22
  by_cases hc25 : (20 : Int) < nl
  ·
   refine wl_ <| ig H23 (wg_ H23 rfl rfl rfl rfl) rfl (dd_cmp rfl (H23.ev 27 rfl) rfl (gt_t hc25)) fun _ H26 => q_ H26 2 rfl fun _ H27 => wl_ <| k_ H27 (wg_ H27 rfl rfl rfl rfl) rfl fun _ H28 => wl_ <| k_ H28 (wg_ H28 rfl rfl rfl rfl) rfl fun _ H29 => wl_ <| k_ H29 (wg_ H29 rfl rfl rfl rfl) rfl fun _ H30 => wl_ <| p_ H30 rfl rfl fun _ H31 => ln_ <| nx <| ct_ H31 rfl <| sq_ <| rl_ <| wl_ <| c_ H31 rfl HS19 (dcs Try.func8 rfl (args0 ) (ndwakes D O W19) (.bool true)) fun _ HS32 _ H32 => wl_ <| p_ H32 rfl rfl fun _ H33 => ?_
   clear H23 H26 H27 H28 H29 H30 H31 HS19
   refine ln_ <| ?_
   clear H32
   have H34 := H33.sel [6] rfl
   refine nx <| wp_ret <| tr <| ret_run H34.env0 (res_t Try.results7 (H34.get 6 rfl)) <| ?_
   clear H33
   exact ⟨rfl, (HZ1.bel HS32)⟩
  refine wl_ <| ig H23 (wg_ H23 rfl rfl rfl rfl) rfl (dd_cmp rfl (H23.ev 27 rfl) rfl (gt_f hc25)) fun _ H35 => q_ H35 2 rfl fun _ H36 => wl_ <| ig H36 (wg_ H36 rfl rfl rfl rfl) rfl (dd_mv rfl (H36.ev 2 rfl)) fun _ H37 => wl_ <| ig H37 (wg_ H37 rfl rfl rfl rfl) rfl (v := .int .i64 kq.length) (dd_len rfl (H37.ev 31 rfl) Try.underlying49) fun _ H38 => ?_
  clear H23 H35 H36 H37
  by_cases hc40 : (100 : Int) < kq.length
  ·
   refine wl_ <| ig H38 (wg_ H38 rfl rfl rfl rfl) rfl (dd_cmp rfl (H38.ev 32 rfl) rfl (gt_t hc40)) fun _ H41 => wl_ <| p_ H41 rfl rfl fun _ H42 => ln_ <| nx <| ct_ H42 rfl <| sq_ <| rl_ <| wl_ <| c_ H42 rfl HS19 (dcs Try.func8 rfl (args0 ) (ndwakes D O W19) (.bool true)) fun _ HS43 _ H43 => wl_ <| p_ H43 rfl rfl fun _ H44 => ln_ <| ?_
   clear H38 H41 H42 HS19 H43
   have H45 := H44.sel [6] rfl
   refine nx <| wp_ret <| tr <| ret_run H45.env0 (res_t Try.results7 (H45.get 6 rfl)) <| ?_
   clear H44
   exact ⟨rfl, (HZ1.bel HS43)⟩
  refine wl_ <| ig H38 (wg_ H38 rfl rfl rfl rfl) rfl (dd_cmp rfl (H38.ev 32 rfl) rfl (gt_f hc40)) fun _ H46 => wl_ <| p_ H46 rfl rfl fun _ H47 => ln_ <| nx <| cf_ H47 rfl <| wp_skip <| nx <| sq_ <| rl_ <| ?_
  clear H38 H46
  obtain ⟨Gc49, hc49, hf49, hk49, hq49⟩ := Rs.reframe (R1 := []) (R2 := []) (Q1 := []) (Q2 := []) ((HZ1.move HS19).sel [] [])
  refine wl_ <| d_ H47 rfl (R := fun v9 w9 => ∃ gd48 : Nat, v9 = .pointer (some ⟨gd48, 0, none⟩) ∧ Rs w noF [] [dskT D (.pointer (some ⟨gd48, 0, none⟩)) (rest (List.replicate 19 (blk 0#8)) (-1))] w9) (dc_ Try.func9 rfl (args0) (nd_new D Gc49 W19) (fun _ w9 ⟨gd48, he, hX⟩ => ⟨_, he, gd48, rfl, hk49 _ _ _ hX⟩)) ?_
  rintro _ W49 ⟨gd48, rfl, HX49⟩ a49 H49
  clear hc49 hk49 hf49 hq49 HS19 HZ1
  clear H47
  obtain ⟨G50, HZ50, HS50⟩ := HX49.anchor
  clear HX49
  refine wl_ <| p_ H49 rfl rfl fun _ H51 => ln_ <| nx <| sq_ <| rl_ <| wl_ <| p_ H51 rfl rfl fun _ H52 => ?_
  clear H49 H51
  obtain ⟨Gc54, hc54, hf54, hk54, hq54⟩ := Rs.reframe (R1 := []) (R2 := []) (Q1 := [dskT D (.pointer (some ⟨gd48, 0, none⟩)) (rest (List.replicate 19 (blk 0#8)) (-1))]) (Q2 := []) ((HZ50.move HS50).sel [] [0])
  refine wl_ <| d_ H52 rfl (R := fun v9 w9 => ∃ gn53 : Nat, v9 = .tuple #[.pointer (some ⟨gn53, 0, none⟩), .int .i64 0] ∧ Rs w noF [⟨gn53, 69, #[.pointer (some ⟨gd48, 0, none⟩), .int .u32 (wd lab0.e), .int .u32 (wd lab0.s), .int .u32 (wd lab0.n), .int .u16 (hd lab0.d), .int .u16 (hd lab0.l)]⟩] [dskT D (.pointer (some ⟨gd48, 0, none⟩)) (rest (List.replicate 19 (blk 0#8)) (-1))] w9) (dc_ Try.func10 rfl (args1 (H52.ev 38 rfl)) (lw_open (O := O) hc54 nds_new) (fun _ w9 ⟨gn53, he, hX⟩ => ⟨_, he, gn53, rfl, hk54 _ _ _ hX⟩)) ?_
  rintro _ W54 ⟨gn53, rfl, HX54⟩ a54 H54
  clear hc54 hk54 hf54 hq54 HS50 HZ50
  clear H52
  obtain ⟨G55, HZ55, HS55⟩ := HX54.anchor
  clear HX54
  refine wl_ <| p_ H54 rfl rfl fun _ H56 => wl_ <| i_ H56 rfl (v := .pointer (some ⟨gn53, 0, none⟩)) (dd_ext rfl (H56.ev 37 rfl) rfl) fun _ H57 => wl_ <| i_ H57 rfl (v := .int .i64 0) (dd_ext rfl (H57.ev 37 rfl) rfl) fun _ H58 => q_ H58 2 rfl fun _ H59 => ln_ <| ?_
  clear H54 H56 H57 H58
  have H60 := H59.sel [2, 1, 0, 7, 8, 9] rfl
  refine nx <| sq_ <| sq_ <| rl_ <| wl_ <| p_ H60 rfl rfl fun _ H61 => wl_ <| i_ H61 rfl (dd_cmp rfl (H61.ev 42 rfl) rfl (ne_f (by decide))) fun _ H62 => wl_ <| p_ H62 rfl rfl fun _ H63 => wl_ <| ig H63 (wg_ H63 rfl rfl rfl rfl) rfl (dd_mv rfl (H63.ev 8 rfl)) fun _ H64 => wl_ <| ig H64 (wg_ H64 rfl rfl rfl rfl) rfl (v := .bool false) (dd_eqp rfl (H64.ev 45 rfl) rfl Try.underlying28 rfl) fun _ H65 => q_ H65 2 rfl fun _ H66 => wl_ <| ig H66 (wg_ H66 rfl rfl rfl rfl) rfl (dd_mv rfl (H66.ev 7 rfl)) fun _ H67 => wl_ <| ig H67 (wg_ H67 rfl rfl rfl rfl) rfl (v := .bool false) (dd_eqp rfl (H67.ev 49 rfl) rfl Try.underlying26 rfl) fun _ H68 => ?_
  clear H59 H60 H61 H62 H63 H64 H65 H66
  refine q_ H68 2 rfl fun _ H69 => wl_ <| ig H69 (wg_ H69 rfl rfl rfl rfl) rfl (dd_mv rfl (H69.ev 8 rfl)) fun _ H70 => wl_ <| ig H70 (wg_ H70 rfl rfl rfl rfl) rfl (dd_mv rfl (H70.ev 0 rfl)) fun _ H71 => wl_ <| ig H71 (wg_ H71 rfl rfl rfl rfl) rfl (v := .agg #[.int .u32 1, .int .u32 1, .slice A n c]) (dd_bld rfl (ps := [(0, .int .u32 1), (1, .int .u32 1), (2, .slice A n c)]) (pr1 rfl (pr1 rfl (pr1 (H71.ev 54 rfl) (pr0)))) (Lz := [[.int .u32 0], [.int .u32 0], [.slice none 0 0]]) (by kernel_rfl) (lens_cons rfl (lens_cons rfl (lens_cons rfl (lens_nil)))) (fit_cons (i := 0) rfl rfl (fit_cons (i := 1) rfl rfl (fit_cons (i := 2) rfl rfl (fit_nil)))) (cs := #[.int .u32 1, .int .u32 1, .slice A n c]) rfl) fun _ H72 => ?_
  clear H67 H68 H69 H70 H71
  obtain ⟨Gc74, hc74, hf74, hk74, hq74⟩ := Rs.reframe (R1 := [⟨gn53, 69, #[.pointer (some ⟨gd48, 0, none⟩), .int .u32 (wd lab0.e), .int .u32 (wd lab0.s), .int .u32 (wd lab0.n), .int .u16 (hd lab0.d), .int .u16 (hd lab0.l)]⟩]) (R2 := []) (Q1 := [dskT D (.pointer (some ⟨gd48, 0, none⟩)) (rest (List.replicate 19 (blk 0#8)) (-1))]) (Q2 := []) ((HZ55.move HS55).sel [0] [0])
  refine wl_ <| dr_ H72 (wg_ H72 rfl rfl rfl rfl) rfl (R := fun v9 w9 => ∃ s73 : Secs, v9 = .int .i64 0 ∧ (Nds s73 (doneLab lab0 (⟨1#32, 1#32, l⟩ : Rec) (0#16)) (updB l (fun _ => blk 0#8))) ∧ (at0 s73 1 = headB (⟨1#32, 1#32, l⟩ : Rec).e (⟨1#32, 1#32, l⟩ : Rec).s (⟨1#32, 1#32, l⟩ : Rec).ats) ∧ Rs w noF [⟨gn53, 69, #[.pointer (some ⟨gd48, 0, none⟩), .int .u32 (wd (doneLab lab0 (⟨1#32, 1#32, l⟩ : Rec) (0#16)).e), .int .u32 (wd (doneLab lab0 (⟨1#32, 1#32, l⟩ : Rec) (0#16)).s), .int .u32 (wd (doneLab lab0 (⟨1#32, 1#32, l⟩ : Rec) (0#16)).n), .int .u16 (hd (doneLab lab0 (⟨1#32, 1#32, l⟩ : Rec) (0#16)).d), .int .u16 (hd (doneLab lab0 (⟨1#32, 1#32, l⟩ : Rec) (0#16)).l)]⟩] [dskT D (.pointer (some ⟨gd48, 0, none⟩)) (rest s73 (-1))] w9) (dc_ Try.func14 rfl (args3 (H72.ev 53 rfl) (H72.ev 55 rfl) rfl) (lw_apply (O := O) (⟨1#32, 1#32, l⟩ : Rec) (0#16) hc74 nds_new (by decide) hb4 (nk_l l) (HP _ (HZ55.bel HS55)) (far_off hp0 (HZ55.move HS55).st.chg.size hf74)) (fun _ w9 ⟨s73, he, hN73, hh73, hX⟩ => ⟨_, he, s73, rfl, hN73, hh73, hk74 _ _ _ hX⟩)) ?_
  rintro _ W74 ⟨s73, rfl, hN73, hh73, HX74⟩ a74 H74
  clear hc74 hk74 hf74 hq74 HS55 HZ55
  clear H72
  obtain ⟨G75, HZ75, HS75⟩ := HX74.anchor
  clear HX74
  refine wl_ <| ig H74 (wg_ H74 rfl rfl rfl rfl) rfl (dd_cmp rfl (H74.ev 56 rfl) rfl (ne_f (by decide))) fun _ H76 => wl_ <| p_ H76 rfl rfl fun _ H77 => ln_ <| ?_
  clear H74 H76
  have H78 := H77.sel [2, 1, 0, 7, 8, 58] rfl
  refine nx <| cf_ H78 rfl <| wp_skip <| nx <| sq_ <| rl_ <| wl_ <| p_ H78 rfl rfl fun _ H79 => wl_ <| c_ H79 rfl HS75 (dcs Try.func16 rfl (args1 (H79.ev 59 rfl)) (ndlabel_at gn53 _ (doneLab lab0 (⟨1#32, 1#32, l⟩ : Rec) (0#16)) W74 (HS75.row 0 rfl)) (.agg #[.int .u32 (wd (doneLab lab0 (⟨1#32, 1#32, l⟩ : Rec) (0#16)).e), .int .u32 (wd (doneLab lab0 (⟨1#32, 1#32, l⟩ : Rec) (0#16)).s), .int .u32 (wd (doneLab lab0 (⟨1#32, 1#32, l⟩ : Rec) (0#16)).n), .int .u16 (hd (doneLab lab0 (⟨1#32, 1#32, l⟩ : Rec) (0#16)).d), .int .u16 (hd (doneLab lab0 (⟨1#32, 1#32, l⟩ : Rec) (0#16)).l)])) fun _ HS80 _ H80 => wl_ <| n_ H80 rfl (fun _ h => dd_new HS80 #[.int .u32 0, .int .u32 0, .int .u32 0, .int .u16 0, .int .u16 0] rfl (z := .agg #[.int .u32 0, .int .u32 0, .int .u32 0, .int .u16 0, .int .u16 0]) (by kernel_rfl) rfl h) fun g10 _ HS81 _ H81 => wl_ <| t_ rfl (fun _ h => dd_setrow HS81 1 rfl rfl (H81.ev 10 rfl) (H81.ev 60 rfl) (by kernel_rfl) (rfl : #[.int .u32 (wd (doneLab lab0 (⟨1#32, 1#32, l⟩ : Rec) (0#16)).e), .int .u32 (wd (doneLab lab0 (⟨1#32, 1#32, l⟩ : Rec) (0#16)).s), .int .u32 (wd (doneLab lab0 (⟨1#32, 1#32, l⟩ : Rec) (0#16)).n), .int .u16 (hd (doneLab lab0 (⟨1#32, 1#32, l⟩ : Rec) (0#16)).d), .int .u16 (hd (doneLab lab0 (⟨1#32, 1#32, l⟩ : Rec) (0#16)).l)].size = 5) (rfl : #[.int .u32 0, .int .u32 0, .int .u32 0, .int .u16 0, .int .u16 0].size = 5) (one_l (ao_cons rfl (ao_cons rfl (ao_cons rfl (ao_cons rfl (ao_cons rfl ao_nil)))))) h) fun _ HS82 => ln_ <| nx <| sq_ <| sq_ <| rl_ <| wl_ <| p_ H81 rfl rfl fun _ H83 => ln_ <| nx <| wp_block <| ?_
  clear H77 H78 H79 HS75 HS80 H80 HS81 H81
  refine wp_loopG (ι := Nat) (fun i a9 w9 => ∃ sL : Secs, ∃ Lk : Lab, (i ≤ nl) ∧ (Nds sL Lk (updB l (fun _ => blk 0#8))) ∧ (numE (at0 sL 1) = 1#32 ∧ numS (at0 sL 1) = 1#32) ∧ En 163 [(11, .int .i64 i), (10, .pointer (some ⟨g10, 0, none⟩)), (8, .pointer (some ⟨gn53, 0, none⟩)), (7, .pointer (some ⟨gd48, 0, none⟩)), (0, .slice A n c), (1, .slice Al nl cl), (2, .slice Ak kq.length ck)] a9 ∧ Rs w noF [⟨gn53, 69, #[.pointer (some ⟨gd48, 0, none⟩), .int .u32 (wd Lk.e), .int .u32 (wd Lk.s), .int .u32 (wd Lk.n), .int .u16 (hd Lk.d), .int .u16 (hd Lk.l)]⟩, ⟨g10, 37, #[.int .u32 (wd Lk.e), .int .u32 (wd Lk.s), .int .u32 (wd Lk.n), .int .u16 (hd Lk.d), .int .u16 (hd Lk.l)]⟩] [dskT D (.pointer (some ⟨gd48, 0, none⟩)) (rest sL (-1))] w9) (fun i => nl - i) (0) ⟨s73, (doneLab lab0 (⟨1#32, 1#32, l⟩ : Rec) (0#16)), (Nat.zero_le _), hN73, (by rw [hh73]; exact head_num hb4), H83.sel [2, 1, 0, 7, 8, 10, 11] rfl, (HZ75.move HS82).sel [0, 1] [0]⟩ ?_
  clear H83 HS82 HZ75
  rintro i aL84 wL84 ⟨sL, Lk, hi, hNL, hlg, HL84, HXL84⟩
  obtain ⟨G85, HZ85, HS85⟩ := HXL84.anchor
  clear HXL84
  refine sq_ <| sq_ <| rl_ <| q_ HL84 2 rfl fun _ H86 => wl_ <| i_ H86 rfl (v := .int .i64 nl) (dd_len rfl (H86.ev 62 rfl) Try.underlying63) fun _ H87 => ?_
  clear HL84 H86
  by_cases hc89 : (i : Int) < nl
  ·
   refine wl_ <| i_ H87 rfl (dd_cmp rfl (H87.ev 61 rfl) (H87.ev 63 rfl) (lt_t hc89)) fun _ H90 => ln_ <| nx <| ct_ H90 rfl <| wp_skip <| nx <| sq_ <| wp_block <| sq_ <| ?_
   clear H87
   obtain ⟨b8, o8, hA8, _, _⟩ := hX.at_ (by omega)
   have HB8 := fun (W9 : World) (hb9 : Below w.heap.size w W9) => hA8 ▸ hX.call hb9
   obtain ⟨yi, hyi⟩ : ∃ y, X[i]? = some y := ⟨_, List.getElem?_eq_getElem (by rw [hX.len]; omega)⟩
   refine rl_ <| q_ H90 2 rfl fun _ H91 => wl_ <| i_ H91 rfl (dd_idxS (sz := 5) (j := o8 + i * 5) rfl (sl_at (H91.ev 67 rfl) hA8) (H91.ev 68 rfl) (by kernel_rfl) (by omega) (by omega) (by omega)) fun _ H92 => wl_ <| i_ H92 rfl (v := .agg #[.int .u32 (wd yi.e), .int .u32 (wd yi.s), .int .u32 (wd yi.n), .int .u16 (hd yi.d), .int .u16 (hd yi.l)]) (dd_atN rfl (H92.ev 69 rfl) ((HB8 _ (HZ85.bel HS85)).cells hyi) Try.underlying37 rfl (by kernel_rfl)) fun _ H93 => wl_ <| n_ H93 rfl (fun _ h => dd_new HS85 #[.int .u32 0, .int .u32 0, .int .u32 0, .int .u16 0, .int .u16 0] rfl (z := .agg #[.int .u32 0, .int .u32 0, .int .u32 0, .int .u16 0, .int .u16 0]) (by kernel_rfl) rfl h) fun g12 _ HS94 _ H94 => wl_ <| t_ rfl (fun _ h => dd_setrow HS94 2 rfl rfl (H94.ev 12 rfl) (H94.ev 70 rfl) (by kernel_rfl) (rfl : #[.int .u32 (wd yi.e), .int .u32 (wd yi.s), .int .u32 (wd yi.n), .int .u16 (hd yi.d), .int .u16 (hd yi.l)].size = 5) (rfl : #[.int .u32 0, .int .u32 0, .int .u32 0, .int .u16 0, .int .u16 0].size = 5) (one_l (ao_cons rfl (ao_cons rfl (ao_cons rfl (ao_cons rfl (ao_cons rfl ao_nil)))))) h) fun W95 HS95 => ln_ <| nx <| sq_ <| sq_ <| rl_ <| wl_ <| i_ H94 rfl (xf 0 0 rfl (H94.ev 12 rfl)) fun _ H96 => wl_ <| i_ H96 rfl (dd_get HS95 2 0 rfl rfl (H96.ev 71 rfl) rfl Try.underlying35 rfl) fun _ H97 => wl_ <| i_ H97 rfl (xf 1 1 rfl (H97.ev 12 rfl)) fun _ H98 => ?_
   clear H90 H91 H92 HS85 H93 HS94 H94 H96
   refine wl_ <| i_ H98 rfl (dd_get HS95 2 1 rfl rfl (H98.ev 73 rfl) rfl Try.underlying35 rfl) fun _ H99 => ?_
   clear H97 H98
   cases hb100 : laterB yi.e yi.s (1#32) (0#32)
   ·
    refine wl_ <| c_ H99 rfl HS95 (v := .bool false) (dc_ Try.func20 rfl (args4 (H99.ev 72 rfl) (H99.ev 74 rfl) rfl rfl) (reflater_any yi.e yi.s (1#32) (0#32) W95) (fun _ w9 h9 => ⟨_, h9.1, by rw [hb100], h9.2⟩)) fun _ HS101 _ H101 => wl_ <| i_ H101 rfl (v := .bool true) (dd_nt rfl (H101.ev 75 rfl) rfl) fun _ H102 => ln_ <| nx <| ct_ H102 rfl <| rl_ <| wl_ <| i_ H102 rfl (xf 0 0 rfl (H102.ev 12 rfl)) fun _ H103 => wl_ <| t_ rfl (S := [⟨gn53, 69, #[.pointer (some ⟨gd48, 0, none⟩), .int .u32 (wd Lk.e), .int .u32 (wd Lk.s), .int .u32 (wd Lk.n), .int .u16 (hd Lk.d), .int .u16 (hd Lk.l)]⟩, ⟨g10, 37, #[.int .u32 (wd Lk.e), .int .u32 (wd Lk.s), .int .u32 (wd Lk.n), .int .u16 (hd Lk.d), .int .u16 (hd Lk.l)]⟩, ⟨g12, 37, #[.int .u32 1, .int .u32 (wd yi.s), .int .u32 (wd yi.n), .int .u16 (hd yi.d), .int .u16 (hd yi.l)]⟩]) (fun _ h => dd_put (cs := #[.int .u32 1, .int .u32 (wd yi.s), .int .u32 (wd yi.n), .int .u16 (hd yi.d), .int .u16 (hd yi.l)]) HS101 2 0 rfl rfl (H103.ev 77 rfl) rfl (by kernel_rfl) rfl rfl rfl rfl h) fun _ HS104 => wl_ <| i_ H103 rfl (xf 1 1 rfl (H103.ev 12 rfl)) fun _ H105 => wl_ <| t_ rfl (fun _ h => dd_put (cs := #[.int .u32 1, .int .u32 1, .int .u32 (wd yi.n), .int .u16 (hd yi.d), .int .u16 (hd yi.l)]) HS104 2 1 rfl rfl (H105.ev 78 rfl) rfl (by kernel_rfl) rfl rfl rfl rfl h) fun _ HS106 => ln_ <| ?_
    clear H99 HS95 H101 H102 HS101 H103 HS104
    have H107 := H105.sel [2, 1, 0, 7, 8, 10, 11, 12] rfl
    refine nx <| sq_ <| sq_ <| ?_
    clear H105
    refine wr_ (HZ85.move HS106) [1, 2] [1, 2, 0] rfl rfl fun HXd109 hx108 => ?_
    obtain ⟨G110, HZ110, HS110⟩ := HXd109.anchor
    clear HXd109
    refine hp_ H107 0 hx108 rfl rfl rfl fun _ H111 => ht_ H111 1 hx108 rfl rfl (v := .agg #[.int .u32 1, .int .u32 1, .int .u32 (wd yi.n), .int .u16 (hd yi.d), .int .u16 (hd yi.l)]) (fun _ _ HS9 => dd_load HS9 1 0 rfl rfl (H111.ev 12 rfl) (slab_whole _) Try.underlying37 rfl (by kernel_rfl)) fun _ H112 => ?_
    clear H107 H111
    obtain ⟨Gc114, hc114, hf114, hk114, hq114⟩ := Rs.reframe (R1 := [⟨gn53, 69, #[.pointer (some ⟨gd48, 0, none⟩), .int .u32 (wd Lk.e), .int .u32 (wd Lk.s), .int .u32 (wd Lk.n), .int .u16 (hd Lk.d), .int .u16 (hd Lk.l)]⟩]) (R2 := [⟨g10, 37, #[.int .u32 (wd Lk.e), .int .u32 (wd Lk.s), .int .u32 (wd Lk.n), .int .u16 (hd Lk.d), .int .u16 (hd Lk.l)]⟩, ⟨g12, 37, #[.int .u32 1, .int .u32 1, .int .u32 (wd yi.n), .int .u16 (hd yi.d), .int .u16 (hd yi.l)]⟩]) (Q1 := [dskT D (.pointer (some ⟨gd48, 0, none⟩)) (rest sL (-1))]) (Q2 := []) ((HZ110.move HS110).sel [0, 1, 2] [0])
    refine h1_ 2 rfl <| d_ H112 rfl (R := fun v9 w9 => ∃ s113 : Secs, v9 = .int .i64 0 ∧ (Nds s113 (⟨1#32, 1#32, yi.n, yi.d, yi.l⟩ : Lab) (updB l (fun _ => blk 0#8))) ∧ (at0 s113 1 = at0 sL 1) ∧ Rs w noF [⟨gn53, 69, #[.pointer (some ⟨gd48, 0, none⟩), .int .u32 (wd (⟨1#32, 1#32, yi.n, yi.d, yi.l⟩ : Lab).e), .int .u32 (wd (⟨1#32, 1#32, yi.n, yi.d, yi.l⟩ : Lab).s), .int .u32 (wd (⟨1#32, 1#32, yi.n, yi.d, yi.l⟩ : Lab).n), .int .u16 (hd (⟨1#32, 1#32, yi.n, yi.d, yi.l⟩ : Lab).d), .int .u16 (hd (⟨1#32, 1#32, yi.n, yi.d, yi.l⟩ : Lab).l)]⟩, ⟨g10, 37, #[.int .u32 (wd Lk.e), .int .u32 (wd Lk.s), .int .u32 (wd Lk.n), .int .u16 (hd Lk.d), .int .u16 (hd Lk.l)]⟩, ⟨g12, 37, #[.int .u32 1, .int .u32 1, .int .u32 (wd yi.n), .int .u16 (hd yi.d), .int .u16 (hd yi.l)]⟩] [dskT D (.pointer (some ⟨gd48, 0, none⟩)) (rest s113 (-1))] w9) (dc_ Try.func11 rfl (args2 (H112.ev 79 rfl) (H112.ev 80 rfl)) (lw_set (⟨1#32, 1#32, yi.n, yi.d, yi.l⟩ : Lab) hc114 hNL (by decide) (fun _ => by rw [hlg.1, hlg.2]; exact later_self _ _)) (fun _ w9 ⟨s113, he, hN113, hlg113, hX⟩ => ⟨_, he, s113, rfl, hN113, hlg113, hk114 _ _ _ hX⟩)) ?_
    rintro _ W114 ⟨s113, rfl, hN113, hlg113, HX114⟩ a114 H114
    clear hc114 hk114 hf114 hq114 HS110 HZ110
    clear H112
    obtain ⟨G115, HZ115, HS115⟩ := HX114.anchor
    clear HX114
    refine sx_ (sxi (HZ115.move HS115).st [1, 2, 0] rfl) fun hx116 => ht_ H114 3 hx116 rfl rfl (fun _ _ _ => dd_cmp rfl (H114.ev 81 rfl) rfl (ne_f (by decide))) fun _ H117 => hp_ H117 4 hx116 rfl rfl rfl fun _ H118 => htg H118 5 hx116 rfl (wg_ H118 rfl rfl rfl rfl) rfl (fun _ _ _ => dd_mv rfl (H118.ev 8 rfl)) fun _ H119 => htg H119 7 hx116 rfl (wg_ H119 rfl rfl rfl rfl) rfl (v := .agg #[.int .u32 1, .int .u32 1, .int .u32 (wd yi.n), .int .u16 (hd yi.d), .int .u16 (hd yi.l)]) (fun _ _ HS9 => dd_load HS9 1 0 rfl rfl (H119.ev 12 rfl) (slab_whole _) Try.underlying37 rfl (by kernel_rfl)) fun _ H120 => h1_ 6 rfl <| cg H120 (wg_ H120 rfl rfl rfl rfl) rfl HS115 (dcs Try.func16 rfl (args1 (H120.ev 84 rfl)) (ndlabel_at gn53 _ (⟨1#32, 1#32, yi.n, yi.d, yi.l⟩ : Lab) W114 (HS115.row 0 rfl)) (.agg #[.int .u32 (wd (⟨1#32, 1#32, yi.n, yi.d, yi.l⟩ : Lab).e), .int .u32 (wd (⟨1#32, 1#32, yi.n, yi.d, yi.l⟩ : Lab).s), .int .u32 (wd (⟨1#32, 1#32, yi.n, yi.d, yi.l⟩ : Lab).n), .int .u16 (hd (⟨1#32, 1#32, yi.n, yi.d, yi.l⟩ : Lab).d), .int .u16 (hd (⟨1#32, 1#32, yi.n, yi.d, yi.l⟩ : Lab).l)])) fun _ HS121 _ H121 => sx_ (sxi (HZ115.move HS121).st [1, 2, 0] rfl) fun hx122 => htg H121 8 hx122 rfl (wg_ H121 rfl rfl rfl rfl) rfl (v := .bool false) (fun _ _ _ => dd_nea (b := true) rfl (H121.ev 85 rfl) (H121.ev 86 rfl) (by kernel_rfl) (fun w => by have h9 := eql_lab (⟨1#32, 1#32, yi.n, yi.d, yi.l⟩ : Lab) (⟨1#32, 1#32, yi.n, yi.d, yi.l⟩ : Lab) w; rw [decide_eq_true rfl] at h9; exact h9) rfl) fun _ H123 => ?_
    clear hx108 H114 H117 H118 H119 H120 HS115 hx116
    refine hp_ H123 9 hx122 rfl rfl rfl fun _ H124 => hp_ H124 10 hx122 rfl rfl rfl fun _ H125 => htg H125 11 hx122 rfl (wg_ H125 rfl rfl rfl rfl) rfl (fun _ _ _ => dd_mv rfl (H125.ev 7 rfl)) fun _ H126 => h1_ 12 rfl <| cg H126 (wg_ H126 rfl rfl rfl rfl) rfl HS121 (dcs Try.func21 rfl (args1 (H126.ev 90 rfl)) (lw_loose ((HZ115.move HS121).sel [] [0])) (.int .i64 0)) fun _ HS127 _ H127 => sx_ (sxi (HZ115.move HS127).st [1, 2, 0] rfl) fun hx128 => htg H127 13 hx128 rfl (wg_ H127 rfl rfl rfl rfl) rfl (fun _ _ _ => dd_cmp rfl (H127.ev 91 rfl) rfl (ne_f (by decide))) fun _ H129 => hp_ H129 14 hx128 rfl rfl rfl fun _ H130 => ?_
    clear H121 H123 H124 H125 H126 HS121 hx122 H127 H129
    refine wpAnyH_done (by kernel_rfl) ?_ _
    clear hx128
    refine nx <| cf_ H130 rfl <| wp_skip <| nx <| rl_ <| wl_ <| i_ H130 rfl (v := .agg #[.int .u32 1, .int .u32 1, .int .u32 (wd yi.n), .int .u16 (hd yi.d), .int .u16 (hd yi.l)]) (dd_load HS127 2 0 rfl rfl (H130.ev 12 rfl) (slab_whole _) Try.underlying37 rfl (by kernel_rfl)) fun _ H131 => wl_ <| t_ rfl (fun _ h => dd_setrow HS127 1 rfl rfl (H131.ev 10 rfl) (H131.ev 94 rfl) (by kernel_rfl) (rfl : #[.int .u32 1, .int .u32 1, .int .u32 (wd yi.n), .int .u16 (hd yi.d), .int .u16 (hd yi.l)].size = 5) (rfl : #[.int .u32 (wd Lk.e), .int .u32 (wd Lk.s), .int .u32 (wd Lk.n), .int .u16 (hd Lk.d), .int .u16 (hd Lk.l)].size = 5) (one_l (ao_cons rfl (ao_cons rfl (ao_cons rfl (ao_cons rfl (ao_cons rfl ao_nil)))))) h) fun _ HS132 => ln_ <| ?_
    clear H130 HS127
    have H133 := H131.sel [2, 1, 0, 7, 8, 10, 11] rfl
    refine bn <| nx <| rl_ <| wl_ <| p_ H133 rfl rfl fun _ H134 => wl_ <| i_ H134 rfl (v := .int .i64 (i + 1)) (dd_ari rfl (H134.ev 65 rfl) rfl rfl (i64_of (by first | omega | (have := bd_lo; omega)) (by omega))) fun _ H135 => wl_ <| p_ H135 rfl rfl fun _ H136 => ln_ <| ?_
    clear H131 H133 H134 H135
    refine nx ⟨i + 1, ⟨s113, (⟨1#32, 1#32, yi.n, yi.d, yi.l⟩ : Lab), (by omega), hN113, (by rw [hlg113]; exact hlg), H136.sel [2, 1, 0, 7, 8, 10, 11] rfl, (HZ115.move HS132).sel [0, 1] [0]⟩, (by omega)⟩
   refine wl_ <| c_ H99 rfl HS95 (v := .bool true) (dc_ Try.func20 rfl (args4 (H99.ev 72 rfl) (H99.ev 74 rfl) rfl rfl) (reflater_any yi.e yi.s (1#32) (0#32) W95) (fun _ w9 h9 => ⟨_, h9.1, by rw [hb100], h9.2⟩)) fun _ HS137 _ H137 => wl_ <| i_ H137 rfl (v := .bool false) (dd_nt rfl (H137.ev 75 rfl) rfl) fun _ H138 => ln_ <| nx <| cf_ H138 rfl <| wp_skip <| nx <| sq_ <| sq_ <| ?_
   clear H99 HS95 H137
   refine wr_ (HZ85.move HS137) [1, 2] [1, 2, 0] rfl rfl fun HXd140 hx139 => ?_
   obtain ⟨G141, HZ141, HS141⟩ := HXd140.anchor
   clear HXd140
   refine hp_ H138 0 hx139 rfl rfl rfl fun _ H142 => ht_ H142 1 hx139 rfl rfl (v := .agg #[.int .u32 (wd yi.e), .int .u32 (wd yi.s), .int .u32 (wd yi.n), .int .u16 (hd yi.d), .int .u16 (hd yi.l)]) (fun _ _ HS9 => dd_load HS9 1 0 rfl rfl (H142.ev 12 rfl) (slab_whole _) Try.underlying37 rfl (by kernel_rfl)) fun _ H143 => ?_
   clear H138 H142
   obtain ⟨Gc145, hc145, hf145, hk145, hq145⟩ := Rs.reframe (R1 := [⟨gn53, 69, #[.pointer (some ⟨gd48, 0, none⟩), .int .u32 (wd Lk.e), .int .u32 (wd Lk.s), .int .u32 (wd Lk.n), .int .u16 (hd Lk.d), .int .u16 (hd Lk.l)]⟩]) (R2 := [⟨g10, 37, #[.int .u32 (wd Lk.e), .int .u32 (wd Lk.s), .int .u32 (wd Lk.n), .int .u16 (hd Lk.d), .int .u16 (hd Lk.l)]⟩, ⟨g12, 37, #[.int .u32 (wd yi.e), .int .u32 (wd yi.s), .int .u32 (wd yi.n), .int .u16 (hd yi.d), .int .u16 (hd yi.l)]⟩]) (Q1 := [dskT D (.pointer (some ⟨gd48, 0, none⟩)) (rest sL (-1))]) (Q2 := []) ((HZ141.move HS141).sel [0, 1, 2] [0])
   refine h1_ 2 rfl <| d_ H143 rfl (R := fun v9 w9 => ∃ s144 : Secs, v9 = .int .i64 0 ∧ (Nds s144 yi (updB l (fun _ => blk 0#8))) ∧ (at0 s144 1 = at0 sL 1) ∧ Rs w noF [⟨gn53, 69, #[.pointer (some ⟨gd48, 0, none⟩), .int .u32 (wd yi.e), .int .u32 (wd yi.s), .int .u32 (wd yi.n), .int .u16 (hd yi.d), .int .u16 (hd yi.l)]⟩, ⟨g10, 37, #[.int .u32 (wd Lk.e), .int .u32 (wd Lk.s), .int .u32 (wd Lk.n), .int .u16 (hd Lk.d), .int .u16 (hd Lk.l)]⟩, ⟨g12, 37, #[.int .u32 (wd yi.e), .int .u32 (wd yi.s), .int .u32 (wd yi.n), .int .u16 (hd yi.d), .int .u16 (hd yi.l)]⟩] [dskT D (.pointer (some ⟨gd48, 0, none⟩)) (rest s144 (-1))] w9) (dc_ Try.func11 rfl (args2 (H143.ev 79 rfl) (H143.ev 80 rfl)) (lw_set yi hc145 hNL (by decide) (fun _ => by rw [hlg.1, hlg.2]; exact nk_r hb100)) (fun _ w9 ⟨s144, he, hN144, hlg144, hX⟩ => ⟨_, he, s144, rfl, hN144, hlg144, hk145 _ _ _ hX⟩)) ?_
   rintro _ W145 ⟨s144, rfl, hN144, hlg144, HX145⟩ a145 H145
   clear hc145 hk145 hf145 hq145 HS141 HZ141
   clear H143
   obtain ⟨G146, HZ146, HS146⟩ := HX145.anchor
   clear HX145
   refine sx_ (sxi (HZ146.move HS146).st [1, 2, 0] rfl) fun hx147 => ht_ H145 3 hx147 rfl rfl (fun _ _ _ => dd_cmp rfl (H145.ev 81 rfl) rfl (ne_f (by decide))) fun _ H148 => hp_ H148 4 hx147 rfl rfl rfl fun _ H149 => htg H149 5 hx147 rfl (wg_ H149 rfl rfl rfl rfl) rfl (fun _ _ _ => dd_mv rfl (H149.ev 8 rfl)) fun _ H150 => htg H150 7 hx147 rfl (wg_ H150 rfl rfl rfl rfl) rfl (v := .agg #[.int .u32 (wd yi.e), .int .u32 (wd yi.s), .int .u32 (wd yi.n), .int .u16 (hd yi.d), .int .u16 (hd yi.l)]) (fun _ _ HS9 => dd_load HS9 1 0 rfl rfl (H150.ev 12 rfl) (slab_whole _) Try.underlying37 rfl (by kernel_rfl)) fun _ H151 => h1_ 6 rfl <| cg H151 (wg_ H151 rfl rfl rfl rfl) rfl HS146 (dcs Try.func16 rfl (args1 (H151.ev 84 rfl)) (ndlabel_at gn53 _ yi W145 (HS146.row 0 rfl)) (.agg #[.int .u32 (wd yi.e), .int .u32 (wd yi.s), .int .u32 (wd yi.n), .int .u16 (hd yi.d), .int .u16 (hd yi.l)])) fun _ HS152 _ H152 => sx_ (sxi (HZ146.move HS152).st [1, 2, 0] rfl) fun hx153 => htg H152 8 hx153 rfl (wg_ H152 rfl rfl rfl rfl) rfl (v := .bool false) (fun _ _ _ => dd_nea (b := true) rfl (H152.ev 85 rfl) (H152.ev 86 rfl) (by kernel_rfl) (fun w => by have h9 := eql_lab yi yi w; rw [decide_eq_true rfl] at h9; exact h9) rfl) fun _ H154 => ?_
   clear hx139 H145 H148 H149 H150 H151 HS146 hx147
   refine hp_ H154 9 hx153 rfl rfl rfl fun _ H155 => hp_ H155 10 hx153 rfl rfl rfl fun _ H156 => htg H156 11 hx153 rfl (wg_ H156 rfl rfl rfl rfl) rfl (fun _ _ _ => dd_mv rfl (H156.ev 7 rfl)) fun _ H157 => h1_ 12 rfl <| cg H157 (wg_ H157 rfl rfl rfl rfl) rfl HS152 (dcs Try.func21 rfl (args1 (H157.ev 90 rfl)) (lw_loose ((HZ146.move HS152).sel [] [0])) (.int .i64 0)) fun _ HS158 _ H158 => sx_ (sxi (HZ146.move HS158).st [1, 2, 0] rfl) fun hx159 => htg H158 13 hx159 rfl (wg_ H158 rfl rfl rfl rfl) rfl (fun _ _ _ => dd_cmp rfl (H158.ev 91 rfl) rfl (ne_f (by decide))) fun _ H160 => hp_ H160 14 hx159 rfl rfl rfl fun _ H161 => ?_
   clear H152 H154 H155 H156 H157 HS152 hx153 H158 H160
   refine wpAnyH_done (by kernel_rfl) ?_ _
   clear hx159
   refine nx <| cf_ H161 rfl <| wp_skip <| nx <| rl_ <| wl_ <| i_ H161 rfl (v := .agg #[.int .u32 (wd yi.e), .int .u32 (wd yi.s), .int .u32 (wd yi.n), .int .u16 (hd yi.d), .int .u16 (hd yi.l)]) (dd_load HS158 2 0 rfl rfl (H161.ev 12 rfl) (slab_whole _) Try.underlying37 rfl (by kernel_rfl)) fun _ H162 => wl_ <| t_ rfl (S := [⟨gn53, 69, #[.pointer (some ⟨gd48, 0, none⟩), .int .u32 (wd yi.e), .int .u32 (wd yi.s), .int .u32 (wd yi.n), .int .u16 (hd yi.d), .int .u16 (hd yi.l)]⟩, ⟨g10, 37, #[.int .u32 (wd yi.e), .int .u32 (wd yi.s), .int .u32 (wd yi.n), .int .u16 (hd yi.d), .int .u16 (hd yi.l)]⟩, ⟨g12, 37, #[.int .u32 (wd yi.e), .int .u32 (wd yi.s), .int .u32 (wd yi.n), .int .u16 (hd yi.d), .int .u16 (hd yi.l)]⟩]) (fun _ h => dd_setrow HS158 1 rfl rfl (H162.ev 10 rfl) (H162.ev 94 rfl) (by kernel_rfl) (rfl : #[.int .u32 (wd yi.e), .int .u32 (wd yi.s), .int .u32 (wd yi.n), .int .u16 (hd yi.d), .int .u16 (hd yi.l)].size = 5) (rfl : #[.int .u32 (wd Lk.e), .int .u32 (wd Lk.s), .int .u32 (wd Lk.n), .int .u16 (hd Lk.d), .int .u16 (hd Lk.l)].size = 5) (one_l (ao_cons rfl (ao_cons rfl (ao_cons rfl (ao_cons rfl (ao_cons rfl ao_nil)))))) h) fun _ HS163 => ln_ <| ?_
   clear H161 HS158
   have H164 := H162.sel [2, 1, 0, 7, 8, 10, 11] rfl
   refine bn <| nx <| rl_ <| wl_ <| p_ H164 rfl rfl fun _ H165 => wl_ <| i_ H165 rfl (v := .int .i64 (i + 1)) (dd_ari rfl (H165.ev 65 rfl) rfl rfl (i64_of (by first | omega | (have := bd_lo; omega)) (by omega))) fun _ H166 => wl_ <| p_ H166 rfl rfl fun _ H167 => ln_ <| ?_
   clear H162 H164 H165 H166
   refine nx ⟨i + 1, ⟨s144, yi, (by omega), hN144, (by rw [hlg144]; exact hlg), H167.sel [2, 1, 0, 7, 8, 10, 11] rfl, (HZ146.move HS163).sel [0, 1] [0]⟩, (by omega)⟩
  refine wl_ <| i_ H87 rfl (dd_cmp rfl (H87.ev 61 rfl) (H87.ev 63 rfl) (lt_f hc89)) fun _ H168 => ln_ <| nx <| cf_ H168 rfl <| wp_exit <| tx <| tx <| bx <| nx <| sq_ <| rl_ <| wl_ <| p_ H168 rfl rfl fun _ H169 => wl_ <| n_ H169 rfl (A := fun g96 => .slice (some ⟨g96, 0, none⟩) 0 0) (fun _ h => dd_lit0 HS85 rfl rfl Try.underlying49 (sz := 1) (by kernel_rfl) h) fun g96 _ HS170 _ H170 => wl_ <| p_ H170 rfl rfl fun _ H171 => wl_ <| a_ H171 rfl (S := fun g98_174 cb98_174 => [⟨gn53, 69, #[.pointer (some ⟨gd48, 0, none⟩), .int .u32 (wd Lk.e), .int .u32 (wd Lk.s), .int .u32 (wd Lk.n), .int .u16 (hd Lk.d), .int .u16 (hd Lk.l)]⟩, ⟨g10, 37, #[.int .u32 (wd Lk.e), .int .u32 (wd Lk.s), .int .u32 (wd Lk.n), .int .u16 (hd Lk.d), .int .u16 (hd Lk.l)]⟩, ⟨g98_174, 5, cb98_174⟩]) (fun g98_174 c98_174 => .slice (some ⟨g98_174, 0, none⟩) kq.length c98_174) (T := fun _ c98_174 cb98_174 => OwnC cb98_174 c98_174 kq.length 1 (bytesV (kq))) (fun _ h => dd_appB HS170 2 rfl ownc_nil rfl (H171.ev 96 rfl) (H171.ev 97 rfl) (HK _ (HZ85.bel HS170)) hAk (Nat.zero_add _) (List.nil_append _) (by unfold maxLen; omega) (by omega) h) fun g98_174 c98_174 cb98_174 _ O98_174 HS173 _ H173 => ?_
  clear H87 H168 HS85 H169 H170 HS170 H171
  obtain ⟨Gc175, hc175, hf175, hk175, hq175⟩ := Rs.reframe (R1 := []) (R2 := [⟨gn53, 69, #[.pointer (some ⟨gd48, 0, none⟩), .int .u32 (wd Lk.e), .int .u32 (wd Lk.s), .int .u32 (wd Lk.n), .int .u16 (hd Lk.d), .int .u16 (hd Lk.l)]⟩, ⟨g10, 37, #[.int .u32 (wd Lk.e), .int .u32 (wd Lk.s), .int .u32 (wd Lk.n), .int .u16 (hd Lk.d), .int .u16 (hd Lk.l)]⟩, ⟨g98_174, 5, cb98_174⟩]) (Q1 := [dskT D (.pointer (some ⟨gd48, 0, none⟩)) (rest sL (-1))]) (Q2 := []) ((HZ85.move HS173).sel [0, 1, 2] [0])
  refine wl_ <| d_ H173 rfl (R := fun v9 w9 => v9 = .tuple #[] ∧ Rs w noF [⟨gn53, 69, #[.pointer (some ⟨gd48, 0, none⟩), .int .u32 (wd Lk.e), .int .u32 (wd Lk.s), .int .u32 (wd Lk.n), .int .u16 (hd Lk.d), .int .u16 (hd Lk.l)]⟩, ⟨g10, 37, #[.int .u32 (wd Lk.e), .int .u32 (wd Lk.s), .int .u32 (wd Lk.n), .int .u16 (hd Lk.d), .int .u16 (hd Lk.l)]⟩, ⟨g98_174, 5, cb98_174⟩] [dskT D (.pointer (some ⟨gd48, 0, none⟩)) (rest sL (-1))] w9) (dc_ Try.func17 rfl (args2 (H173.ev 95 rfl) (H173.ev 98 rfl)) (lw_up (.slice (some ⟨g98_174, 0, none⟩) kq.length c98_174) kq hc175 (slice_own (HS173.row 2 rfl) O98_174 rfl) (by show _ ≤ 1000000000; omega) (own_off1 hf175 2 rfl rfl)) (fun _ w9 ⟨he, hX⟩ => ⟨_, he, rfl, hk175 _ _ _ hX⟩)) ?_
  rintro _ W175 ⟨rfl, HX175⟩ a175 H175
  clear hc175 hk175 hf175 hq175 HS173 HZ85
  clear H173
  obtain ⟨G176, HZ176, HS176⟩ := HX175.anchor
  clear HX175
  refine ln_ <| nx <| sq_ <| rl_ <| wl_ <| p_ H175 rfl rfl fun _ H177 => ?_
  clear H175
  obtain ⟨Gc179, hc179, hf179, hk179, hq179⟩ := Rs.reframe (R1 := []) (R2 := [⟨gn53, 69, #[.pointer (some ⟨gd48, 0, none⟩), .int .u32 (wd Lk.e), .int .u32 (wd Lk.s), .int .u32 (wd Lk.n), .int .u16 (hd Lk.d), .int .u16 (hd Lk.l)]⟩, ⟨g10, 37, #[.int .u32 (wd Lk.e), .int .u32 (wd Lk.s), .int .u32 (wd Lk.n), .int .u16 (hd Lk.d), .int .u16 (hd Lk.l)]⟩, ⟨g98_174, 5, cb98_174⟩]) (Q1 := [dskT D (.pointer (some ⟨gd48, 0, none⟩)) (rest sL (-1))]) (Q2 := []) ((HZ176.move HS176).sel [0, 1, 2] [0])
  refine wl_ <| d_ H177 rfl (R := fun v9 w9 => ∃ gn178 : Nat, v9 = .tuple #[.pointer (some ⟨gn178, 0, none⟩), .int .i64 0] ∧ Rs w noF [⟨gn178, 69, #[.pointer (some ⟨gd48, 0, none⟩), .int .u32 (wd Lk.e), .int .u32 (wd Lk.s), .int .u32 (wd Lk.n), .int .u16 (hd Lk.d), .int .u16 (hd Lk.l)]⟩, ⟨gn53, 69, #[.pointer (some ⟨gd48, 0, none⟩), .int .u32 (wd Lk.e), .int .u32 (wd Lk.s), .int .u32 (wd Lk.n), .int .u16 (hd Lk.d), .int .u16 (hd Lk.l)]⟩, ⟨g10, 37, #[.int .u32 (wd Lk.e), .int .u32 (wd Lk.s), .int .u32 (wd Lk.n), .int .u16 (hd Lk.d), .int .u16 (hd Lk.l)]⟩, ⟨g98_174, 5, cb98_174⟩] [dskT D (.pointer (some ⟨gd48, 0, none⟩)) (rest sL (-1))] w9) (dc_ Try.func10 rfl (args1 (H177.ev 101 rfl)) (lw_open (O := O) hc179 hNL) (fun _ w9 ⟨gn178, he, hX⟩ => ⟨_, he, gn178, rfl, hk179 _ _ _ hX⟩)) ?_
  rintro _ W179 ⟨gn178, rfl, HX179⟩ a179 H179
  clear hc179 hk179 hf179 hq179 HS176 HZ176
  clear H177
  obtain ⟨G180, HZ180, HS180⟩ := HX179.anchor
  clear HX179
  refine wl_ <| p_ H179 rfl rfl fun _ H181 => wl_ <| i_ H181 rfl (v := .pointer (some ⟨gn178, 0, none⟩)) (dd_ext rfl (H181.ev 100 rfl) rfl) fun _ H182 => wl_ <| i_ H182 rfl (v := .int .i64 0) (dd_ext rfl (H182.ev 100 rfl) rfl) fun _ H183 => q_ H183 2 rfl fun _ H184 => ln_ <| ?_
  clear H179 H181 H182 H183
  have H185 := H184.sel [0, 10, 13, 14] rfl
  refine nx <| sq_ <| sq_ <| ?_
  clear H184
  refine wr_ (HZ180.move HS180) [0, 1, 2] [0, 1, 2, 3] rfl rfl fun HXd187 hx186 => ?_
  obtain ⟨G188, HZ188, HS188⟩ := HXd187.anchor
  clear HXd187
  refine hp_ H185 0 hx186 rfl rfl rfl fun _ H189 => ht_ H189 1 hx186 rfl rfl (fun _ _ _ => dd_cmp rfl (H189.ev 105 rfl) rfl (ne_f (by decide))) fun _ H190 => hp_ H190 2 hx186 rfl rfl rfl fun _ H191 => htg H191 3 hx186 rfl (wg_ H191 rfl rfl rfl rfl) rfl (fun _ _ _ => dd_mv rfl (H191.ev 13 rfl)) fun _ H192 => htg H192 4 hx186 rfl (wg_ H192 rfl rfl rfl rfl) rfl (v := .bool false) (fun _ _ _ => dd_eqp rfl (H192.ev 108 rfl) rfl Try.underlying28 rfl) fun _ H193 => hp_ H193 5 hx186 rfl rfl rfl fun _ H194 => hp_ H194 6 hx186 rfl rfl rfl fun _ H195 => htg H195 7 hx186 rfl (wg_ H195 rfl rfl rfl rfl) rfl (fun _ _ _ => dd_mv rfl (H195.ev 13 rfl)) fun _ H196 => ?_
  clear H185 H189 H190 H191 H192 H193 H194
  refine htg H196 9 hx186 rfl (wg_ H196 rfl rfl rfl rfl) rfl (v := .agg #[.int .u32 (wd Lk.e), .int .u32 (wd Lk.s), .int .u32 (wd Lk.n), .int .u16 (hd Lk.d), .int .u16 (hd Lk.l)]) (fun _ _ HS9 => dd_load HS9 2 0 rfl rfl (H196.ev 10 rfl) (slab_whole _) Try.underlying37 rfl (by kernel_rfl)) fun _ H197 => h1_ 8 rfl <| cg H197 (wg_ H197 rfl rfl rfl rfl) rfl HS188 (dcs Try.func16 rfl (args1 (H197.ev 112 rfl)) (ndlabel_at gn178 _ Lk W179.drew (HS188.row 0 rfl)) (.agg #[.int .u32 (wd Lk.e), .int .u32 (wd Lk.s), .int .u32 (wd Lk.n), .int .u16 (hd Lk.d), .int .u16 (hd Lk.l)])) fun _ HS198 _ H198 => sx_ (sxi (HZ188.move HS198).st [0, 1, 2, 3] rfl) fun hx199 => htg H198 10 hx199 rfl (wg_ H198 rfl rfl rfl rfl) rfl (v := .bool false) (fun _ _ _ => dd_nea (b := true) rfl (H198.ev 113 rfl) (H198.ev 114 rfl) (by kernel_rfl) (fun w => by have h9 := eql_lab Lk Lk w; rw [decide_eq_true rfl] at h9; exact h9) rfl) fun _ H200 => hp_ H200 11 hx199 rfl rfl rfl fun _ H201 => ?_
  clear H195 H196 H197 HS188 hx186 H198 H200
  refine wpAnyH_done (by kernel_rfl) ?_ _
  clear hx199
  refine nx <| cf_ H201 rfl <| wp_skip <| nx <| sq_ <| sq_ <| rl_ <| wl_ <| p_ H201 rfl rfl fun _ H202 => ln_ <| nx <| wp_block <| ?_
  clear H201
  refine wp_loopG (ι := Nat) (fun k2 a9 w9 => (k2 ≤ n) ∧ En 163 [(15, .int .i64 k2), (13, .pointer (some ⟨gn178, 0, none⟩)), (0, .slice A n c)] a9 ∧ Rs w noF [⟨gn178, 69, #[.pointer (some ⟨gd48, 0, none⟩), .int .u32 (wd Lk.e), .int .u32 (wd Lk.s), .int .u32 (wd Lk.n), .int .u16 (hd Lk.d), .int .u16 (hd Lk.l)]⟩, ⟨gn53, 69, #[.pointer (some ⟨gd48, 0, none⟩), .int .u32 (wd Lk.e), .int .u32 (wd Lk.s), .int .u32 (wd Lk.n), .int .u16 (hd Lk.d), .int .u16 (hd Lk.l)]⟩, ⟨g10, 37, #[.int .u32 (wd Lk.e), .int .u32 (wd Lk.s), .int .u32 (wd Lk.n), .int .u16 (hd Lk.d), .int .u16 (hd Lk.l)]⟩, ⟨g98_174, 5, cb98_174⟩] [dskT D (.pointer (some ⟨gd48, 0, none⟩)) (rest sL (-1))] w9) (fun k2 => n - k2) (0) ⟨(Nat.zero_le _), H202.sel [0, 13, 15] rfl, (HZ188.move HS198).sel [0, 1, 2, 3] [0]⟩ ?_
  clear H202 HS198 HZ188
  rintro k2 aL203 wL203 ⟨hk2, HL203, HXL203⟩
  obtain ⟨G204, HZ204, HS204⟩ := HXL203.anchor
  clear HXL203
  refine sq_ <| sq_ <| rl_ <| q_ HL203 2 rfl fun _ H205 => wl_ <| i_ H205 rfl (v := .int .i64 n) (dd_len rfl (H205.ev 118 rfl) Try.underlying40) fun _ H206 => ?_
  clear HL203 H205
  by_cases hc208 : (k2 : Int) < n
  ·
   refine wl_ <| i_ H206 rfl (dd_cmp rfl (H206.ev 117 rfl) (H206.ev 119 rfl) (lt_t hc208)) fun _ H209 => ln_ <| nx <| ct_ H209 rfl <| wp_skip <| nx <| sq_ <| wp_block <| sq_ <| ?_
   clear H206
   obtain ⟨b9, o9, hA9⟩ := hA0 (by omega)
   have HB := fun (W9 : World) (hb9 : Below w.heap.size w W9) => puts_all_at (hA9 ▸ HP W9 hb9)
   have hat : ∀ x ∈ l, 0 ≤ x.1 ∧ x.1 < 12 := fun x hx => goodB_at hb4 x.1 (List.mem_map.2 ⟨x, hx, rfl⟩)
   obtain ⟨xk2, hxk2⟩ : ∃ x, l[k2]? = some x := ⟨_, List.getElem?_eq_getElem (by rw [hn]; omega)⟩
   have hwk2 := hwf xk2 (List.mem_of_getElem? hxk2)
   have hatk2 := hat xk2 (List.mem_of_getElem? hxk2)
   refine rl_ <| q_ H209 3 rfl fun _ H210 => wl_ <| i_ H210 rfl (dd_idxS (sz := 33) (j := o9 + k2 * 33) rfl (sl_at (H210.ev 125 rfl) hA9) (H210.ev 126 rfl) (by kernel_rfl) (by omega) (by omega) (by omega)) fun _ H211 => wl_ <| i_ H211 rfl (xf 0 (o9 + k2 * 33) rfl (H211.ev 127 rfl)) fun _ H212 => wl_ <| i_ H212 rfl (dd_at rfl (H212.ev 128 rfl) (pc_c0 (pc_cat (HB _ (HZ204.bel HS204) k2 xk2 hxk2))) Try.underlying3 rfl) fun _ H213 => ?_
   clear H209 H210 H211 H212
   refine wl_ <| d_ H213 rfl (R := fun v w9 => v = .tuple #[.agg (bs ((updB l (fun _ => blk 0#8)) xk2.1.toNat)), .int .i64 0] ∧ (((updB l (fun _ => blk 0#8)) xk2.1.toNat).length = 32) ∧ Below wL203.heap.size wL203 w9) (dc_ Try.func18 rfl (args2 (H213.ev 124 rfl) (H213.ev 129 rfl)) (lw_blockI xk2.1 ((HZ204.move HS204).sel [] [0]) (HS204.row 0 rfl) hNL hatk2.1 hatk2.2) (fun _ w9 h9 => ⟨_, h9.1, rfl, lw_sec ((HZ204.move HS204).sel [] [0]) hNL _ (by omega), h9.2⟩)) ?_
   rintro _ W215 ⟨rfl, hbl216, hb215⟩ a215 H215
   have HS215 := HS204.same hb215
   clear H213
   clear HS204 hb215
   refine wl_ <| p_ H215 rfl rfl fun _ H217 => wl_ <| i_ H217 rfl (v := .agg (bs ((updB l (fun _ => blk 0#8)) xk2.1.toNat))) (dd_ext rfl (H217.ev 123 rfl) rfl) fun _ H218 => wl_ <| i_ H218 rfl (v := .int .i64 0) (dd_ext rfl (H218.ev 123 rfl) rfl) fun _ H219 => wl_ <| n_ H219 rfl (fun _ h => dd_new HS215 (bs (zer 32)) rfl (z := .agg (bs (zer 32))) (by kernel_rfl) rfl h) fun _ _ HS220 _ H220 => wl_ <| t_ rfl (fun _ h => dd_setrow HS220 4 rfl rfl (H220.ev 16 rfl) (H220.ev 131 rfl) (by kernel_rfl) (((size_bs _).trans hbl216) : (bs ((updB l (fun _ => blk 0#8)) xk2.1.toNat)).size = 32) (((size_bs _).trans (length_zer 32)) : (bs (zer 32)).size = 32) (one_bs _) h) fun _ HS221 => wl_ <| p_ H220 rfl rfl fun _ H222 => ln_ <| nx <| sq_ <| ?_
   clear H215 H217 H218 HS215 H219 HS220 H220
   refine wr_ (HZ204.move HS221) [0, 1, 2, 4] [0, 1, 2, 4, 3] rfl rfl fun HXd224 hx223 => ?_
   obtain ⟨G225, HZ225, HS225⟩ := HXd224.anchor
   clear HXd224
   refine hp_ H222 0 hx223 rfl rfl rfl fun _ H226 => ht_ H226 1 hx223 rfl rfl (fun _ _ _ => dd_cmp rfl (H226.ev 133 rfl) rfl (ne_f (by decide))) fun _ H227 => hp_ H227 2 hx223 rfl rfl rfl fun _ H228 => htg H228 3 hx223 rfl (wg_ H228 rfl rfl rfl rfl) rfl (v := .agg (bs ((updB l (fun _ => blk 0#8)) xk2.1.toNat))) (fun _ _ HS9 => dd_load HS9 3 0 rfl rfl (H228.ev 16 rfl) (slab_whole _) Try.underlying33 rfl (by rw [show (bs ((updB l (fun _ => blk 0#8)) xk2.1.toNat)).size = 32 from ((size_bs _).trans hbl216)]; kernel_rfl)) fun _ H229 => htg H229 4 hx223 rfl (wg_ H229 rfl rfl rfl rfl) rfl (fun _ _ _ => dd_mv rfl (H229.ev 0 rfl)) fun _ H230 => htg H230 5 hx223 rfl (wg_ H230 rfl rfl rfl rfl) rfl (fun _ _ _ => dd_mv rfl (H230.ev 15 rfl)) fun _ H231 => htg H231 6 hx223 rfl (wg_ H231 rfl rfl rfl rfl) rfl (fun _ _ _ => dd_idxS (sz := 33) (j := o9 + k2 * 33) rfl (sl_at (H231.ev 137 rfl) hA9) (H231.ev 138 rfl) (by kernel_rfl) (by omega) (by omega) (by omega)) fun _ H232 => htg H232 7 hx223 rfl (wg_ H232 rfl rfl rfl rfl) rfl (fun _ _ _ => xf 1 (o9 + k2 * 33 + 1) rfl (H232.ev 139 rfl)) fun _ H233 => ?_
   clear H222 H226 H227 H228 H229 H230 H231
   refine htg H233 8 hx223 rfl (wg_ H233 rfl rfl rfl rfl) rfl (v := .agg (bs xk2.2)) (fun _ _ HS9 => dd_atN rfl (H233.ev 140 rfl) (pc_c1 (pc_cat (HB _ HS9.below k2 xk2 hxk2))) Try.underlying33 rfl (by show _ = some (bytesV xk2.2).length; rw [show (bytesV xk2.2).length = 32 from len_bv hwk2.1]; kernel_rfl)) fun _ H234 => htg H234 9 hx223 rfl (wg_ H234 rfl rfl rfl rfl) rfl (v := .bool false) (fun _ _ _ => dd_nea (b := true) rfl (H234.ev 136 rfl) (H234.ev 141 rfl) (by kernel_rfl) (fun w => by have h9 := eql_blk ((updB l (fun _ => blk 0#8)) xk2.1.toNat) xk2.2 hbl216 hwk2.1 w; rw [decide_eq_true (show ((updB l (fun _ => blk 0#8)) xk2.1.toNat) = xk2.2 from updB_at hb4 hxk2)] at h9; exact h9) rfl) fun _ H235 => hp_ H235 10 hx223 rfl rfl rfl fun _ H236 => ?_
   clear H232 H233 H234 H235
   refine wpAnyH_done (by kernel_rfl) ?_ _
   clear hx223
   refine nx <| cf_ H236 rfl <| wp_skip <| bn <| nx <| rl_ <| wl_ <| p_ H236 rfl rfl fun _ H237 => wl_ <| i_ H237 rfl (v := .int .i64 (k2 + 1)) (dd_ari rfl (H237.ev 121 rfl) rfl rfl (i64_of (by first | omega | (have := bd_lo; omega)) (by omega))) fun _ H238 => wl_ <| p_ H238 rfl rfl fun _ H239 => ln_ <| ?_
   clear H236 H237 H238
   have H240 := H239.sel [0, 13, 15] rfl
   clear H239
   refine nx ⟨k2 + 1, ⟨(by omega), H240.sel [0, 13, 15] rfl, (HZ225.move HS225).sel [0, 1, 2, 3] [0]⟩, (by omega)⟩
  refine wl_ <| i_ H206 rfl (dd_cmp rfl (H206.ev 117 rfl) (H206.ev 119 rfl) (lt_f hc208)) fun _ H241 => ln_ <| nx <| cf_ H241 rfl <| wp_exit <| tx <| tx <| bx <| nx <| sq_ <| rl_ <| wl_ <| p_ H241 rfl rfl fun _ H242 => wl_ <| c_ H242 rfl HS204 (v := .tuple #[.agg (bs (zer 32)), .int .i64 1]) (dc_ Try.func18 rfl (args2 (H242.ev 145 rfl) rfl) (lw_blockno (-1) ((HZ204.move HS204).sel [] [0]) (HS204.row 0 rfl) (by decide) (by decide)) (fun _ w9 h9 => ⟨_, h9.1, rfl, h9.2⟩)) fun _ HS243 _ H243 => wl_ <| p_ H243 rfl rfl fun _ H244 => wl_ <| i_ H244 rfl (v := .agg (bs (zer 32))) (dd_ext rfl (H244.ev 144 rfl) rfl) fun _ H245 => wl_ <| i_ H245 rfl (v := .int .i64 1) (dd_ext rfl (H245.ev 144 rfl) rfl) fun _ H246 => wl_ <| n_ H246 rfl (fun _ h => dd_new HS243 (bs (zer 32)) rfl (z := .agg (bs (zer 32))) (by kernel_rfl) rfl h) fun _ _ HS247 _ H247 => wl_ <| t_ rfl (fun _ h => dd_setrow HS247 4 rfl rfl (H247.ev 18 rfl) (H247.ev 147 rfl) (by kernel_rfl) (((size_bs _).trans (length_zer 32)) : (bs (zer 32)).size = 32) (((size_bs _).trans (length_zer 32)) : (bs (zer 32)).size = 32) (one_bs _) h) fun _ HS248 => ?_
  clear H206 H241 H242 HS204 H243 H244 H245 HS243 H246
  refine wl_ <| p_ H247 rfl rfl fun _ H249 => ln_ <| nx <| sq_ <| rl_ <| wl_ <| p_ H249 rfl rfl fun _ H250 => wl_ <| c_ H250 rfl HS248 (v := .tuple #[.agg (bs (zer 32)), .int .i64 1]) (dc_ Try.func18 rfl (args2 (H250.ev 150 rfl) rfl) (lw_blockno 12 ((HZ204.move HS248).sel [] [0]) (HS248.row 0 rfl) (by decide) (by decide)) (fun _ w9 h9 => ⟨_, h9.1, rfl, h9.2⟩)) fun _ HS251 _ H251 => wl_ <| p_ H251 rfl rfl fun _ H252 => wl_ <| i_ H252 rfl (v := .agg (bs (zer 32))) (dd_ext rfl (H252.ev 149 rfl) rfl) fun _ H253 => wl_ <| i_ H253 rfl (v := .int .i64 1) (dd_ext rfl (H253.ev 149 rfl) rfl) fun _ H254 => wl_ <| n_ H254 rfl (fun _ h => dd_new HS251 (bs (zer 32)) rfl (z := .agg (bs (zer 32))) (by kernel_rfl) rfl h) fun _ _ HS255 _ H255 => wl_ <| t_ rfl (fun _ h => dd_setrow HS255 5 rfl rfl (H255.ev 20 rfl) (H255.ev 152 rfl) (by kernel_rfl) (((size_bs _).trans (length_zer 32)) : (bs (zer 32)).size = 32) (((size_bs _).trans (length_zer 32)) : (bs (zer 32)).size = 32) (one_bs _) h) fun W256 HS256 => ?_
  clear HS247 H247 H249 H250 HS248 H251 H252 H253 HS251 H254
  refine wl_ <| p_ H255 rfl rfl fun _ H257 => ln_ <| ?_
  clear HS255 H255
  have H258 := H257.sel [19, 21] rfl
  refine nx <| sq_ <| rl_ <| wl_ <| p_ H258 rfl rfl fun _ H259 => wl_ <| i_ H259 rfl (dd_cmp rfl (H259.ev 154 rfl) rfl (eq_t (by decide))) fun _ H260 => wl_ <| p_ H260 rfl rfl fun _ H261 => wl_ <| ig H261 (wg_ H261 rfl rfl rfl rfl) rfl (dd_mv rfl (H261.ev 21 rfl)) fun _ H262 => wl_ <| ig H262 (wg_ H262 rfl rfl rfl rfl) rfl (dd_cmp rfl (H262.ev 157 rfl) rfl (eq_t (by decide))) fun _ H263 => q_ H263 2 rfl fun _ H264 => wl_ <| cg H264 (wg_ H264 rfl rfl rfl rfl) rfl HS256 (dcs Try.func8 rfl (args0 ) (ndwakes D O W256) (.bool true)) fun _ HS265 _ H265 => q_ H265 2 rfl fun _ H266 => ?_
  clear H257 H258 H259 H260 H261 H262 H263 H264 HS256
  refine ln_ <| nx <| wp_ret <| ret_run H266.env0 (res_t Try.results7 (H266.get 6 rfl)) <| ?_
  clear H265
  exact ⟨rfl, (HZ204.bel HS265)⟩
end Go.Proofs.Ytiabfojcfcpdiaa

/- NodeKeeps: for every list of puts, list of labels and bytes the call returns true and changes nothing that it was handed. Conditions: those of the row. -/
set_option maxRecDepth 4000
namespace Go.Proofs.Ytiabfojcfcpdiaa.nodeKeeps
open Go Go.ChangeShapes Go.WideShapes Go.ChangeAt Go.RowKit

theorem contract (H : Type) (enc : TypeId × Value → H) (W : World) (base : Nat) (args : Array Value) (ds gs : List (DataW H)) (before : List MemPlace)
    (hval : ∀ (j : Nat) t v, Try.f7.params[j]? = some t → args[j]? = some v → Value.okWide Try.prog W .any base t v)
    (hW : DataW.Whole enc Try.prog Try.f7.params.toList Rows.nodeKeepsSpec.vars false W args.toList ds gs before) :
    Calls Try.prog 7 args W fun e W' => ∃ v, e = .returned v ∧ Rows.nodeKeepsSpec.post enc Try.prog Try.f7 false true false false W args v W' := by
  have hW' := hW
  obtain ⟨p, q, hA0, hV, rfl, _, _⟩ := hW
  have hA : DataW.TrodAll enc Try.prog W 0 (fun _ => true) true Try.f7.params.toList args.toList ds p := hA0
  rw [Try.params7] at hA hval
  obtain ⟨v0, vs0, d0, ds0, p0, q0, hargs, rfl, rfl, h0, r0⟩ := trodAll_cons hA
  obtain ⟨v1, vs1, d1, ds1, p1, q1, rfl, rfl, rfl, h1, r1⟩ := trodAll_cons r0
  obtain ⟨v2, vs2, d2, ds2, p2, q2, rfl, rfl, rfl, h2, r2⟩ := trodAll_cons r1
  obtain ⟨rfl, rfl, rfl⟩ := trodAll_nil r2
  obtain rfl : args = #[v0, v1, v2] := by cases args; simp_all
  obtain ⟨rfl, rfl⟩ := trodVars_none hV
  have hlt0 : ∀ x ∈ p0, x.block < W.heap.size := fun x hx => hW'.lt x (by simp [hx])
  have hlt1 : ∀ x ∈ p1, x.block < W.heap.size := fun x hx => hW'.lt x (by simp [hx])
  have hlt2 : ∀ x ∈ p2, x.block < W.heap.size := fun x hx => hW'.lt x (by simp [hx])
  obtain ⟨A0, c0, l0, rfl, hS0, hm0⟩ := open_putsM (hval 0 40 v0 rfl rfl) h0 hlt0
  obtain ⟨A1, n1, c1, l1, rfl, hS1, hm1⟩ := open_labs (hval 1 63 v1 rfl rfl) h1 hlt1
  obtain ⟨A2, c2, b2, rfl, hS2, hN2, hm2⟩ := open_bytes (hval 2 49 v2 rfl rfl) h2 hlt2
  refine (nkeeps_walk diskOps walOps A0 c0 l0 A1 n1 c1 l1 A2 c2 b2 W hS0 hm0 hS1 hm1 hS2 hN2 hm2).mono fun e W' ⟨he, hb⟩ => ?_
  subst he
  exact ⟨_, rfl, [d0, d1, d2], [], _, [], _, [], hW', trodAll_cons_mk (shut_bool Try.underlying4 _) trodAll_mk0, trodAll_cons_mk (Below.trod laidOutT (by kernel_rfl) (of_decide_eq_true (by kernel_rfl)) h0 hb hlt0) (trodAll_cons_mk (Below.trod laidOutT (by kernel_rfl) (of_decide_eq_true (by kernel_rfl)) h1 hb hlt1) (trodAll_cons_mk (Below.trod laidOutT (by kernel_rfl) (of_decide_eq_true (by kernel_rfl)) h2 hb hlt2) trodAll_mk0)), rfl, hb.frame _, fun h => by cases h⟩

set_option maxRecDepth 100000 in
theorem lifted (os : Os) (started : os.Started) (H : Type) (enc : TypeId × Value → H) :
    ReturnsInHanded {} Try.checked os 7 .any (Rows.nodeKeepsSpec.pre6 enc Try.prog Try.f7 Rows.nodeKeepsRow.domain false) (Rows.nodeKeepsSpec.post enc Try.prog Try.f7 false true false false) := by
  refine returnsInHanded_of_change (C := Try.checked) ownK started (by kernel_rfl) Try.func7
    (ChangeSpec.witness6 (enc := enc) (C := Try.checked) false ⟨#[], #[.slice none 0 0, .slice none 0 0, .slice none 0 0], []⟩ 8 (by kernel_rfl) (by kernel_rfl) (by kernel_rfl) (by kernel_rfl)) ?_
  intro W base args ds gs before hval hW _ _
  exact contract H enc W base args ds gs before hval hW

theorem said : Rows.NodeKeepsSaid :=
  OpenClaim.holds_of_wide 7 Try.f7 rfl rfl rfl rfl rfl rfl rfl ⟨rfl, rfl, rfl, rfl, rfl⟩ rfl rfl rfl rfl rfl (by kernel_rfl) Try.func7 (by kernel_rfl)
    (of_decide_eq_true (by kernel_rfl)) (by unfold Func.isWrapper; first | (rw [if_pos (by decide +kernel)]; kernel_rfl) | (rw [if_neg (by decide +kernel)]; exact ⟨rfl, rfl⟩))
    (fun os started H enc _ => lifted os started H enc)
end Go.Proofs.Ytiabfojcfcpdiaa.nodeKeeps
