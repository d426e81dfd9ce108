/- TakerLasts: for every packet and list of bytes the call returns true and changes nothing that it was handed. Conditions: those of the row. -/
import Derived.Test.YtbdpocbnkgckhaaRows
import Derived.Test.YtbdpocbnkgckhaaMAw1
import Derived.Test.YtbdpocbnkgckhaaMGen0
import Derived.Test.YtbdpocbnkgckhaaMLabel0
import Derived.Test.YtbdpocbnkgckhaaMWal0
/- The statement TakerLasts: its walk. -/
set_option maxRecDepth 4000
namespace Go.Proofs.Ytbdpocbnkgckhaa
open Go Go.RowKit
theorem tk_may {k : Int} {e s : BitVec 32} {l : List Pt} (hk : k = 1 ∨ k = 2) (h : goodB (l.map (·.1)) = true) : mayP ⟨k, e, s, l⟩ = true := by unfold mayP; rw [if_pos hk]; exact h
attribute [local irreducible] blk zer spl updB
variable (D : DiskOps) (O : WalOps D)
include O in
set_option maxHeartbeats 1600000 in
theorem tklasts_walk (pk : Pkt) (A : Option Addr) (n c : Nat) (Ak : Option Addr) (ck : Nat) (kq : List (BitVec 8)) (w : World) (hp0' : PutsAt w (.slice A n c) pk.l) (hnm : n ≤ maxLen) (hk : Slice w (.slice Ak kq.length ck) kq) (hAk : Ak = none → ck = 0) (_ : kq.length ≤ maxLen) : Calls Try.prog 4 #[.agg #[.int .i64 pk.k, .int .u32 (wd pk.e), .int .u32 (wd pk.s), .slice A n c], .slice Ak kq.length ck] w fun x w' => x = .returned (.bool true) ∧ Below w.heap.size w w' := by
  obtain ⟨l, hl⟩ : ∃ x, pk.l = x := ⟨_, rfl⟩
  rw [hl] at hp0'
  have hp0 := hp0'
  have hn := (puts_open hp0).1
  have hm : l.length ≤ maxLen := by rw [hn]; exact hnm
  have hmx : n ≤ 9223372036854775807 := by have := hnm; unfold maxLen at this; omega
  have hA0 := (puts_open hp0).2.2.2
  have hwf := (puts_open hp0).2.2.1
  have HS := St.nil w noF
  have HX : Rs w noF [] [] w := Rs.of HS
  clear HS
  have HP : ∀ W, Below w.heap.size w W → PutsAt W (.slice A n c) l := fun W hb => hp0.below hb (Nat.le_refl _)
  have HK : ∀ W, Below w.heap.size w W → Slice W (.slice Ak kq.length ck) kq := fun W hb => hk.below hb (Nat.le_refl _)
  obtain ⟨G1, HZ1, HS1⟩ := HX.anchor
  clear HX
  refine enter_en Try.func4 rfl Try.ntmps4 (Nat.le_of_ble_eq_true rfl) fun a0 (HA0 : En 115 [(0, .agg #[.int .i64 pk.k, .int .u32 (wd pk.e), .int .u32 (wd pk.s), .slice A n c]), (1, .slice Ak kq.length ck)] a0) => ?_
  refine sq_ <| rl_ <| wl_ <| n_ HA0 rfl (fun _ h => dd_box HS1 rfl (HA0.ev 0 rfl) (cs := #[.int .i64 pk.k, .int .u32 (wd pk.e), .int .u32 (wd pk.s), .slice A n c]) rfl h) fun g2 W2 HS2 _ H2 => wl_ <| p_ H2 rfl rfl fun _ H3 => ln_ <| nx <| sq_ <| sq_ <| rl_ <| wl_ <| i_ H3 rfl (xf 3 3 rfl (H3.ev 2 rfl)) fun _ H4 => wl_ <| i_ H4 rfl (dd_get HS2 0 3 rfl rfl (H4.ev 15 rfl) rfl Try.underlying27 rfl) fun _ H5 => ?_
  clear HS1 HA0 H2 H3 H4
  cases hb6 : goodB (l.map (·.1))
  ·
   refine wl_ <| c_ H5 rfl HS2 (v := .bool false) (dc_ Try.func7 rfl (args1 (H5.ev 16 rfl)) (refgood_any l _ W2 (HP _ (HZ1.bel HS2)) hm) (fun _ w9 h9 => ⟨_, h9.1, by rw [hb6], h9.2⟩)) fun W7 HS7 _ H7 => wl_ <| i_ H7 rfl (v := .bool true) (dd_nt rfl (H7.ev 17 rfl) rfl) fun _ H8 => wl_ <| p_ H8 rfl rfl fun a9 H9 => wl_ <| k_ H9 (wg_ H9 rfl rfl rfl rfl) rfl fun _ H10 => wl_ <| k_ H10 (wg_ H10 rfl rfl rfl rfl) rfl fun _ H11 => wl_ <| k_ H11 (wg_ H11 rfl rfl rfl rfl) rfl fun _ H12 => wl_ <| p_ H12 rfl rfl fun _ H13 => ln_ <| nx <| ct_ H13 rfl <| sq_ <| rl_ <| wl_ <| c_ H13 rfl HS7 (dcs Try.func6 rfl (args0 ) (tkwakes D O W7) (.bool true)) fun _ HS14 _ H14 => ?_
   clear H5 HS2 H7 H8 H9 H10 H11 H12
   refine wl_ <| p_ H14 rfl rfl fun _ H15 => ln_ <| nx <| wp_ret <| tr <| ret_run H15.env0 (res_t Try.results4 (H15.get 4 rfl)) <| ?_
   clear H13 HS7 H14
   exact ⟨rfl, (HZ1.bel HS14)⟩
  refine wl_ <| c_ H5 rfl HS2 (v := .bool true) (dc_ Try.func7 rfl (args1 (H5.ev 16 rfl)) (refgood_any l _ W2 (HP _ (HZ1.bel HS2)) hm) (fun _ w9 h9 => ⟨_, h9.1, by rw [hb6], h9.2⟩)) fun W16 HS16 _ H16 => wl_ <| i_ H16 rfl (v := .bool false) (dd_nt rfl (H16.ev 17 rfl) rfl) fun _ H17 => wl_ <| p_ H17 rfl rfl fun _ H18 => wl_ <| ig H18 (wg_ H18 rfl rfl rfl rfl) rfl (dd_mv rfl (H18.ev 1 rfl)) fun _ H19 => wl_ <| ig H19 (wg_ H19 rfl rfl rfl rfl) rfl (v := .int .i64 kq.length) (dd_len rfl (H19.ev 20 rfl) Try.underlying23) fun _ H20 => ?_
  clear H5 HS2 H16 H17 H18 H19
  by_cases hc22 : (300 : Int) < kq.length
  ·
   refine wl_ <| ig H20 (wg_ H20 rfl rfl rfl rfl) rfl (dd_cmp rfl (H20.ev 21 rfl) rfl (gt_t hc22)) fun _ H23 => wl_ <| p_ H23 rfl rfl fun _ H24 => ln_ <| nx <| ct_ H24 rfl <| sq_ <| rl_ <| wl_ <| c_ H24 rfl HS16 (dcs Try.func6 rfl (args0 ) (tkwakes D O W16) (.bool true)) fun _ HS25 _ H25 => wl_ <| p_ H25 rfl rfl fun _ H26 => ln_ <| nx <| wp_ret <| tr <| ret_run H26.env0 (res_t Try.results4 (H26.get 4 rfl)) <| ?_
   clear H20 H23 H24 HS16 H25
   exact ⟨rfl, (HZ1.bel HS25)⟩
  refine wl_ <| ig H20 (wg_ H20 rfl rfl rfl rfl) rfl (dd_cmp rfl (H20.ev 21 rfl) rfl (gt_f hc22)) fun _ H27 => wl_ <| p_ H27 rfl rfl fun _ H28 => ln_ <| nx <| cf_ H28 rfl <| wp_skip <| nx <| sq_ <| rl_ <| ?_
  clear H20 H27
  obtain ⟨Gc30, hc30, hf30, hk30, hq30⟩ := Rs.reframe (R1 := []) (R2 := [⟨g2, 29, #[.int .i64 pk.k, .int .u32 (wd pk.e), .int .u32 (wd pk.s), .slice A n c]⟩]) (Q1 := []) (Q2 := []) ((HZ1.move HS16).sel [0] [])
  refine wl_ <| d_ H28 rfl (R := fun v9 w9 => ∃ gd29 : Nat, v9 = .pointer (some ⟨gd29, 0, none⟩) ∧ Rs w noF [⟨g2, 29, #[.int .i64 pk.k, .int .u32 (wd pk.e), .int .u32 (wd pk.s), .slice A n c]⟩] [dskT D (.pointer (some ⟨gd29, 0, none⟩)) (rest (List.replicate 19 (blk 0#8)) (-1))] w9) (dc_ Try.func9 rfl (args0) (nd_new D Gc30 W16) (fun _ w9 ⟨gd29, he, hX⟩ => ⟨_, he, gd29, rfl, hk30 _ _ _ hX⟩)) ?_
  rintro _ W30 ⟨gd29, rfl, HX30⟩ a30 H30
  clear hc30 hk30 hf30 hq30 HS16 HZ1
  clear H28
  obtain ⟨G31, HZ31, HS31⟩ := HX30.anchor
  clear HX30
  refine wl_ <| p_ H30 rfl rfl fun _ H32 => ln_ <| nx <| sq_ <| rl_ <| wl_ <| p_ H32 rfl rfl fun _ H33 => ?_
  clear H30 H32
  obtain ⟨Gc35, hc35, hf35, hk35, hq35⟩ := Rs.reframe (R1 := []) (R2 := [⟨g2, 29, #[.int .i64 pk.k, .int .u32 (wd pk.e), .int .u32 (wd pk.s), .slice A n c]⟩]) (Q1 := [dskT D (.pointer (some ⟨gd29, 0, none⟩)) (rest (List.replicate 19 (blk 0#8)) (-1))]) (Q2 := []) ((HZ31.move HS31).sel [0] [0])
  refine wl_ <| d_ H33 rfl (R := fun v9 w9 => ∃ gn34 : Nat, v9 = .tuple #[.pointer (some ⟨gn34, 0, none⟩), .int .i64 0] ∧ Rs w noF [⟨gn34, 59, #[.pointer (some ⟨gd29, 0, none⟩), .int .u32 (wd lab0.e), .int .u32 (wd lab0.s), .int .u32 (wd lab0.n), .int .u16 (hd lab0.d), .int .u16 (hd lab0.l)]⟩, ⟨g2, 29, #[.int .i64 pk.k, .int .u32 (wd pk.e), .int .u32 (wd pk.s), .slice A n c]⟩] [dskT D (.pointer (some ⟨gd29, 0, none⟩)) (rest (List.replicate 19 (blk 0#8)) (-1))] w9) (dc_ Try.func8 rfl (args1 (H33.ev 27 rfl)) (lw_open (O := O) hc35 nds_new) (fun _ w9 ⟨gn34, he, hX⟩ => ⟨_, he, gn34, rfl, hk35 _ _ _ hX⟩)) ?_
  rintro _ W35 ⟨gn34, rfl, HX35⟩ a35 H35
  clear hc35 hk35 hf35 hq35 HS31 HZ31
  clear H33
  obtain ⟨G36, HZ36, HS36⟩ := HX35.anchor
  clear HX35
  refine wl_ <| p_ H35 rfl rfl fun _ H37 => wl_ <| i_ H37 rfl (v := .pointer (some ⟨gn34, 0, none⟩)) (dd_ext rfl (H37.ev 26 rfl) rfl) fun _ H38 => wl_ <| i_ H38 rfl (v := .int .i64 0) (dd_ext rfl (H38.ev 26 rfl) rfl) fun _ H39 => q_ H39 2 rfl fun _ H40 => ln_ <| ?_
  clear H35 H37 H38 H39
  have H41 := H40.sel [1, 2, 5, 6, 7] rfl
  refine nx <| sq_ <| rl_ <| wl_ <| i_ H41 rfl (xf 0 0 rfl (H41.ev 2 rfl)) fun _ H42 => wl_ <| t_ rfl (fun _ h => dd_put (cs := #[.int .i64 1, .int .u32 (wd pk.e), .int .u32 (wd pk.s), .slice A n c]) HS36 1 0 rfl rfl (H42.ev 31 rfl) rfl (by kernel_rfl) rfl rfl rfl rfl h) fun _ HS43 => wl_ <| i_ H42 rfl (xf 1 1 rfl (H42.ev 2 rfl)) fun _ H44 => wl_ <| t_ rfl (fun _ h => dd_put (cs := #[.int .i64 1, .int .u32 2, .int .u32 (wd pk.s), .slice A n c]) HS43 1 1 rfl rfl (H44.ev 32 rfl) rfl (by kernel_rfl) rfl rfl rfl rfl h) fun _ HS45 => wl_ <| i_ H44 rfl (xf 2 2 rfl (H44.ev 2 rfl)) fun _ H46 => wl_ <| t_ rfl (fun _ h => dd_put (cs := #[.int .i64 1, .int .u32 2, .int .u32 9, .slice A n c]) HS45 1 2 rfl rfl (H46.ev 33 rfl) rfl (by kernel_rfl) rfl rfl rfl rfl h) fun W47 HS47 => ln_ <| nx <| sq_ <| rl_ <| wl_ <| p_ H46 rfl rfl fun _ H48 => wl_ <| i_ H48 rfl (v := .agg #[.int .i64 1, .int .u32 2, .int .u32 9, .slice A n c]) (dd_load HS47 1 0 rfl rfl (H48.ev 2 rfl) (slab_whole _) Try.underlying29 rfl (by kernel_rfl)) fun _ H49 => ?_
  clear H40 H41 HS36 H42 HS43 H44 HS45 H46
  clear H48
  obtain ⟨nB50, hnB50⟩ : ∃ n, (encP (⟨1, 2#32, 9#32, l⟩ : Pkt)).length = n := ⟨_, rfl⟩
  obtain ⟨Gc51, hc51, hf51, hk51, hq51⟩ := Rs.reframe (R1 := []) (R2 := [⟨gn34, 59, #[.pointer (some ⟨gd29, 0, none⟩), .int .u32 (wd lab0.e), .int .u32 (wd lab0.s), .int .u32 (wd lab0.n), .int .u16 (hd lab0.d), .int .u16 (hd lab0.l)]⟩, ⟨g2, 29, #[.int .i64 1, .int .u32 2, .int .u32 9, .slice A n c]⟩]) (Q1 := []) (Q2 := [dskT D (.pointer (some ⟨gd29, 0, none⟩)) (rest (List.replicate 19 (blk 0#8)) (-1))]) ((HZ36.move HS47).sel [0, 1] [0])
  refine wl_ <| d_ H49 rfl (R := fun v9 w9 => ∃ gp50 : Nat, ∃ cp50 : Nat, ∃ cbp50 : Array Value, v9 = .slice (some ⟨gp50, 0, none⟩) nB50 cp50 ∧ (OwnC cbp50 cp50 nB50 1 (bytesV (encP (⟨1, 2#32, 9#32, l⟩ : Pkt)))) ∧ Rs w noF [⟨gp50, 5, cbp50⟩, ⟨gn34, 59, #[.pointer (some ⟨gd29, 0, none⟩), .int .u32 (wd lab0.e), .int .u32 (wd lab0.s), .int .u32 (wd lab0.n), .int .u16 (hd lab0.d), .int .u16 (hd lab0.l)]⟩, ⟨g2, 29, #[.int .i64 1, .int .u32 2, .int .u32 9, .slice A n c]⟩] [dskT D (.pointer (some ⟨gd29, 0, none⟩)) (rest (List.replicate 19 (blk 0#8)) (-1))] w9) (dc_ Try.func11 rfl (args1 (H49.ev 36 rfl)) (tk_pkt Gc51 (⟨1, 2#32, 9#32, l⟩ : Pkt) _ _ _ nB50 W47 (HP _ (HZ36.bel HS47)) (fun x9 hx9 => (hwf x9 hx9).1) hnm (tk_may (.inl rfl) hb6) hnB50) (fun _ w9 ⟨gp50, cp50, cbp50, he, Op50, hX⟩ => ⟨_, he, gp50, cp50, cbp50, rfl, Op50, hk51 _ _ _ hX⟩)) ?_
  rintro _ W51 ⟨gp50, cp50, cbp50, rfl, Op50, HX51⟩ a51 H51
  clear hc51 hk51 hf51 hq51 HS47 HZ36
  clear H49
  obtain ⟨G52, HZ52, HS52⟩ := HX51.anchor
  clear HX51
  obtain ⟨Gc54, hc54, hf54, hk54, hq54⟩ := Rs.reframe (R1 := [⟨gn34, 59, #[.pointer (some ⟨gd29, 0, none⟩), .int .u32 (wd lab0.e), .int .u32 (wd lab0.s), .int .u32 (wd lab0.n), .int .u16 (hd lab0.d), .int .u16 (hd lab0.l)]⟩]) (R2 := [⟨gp50, 5, cbp50⟩, ⟨g2, 29, #[.int .i64 1, .int .u32 2, .int .u32 9, .slice A n c]⟩]) (Q1 := [dskT D (.pointer (some ⟨gd29, 0, none⟩)) (rest (List.replicate 19 (blk 0#8)) (-1))]) (Q2 := []) ((HZ52.move HS52).sel [1, 0, 2] [0])
  refine wl_ <| d_ H51 rfl (R := fun v9 w9 => ∃ s53 : Secs, v9 = .tuple #[.agg #[.int .i64 3, .int .u32 2, .int .u32 9, .slice none 0 0], .int .i64 0] ∧ (Nds s53 (doneLab lab0 (pkR (⟨1, 2#32, 9#32, l⟩ : Pkt)) lab0.d) (updB l (fun _ => blk 0#8))) ∧ Rs w noF [⟨gn34, 59, #[.pointer (some ⟨gd29, 0, none⟩), .int .u32 (wd (doneLab lab0 (pkR (⟨1, 2#32, 9#32, l⟩ : Pkt)) lab0.d).e), .int .u32 (wd (doneLab lab0 (pkR (⟨1, 2#32, 9#32, l⟩ : Pkt)) lab0.d).s), .int .u32 (wd (doneLab lab0 (pkR (⟨1, 2#32, 9#32, l⟩ : Pkt)) lab0.d).n), .int .u16 (hd (doneLab lab0 (pkR (⟨1, 2#32, 9#32, l⟩ : Pkt)) lab0.d).d), .int .u16 (hd (doneLab lab0 (pkR (⟨1, 2#32, 9#32, l⟩ : Pkt)) lab0.d).l)]⟩, ⟨gp50, 5, cbp50⟩, ⟨g2, 29, #[.int .i64 1, .int .u32 2, .int .u32 9, .slice A n c]⟩] [dskT D (.pointer (some ⟨gd29, 0, none⟩)) (rest s53 (-1))] w9) (dc_ Try.func10 rfl (args2 (H51.ev 35 rfl) (H51.ev 37 rfl)) (tk_done (O := O) (⟨1, 2#32, 9#32, l⟩ : Pkt) hc54 nds_new (slice_own (HS52.row 0 rfl) Op50 hnB50) (own_off1 hf54 0 rfl rfl) (tk_may (.inl rfl) hb6) (fun x9 hx9 => (hwf x9 hx9).1) (.inl rfl) (show laterB 2#32 9#32 0#32 0#32 = true by decide)) (fun _ w9 ⟨s53, he, hN53, hX⟩ => ⟨_, he, s53, rfl, hN53, hk54 _ _ _ hX⟩)) ?_
  rintro _ W54 ⟨s53, rfl, hN53, HX54⟩ a54 H54
  clear hc54 hk54 hf54 hq54 HS52 HZ52
  clear H51
  obtain ⟨G55, HZ55, HS55⟩ := HX54.anchor
  clear HX54
  refine wl_ <| p_ H54 rfl rfl fun _ H56 => wl_ <| i_ H56 rfl (v := .agg #[.int .i64 3, .int .u32 2, .int .u32 9, .slice none 0 0]) (dd_ext rfl (H56.ev 34 rfl) rfl) fun _ H57 => wl_ <| i_ H57 rfl (v := .int .i64 0) (dd_ext rfl (H57.ev 34 rfl) rfl) fun _ H58 => wl_ <| n_ H58 rfl (S := fun g8 => [⟨gn34, 59, #[.pointer (some ⟨gd29, 0, none⟩), .int .u32 (wd (doneLab lab0 (pkR (⟨1, 2#32, 9#32, l⟩ : Pkt)) lab0.d).e), .int .u32 (wd (doneLab lab0 (pkR (⟨1, 2#32, 9#32, l⟩ : Pkt)) lab0.d).s), .int .u32 (wd (doneLab lab0 (pkR (⟨1, 2#32, 9#32, l⟩ : Pkt)) lab0.d).n), .int .u16 (hd (doneLab lab0 (pkR (⟨1, 2#32, 9#32, l⟩ : Pkt)) lab0.d).d), .int .u16 (hd (doneLab lab0 (pkR (⟨1, 2#32, 9#32, l⟩ : Pkt)) lab0.d).l)]⟩, ⟨gp50, 5, cbp50⟩, ⟨g2, 29, #[.int .i64 1, .int .u32 2, .int .u32 9, .slice A n c]⟩, ⟨g8, 29, #[.int .i64 0, .int .u32 0, .int .u32 0, .slice none 0 0]⟩]) (fun _ h => dd_new HS55 #[.int .i64 0, .int .u32 0, .int .u32 0, .slice none 0 0] rfl (z := .agg #[.int .i64 0, .int .u32 0, .int .u32 0, .slice none 0 0]) (by kernel_rfl) rfl h) fun g8 _ HS59 _ H59 => wl_ <| t_ rfl (fun _ h => dd_setrow HS59 3 rfl rfl (H59.ev 8 rfl) (H59.ev 39 rfl) (by kernel_rfl) (rfl : #[.int .i64 3, .int .u32 2, .int .u32 9, .slice none 0 0].size = 4) (rfl : #[.int .i64 0, .int .u32 0, .int .u32 0, .slice none 0 0].size = 4) (one_l (ao_cons rfl (ao_cons rfl (ao_cons rfl (ao_cons rfl ao_nil))))) h) fun _ HS60 => wl_ <| p_ H59 rfl rfl fun _ H61 => ln_ <| nx <| sq_ <| sq_ <| rl_ <| wl_ <| p_ H61 rfl rfl fun _ H62 => wl_ <| i_ H62 rfl (dd_cmp rfl (H62.ev 41 rfl) rfl (ne_f (by decide))) fun _ H63 => ?_
  clear H54 H56 H57 HS55 H58 HS59 H59 H61
  refine wl_ <| p_ H63 rfl rfl fun _ H64 => wl_ <| ig H64 (wg_ H64 rfl rfl rfl rfl) rfl (dd_mv rfl (H64.ev 9 rfl)) fun _ H65 => wl_ <| ig H65 (wg_ H65 rfl rfl rfl rfl) rfl (dd_cmp rfl (H65.ev 44 rfl) rfl (ne_f (by decide))) fun _ H66 => q_ H66 2 rfl fun _ H67 => wl_ <| ig H67 (wg_ H67 rfl rfl rfl rfl) rfl (xf 0 0 rfl (H67.ev 8 rfl)) fun _ H68 => wl_ <| ig H68 (wg_ H68 rfl rfl rfl rfl) rfl (dd_get HS60 3 0 rfl rfl (H68.ev 48 rfl) rfl Try.underlying3 rfl) fun _ H69 => wl_ <| ig H69 (wg_ H69 rfl rfl rfl rfl) rfl (dd_cmp rfl (H69.ev 49 rfl) rfl (ne_f (by decide))) fun _ H70 => q_ H70 2 rfl fun _ H71 => ?_
  clear H62 H63 H64 H65 H66 H67 H68 H69
  refine wl_ <| ig H71 (wg_ H71 rfl rfl rfl rfl) rfl (dd_mv rfl (H71.ev 5 rfl)) fun _ H72 => wl_ <| ig H72 (wg_ H72 rfl rfl rfl rfl) rfl (v := .bool false) (dd_eqp rfl (H72.ev 53 rfl) rfl Try.underlying34 rfl) fun _ H73 => wl_ <| p_ H73 rfl rfl fun _ H74 => ln_ <| ?_
  clear H70 H71 H72 H73
  have H75 := H74.sel [1, 2, 5, 55] rfl
  refine nx <| cf_ H75 rfl <| wp_skip <| nx <| sq_ <| rl_ <| wl_ <| p_ H75 rfl rfl fun _ H76 => wl_ <| n_ H76 rfl (A := fun g57 => .slice (some ⟨g57, 0, none⟩) 0 0) (fun _ h => dd_lit0 HS60 rfl rfl Try.underlying23 (sz := 1) (by kernel_rfl) h) fun g57 _ HS77 _ H77 => wl_ <| p_ H77 rfl rfl fun _ H78 => wl_ <| a_ H78 rfl (fun g59_81 c59_81 => .slice (some ⟨g59_81, 0, none⟩) kq.length c59_81) (T := fun _ c59_81 cb59_81 => OwnC cb59_81 c59_81 kq.length 1 (bytesV (kq))) (fun _ h => dd_appB HS77 4 rfl ownc_nil rfl (H78.ev 57 rfl) (H78.ev 58 rfl) (HK _ (HZ55.bel HS77)) hAk (Nat.zero_add _) (List.nil_append _) (by unfold maxLen; omega) (by omega) h) fun g59_81 c59_81 cb59_81 _ O59_81 HS80 _ H80 => ?_
  clear H74 H75 HS60 H76 H77 HS77 H78
  obtain ⟨Gc82, hc82, hf82, hk82, hq82⟩ := Rs.reframe (R1 := []) (R2 := [⟨gn34, 59, #[.pointer (some ⟨gd29, 0, none⟩), .int .u32 (wd (doneLab lab0 (pkR (⟨1, 2#32, 9#32, l⟩ : Pkt)) lab0.d).e), .int .u32 (wd (doneLab lab0 (pkR (⟨1, 2#32, 9#32, l⟩ : Pkt)) lab0.d).s), .int .u32 (wd (doneLab lab0 (pkR (⟨1, 2#32, 9#32, l⟩ : Pkt)) lab0.d).n), .int .u16 (hd (doneLab lab0 (pkR (⟨1, 2#32, 9#32, l⟩ : Pkt)) lab0.d).d), .int .u16 (hd (doneLab lab0 (pkR (⟨1, 2#32, 9#32, l⟩ : Pkt)) lab0.d).l)]⟩, ⟨gp50, 5, cbp50⟩, ⟨g2, 29, #[.int .i64 1, .int .u32 2, .int .u32 9, .slice A n c]⟩, ⟨g8, 29, #[.int .i64 3, .int .u32 2, .int .u32 9, .slice none 0 0]⟩, ⟨g59_81, 5, cb59_81⟩]) (Q1 := [dskT D (.pointer (some ⟨gd29, 0, none⟩)) (rest s53 (-1))]) (Q2 := []) ((HZ55.move HS80).sel [0, 1, 2, 3, 4] [0])
  refine wl_ <| d_ H80 rfl (R := fun v9 w9 => v9 = .tuple #[] ∧ Rs w noF [⟨gn34, 59, #[.pointer (some ⟨gd29, 0, none⟩), .int .u32 (wd (doneLab lab0 (pkR (⟨1, 2#32, 9#32, l⟩ : Pkt)) lab0.d).e), .int .u32 (wd (doneLab lab0 (pkR (⟨1, 2#32, 9#32, l⟩ : Pkt)) lab0.d).s), .int .u32 (wd (doneLab lab0 (pkR (⟨1, 2#32, 9#32, l⟩ : Pkt)) lab0.d).n), .int .u16 (hd (doneLab lab0 (pkR (⟨1, 2#32, 9#32, l⟩ : Pkt)) lab0.d).d), .int .u16 (hd (doneLab lab0 (pkR (⟨1, 2#32, 9#32, l⟩ : Pkt)) lab0.d).l)]⟩, ⟨gp50, 5, cbp50⟩, ⟨g2, 29, #[.int .i64 1, .int .u32 2, .int .u32 9, .slice A n c]⟩, ⟨g8, 29, #[.int .i64 3, .int .u32 2, .int .u32 9, .slice none 0 0]⟩, ⟨g59_81, 5, cb59_81⟩] [dskT D (.pointer (some ⟨gd29, 0, none⟩)) (rest s53 (-1))] w9) (dc_ Try.func14 rfl (args2 (H80.ev 56 rfl) (H80.ev 59 rfl)) (lw_up (.slice (some ⟨g59_81, 0, none⟩) kq.length c59_81) kq hc82 (slice_own (HS80.row 4 rfl) O59_81 rfl) (by show _ ≤ 1000000000; omega) (own_off1 hf82 4 rfl rfl)) (fun _ w9 ⟨he, hX⟩ => ⟨_, he, rfl, hk82 _ _ _ hX⟩)) ?_
  rintro _ W82 ⟨rfl, HX82⟩ a82 H82
  clear hc82 hk82 hf82 hq82 HS80 HZ55
  clear H80
  obtain ⟨G83, HZ83, HS83⟩ := HX82.anchor
  clear HX82
  refine ln_ <| nx <| sq_ <| rl_ <| wl_ <| p_ H82 rfl rfl fun _ H84 => ?_
  clear H82
  obtain ⟨Gc86, hc86, hf86, hk86, hq86⟩ := Rs.reframe (R1 := []) (R2 := [⟨gn34, 59, #[.pointer (some ⟨gd29, 0, none⟩), .int .u32 (wd (doneLab lab0 (pkR (⟨1, 2#32, 9#32, l⟩ : Pkt)) lab0.d).e), .int .u32 (wd (doneLab lab0 (pkR (⟨1, 2#32, 9#32, l⟩ : Pkt)) lab0.d).s), .int .u32 (wd (doneLab lab0 (pkR (⟨1, 2#32, 9#32, l⟩ : Pkt)) lab0.d).n), .int .u16 (hd (doneLab lab0 (pkR (⟨1, 2#32, 9#32, l⟩ : Pkt)) lab0.d).d), .int .u16 (hd (doneLab lab0 (pkR (⟨1, 2#32, 9#32, l⟩ : Pkt)) lab0.d).l)]⟩, ⟨gp50, 5, cbp50⟩, ⟨g2, 29, #[.int .i64 1, .int .u32 2, .int .u32 9, .slice A n c]⟩, ⟨g8, 29, #[.int .i64 3, .int .u32 2, .int .u32 9, .slice none 0 0]⟩, ⟨g59_81, 5, cb59_81⟩]) (Q1 := [dskT D (.pointer (some ⟨gd29, 0, none⟩)) (rest s53 (-1))]) (Q2 := []) ((HZ83.move HS83).sel [0, 1, 2, 3, 4] [0])
  refine wl_ <| d_ H84 rfl (R := fun v9 w9 => ∃ gn85 : Nat, v9 = .tuple #[.pointer (some ⟨gn85, 0, none⟩), .int .i64 0] ∧ Rs w noF [⟨gn85, 59, #[.pointer (some ⟨gd29, 0, none⟩), .int .u32 (wd (doneLab lab0 (pkR (⟨1, 2#32, 9#32, l⟩ : Pkt)) lab0.d).e), .int .u32 (wd (doneLab lab0 (pkR (⟨1, 2#32, 9#32, l⟩ : Pkt)) lab0.d).s), .int .u32 (wd (doneLab lab0 (pkR (⟨1, 2#32, 9#32, l⟩ : Pkt)) lab0.d).n), .int .u16 (hd (doneLab lab0 (pkR (⟨1, 2#32, 9#32, l⟩ : Pkt)) lab0.d).d), .int .u16 (hd (doneLab lab0 (pkR (⟨1, 2#32, 9#32, l⟩ : Pkt)) lab0.d).l)]⟩, ⟨gn34, 59, #[.pointer (some ⟨gd29, 0, none⟩), .int .u32 (wd (doneLab lab0 (pkR (⟨1, 2#32, 9#32, l⟩ : Pkt)) lab0.d).e), .int .u32 (wd (doneLab lab0 (pkR (⟨1, 2#32, 9#32, l⟩ : Pkt)) lab0.d).s), .int .u32 (wd (doneLab lab0 (pkR (⟨1, 2#32, 9#32, l⟩ : Pkt)) lab0.d).n), .int .u16 (hd (doneLab lab0 (pkR (⟨1, 2#32, 9#32, l⟩ : Pkt)) lab0.d).d), .int .u16 (hd (doneLab lab0 (pkR (⟨1, 2#32, 9#32, l⟩ : Pkt)) lab0.d).l)]⟩, ⟨gp50, 5, cbp50⟩, ⟨g2, 29, #[.int .i64 1, .int .u32 2, .int .u32 9, .slice A n c]⟩, ⟨g8, 29, #[.int .i64 3, .int .u32 2, .int .u32 9, .slice none 0 0]⟩, ⟨g59_81, 5, cb59_81⟩] [dskT D (.pointer (some ⟨gd29, 0, none⟩)) (rest s53 (-1))] w9) (dc_ Try.func8 rfl (args1 (H84.ev 62 rfl)) (lw_open (O := O) hc86 hN53) (fun _ w9 ⟨gn85, he, hX⟩ => ⟨_, he, gn85, rfl, hk86 _ _ _ hX⟩)) ?_
  rintro _ W86 ⟨gn85, rfl, HX86⟩ a86 H86
  clear hc86 hk86 hf86 hq86 HS83 HZ83
  clear H84
  obtain ⟨G87, HZ87, HS87⟩ := HX86.anchor
  clear HX86
  refine wl_ <| p_ H86 rfl rfl fun _ H88 => wl_ <| i_ H88 rfl (v := .pointer (some ⟨gn85, 0, none⟩)) (dd_ext rfl (H88.ev 61 rfl) rfl) fun _ H89 => wl_ <| i_ H89 rfl (v := .int .i64 0) (dd_ext rfl (H89.ev 61 rfl) rfl) fun _ H90 => q_ H90 2 rfl fun _ H91 => ln_ <| nx <| sq_ <| sq_ <| rl_ <| wl_ <| p_ H91 rfl rfl fun _ H92 => wl_ <| i_ H92 rfl (dd_cmp rfl (H92.ev 66 rfl) rfl (ne_f (by decide))) fun _ H93 => wl_ <| p_ H93 rfl rfl fun _ H94 => wl_ <| ig H94 (wg_ H94 rfl rfl rfl rfl) rfl (dd_mv rfl (H94.ev 10 rfl)) fun _ H95 => ?_
  clear H86 H88 H89 H90 H91 H92 H93
  refine wl_ <| ig H95 (wg_ H95 rfl rfl rfl rfl) rfl (v := .bool false) (dd_eqp rfl (H95.ev 69 rfl) rfl Try.underlying30 rfl) fun _ H96 => wl_ <| p_ H96 rfl rfl fun _ H97 => ln_ <| ?_
  clear H94 H95 H96
  have H98 := H97.sel [2, 10, 71] rfl
  refine nx <| cf_ H98 rfl <| wp_skip <| nx <| sq_ <| sq_ <| rl_ <| wl_ <| p_ H98 rfl rfl fun _ H99 => ln_ <| nx <| wp_block <| ?_
  clear H97 H98
  refine wp_loopG (ι := Nat) (fun k2 a9 w9 => (k2 ≤ n) ∧ En 115 [(12, .int .i64 k2), (10, .pointer (some ⟨gn85, 0, none⟩)), (2, .pointer (some ⟨g2, 0, none⟩))] a9 ∧ Rs w noF [⟨gn85, 59, #[.pointer (some ⟨gd29, 0, none⟩), .int .u32 (wd (doneLab lab0 (pkR (⟨1, 2#32, 9#32, l⟩ : Pkt)) lab0.d).e), .int .u32 (wd (doneLab lab0 (pkR (⟨1, 2#32, 9#32, l⟩ : Pkt)) lab0.d).s), .int .u32 (wd (doneLab lab0 (pkR (⟨1, 2#32, 9#32, l⟩ : Pkt)) lab0.d).n), .int .u16 (hd (doneLab lab0 (pkR (⟨1, 2#32, 9#32, l⟩ : Pkt)) lab0.d).d), .int .u16 (hd (doneLab lab0 (pkR (⟨1, 2#32, 9#32, l⟩ : Pkt)) lab0.d).l)]⟩, ⟨gn34, 59, #[.pointer (some ⟨gd29, 0, none⟩), .int .u32 (wd (doneLab lab0 (pkR (⟨1, 2#32, 9#32, l⟩ : Pkt)) lab0.d).e), .int .u32 (wd (doneLab lab0 (pkR (⟨1, 2#32, 9#32, l⟩ : Pkt)) lab0.d).s), .int .u32 (wd (doneLab lab0 (pkR (⟨1, 2#32, 9#32, l⟩ : Pkt)) lab0.d).n), .int .u16 (hd (doneLab lab0 (pkR (⟨1, 2#32, 9#32, l⟩ : Pkt)) lab0.d).d), .int .u16 (hd (doneLab lab0 (pkR (⟨1, 2#32, 9#32, l⟩ : Pkt)) lab0.d).l)]⟩, ⟨gp50, 5, cbp50⟩, ⟨g2, 29, #[.int .i64 1, .int .u32 2, .int .u32 9, .slice A n c]⟩, ⟨g8, 29, #[.int .i64 3, .int .u32 2, .int .u32 9, .slice none 0 0]⟩, ⟨g59_81, 5, cb59_81⟩] [dskT D (.pointer (some ⟨gd29, 0, none⟩)) (rest s53 (-1))] w9) (fun k2 => n - k2) (0) ⟨(Nat.zero_le _), H99.sel [2, 10, 12] rfl, (HZ87.move HS87).sel [0, 1, 2, 3, 4, 5] [0]⟩ ?_
  clear H99 HS87 HZ87
  rintro k2 aL100 wL100 ⟨hk2, HL100, HXL100⟩
  obtain ⟨G101, HZ101, HS101⟩ := HXL100.anchor
  clear HXL100
  refine sq_ <| sq_ <| rl_ <| wl_ <| p_ HL100 rfl rfl fun _ H102 => wl_ <| i_ H102 rfl (xf 3 3 rfl (H102.ev 2 rfl)) fun _ H103 => wl_ <| i_ H103 rfl (dd_get HS101 3 3 rfl rfl (H103.ev 73 rfl) rfl Try.underlying27 rfl) fun _ H104 => wl_ <| i_ H104 rfl (v := .int .i64 n) (dd_len rfl (H104.ev 74 rfl) Try.underlying27) fun _ H105 => ?_
  clear HL100 H102 H103 H104
  by_cases hc107 : (k2 : Int) < n
  ·
   refine wl_ <| i_ H105 rfl (dd_cmp rfl (H105.ev 72 rfl) (H105.ev 75 rfl) (lt_t hc107)) fun _ H108 => ln_ <| nx <| ct_ H108 rfl <| wp_skip <| nx <| sq_ <| wp_block <| sq_ <| ?_
   clear H105
   obtain ⟨b9, o9, hA9⟩ := hA0 (by omega)
   have HB := fun (W9 : World) (hb9 : Below w.heap.size w W9) => puts_all_at (hA9 ▸ HP W9 hb9)
   have hat : ∀ x ∈ l, 0 ≤ x.1 ∧ x.1 < 12 := fun x hx => goodB_at hb6 x.1 (List.mem_map.2 ⟨x, hx, rfl⟩)
   obtain ⟨xk2, hxk2⟩ : ∃ x, l[k2]? = some x := ⟨_, List.getElem?_eq_getElem (by rw [hn]; omega)⟩
   have hwk2 := hwf xk2 (List.mem_of_getElem? hxk2)
   have hatk2 := hat xk2 (List.mem_of_getElem? hxk2)
   refine rl_ <| wl_ <| p_ H108 rfl rfl fun _ H109 => wl_ <| i_ H109 rfl (xf 3 3 rfl (H109.ev 2 rfl)) fun _ H110 => wl_ <| i_ H110 rfl (dd_get HS101 3 3 rfl rfl (H110.ev 81 rfl) rfl Try.underlying27 rfl) fun _ H111 => wl_ <| p_ H111 rfl rfl fun _ H112 => wl_ <| i_ H112 rfl (dd_idxS (sz := 33) (j := o9 + k2 * 33) rfl (sl_at (H112.ev 82 rfl) hA9) (H112.ev 83 rfl) (by kernel_rfl) (by omega) (by omega) (by omega)) fun _ H113 => wl_ <| i_ H113 rfl (xf 0 (o9 + k2 * 33) rfl (H113.ev 84 rfl)) fun _ H114 => wl_ <| i_ H114 rfl (dd_at rfl (H114.ev 85 rfl) (pc_c0 (pc_cat (HB _ (HZ101.bel HS101) k2 xk2 hxk2))) Try.underlying3 rfl) fun _ H115 => ?_
   clear H108 H109 H110 H111 H112 H113 H114
   refine wl_ <| d_ H115 rfl (R := fun v w9 => v = .tuple #[.agg (bs ((updB l (fun _ => blk 0#8)) xk2.1.toNat)), .int .i64 0] ∧ (((updB l (fun _ => blk 0#8)) xk2.1.toNat).length = 32) ∧ Below wL100.heap.size wL100 w9) (dc_ Try.func13 rfl (args2 (H115.ev 80 rfl) (H115.ev 86 rfl)) (lw_blockI xk2.1 ((HZ101.move HS101).sel [] [0]) (HS101.row 0 rfl) hN53 hatk2.1 hatk2.2) (fun _ w9 h9 => ⟨_, h9.1, rfl, lw_sec ((HZ101.move HS101).sel [] [0]) hN53 _ (by omega), h9.2⟩)) ?_
   rintro _ W117 ⟨rfl, hbl118, hb117⟩ a117 H117
   have HS117 := HS101.same hb117
   clear H115
   clear HS101 hb117
   refine wl_ <| p_ H117 rfl rfl fun _ H119 => wl_ <| i_ H119 rfl (v := .agg (bs ((updB l (fun _ => blk 0#8)) xk2.1.toNat))) (dd_ext rfl (H119.ev 79 rfl) rfl) fun _ H120 => wl_ <| i_ H120 rfl (v := .int .i64 0) (dd_ext rfl (H120.ev 79 rfl) rfl) fun _ H121 => wl_ <| n_ H121 rfl (S := fun g13 => [⟨gn85, 59, #[.pointer (some ⟨gd29, 0, none⟩), .int .u32 (wd (doneLab lab0 (pkR (⟨1, 2#32, 9#32, l⟩ : Pkt)) lab0.d).e), .int .u32 (wd (doneLab lab0 (pkR (⟨1, 2#32, 9#32, l⟩ : Pkt)) lab0.d).s), .int .u32 (wd (doneLab lab0 (pkR (⟨1, 2#32, 9#32, l⟩ : Pkt)) lab0.d).n), .int .u16 (hd (doneLab lab0 (pkR (⟨1, 2#32, 9#32, l⟩ : Pkt)) lab0.d).d), .int .u16 (hd (doneLab lab0 (pkR (⟨1, 2#32, 9#32, l⟩ : Pkt)) lab0.d).l)]⟩, ⟨gn34, 59, #[.pointer (some ⟨gd29, 0, none⟩), .int .u32 (wd (doneLab lab0 (pkR (⟨1, 2#32, 9#32, l⟩ : Pkt)) lab0.d).e), .int .u32 (wd (doneLab lab0 (pkR (⟨1, 2#32, 9#32, l⟩ : Pkt)) lab0.d).s), .int .u32 (wd (doneLab lab0 (pkR (⟨1, 2#32, 9#32, l⟩ : Pkt)) lab0.d).n), .int .u16 (hd (doneLab lab0 (pkR (⟨1, 2#32, 9#32, l⟩ : Pkt)) lab0.d).d), .int .u16 (hd (doneLab lab0 (pkR (⟨1, 2#32, 9#32, l⟩ : Pkt)) lab0.d).l)]⟩, ⟨gp50, 5, cbp50⟩, ⟨g2, 29, #[.int .i64 1, .int .u32 2, .int .u32 9, .slice A n c]⟩, ⟨g8, 29, #[.int .i64 3, .int .u32 2, .int .u32 9, .slice none 0 0]⟩, ⟨g59_81, 5, cb59_81⟩, ⟨g13, 37, bs (zer 32)⟩]) (fun _ h => dd_new HS117 (bs (zer 32)) rfl (z := .agg (bs (zer 32))) (by kernel_rfl) rfl h) fun g13 _ HS122 _ H122 => wl_ <| t_ rfl (fun _ h => dd_setrow HS122 6 rfl rfl (H122.ev 13 rfl) (H122.ev 88 rfl) (by kernel_rfl) (((size_bs _).trans hbl118) : (bs ((updB l (fun _ => blk 0#8)) xk2.1.toNat)).size = 32) (((size_bs _).trans (length_zer 32)) : (bs (zer 32)).size = 32) (one_bs _) h) fun _ HS123 => wl_ <| p_ H122 rfl rfl fun _ H124 => ln_ <| ?_
   clear H117 H119 H120 HS117 H121 HS122 H122
   have H125 := H124.sel [2, 10, 12, 13, 14] rfl
   refine nx <| sq_ <| ?_
   clear H124
   refine wr_ (HZ101.move HS123) [0, 1, 3, 4, 6] [0, 1, 3, 4, 6, 2, 5] rfl rfl fun HXd127 hx126 => ?_
   obtain ⟨G128, HZ128, HS128⟩ := HXd127.anchor
   clear HXd127
   refine hp_ H125 0 hx126 rfl rfl rfl fun _ H129 => ht_ H129 1 hx126 rfl rfl (fun _ _ _ => dd_cmp rfl (H129.ev 90 rfl) rfl (ne_f (by decide))) fun _ H130 => hp_ H130 2 hx126 rfl rfl rfl fun _ H131 => htg H131 3 hx126 rfl (wg_ H131 rfl rfl rfl rfl) rfl (v := .agg (bs ((updB l (fun _ => blk 0#8)) xk2.1.toNat))) (fun _ _ HS9 => dd_load HS9 4 0 rfl rfl (H131.ev 13 rfl) (slab_whole _) Try.underlying37 rfl (by rw [show (bs ((updB l (fun _ => blk 0#8)) xk2.1.toNat)).size = 32 from ((size_bs _).trans hbl118)]; kernel_rfl)) fun _ H132 => htg H132 4 hx126 rfl (wg_ H132 rfl rfl rfl rfl) rfl (fun _ _ _ => xf 3 3 rfl (H132.ev 2 rfl)) fun _ H133 => htg H133 5 hx126 rfl (wg_ H133 rfl rfl rfl rfl) rfl (fun _ _ HS9 => dd_get HS9 2 3 rfl rfl (H133.ev 94 rfl) rfl Try.underlying27 rfl) fun _ H134 => htg H134 6 hx126 rfl (wg_ H134 rfl rfl rfl rfl) rfl (fun _ _ _ => dd_mv rfl (H134.ev 12 rfl)) fun _ H135 => htg H135 7 hx126 rfl (wg_ H135 rfl rfl rfl rfl) rfl (fun _ _ _ => dd_idxS (sz := 33) (j := o9 + k2 * 33) rfl (sl_at (H135.ev 95 rfl) hA9) (H135.ev 96 rfl) (by kernel_rfl) (by omega) (by omega) (by omega)) fun _ H136 => ?_
   clear H125 H129 H130 H131 H132 H133 H134
   refine htg H136 8 hx126 rfl (wg_ H136 rfl rfl rfl rfl) rfl (fun _ _ _ => xf 1 (o9 + k2 * 33 + 1) rfl (H136.ev 97 rfl)) fun _ H137 => htg H137 9 hx126 rfl (wg_ H137 rfl rfl rfl rfl) rfl (v := .agg (bs xk2.2)) (fun _ _ HS9 => dd_atN rfl (H137.ev 98 rfl) (pc_c1 (pc_cat (HB _ HS9.below k2 xk2 hxk2))) Try.underlying37 rfl (by show _ = some (bytesV xk2.2).length; rw [show (bytesV xk2.2).length = 32 from len_bv hwk2.1]; kernel_rfl)) fun _ H138 => htg H138 10 hx126 rfl (wg_ H138 rfl rfl rfl rfl) rfl (v := .bool false) (fun _ _ _ => dd_nea (b := true) rfl (H138.ev 93 rfl) (H138.ev 99 rfl) (by kernel_rfl) (fun w => by have h9 := eql_blk ((updB l (fun _ => blk 0#8)) xk2.1.toNat) xk2.2 hbl118 hwk2.1 w; rw [decide_eq_true (show ((updB l (fun _ => blk 0#8)) xk2.1.toNat) = xk2.2 from updB_at hb6 hxk2)] at h9; exact h9) rfl) fun _ H139 => hp_ H139 11 hx126 rfl rfl rfl fun _ H140 => ?_
   clear H135 H136 H137 H138 H139
   refine wpAnyH_done (by kernel_rfl) ?_ _
   clear hx126
   refine nx <| cf_ H140 rfl <| wp_skip <| bn <| nx <| rl_ <| wl_ <| p_ H140 rfl rfl fun _ H141 => wl_ <| i_ H141 rfl (v := .int .i64 (k2 + 1)) (dd_ari rfl (H141.ev 77 rfl) rfl rfl (i64_of (by first | omega | (have := bd_lo; omega)) (by omega))) fun _ H142 => wl_ <| p_ H142 rfl rfl fun _ H143 => ln_ <| ?_
   clear H140 H141 H142
   have H144 := H143.sel [2, 10, 12] rfl
   clear H143
   refine nx ⟨k2 + 1, ⟨(by omega), H144.sel [2, 10, 12] rfl, (HZ128.move HS128).sel [0, 1, 2, 3, 4, 5] [0]⟩, (by omega)⟩
  refine wl_ <| i_ H105 rfl (dd_cmp rfl (H105.ev 72 rfl) (H105.ev 75 rfl) (lt_f hc107)) fun _ H145 => ln_ <| nx <| cf_ H145 rfl <| wp_exit <| tx <| tx <| bx <| nx <| sq_ <| rl_ <| wl_ <| p_ H145 rfl rfl fun _ H146 => wl_ <| c_ H146 rfl HS101 (dcs Try.func12 rfl (args1 (H146.ev 102 rfl)) (ndlabel_at gn85 _ (doneLab lab0 (pkR (⟨1, 2#32, 9#32, l⟩ : Pkt)) lab0.d) wL100 (HS101.row 0 rfl)) (.agg #[.int .u32 (wd (doneLab lab0 (pkR (⟨1, 2#32, 9#32, l⟩ : Pkt)) lab0.d).e), .int .u32 (wd (doneLab lab0 (pkR (⟨1, 2#32, 9#32, l⟩ : Pkt)) lab0.d).s), .int .u32 (wd (doneLab lab0 (pkR (⟨1, 2#32, 9#32, l⟩ : Pkt)) lab0.d).n), .int .u16 (hd (doneLab lab0 (pkR (⟨1, 2#32, 9#32, l⟩ : Pkt)) lab0.d).d), .int .u16 (hd (doneLab lab0 (pkR (⟨1, 2#32, 9#32, l⟩ : Pkt)) lab0.d).l)])) fun W147 HS147 _ H147 => wl_ <| i_ H147 rfl (v := .int .u32 (wd (doneLab lab0 (pkR (⟨1, 2#32, 9#32, l⟩ : Pkt)) lab0.d).e)) (dd_fld rfl (H147.ev 103 rfl) (by kernel_rfl)) fun _ H148 => wl_ <| i_ H148 rfl (dd_cmp rfl (H148.ev 104 rfl) rfl (eq_t (show wd 2#32 = 2 by decide))) fun _ H149 => wl_ <| p_ H149 rfl rfl fun _ H150 => wl_ <| ig H150 (wg_ H150 rfl rfl rfl rfl) rfl (dd_mv rfl (H150.ev 10 rfl)) fun _ H151 => wl_ <| cg H151 (wg_ H151 rfl rfl rfl rfl) rfl HS147 (dcs Try.func12 rfl (args1 (H151.ev 107 rfl)) (ndlabel_at gn85 _ (doneLab lab0 (pkR (⟨1, 2#32, 9#32, l⟩ : Pkt)) lab0.d) W147 (HS147.row 0 rfl)) (.agg #[.int .u32 (wd (doneLab lab0 (pkR (⟨1, 2#32, 9#32, l⟩ : Pkt)) lab0.d).e), .int .u32 (wd (doneLab lab0 (pkR (⟨1, 2#32, 9#32, l⟩ : Pkt)) lab0.d).s), .int .u32 (wd (doneLab lab0 (pkR (⟨1, 2#32, 9#32, l⟩ : Pkt)) lab0.d).n), .int .u16 (hd (doneLab lab0 (pkR (⟨1, 2#32, 9#32, l⟩ : Pkt)) lab0.d).d), .int .u16 (hd (doneLab lab0 (pkR (⟨1, 2#32, 9#32, l⟩ : Pkt)) lab0.d).l)])) fun W152 HS152 _ H152 => ?_
  clear H105 H145 H146 HS101 H147 H148 H149 H150
  refine wl_ <| ig H152 (wg_ H152 rfl rfl rfl rfl) rfl (v := .int .u32 (wd (doneLab lab0 (pkR (⟨1, 2#32, 9#32, l⟩ : Pkt)) lab0.d).s)) (dd_fld rfl (H152.ev 108 rfl) (by kernel_rfl)) fun _ H153 => wl_ <| ig H153 (wg_ H153 rfl rfl rfl rfl) rfl (dd_cmp rfl (H153.ev 109 rfl) rfl (eq_t (show wd 9#32 = 9 by decide))) fun _ H154 => q_ H154 2 rfl fun _ H155 => wl_ <| cg H155 (wg_ H155 rfl rfl rfl rfl) rfl HS152 (dcs Try.func6 rfl (args0 ) (tkwakes D O W152) (.bool true)) fun _ HS156 _ H156 => q_ H156 2 rfl fun _ H157 => ln_ <| ?_
  clear H151 HS147 H152 H153 H154 H155 HS152 H156
  have H158 := H157.sel [4] rfl
  refine nx <| wp_ret <| ret_run H158.env0 (res_t Try.results4 (H158.get 4 rfl)) <| ?_
  clear H157
  exact ⟨rfl, (HZ101.bel HS156)⟩
end Go.Proofs.Ytbdpocbnkgckhaa

/- TakerLasts: for every packet and list of bytes the call returns true and changes nothing that it was handed. Conditions: those of the row. -/
set_option maxRecDepth 4000
namespace Go.Proofs.Ytbdpocbnkgckhaa.takerLasts
open Go Go.ChangeShapes Go.WideShapes Go.ChangeAt Go.RowKit

theorem contract (H : Type) (enc : TypeId × Value → H) (W : World) (base : Nat) (args : Array Value) (ds gs : List (DataW H)) (before : List MemPlace)
    (hval : ∀ (j : Nat) t v, Try.f4.params[j]? = some t → args[j]? = some v → Value.okWide Try.prog W .any base t v)
    (hW : DataW.Whole enc Try.prog Try.f4.params.toList Rows.takerLastsSpec.vars false W args.toList ds gs before) :
    Calls Try.prog 4 args W fun e W' => ∃ v, e = .returned v ∧ Rows.takerLastsSpec.post enc Try.prog Try.f4 false true false false W args v W' := by
  have hW' := hW
  obtain ⟨p, q, hA0, hV, rfl, _, _⟩ := hW
  have hA : DataW.TrodAll enc Try.prog W 0 (fun _ => true) true Try.f4.params.toList args.toList ds p := hA0
  rw [Try.params4] at hA hval
  obtain ⟨v0, vs0, d0, ds0, p0, q0, hargs, rfl, rfl, h0, r0⟩ := trodAll_cons hA
  obtain ⟨v1, vs1, d1, ds1, p1, q1, rfl, rfl, rfl, h1, r1⟩ := trodAll_cons r0
  obtain ⟨rfl, rfl, rfl⟩ := trodAll_nil r1
  obtain rfl : args = #[v0, v1] := by cases args; simp_all
  obtain ⟨rfl, rfl⟩ := trodVars_none hV
  have hlt0 : ∀ x ∈ p0, x.block < W.heap.size := fun x hx => hW'.lt x (by simp [hx])
  have hlt1 : ∀ x ∈ p1, x.block < W.heap.size := fun x hx => hW'.lt x (by simp [hx])
  obtain ⟨p0k, A0, n0, c0, rfl, hS0, hm0⟩ := open_pkt (hval 0 29 v0 rfl rfl) h0 hlt0
  obtain ⟨A1, c1, b1, rfl, hS1, hN1, hm1⟩ := open_bytes (hval 1 23 v1 rfl rfl) h1 hlt1
  refine (tklasts_walk diskOps walOps p0k A0 n0 c0 A1 c1 b1 W hS0 hm0 hS1 hN1 hm1).mono fun e W' ⟨he, hb⟩ => ?_
  subst he
  exact ⟨_, rfl, [d0, d1], [], _, [], _, [], hW', trodAll_cons_mk (shut_bool Try.underlying4 _) trodAll_mk0, trodAll_cons_mk (Below.trod laidOutT (by kernel_rfl) (of_decide_eq_true (by kernel_rfl)) h0 hb hlt0) (trodAll_cons_mk (Below.trod laidOutT (by kernel_rfl) (of_decide_eq_true (by kernel_rfl)) h1 hb hlt1) trodAll_mk0), rfl, hb.frame _, fun h => by cases h⟩

set_option maxRecDepth 100000 in
theorem lifted (os : Os) (started : os.Started) (H : Type) (enc : TypeId × Value → H) :
    ReturnsInHanded {} Try.checked os 4 .any (Rows.takerLastsSpec.pre6 enc Try.prog Try.f4 Rows.takerLastsRow.domain false) (Rows.takerLastsSpec.post enc Try.prog Try.f4 false true false false) := by
  refine returnsInHanded_of_change (C := Try.checked) ownK started (by kernel_rfl) Try.func4
    (ChangeSpec.witness6 (enc := enc) (C := Try.checked) false ⟨#[], #[.agg #[.int .i64 0, .int .u32 0, .int .u32 0, .slice none 0 0], .slice none 0 0], []⟩ 8 (by kernel_rfl) (by kernel_rfl) (by kernel_rfl) (by kernel_rfl)) ?_
  intro W base args ds gs before hval hW _ _
  exact contract H enc W base args ds gs before hval hW

theorem said : Rows.TakerLastsSaid :=
  OpenClaim.holds_of_wide 4 Try.f4 rfl rfl rfl rfl rfl rfl rfl ⟨rfl, rfl, rfl, rfl, rfl⟩ rfl rfl rfl rfl rfl (by kernel_rfl) Try.func4 (by kernel_rfl)
    (of_decide_eq_true (by kernel_rfl)) (by unfold Func.isWrapper; first | (rw [if_pos (by decide +kernel)]; kernel_rfl) | (rw [if_neg (by decide +kernel)]; exact ⟨rfl, rfl⟩))
    (fun os started H enc _ => lifted os started H enc)
end Go.Proofs.Ytbdpocbnkgckhaa.takerLasts
