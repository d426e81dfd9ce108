/- NodeStale: for every list of records and label the call returns true and changes nothing that it was handed. Conditions: those of the row. -/
import Derived.Test.YtiabfojcfcpdiaaRows
import Derived.Test.YtiabfojcfcpdiaaMAw0
import Derived.Test.YtiabfojcfcpdiaaMGen0
import Derived.Test.YtiabfojcfcpdiaaMWal0
/- The statement NodeStale: its walk. -/
set_option maxRecDepth 4000
namespace Go.Proofs.Ytiabfojcfcpdiaa
open Go Go.RowKit
abbrev mk9 (r : Rec) : Rec := ⟨r.e % 1000#32, r.s % 1000#32, r.l⟩
theorem ns_rem (x : BitVec 32) : (wd x).tmod 1000 = wd (x % 1000#32) := by
  show ((x.toNat : Int)).tmod ((1000 : Nat) : Int) = ((x % 1000#32).toNat : Int)
  rw [BitVec.toNat_umod, Int.tmod_eq_emod_of_nonneg (by omega)]
  exact (Int.natCast_emod _ _).symm
theorem ns_max1 (a b : BitVec 32) : ¬ wd (maxU a b) < wd b := by
  show ¬ ((maxU a b).toNat : Int) < (b.toNat : Int)
  unfold maxU; split <;> omega
theorem ns_max2 (a b : BitVec 32) : ¬ wd (maxU a b) < wd a := by
  show ¬ ((maxU a b).toNat : Int) < (a.toNat : Int)
  unfold maxU; split <;> omega
theorem ns_log : ¬ isHead (at0 (List.replicate 19 (blk 0#8)) 1) = true := by
  rw [show at0 (List.replicate 19 (blk 0#8)) 1 = blk 0#8 by unfold at0; rw [List.getD_eq_getElem?_getD, List.getElem?_replicate, if_pos (by decide)]; rfl, show isHead (blk 0#8) = false by kernel_rfl]
  decide
attribute [local irreducible] blk zer spl updB
variable (D : DiskOps) (O : WalOps D)
include O in
set_option maxHeartbeats 1600000 in
theorem nstale_walk (Al : Option Addr) (nl cl : Nat) (X : List Rec) (L : Lab) (w : World) (hX : RecsAt w Al nl X) (_ : nl ≤ maxLen) : Calls Try.prog 5 #[.slice Al nl cl, .agg (labCells L)] w fun x w' => x = .returned (.bool true) ∧ Below w.heap.size w w' := by
  have HS := St.nil w noF
  have HX : Rs w noF [] [] w := Rs.of HS
  clear HS
  obtain ⟨G1, HZ1, HS1⟩ := HX.anchor
  clear HX
  refine enter_en Try.func5 rfl Try.ntmps5 (Nat.le_of_ble_eq_true rfl) fun a0 (HA0 : En 143 [(0, .slice Al nl cl), (1, .agg #[.int .u32 (wd L.e), .int .u32 (wd L.s), .int .u32 (wd L.n), .int .u16 (hd L.d), .int .u16 (hd L.l)])] a0) => ?_
  refine sq_ <| rl_ <| wl_ <| n_ HA0 rfl (fun _ h => dd_box HS1 rfl (HA0.ev 1 rfl) (cs := #[.int .u32 (wd L.e), .int .u32 (wd L.s), .int .u32 (wd L.n), .int .u16 (hd L.d), .int .u16 (hd L.l)]) rfl h) fun g3 W2 HS2 _ H2 => wl_ <| p_ H2 rfl rfl fun _ H3 => ln_ <| nx <| sq_ <| sq_ <| rl_ <| wl_ <| p_ H3 rfl rfl fun _ H4 => wl_ <| i_ H4 rfl (v := .int .i64 nl) (dd_len rfl (H4.ev 13 rfl) Try.underlying22) fun _ H5 => ?_
  clear HS1 HA0 H2 H3 H4
  by_cases hc7 : (20 : Int) < nl
  ·
   refine wl_ <| i_ H5 rfl (dd_cmp rfl (H5.ev 14 rfl) rfl (gt_t hc7)) fun _ H8 => ln_ <| nx <| ct_ H8 rfl <| sq_ <| rl_ <| wl_ <| c_ H8 rfl HS2 (dcs Try.func8 rfl (args0 ) (ndwakes D O W2) (.bool true)) fun W9 HS9 a9 H9 => wl_ <| p_ H9 rfl rfl fun _ H10 => ln_ <| nx <| wp_ret <| tr <| ret_run H10.env0 (res_t Try.results5 (H10.get 4 rfl)) <| ?_
   clear H5 H8 HS2 H9
   exact ⟨rfl, (HZ1.bel HS9)⟩
  refine wl_ <| i_ H5 rfl (dd_cmp rfl (H5.ev 14 rfl) rfl (gt_f hc7)) fun _ H11 => ln_ <| nx <| cf_ H11 rfl <| wp_skip <| nx <| sq_ <| rl_ <| wl_ <| i_ H11 rfl (xf 0 0 rfl (H11.ev 3 rfl)) fun _ H12 => wl_ <| i_ H12 rfl (dd_get HS2 0 0 rfl rfl (H12.ev 17 rfl) rfl Try.underlying35 rfl) fun _ H13 => wl_ <| i_ H13 rfl (v := .int .u32 (wd (L.e % 1000#32))) (dd_rem rfl (H13.ev 18 rfl) rfl (by decide) (ns_rem _)) fun _ H14 => wl_ <| i_ H14 rfl (xf 1 1 rfl (H14.ev 3 rfl)) fun _ H15 => wl_ <| i_ H15 rfl (dd_get HS2 0 1 rfl rfl (H15.ev 20 rfl) rfl Try.underlying35 rfl) fun _ H16 => wl_ <| i_ H16 rfl (v := .int .u32 (wd (L.s % 1000#32))) (dd_rem rfl (H16.ev 21 rfl) rfl (by decide) (ns_rem _)) fun _ H17 => wl_ <| i_ H17 rfl (xf 2 2 rfl (H17.ev 3 rfl)) fun _ H18 => ?_
  clear H5 H11 H12 H13 H14 H15 H16
  refine wl_ <| i_ H18 rfl (dd_get HS2 0 2 rfl rfl (H18.ev 23 rfl) rfl Try.underlying35 rfl) fun _ H19 => wl_ <| i_ H19 rfl (v := .int .u32 (wd (L.n % 1000#32))) (dd_rem rfl (H19.ev 24 rfl) rfl (by decide) (ns_rem _)) fun _ H20 => wl_ <| i_ H20 rfl (xf 0 0 rfl (H20.ev 3 rfl)) fun _ H21 => wl_ <| t_ rfl (fun _ h => dd_put (cs := #[.int .u32 (wd (L.e % 1000#32)), .int .u32 (wd L.s), .int .u32 (wd L.n), .int .u16 (hd L.d), .int .u16 (hd L.l)]) HS2 0 0 rfl rfl (H21.ev 26 rfl) (H21.ev 19 rfl) (by kernel_rfl) rfl rfl rfl rfl h) fun _ HS22 => wl_ <| i_ H21 rfl (xf 1 1 rfl (H21.ev 3 rfl)) fun _ H23 => wl_ <| t_ rfl (fun _ h => dd_put (cs := #[.int .u32 (wd (L.e % 1000#32)), .int .u32 (wd (L.s % 1000#32)), .int .u32 (wd L.n), .int .u16 (hd L.d), .int .u16 (hd L.l)]) HS22 0 1 rfl rfl (H23.ev 27 rfl) (H23.ev 22 rfl) (by kernel_rfl) rfl rfl rfl rfl h) fun _ HS24 => wl_ <| i_ H23 rfl (xf 2 2 rfl (H23.ev 3 rfl)) fun _ H25 => wl_ <| t_ rfl (fun _ h => dd_put (cs := #[.int .u32 (wd (L.e % 1000#32)), .int .u32 (wd (L.s % 1000#32)), .int .u32 (wd (L.n % 1000#32)), .int .u16 (hd L.d), .int .u16 (hd L.l)]) HS24 0 2 rfl rfl (H25.ev 28 rfl) (H25.ev 25 rfl) (by kernel_rfl) rfl rfl rfl rfl h) fun W26 HS26 => ?_
  clear H17 H18 H19 H20 HS2 H21 HS22 H23
  refine ln_ <| ?_
  clear HS24
  have H27 := H25.sel [0, 3] rfl
  refine nx <| sq_ <| rl_ <| ?_
  clear H25
  obtain ⟨Gc29, hc29, hf29, hk29, hq29⟩ := Rs.reframe (R1 := []) (R2 := [⟨g3, 37, #[.int .u32 (wd (L.e % 1000#32)), .int .u32 (wd (L.s % 1000#32)), .int .u32 (wd (L.n % 1000#32)), .int .u16 (hd L.d), .int .u16 (hd L.l)]⟩]) (Q1 := []) (Q2 := []) ((HZ1.move HS26).sel [0] [])
  refine wl_ <| d_ H27 rfl (R := fun v9 w9 => ∃ gd28 : Nat, v9 = .pointer (some ⟨gd28, 0, none⟩) ∧ Rs w noF [⟨g3, 37, #[.int .u32 (wd (L.e % 1000#32)), .int .u32 (wd (L.s % 1000#32)), .int .u32 (wd (L.n % 1000#32)), .int .u16 (hd L.d), .int .u16 (hd L.l)]⟩] [dskT D (.pointer (some ⟨gd28, 0, none⟩)) (rest (List.replicate 19 (blk 0#8)) (-1))] w9) (dc_ Try.func9 rfl (args0) (nd_new D Gc29 W26) (fun _ w9 ⟨gd28, he, hX⟩ => ⟨_, he, gd28, rfl, hk29 _ _ _ hX⟩)) ?_
  rintro _ W29 ⟨gd28, rfl, HX29⟩ a29 H29
  clear hc29 hk29 hf29 hq29 HS26 HZ1
  clear H27
  obtain ⟨G30, HZ30, HS30⟩ := HX29.anchor
  clear HX29
  obtain ⟨Gc32, hc32, hf32, hk32, hq32⟩ := Rs.reframe (R1 := []) (R2 := [⟨g3, 37, #[.int .u32 (wd (L.e % 1000#32)), .int .u32 (wd (L.s % 1000#32)), .int .u32 (wd (L.n % 1000#32)), .int .u16 (hd L.d), .int .u16 (hd L.l)]⟩]) (Q1 := [dskT D (.pointer (some ⟨gd28, 0, none⟩)) (rest (List.replicate 19 (blk 0#8)) (-1))]) (Q2 := []) ((HZ30.move HS30).sel [0] [0])
  refine wl_ <| d_ H29 rfl (R := fun v9 w9 => ∃ gn31 : Nat, v9 = .tuple #[.pointer (some ⟨gn31, 0, none⟩), .int .i64 0] ∧ Rs w noF [⟨gn31, 69, #[.pointer (some ⟨gd28, 0, none⟩), .int .u32 (wd lab0.e), .int .u32 (wd lab0.s), .int .u32 (wd lab0.n), .int .u16 (hd lab0.d), .int .u16 (hd lab0.l)]⟩, ⟨g3, 37, #[.int .u32 (wd (L.e % 1000#32)), .int .u32 (wd (L.s % 1000#32)), .int .u32 (wd (L.n % 1000#32)), .int .u16 (hd L.d), .int .u16 (hd L.l)]⟩] [dskT D (.pointer (some ⟨gd28, 0, none⟩)) (rest (List.replicate 19 (blk 0#8)) (-1))] w9) (dc_ Try.func10 rfl (args1 (H29.ev 30 rfl)) (lw_open (O := O) hc32 nds_new) (fun _ w9 ⟨gn31, he, hX⟩ => ⟨_, he, gn31, rfl, hk32 _ _ _ hX⟩)) ?_
  rintro _ W32 ⟨gn31, rfl, HX32⟩ a32 H32
  clear hc32 hk32 hf32 hq32 HS30 HZ30
  clear H29
  obtain ⟨G33, HZ33, HS33⟩ := HX32.anchor
  clear HX32
  refine wl_ <| p_ H32 rfl rfl fun _ H34 => wl_ <| i_ H34 rfl (v := .pointer (some ⟨gn31, 0, none⟩)) (dd_ext rfl (H34.ev 29 rfl) rfl) fun _ H35 => wl_ <| i_ H35 rfl (v := .int .i64 0) (dd_ext rfl (H35.ev 29 rfl) rfl) fun _ H36 => q_ H36 2 rfl fun _ H37 => ln_ <| nx <| sq_ <| sq_ <| rl_ <| wl_ <| p_ H37 rfl rfl fun _ H38 => wl_ <| i_ H38 rfl (dd_cmp rfl (H38.ev 34 rfl) rfl (ne_f (by decide))) fun _ H39 => wl_ <| p_ H39 rfl rfl fun _ H40 => wl_ <| ig H40 (wg_ H40 rfl rfl rfl rfl) rfl (dd_mv rfl (H40.ev 5 rfl)) fun _ H41 => ?_
  clear H32 H34 H35 H36 H37 H38 H39
  refine wl_ <| ig H41 (wg_ H41 rfl rfl rfl rfl) rfl (v := .bool false) (dd_eqp rfl (H41.ev 37 rfl) rfl Try.underlying28 rfl) fun _ H42 => q_ H42 2 rfl fun _ H43 => wl_ <| ig H43 (wg_ H43 rfl rfl rfl rfl) rfl (dd_mv rfl (H43.ev 5 rfl)) fun _ H44 => wl_ <| ig H44 (wg_ H44 rfl rfl rfl rfl) rfl (v := .agg #[.int .u32 (wd (L.e % 1000#32)), .int .u32 (wd (L.s % 1000#32)), .int .u32 (wd (L.n % 1000#32)), .int .u16 (hd L.d), .int .u16 (hd L.l)]) (dd_load HS33 1 0 rfl rfl (H44.ev 3 rfl) (slab_whole _) Try.underlying37 rfl (by kernel_rfl)) fun _ H45 => ?_
  clear H40 H41 H42 H43 H44
  obtain ⟨Gc47, hc47, hf47, hk47, hq47⟩ := Rs.reframe (R1 := [⟨gn31, 69, #[.pointer (some ⟨gd28, 0, none⟩), .int .u32 (wd lab0.e), .int .u32 (wd lab0.s), .int .u32 (wd lab0.n), .int .u16 (hd lab0.d), .int .u16 (hd lab0.l)]⟩]) (R2 := [⟨g3, 37, #[.int .u32 (wd (L.e % 1000#32)), .int .u32 (wd (L.s % 1000#32)), .int .u32 (wd (L.n % 1000#32)), .int .u16 (hd L.d), .int .u16 (hd L.l)]⟩]) (Q1 := [dskT D (.pointer (some ⟨gd28, 0, none⟩)) (rest (List.replicate 19 (blk 0#8)) (-1))]) (Q2 := []) ((HZ33.move HS33).sel [0, 1] [0])
  refine wl_ <| dr_ H45 (wg_ H45 rfl rfl rfl rfl) rfl (R := fun v9 w9 => ∃ s46 : Secs, v9 = .int .i64 0 ∧ (Nds s46 (⟨(L.e % 1000#32), (L.s % 1000#32), (L.n % 1000#32), L.d, L.l⟩ : Lab) (fun _ => blk 0#8)) ∧ (at0 s46 1 = at0 (List.replicate 19 (blk 0#8)) 1) ∧ Rs w noF [⟨gn31, 69, #[.pointer (some ⟨gd28, 0, none⟩), .int .u32 (wd (⟨(L.e % 1000#32), (L.s % 1000#32), (L.n % 1000#32), L.d, L.l⟩ : Lab).e), .int .u32 (wd (⟨(L.e % 1000#32), (L.s % 1000#32), (L.n % 1000#32), L.d, L.l⟩ : Lab).s), .int .u32 (wd (⟨(L.e % 1000#32), (L.s % 1000#32), (L.n % 1000#32), L.d, L.l⟩ : Lab).n), .int .u16 (hd (⟨(L.e % 1000#32), (L.s % 1000#32), (L.n % 1000#32), L.d, L.l⟩ : Lab).d), .int .u16 (hd (⟨(L.e % 1000#32), (L.s % 1000#32), (L.n % 1000#32), L.d, L.l⟩ : Lab).l)]⟩, ⟨g3, 37, #[.int .u32 (wd (L.e % 1000#32)), .int .u32 (wd (L.s % 1000#32)), .int .u32 (wd (L.n % 1000#32)), .int .u16 (hd L.d), .int .u16 (hd L.l)]⟩] [dskT D (.pointer (some ⟨gd28, 0, none⟩)) (rest s46 (-1))] w9) (dc_ Try.func11 rfl (args2 (H45.ev 41 rfl) (H45.ev 42 rfl)) (lw_set (⟨(L.e % 1000#32), (L.s % 1000#32), (L.n % 1000#32), L.d, L.l⟩ : Lab) hc47 nds_new (by decide) (fun h9 => absurd h9 ns_log)) (fun _ w9 ⟨s46, he, hN46, hlg46, hX⟩ => ⟨_, he, s46, rfl, hN46, hlg46, hk47 _ _ _ hX⟩)) ?_
  rintro _ W47 ⟨s46, rfl, hN46, hlg46, HX47⟩ a47 H47
  clear hc47 hk47 hf47 hq47 HS33 HZ33
  clear H45
  obtain ⟨G48, HZ48, HS48⟩ := HX47.anchor
  clear HX47
  refine wl_ <| ig H47 (wg_ H47 rfl rfl rfl rfl) rfl (dd_cmp rfl (H47.ev 43 rfl) rfl (ne_f (by decide))) fun _ H49 => wl_ <| p_ H49 rfl rfl fun _ H50 => ln_ <| ?_
  clear H47 H49
  have H51 := H50.sel [0, 5, 45] rfl
  refine nx <| cf_ H51 rfl <| wp_skip <| nx <| sq_ <| sq_ <| rl_ <| wl_ <| p_ H51 rfl rfl fun _ H52 => ln_ <| nx <| wp_block <| ?_
  clear H50 H51
  refine wp_loopG (ι := Nat) (fun i a9 w9 => ∃ sL : Secs, ∃ Lk : Lab, ∃ Bk : Bks, (i ≤ nl) ∧ (Nds sL Lk Bk) ∧ En 143 [(7, .int .i64 i), (5, .pointer (some ⟨gn31, 0, none⟩)), (0, .slice Al nl cl)] a9 ∧ Rs w noF [⟨gn31, 69, #[.pointer (some ⟨gd28, 0, none⟩), .int .u32 (wd Lk.e), .int .u32 (wd Lk.s), .int .u32 (wd Lk.n), .int .u16 (hd Lk.d), .int .u16 (hd Lk.l)]⟩, ⟨g3, 37, #[.int .u32 (wd (L.e % 1000#32)), .int .u32 (wd (L.s % 1000#32)), .int .u32 (wd (L.n % 1000#32)), .int .u16 (hd L.d), .int .u16 (hd L.l)]⟩] [dskT D (.pointer (some ⟨gd28, 0, none⟩)) (rest sL (-1))] w9) (fun i => nl - i) (0) ⟨s46, (⟨(L.e % 1000#32), (L.s % 1000#32), (L.n % 1000#32), L.d, L.l⟩ : Lab), (fun _ => blk 0#8), (Nat.zero_le _), hN46, H52.sel [0, 5, 7] rfl, (HZ48.move HS48).sel [0, 1] [0]⟩ ?_
  clear H52 HS48 HZ48
  rintro i aL53 wL53 ⟨sL, Lk, Bk, hi, hNL, HL53, HXL53⟩
  obtain ⟨G54, HZ54, HS54⟩ := HXL53.anchor
  clear HXL53
  refine sq_ <| sq_ <| rl_ <| q_ HL53 2 rfl fun _ H55 => wl_ <| i_ H55 rfl (v := .int .i64 nl) (dd_len rfl (H55.ev 47 rfl) Try.underlying22) fun _ H56 => ?_
  clear HL53 H55
  by_cases hc58 : (i : Int) < nl
  ·
   refine wl_ <| i_ H56 rfl (dd_cmp rfl (H56.ev 46 rfl) (H56.ev 48 rfl) (lt_t hc58)) fun _ H59 => ln_ <| nx <| ct_ H59 rfl <| wp_skip <| nx <| sq_ <| wp_block <| sq_ <| ?_
   clear H56
   obtain ⟨b8, o8, hA8, hb8, hall⟩ := hX.at_ (by omega)
   obtain ⟨ri, hxi⟩ : ∃ x, X[i]? = some x := ⟨_, List.getElem?_eq_getElem (by rw [hX.len]; omega)⟩
   obtain ⟨A2, c2, hc2, hp2, hm2⟩ := hall i ri hxi
   obtain ⟨n2, hn⟩ : ∃ n, ri.l.length = n := ⟨_, rfl⟩
   rw [hn] at hc2 hp2
   have HC2 := fun (W9 : World) (hb9 : Below w.heap.size w W9) => range_stay hc2 hb8 hb9
   have HP := fun (W9 : World) (hb9 : Below w.heap.size w W9) => hp2.below hb9 (Nat.le_refl _)
   have hwf := (puts_open hp2).2.2.1
   have hA0 := (puts_open hp2).2.2.2
   have hmx : n2 ≤ 9223372036854775807 := by have := hm2; unfold maxLen at this; omega
   refine wr_ (HZ54.move HS54) [0, 1] [0, 1] rfl rfl fun HXd61 hx60 => ?_
   obtain ⟨G62, HZ62, HS62⟩ := HXd61.anchor
   clear HXd61
   refine hp_ H59 0 hx60 rfl rfl rfl fun _ H63 => hp_ H63 1 hx60 rfl rfl rfl fun _ H64 => ht_ H64 2 hx60 rfl rfl (fun _ _ _ => dd_idxS (sz := 3) (j := o8 + i * 3) rfl (sl_at (H64.ev 52 rfl) hA8) (H64.ev 53 rfl) (by kernel_rfl) (by omega) (by omega) (by omega)) fun _ H65 => ht_ H65 3 hx60 rfl rfl (fun _ _ _ => xf 0 (o8 + i * 3) rfl (H65.ev 54 rfl)) fun _ H66 => ht_ H66 4 hx60 rfl rfl (fun _ _ HS9 => dd_at rfl (H66.ev 55 rfl) ((HC2 _ HS9.below) 0 _ rfl) Try.underlying35 rfl) fun _ H67 => ht_ H67 5 hx60 rfl rfl (v := .int .u32 (wd (mk9 ri).e)) (fun _ _ _ => dd_rem rfl (H67.ev 56 rfl) rfl (by decide) (ns_rem _)) fun _ H68 => hp_ H68 6 hx60 rfl rfl rfl fun _ H69 => hp_ H69 7 hx60 rfl rfl rfl fun _ H70 => ?_
   clear H59 H63 H64 H65 H66 H67 H68
   refine ht_ H70 8 hx60 rfl rfl (fun _ _ _ => dd_idxS (sz := 3) (j := o8 + i * 3) rfl (sl_at (H70.ev 58 rfl) hA8) (H70.ev 59 rfl) (by kernel_rfl) (by omega) (by omega) (by omega)) fun _ H71 => ht_ H71 9 hx60 rfl rfl (fun _ _ _ => xf 1 (o8 + i * 3 + 1) rfl (H71.ev 60 rfl)) fun _ H72 => ht_ H72 10 hx60 rfl rfl (fun _ _ HS9 => dd_at rfl (H72.ev 61 rfl) ((HC2 _ HS9.below) 1 _ rfl) Try.underlying35 rfl) fun _ H73 => ht_ H73 11 hx60 rfl rfl (v := .int .u32 (wd (mk9 ri).s)) (fun _ _ _ => dd_rem rfl (H73.ev 62 rfl) rfl (by decide) (ns_rem _)) fun _ H74 => hp_ H74 12 hx60 rfl rfl rfl fun _ H75 => hp_ H75 13 hx60 rfl rfl rfl fun _ H76 => ht_ H76 14 hx60 rfl rfl (fun _ _ _ => dd_idxS (sz := 3) (j := o8 + i * 3) rfl (sl_at (H76.ev 64 rfl) hA8) (H76.ev 65 rfl) (by kernel_rfl) (by omega) (by omega) (by omega)) fun _ H77 => ht_ H77 15 hx60 rfl rfl (fun _ _ _ => xf 2 (o8 + i * 3 + 2) rfl (H77.ev 66 rfl)) fun _ H78 => ?_
   clear H69 H70 H71 H72 H73 H74 H75 H76
   refine ht_ H78 16 hx60 rfl rfl (fun _ _ HS9 => dd_at rfl (H78.ev 67 rfl) ((HC2 _ HS9.below) 2 _ rfl) Try.underlying40 rfl) fun _ H79 => ht_ H79 17 hx60 rfl rfl (v := .agg #[.int .u32 (wd (mk9 ri).e), .int .u32 (wd (mk9 ri).s), .slice A2 n2 c2]) (fun _ _ _ => dd_bld rfl (ps := [(0, .int .u32 (wd (mk9 ri).e)), (1, .int .u32 (wd (mk9 ri).s)), (2, .slice A2 n2 c2)]) (pr1 (H79.ev 57 rfl) (pr1 (H79.ev 63 rfl) (pr1 (H79.ev 68 rfl) (pr0)))) (Lz := [[.int .u32 0], [.int .u32 0], [.slice none 0 0]]) (by kernel_rfl) (lens_cons rfl (lens_cons rfl (lens_cons rfl (lens_nil)))) (fit_cons (i := 0) rfl rfl (fit_cons (i := 1) rfl rfl (fit_cons (i := 2) rfl rfl (fit_nil)))) (cs := #[.int .u32 (wd (mk9 ri).e), .int .u32 (wd (mk9 ri).s), .slice A2 n2 c2]) rfl) fun _ H80 => h1_ 18 rfl <| n_ H80 rfl (S := fun g8 => [⟨gn31, 69, #[.pointer (some ⟨gd28, 0, none⟩), .int .u32 (wd Lk.e), .int .u32 (wd Lk.s), .int .u32 (wd Lk.n), .int .u16 (hd Lk.d), .int .u16 (hd Lk.l)]⟩, ⟨g3, 37, #[.int .u32 (wd (L.e % 1000#32)), .int .u32 (wd (L.s % 1000#32)), .int .u32 (wd (L.n % 1000#32)), .int .u16 (hd L.d), .int .u16 (hd L.l)]⟩, ⟨g8, 42, #[.int .u32 0, .int .u32 0, .slice none 0 0]⟩]) (fun _ h => dd_new HS62 #[.int .u32 0, .int .u32 0, .slice none 0 0] rfl (z := .agg #[.int .u32 0, .int .u32 0, .slice none 0 0]) (by kernel_rfl) rfl h) fun g8 _ HS81 _ H81 => sx_ (sxi (HZ62.move HS81).st [0, 1, 2] rfl) fun hx82 => h1_ 19 rfl <| t_ rfl (fun _ h => dd_setrow HS81 2 rfl rfl (H81.ev 8 rfl) (H81.ev 69 rfl) (by kernel_rfl) (rfl : #[.int .u32 (wd (mk9 ri).e), .int .u32 (wd (mk9 ri).s), .slice A2 n2 c2].size = 3) (rfl : #[.int .u32 0, .int .u32 0, .slice none 0 0].size = 3) (one_l (ao_cons rfl (ao_cons rfl (ao_cons rfl ao_nil)))) h) fun W83 HS83 => sx_ (sxi (HZ62.move HS83).st [0, 1, 2] rfl) fun hx84 => ?_
   clear H77 H78 H79 HS62 H80 hx60 HS81 hx82
   refine wpAnyH_done (by kernel_rfl) ?_ _
   clear hx84
   refine nx <| sq_ <| sq_ <| rl_ <| wl_ <| i_ H81 rfl (xf 2 2 rfl (H81.ev 8 rfl)) fun _ H85 => wl_ <| i_ H85 rfl (dd_get HS83 2 2 rfl rfl (H85.ev 70 rfl) rfl Try.underlying40 rfl) fun _ H86 => ?_
   clear H81 H85
   cases hb87 : goodB ri.ats
   ·
    refine wl_ <| c_ H86 rfl HS83 (v := .bool false) (dc_ Try.func12 rfl (args1 (H86.ev 71 rfl)) (refgood_any ri.l _ W83 (HP _ (HZ62.bel HS83)) (by rw [hn]; unfold maxLen; omega)) (fun _ w9 h9 => ⟨_, h9.1, by rw [show goodB (ri.l.map (·.1)) = false from hb87], h9.2⟩)) fun _ HS88 _ H88 => wl_ <| i_ H88 rfl (v := .bool true) (dd_nt rfl (H88.ev 72 rfl) rfl) fun _ H89 => ln_ <| ?_
    clear H86 HS83 H88
    have H90 := H89.sel [0, 5, 7, 8, 73] rfl
    refine nx <| ct_ H90 rfl <| wp_exit <| tx <| bx <| nx <| rl_ <| wl_ <| p_ H90 rfl rfl fun _ H91 => wl_ <| i_ H91 rfl (v := .int .i64 (i + 1)) (dd_ari rfl (H91.ev 50 rfl) rfl rfl (i64_of (by first | omega | (have := bd_lo; omega)) (by omega))) fun _ H92 => wl_ <| p_ H92 rfl rfl fun _ H93 => ln_ <| ?_
    clear H89 H90 H91 H92
    refine nx ⟨i + 1, ⟨sL, Lk, Bk, (by omega), hNL, H93.sel [0, 5, 7] rfl, (HZ62.move HS88).sel [0, 1] [0]⟩, (by omega)⟩
   refine wl_ <| c_ H86 rfl HS83 (v := .bool true) (dc_ Try.func12 rfl (args1 (H86.ev 71 rfl)) (refgood_any ri.l _ W83 (HP _ (HZ62.bel HS83)) (by rw [hn]; unfold maxLen; omega)) (fun _ w9 h9 => ⟨_, h9.1, by rw [show goodB (ri.l.map (·.1)) = true from hb87], h9.2⟩)) fun W94 HS94 _ H94 => wl_ <| i_ H94 rfl (v := .bool false) (dd_nt rfl (H94.ev 72 rfl) rfl) fun _ H95 => ln_ <| ?_
   clear H86 HS83 H94
   have H96 := H95.sel [0, 5, 7, 8, 73] rfl
   refine nx <| cf_ H96 rfl <| wp_skip <| nx <| sq_ <| rl_ <| wl_ <| p_ H96 rfl rfl fun _ H97 => wl_ <| c_ H97 rfl HS94 (dcs Try.func16 rfl (args1 (H97.ev 74 rfl)) (ndlabel_at gn31 _ Lk W94 (HS94.row 0 rfl)) (.agg #[.int .u32 (wd Lk.e), .int .u32 (wd Lk.s), .int .u32 (wd Lk.n), .int .u16 (hd Lk.d), .int .u16 (hd Lk.l)])) fun _ HS98 _ H98 => wl_ <| n_ H98 rfl (fun _ h => dd_new HS98 #[.int .u32 0, .int .u32 0, .int .u32 0, .int .u16 0, .int .u16 0] rfl (z := .agg #[.int .u32 0, .int .u32 0, .int .u32 0, .int .u16 0, .int .u16 0]) (by kernel_rfl) rfl h) fun g9 _ HS99 _ H99 => wl_ <| t_ rfl (fun _ h => dd_setrow HS99 3 rfl rfl (H99.ev 9 rfl) (H99.ev 75 rfl) (by kernel_rfl) (rfl : #[.int .u32 (wd Lk.e), .int .u32 (wd Lk.s), .int .u32 (wd Lk.n), .int .u16 (hd Lk.d), .int .u16 (hd Lk.l)].size = 5) (rfl : #[.int .u32 0, .int .u32 0, .int .u32 0, .int .u16 0, .int .u16 0].size = 5) (one_l (ao_cons rfl (ao_cons rfl (ao_cons rfl (ao_cons rfl (ao_cons rfl ao_nil)))))) h) fun W100 HS100 => ln_ <| nx <| sq_ <| rl_ <| wl_ <| i_ H99 rfl (xf 0 0 rfl (H99.ev 8 rfl)) fun _ H101 => wl_ <| i_ H101 rfl (dd_get HS100 2 0 rfl rfl (H101.ev 76 rfl) rfl Try.underlying35 rfl) fun _ H102 => wl_ <| i_ H102 rfl (xf 1 1 rfl (H102.ev 8 rfl)) fun _ H103 => wl_ <| i_ H103 rfl (dd_get HS100 2 1 rfl rfl (H103.ev 78 rfl) rfl Try.underlying35 rfl) fun _ H104 => ?_
   clear H95 H96 H97 HS94 HS98 H98 HS99 H99 H101 H102
   refine wl_ <| i_ H104 rfl (xf 0 0 rfl (H104.ev 9 rfl)) fun _ H105 => wl_ <| i_ H105 rfl (dd_get HS100 3 0 rfl rfl (H105.ev 80 rfl) rfl Try.underlying35 rfl) fun _ H106 => wl_ <| i_ H106 rfl (xf 1 1 rfl (H106.ev 9 rfl)) fun _ H107 => wl_ <| i_ H107 rfl (dd_get HS100 3 1 rfl rfl (H107.ev 82 rfl) rfl Try.underlying35 rfl) fun _ H108 => ?_
   clear H103 H104 H105 H106 H107
   cases hb109 : ndLater Lk (mk9 ri)
   ·
    refine wl_ <| c_ H108 rfl HS100 (v := .bool false) (dc_ Try.func20 rfl (args4 (H108.ev 77 rfl) (H108.ev 79 rfl) (H108.ev 81 rfl) (H108.ev 83 rfl)) (reflater_any ((mk9 ri).e) ((mk9 ri).s) Lk.e Lk.s W100) (fun _ w9 h9 => ⟨_, h9.1, by rw [show laterB ((mk9 ri).e) ((mk9 ri).s) Lk.e Lk.s = false from hb109], h9.2⟩)) fun _ HS110 _ H110 => wl_ <| p_ H110 rfl rfl fun _ H111 => ln_ <| nx <| sq_ <| rl_ <| wl_ <| p_ H111 rfl rfl fun _ H112 => wl_ <| i_ H112 rfl (v := .agg #[.int .u32 (wd (mk9 ri).e), .int .u32 (wd (mk9 ri).s), .slice A2 n2 c2]) (dd_load HS110 2 0 rfl rfl (H112.ev 8 rfl) (slab_whole _) Try.underlying42 rfl (by kernel_rfl)) fun _ H113 => ?_
    clear H108 HS100 H110 H111 H112
    obtain ⟨Gc114, hc114, hf114, hk114, hq114⟩ := Rs.reframe (R1 := [⟨gn31, 69, #[.pointer (some ⟨gd28, 0, none⟩), .int .u32 (wd Lk.e), .int .u32 (wd Lk.s), .int .u32 (wd Lk.n), .int .u16 (hd Lk.d), .int .u16 (hd Lk.l)]⟩]) (R2 := [⟨g3, 37, #[.int .u32 (wd (L.e % 1000#32)), .int .u32 (wd (L.s % 1000#32)), .int .u32 (wd (L.n % 1000#32)), .int .u16 (hd L.d), .int .u16 (hd L.l)]⟩, ⟨g8, 42, #[.int .u32 (wd (mk9 ri).e), .int .u32 (wd (mk9 ri).s), .slice A2 n2 c2]⟩, ⟨g9, 37, #[.int .u32 (wd Lk.e), .int .u32 (wd Lk.s), .int .u32 (wd Lk.n), .int .u16 (hd Lk.d), .int .u16 (hd Lk.l)]⟩]) (Q1 := [dskT D (.pointer (some ⟨gd28, 0, none⟩)) (rest sL (-1))]) (Q2 := []) ((HZ62.move HS110).sel [0, 1, 2, 3] [0])
    refine wl_ <| d_ H113 rfl (R := fun v9 w9 => v9 = .int .i64 23 ∧ Rs w noF [⟨gn31, 69, #[.pointer (some ⟨gd28, 0, none⟩), .int .u32 (wd Lk.e), .int .u32 (wd Lk.s), .int .u32 (wd Lk.n), .int .u16 (hd Lk.d), .int .u16 (hd Lk.l)]⟩, ⟨g3, 37, #[.int .u32 (wd (L.e % 1000#32)), .int .u32 (wd (L.s % 1000#32)), .int .u32 (wd (L.n % 1000#32)), .int .u16 (hd L.d), .int .u16 (hd L.l)]⟩, ⟨g8, 42, #[.int .u32 (wd (mk9 ri).e), .int .u32 (wd (mk9 ri).s), .slice A2 n2 c2]⟩, ⟨g9, 37, #[.int .u32 (wd Lk.e), .int .u32 (wd Lk.s), .int .u32 (wd Lk.n), .int .u16 (hd Lk.d), .int .u16 (hd Lk.l)]⟩] [dskT D (.pointer (some ⟨gd28, 0, none⟩)) (rest sL (-1))] w9) (dc_ Try.func14 rfl (args3 (H113.ev 85 rfl) (H113.ev 86 rfl) rfl) (lw_stale (O := O) (mk9 ri) (3#16) hc114 hb87 hb109 (HP _ (HZ62.bel HS110)) (far_off hp2 (HZ62.move HS110).st.chg.size hf114)) (fun _ w9 ⟨he, hX⟩ => ⟨_, he, rfl, hk114 _ _ _ hX⟩)) ?_
    rintro _ W114 ⟨rfl, HX114⟩ a114 H114
    clear hc114 hk114 hf114 hq114 HS110 HZ62
    clear H113
    obtain ⟨G115, HZ115, HS115⟩ := HX114.anchor
    clear HX114
    refine wl_ <| p_ H114 rfl rfl fun _ H116 => ln_ <| nx <| sq_ <| rl_ <| wl_ <| p_ H116 rfl rfl fun _ H117 => wl_ <| c_ H117 rfl HS115 (dcs Try.func16 rfl (args1 (H117.ev 88 rfl)) (ndlabel_at gn31 _ Lk W114 (HS115.row 0 rfl)) (.agg #[.int .u32 (wd Lk.e), .int .u32 (wd Lk.s), .int .u32 (wd Lk.n), .int .u16 (hd Lk.d), .int .u16 (hd Lk.l)])) fun _ HS118 _ H118 => wl_ <| n_ H118 rfl (fun _ h => dd_new HS118 #[.int .u32 0, .int .u32 0, .int .u32 0, .int .u16 0, .int .u16 0] rfl (z := .agg #[.int .u32 0, .int .u32 0, .int .u32 0, .int .u16 0, .int .u16 0]) (by kernel_rfl) rfl h) fun g12 _ HS119 _ H119 => wl_ <| t_ rfl (S := [⟨gn31, 69, #[.pointer (some ⟨gd28, 0, none⟩), .int .u32 (wd Lk.e), .int .u32 (wd Lk.s), .int .u32 (wd Lk.n), .int .u16 (hd Lk.d), .int .u16 (hd Lk.l)]⟩, ⟨g3, 37, #[.int .u32 (wd (L.e % 1000#32)), .int .u32 (wd (L.s % 1000#32)), .int .u32 (wd (L.n % 1000#32)), .int .u16 (hd L.d), .int .u16 (hd L.l)]⟩, ⟨g8, 42, #[.int .u32 (wd (mk9 ri).e), .int .u32 (wd (mk9 ri).s), .slice A2 n2 c2]⟩, ⟨g9, 37, #[.int .u32 (wd Lk.e), .int .u32 (wd Lk.s), .int .u32 (wd Lk.n), .int .u16 (hd Lk.d), .int .u16 (hd Lk.l)]⟩, ⟨g12, 37, #[.int .u32 (wd Lk.e), .int .u32 (wd Lk.s), .int .u32 (wd Lk.n), .int .u16 (hd Lk.d), .int .u16 (hd Lk.l)]⟩]) (fun _ h => dd_setrow HS119 4 rfl rfl (H119.ev 12 rfl) (H119.ev 89 rfl) (by kernel_rfl) (rfl : #[.int .u32 (wd Lk.e), .int .u32 (wd Lk.s), .int .u32 (wd Lk.n), .int .u16 (hd Lk.d), .int .u16 (hd Lk.l)].size = 5) (rfl : #[.int .u32 0, .int .u32 0, .int .u32 0, .int .u16 0, .int .u16 0].size = 5) (one_l (ao_cons rfl (ao_cons rfl (ao_cons rfl (ao_cons rfl (ao_cons rfl ao_nil)))))) h) fun _ HS120 => ln_ <| ?_
    clear H114 H116 H117 HS115 HS118 H118 HS119
    have H121 := H119.sel [0, 5, 7, 8, 9, 10, 11, 12] rfl
    refine nx <| sq_ <| sq_ <| rl_ <| q_ H121 2 rfl fun _ H122 => wl_ <| i_ H122 rfl (dd_cmp rfl (H122.ev 91 rfl) rfl (eq_f (by decide))) fun _ H123 => wl_ <| i_ H123 rfl (v := .bool false) (dd_neb rfl (H123.ev 90 rfl) (H123.ev 92 rfl) Try.underlying4 rfl) fun _ H124 => wl_ <| p_ H124 rfl rfl fun _ H125 => wl_ <| ig H125 (wg_ H125 rfl rfl rfl rfl) rfl (dd_mv rfl (H125.ev 10 rfl)) fun _ H126 => wl_ <| ig H126 (wg_ H126 rfl rfl rfl rfl) rfl (v := .bool true) (dd_nt rfl (H126.ev 95 rfl) rfl) fun _ H127 => wl_ <| ig H127 (wg_ H127 rfl rfl rfl rfl) rfl (dd_mv rfl (H127.ev 96 rfl)) fun _ H128 => wl_ <| ig H128 (wg_ H128 rfl rfl rfl rfl) rfl (dd_mv rfl (H128.ev 11 rfl)) fun _ H129 => ?_
    clear H119 H121 H122 H123 H124 H125 H126 H127
    refine wl_ <| ig H129 (wg_ H129 rfl rfl rfl rfl) rfl (dd_cmp rfl (H129.ev 98 rfl) rfl (ne_f (by decide))) fun _ H130 => wl_ <| ig H130 (wg_ H130 rfl rfl rfl rfl) rfl (dd_mv rfl (H130.ev 99 rfl)) fun _ H131 => wl_ <| ig H131 (wg_ H131 rfl rfl rfl rfl) rfl (v := .agg #[.int .u32 (wd Lk.e), .int .u32 (wd Lk.s), .int .u32 (wd Lk.n), .int .u16 (hd Lk.d), .int .u16 (hd Lk.l)]) (dd_load HS120 4 0 rfl rfl (H131.ev 12 rfl) (slab_whole _) Try.underlying37 rfl (by kernel_rfl)) fun _ H132 => wl_ <| ig H132 (wg_ H132 rfl rfl rfl rfl) rfl (v := .agg #[.int .u32 (wd Lk.e), .int .u32 (wd Lk.s), .int .u32 (wd Lk.n), .int .u16 (hd Lk.d), .int .u16 (hd Lk.l)]) (dd_load HS120 3 0 rfl rfl (H132.ev 9 rfl) (slab_whole _) Try.underlying37 rfl (by kernel_rfl)) fun _ H133 => wl_ <| ig H133 (wg_ H133 rfl rfl rfl rfl) rfl (v := .bool false) (dd_nea (b := true) rfl (H133.ev 101 rfl) (H133.ev 102 rfl) (by kernel_rfl) (fun w => by have h9 := eql_lab Lk Lk w; rw [decide_eq_true rfl] at h9; exact h9) rfl) fun _ H134 => wl_ <| ig H134 (wg_ H134 rfl rfl rfl rfl) rfl (dd_pickF rfl (H134.ev 100 rfl) (H134.ev 103 rfl)) fun _ H135 => wl_ <| ig H135 (wg_ H135 rfl rfl rfl rfl) rfl (dd_pickT rfl (H135.ev 97 rfl) (H135.ev 104 rfl)) fun _ H136 => wl_ <| p_ H136 rfl rfl fun _ H137 => ?_
    clear H128 H129 H130 H131 H132 H133 H134 H135
    refine ln_ <| ?_
    clear H136
    have H138 := H137.sel [0, 5, 7, 8, 9, 10, 12, 106] rfl
    refine nx <| cf_ H138 rfl <| wp_skip <| nx <| sq_ <| rl_ <| q_ H138 2 rfl fun _ H139 => wl_ <| k_ H139 (wg_ H139 rfl rfl rfl rfl) rfl fun _ H140 => wl_ <| k_ H140 (wg_ H140 rfl rfl rfl rfl) rfl fun _ H141 => wl_ <| k_ H141 (wg_ H141 rfl rfl rfl rfl) rfl fun _ H142 => wl_ <| k_ H142 (wg_ H142 rfl rfl rfl rfl) rfl fun _ H143 => wl_ <| k_ H143 (wg_ H143 rfl rfl rfl rfl) rfl fun _ H144 => wl_ <| k_ H144 (wg_ H144 rfl rfl rfl rfl) rfl fun _ H145 => wl_ <| k_ H145 (wu_ H145 rfl rfl rfl) rfl fun _ H146 => ?_
    clear H137 H138 H139 H140 H141 H142 H143 H144
    refine wl_ <| k_ H146 (wu_ H146 rfl rfl rfl) rfl fun _ H147 => wl_ <| k_ H147 (wu_ H147 rfl rfl rfl) rfl fun _ H148 => wl_ <| k_ H148 (wu_ H148 rfl rfl rfl) rfl fun _ H149 => wl_ <| k_ H149 (wu_ H149 rfl rfl rfl) rfl fun _ H150 => wl_ <| k_ H150 (wg_ H150 rfl rfl rfl rfl) rfl fun _ H151 => wl_ <| k_ H151 (wg_ H151 rfl rfl rfl rfl) rfl fun _ H152 => wl_ <| k_ H152 (wu_ H152 rfl rfl rfl) rfl fun _ H153 => wl_ <| k_ H153 (wu_ H153 rfl rfl rfl) rfl fun _ H154 => ?_
    clear H145 H146 H147 H148 H149 H150 H151 H152
    refine wl_ <| k_ H154 (wu_ H154 rfl rfl rfl) rfl fun _ H155 => wl_ <| k_ H155 (wu_ H155 rfl rfl rfl) rfl fun _ H156 => wl_ <| k_ H156 (wu_ H156 rfl rfl rfl) rfl fun _ H157 => wl_ <| k_ H157 (wu_ H157 rfl rfl rfl) rfl fun _ H158 => wl_ <| k_ H158 (wg_ H158 rfl rfl rfl rfl) rfl fun _ H159 => wl_ <| k_ H159 (wg_ H159 rfl rfl rfl rfl) rfl fun _ H160 => wl_ <| k_ H160 (wu_ H160 rfl rfl rfl) rfl fun _ H161 => wl_ <| k_ H161 (wu_ H161 rfl rfl rfl) rfl fun _ H162 => ?_
    clear H153 H154 H155 H156 H157 H158 H159 H160
    refine wl_ <| k_ H162 (wu_ H162 rfl rfl rfl) rfl fun _ H163 => wl_ <| k_ H163 (wu_ H163 rfl rfl rfl) rfl fun _ H164 => wl_ <| k_ H164 (wu_ H164 rfl rfl rfl) rfl fun _ H165 => wl_ <| k_ H165 (wg_ H165 rfl rfl rfl rfl) rfl fun _ H166 => wl_ <| k_ H166 (wg_ H166 rfl rfl rfl rfl) rfl fun _ H167 => wl_ <| k_ H167 (wu_ H167 rfl rfl rfl) rfl fun _ H168 => wl_ <| k_ H168 (wu_ H168 rfl rfl rfl) rfl fun _ H169 => wl_ <| k_ H169 (wu_ H169 rfl rfl rfl) rfl fun _ H170 => ?_
    clear H161 H162 H163 H164 H165 H166 H167 H168
    refine wl_ <| k_ H170 (wg_ H170 rfl rfl rfl rfl) rfl fun _ H171 => wl_ <| p_ H171 rfl rfl fun _ H172 => ln_ <| ?_
    clear H169 H170 H171
    have H173 := H172.sel [0, 5, 7, 141] rfl
    refine nx <| cf_ H173 rfl <| wp_skip <| bn <| nx <| rl_ <| wl_ <| p_ H173 rfl rfl fun _ H174 => wl_ <| i_ H174 rfl (v := .int .i64 (i + 1)) (dd_ari rfl (H174.ev 50 rfl) rfl rfl (i64_of (by first | omega | (have := bd_lo; omega)) (by omega))) fun _ H175 => wl_ <| p_ H175 rfl rfl fun _ H176 => ln_ <| ?_
    clear H172 H173 H174 H175
    refine nx ⟨i + 1, ⟨sL, Lk, Bk, (by omega), hNL, H176.sel [0, 5, 7] rfl, (HZ115.move HS120).sel [0, 1] [0]⟩, (by omega)⟩
   refine wl_ <| c_ H108 rfl HS100 (v := .bool true) (dc_ Try.func20 rfl (args4 (H108.ev 77 rfl) (H108.ev 79 rfl) (H108.ev 81 rfl) (H108.ev 83 rfl)) (reflater_any ((mk9 ri).e) ((mk9 ri).s) Lk.e Lk.s W100) (fun _ w9 h9 => ⟨_, h9.1, by rw [show laterB ((mk9 ri).e) ((mk9 ri).s) Lk.e Lk.s = true from hb109], h9.2⟩)) fun _ HS177 _ H177 => wl_ <| p_ H177 rfl rfl fun _ H178 => ln_ <| nx <| sq_ <| rl_ <| wl_ <| p_ H178 rfl rfl fun _ H179 => wl_ <| i_ H179 rfl (v := .agg #[.int .u32 (wd (mk9 ri).e), .int .u32 (wd (mk9 ri).s), .slice A2 n2 c2]) (dd_load HS177 2 0 rfl rfl (H179.ev 8 rfl) (slab_whole _) Try.underlying42 rfl (by kernel_rfl)) fun _ H180 => ?_
   clear H108 HS100 H177 H178 H179
   obtain ⟨Gc182, hc182, hf182, hk182, hq182⟩ := Rs.reframe (R1 := [⟨gn31, 69, #[.pointer (some ⟨gd28, 0, none⟩), .int .u32 (wd Lk.e), .int .u32 (wd Lk.s), .int .u32 (wd Lk.n), .int .u16 (hd Lk.d), .int .u16 (hd Lk.l)]⟩]) (R2 := [⟨g3, 37, #[.int .u32 (wd (L.e % 1000#32)), .int .u32 (wd (L.s % 1000#32)), .int .u32 (wd (L.n % 1000#32)), .int .u16 (hd L.d), .int .u16 (hd L.l)]⟩, ⟨g8, 42, #[.int .u32 (wd (mk9 ri).e), .int .u32 (wd (mk9 ri).s), .slice A2 n2 c2]⟩, ⟨g9, 37, #[.int .u32 (wd Lk.e), .int .u32 (wd Lk.s), .int .u32 (wd Lk.n), .int .u16 (hd Lk.d), .int .u16 (hd Lk.l)]⟩]) (Q1 := [dskT D (.pointer (some ⟨gd28, 0, none⟩)) (rest sL (-1))]) (Q2 := []) ((HZ62.move HS177).sel [0, 1, 2, 3] [0])
   refine wl_ <| d_ H180 rfl (R := fun v9 w9 => ∃ s181 : Secs, v9 = .int .i64 0 ∧ (Nds s181 (doneLab Lk (mk9 ri) (3#16)) (updB ri.l Bk)) ∧ (at0 s181 1 = headB (mk9 ri).e (mk9 ri).s (mk9 ri).ats) ∧ Rs w noF [⟨gn31, 69, #[.pointer (some ⟨gd28, 0, none⟩), .int .u32 (wd (doneLab Lk (mk9 ri) (3#16)).e), .int .u32 (wd (doneLab Lk (mk9 ri) (3#16)).s), .int .u32 (wd (doneLab Lk (mk9 ri) (3#16)).n), .int .u16 (hd (doneLab Lk (mk9 ri) (3#16)).d), .int .u16 (hd (doneLab Lk (mk9 ri) (3#16)).l)]⟩, ⟨g3, 37, #[.int .u32 (wd (L.e % 1000#32)), .int .u32 (wd (L.s % 1000#32)), .int .u32 (wd (L.n % 1000#32)), .int .u16 (hd L.d), .int .u16 (hd L.l)]⟩, ⟨g8, 42, #[.int .u32 (wd (mk9 ri).e), .int .u32 (wd (mk9 ri).s), .slice A2 n2 c2]⟩, ⟨g9, 37, #[.int .u32 (wd Lk.e), .int .u32 (wd Lk.s), .int .u32 (wd Lk.n), .int .u16 (hd Lk.d), .int .u16 (hd Lk.l)]⟩] [dskT D (.pointer (some ⟨gd28, 0, none⟩)) (rest s181 (-1))] w9) (dc_ Try.func14 rfl (args3 (H180.ev 85 rfl) (H180.ev 86 rfl) rfl) (lw_apply (O := O) (mk9 ri) (3#16) hc182 hNL (by decide) hb87 hb109 (HP _ (HZ62.bel HS177)) (far_off hp2 (HZ62.move HS177).st.chg.size hf182)) (fun _ w9 ⟨s181, he, hN181, hh181, hX⟩ => ⟨_, he, s181, rfl, hN181, hh181, hk182 _ _ _ hX⟩)) ?_
   rintro _ W182 ⟨s181, rfl, hN181, hh181, HX182⟩ a182 H182
   clear hc182 hk182 hf182 hq182 HS177 HZ62
   clear H180
   obtain ⟨G183, HZ183, HS183⟩ := HX182.anchor
   clear HX182
   refine wl_ <| p_ H182 rfl rfl fun _ H184 => ln_ <| nx <| sq_ <| rl_ <| wl_ <| p_ H184 rfl rfl fun _ H185 => wl_ <| c_ H185 rfl HS183 (dcs Try.func16 rfl (args1 (H185.ev 88 rfl)) (ndlabel_at gn31 _ (doneLab Lk (mk9 ri) (3#16)) W182 (HS183.row 0 rfl)) (.agg #[.int .u32 (wd (doneLab Lk (mk9 ri) (3#16)).e), .int .u32 (wd (doneLab Lk (mk9 ri) (3#16)).s), .int .u32 (wd (doneLab Lk (mk9 ri) (3#16)).n), .int .u16 (hd (doneLab Lk (mk9 ri) (3#16)).d), .int .u16 (hd (doneLab Lk (mk9 ri) (3#16)).l)])) fun _ HS186 _ H186 => wl_ <| n_ H186 rfl (fun _ h => dd_new HS186 #[.int .u32 0, .int .u32 0, .int .u32 0, .int .u16 0, .int .u16 0] rfl (z := .agg #[.int .u32 0, .int .u32 0, .int .u32 0, .int .u16 0, .int .u16 0]) (by kernel_rfl) rfl h) fun g12 _ HS187 _ H187 => wl_ <| t_ rfl (S := [⟨gn31, 69, #[.pointer (some ⟨gd28, 0, none⟩), .int .u32 (wd (doneLab Lk (mk9 ri) (3#16)).e), .int .u32 (wd (doneLab Lk (mk9 ri) (3#16)).s), .int .u32 (wd (doneLab Lk (mk9 ri) (3#16)).n), .int .u16 (hd (doneLab Lk (mk9 ri) (3#16)).d), .int .u16 (hd (doneLab Lk (mk9 ri) (3#16)).l)]⟩, ⟨g3, 37, #[.int .u32 (wd (L.e % 1000#32)), .int .u32 (wd (L.s % 1000#32)), .int .u32 (wd (L.n % 1000#32)), .int .u16 (hd L.d), .int .u16 (hd L.l)]⟩, ⟨g8, 42, #[.int .u32 (wd (mk9 ri).e), .int .u32 (wd (mk9 ri).s), .slice A2 n2 c2]⟩, ⟨g9, 37, #[.int .u32 (wd Lk.e), .int .u32 (wd Lk.s), .int .u32 (wd Lk.n), .int .u16 (hd Lk.d), .int .u16 (hd Lk.l)]⟩, ⟨g12, 37, #[.int .u32 (wd (doneLab Lk (mk9 ri) (3#16)).e), .int .u32 (wd (doneLab Lk (mk9 ri) (3#16)).s), .int .u32 (wd (doneLab Lk (mk9 ri) (3#16)).n), .int .u16 (hd (doneLab Lk (mk9 ri) (3#16)).d), .int .u16 (hd (doneLab Lk (mk9 ri) (3#16)).l)]⟩]) (fun _ h => dd_setrow HS187 4 rfl rfl (H187.ev 12 rfl) (H187.ev 89 rfl) (by kernel_rfl) (rfl : #[.int .u32 (wd (doneLab Lk (mk9 ri) (3#16)).e), .int .u32 (wd (doneLab Lk (mk9 ri) (3#16)).s), .int .u32 (wd (doneLab Lk (mk9 ri) (3#16)).n), .int .u16 (hd (doneLab Lk (mk9 ri) (3#16)).d), .int .u16 (hd (doneLab Lk (mk9 ri) (3#16)).l)].size = 5) (rfl : #[.int .u32 0, .int .u32 0, .int .u32 0, .int .u16 0, .int .u16 0].size = 5) (one_l (ao_cons rfl (ao_cons rfl (ao_cons rfl (ao_cons rfl (ao_cons rfl ao_nil)))))) h) fun _ HS188 => ln_ <| ?_
   clear H182 H184 H185 HS183 HS186 H186 HS187
   have H189 := H187.sel [0, 5, 7, 8, 9, 10, 11, 12] rfl
   refine nx <| sq_ <| sq_ <| rl_ <| q_ H189 2 rfl fun _ H190 => wl_ <| i_ H190 rfl (dd_cmp rfl (H190.ev 91 rfl) rfl (eq_t (by decide))) fun _ H191 => wl_ <| i_ H191 rfl (v := .bool false) (dd_neb rfl (H191.ev 90 rfl) (H191.ev 92 rfl) Try.underlying4 rfl) fun _ H192 => wl_ <| p_ H192 rfl rfl fun _ H193 => wl_ <| ig H193 (wg_ H193 rfl rfl rfl rfl) rfl (dd_mv rfl (H193.ev 10 rfl)) fun _ H194 => wl_ <| ig H194 (wg_ H194 rfl rfl rfl rfl) rfl (v := .bool false) (dd_nt rfl (H194.ev 95 rfl) rfl) fun _ H195 => wl_ <| ig H195 (wg_ H195 rfl rfl rfl rfl) rfl (dd_mv rfl (H195.ev 96 rfl)) fun _ H196 => wl_ <| k_ H196 (wg_ H196 rfl rfl rfl rfl) rfl fun _ H197 => ?_
   clear H187 H189 H190 H191 H192 H193 H194 H195
   refine wl_ <| k_ H197 (wg_ H197 rfl rfl rfl rfl) rfl fun _ H198 => wl_ <| k_ H198 (wg_ H198 rfl rfl rfl rfl) rfl fun _ H199 => wl_ <| k_ H199 (wu_ H199 rfl rfl rfl) rfl fun _ H200 => wl_ <| k_ H200 (wu_ H200 rfl rfl rfl) rfl fun _ H201 => wl_ <| k_ H201 (wu_ H201 rfl rfl rfl) rfl fun _ H202 => wl_ <| k_ H202 (wg_ H202 rfl rfl rfl rfl) rfl fun _ H203 => wl_ <| ig H203 (wg_ H203 rfl rfl rfl rfl) rfl (dd_pickF rfl (H203.ev 97 rfl) rfl) fun _ H204 => wl_ <| p_ H204 rfl rfl fun _ H205 => ?_
   clear H196 H197 H198 H199 H200 H201 H202 H203
   refine ln_ <| ?_
   clear H204
   have H206 := H205.sel [0, 5, 7, 8, 9, 10, 12, 106] rfl
   refine nx <| cf_ H206 rfl <| wp_skip <| nx <| sq_ <| rl_ <| q_ H206 2 rfl fun _ H207 => wl_ <| ig H207 (wg_ H207 rfl rfl rfl rfl) rfl (xf 0 0 rfl (H207.ev 12 rfl)) fun _ H208 => wl_ <| ig H208 (wg_ H208 rfl rfl rfl rfl) rfl (dd_get HS188 4 0 rfl rfl (H208.ev 109 rfl) rfl Try.underlying35 rfl) fun _ H209 => wl_ <| ig H209 (wg_ H209 rfl rfl rfl rfl) rfl (xf 0 0 rfl (H209.ev 8 rfl)) fun _ H210 => wl_ <| ig H210 (wg_ H210 rfl rfl rfl rfl) rfl (dd_get HS188 2 0 rfl rfl (H210.ev 111 rfl) rfl Try.underlying35 rfl) fun _ H211 => wl_ <| ig H211 (wg_ H211 rfl rfl rfl rfl) rfl (dd_cmp rfl (H211.ev 110 rfl) (H211.ev 112 rfl) (ne_f rfl)) fun _ H212 => wl_ <| ig H212 (wg_ H212 rfl rfl rfl rfl) rfl (dd_mv rfl (H212.ev 113 rfl)) fun _ H213 => wl_ <| ig H213 (wg_ H213 rfl rfl rfl rfl) rfl (xf 1 1 rfl (H213.ev 12 rfl)) fun _ H214 => ?_
   clear H205 H206 H207 H208 H209 H210 H211 H212
   refine wl_ <| ig H214 (wg_ H214 rfl rfl rfl rfl) rfl (dd_get HS188 4 1 rfl rfl (H214.ev 115 rfl) rfl Try.underlying35 rfl) fun _ H215 => wl_ <| ig H215 (wg_ H215 rfl rfl rfl rfl) rfl (xf 1 1 rfl (H215.ev 8 rfl)) fun _ H216 => wl_ <| ig H216 (wg_ H216 rfl rfl rfl rfl) rfl (dd_get HS188 2 1 rfl rfl (H216.ev 117 rfl) rfl Try.underlying35 rfl) fun _ H217 => wl_ <| ig H217 (wg_ H217 rfl rfl rfl rfl) rfl (dd_cmp rfl (H217.ev 116 rfl) (H217.ev 118 rfl) (ne_f rfl)) fun _ H218 => wl_ <| ig H218 (wg_ H218 rfl rfl rfl rfl) rfl (dd_pickF rfl (H218.ev 114 rfl) (H218.ev 119 rfl)) fun _ H219 => wl_ <| ig H219 (wg_ H219 rfl rfl rfl rfl) rfl (dd_mv rfl (H219.ev 120 rfl)) fun _ H220 => wl_ <| ig H220 (wg_ H220 rfl rfl rfl rfl) rfl (xf 2 2 rfl (H220.ev 12 rfl)) fun _ H221 => wl_ <| ig H221 (wg_ H221 rfl rfl rfl rfl) rfl (dd_get HS188 4 2 rfl rfl (H221.ev 122 rfl) rfl Try.underlying35 rfl) fun _ H222 => ?_
   clear H213 H214 H215 H216 H217 H218 H219 H220
   refine wl_ <| ig H222 (wg_ H222 rfl rfl rfl rfl) rfl (xf 1 1 rfl (H222.ev 8 rfl)) fun _ H223 => wl_ <| ig H223 (wg_ H223 rfl rfl rfl rfl) rfl (dd_get HS188 2 1 rfl rfl (H223.ev 124 rfl) rfl Try.underlying35 rfl) fun _ H224 => wl_ <| ig H224 (wg_ H224 rfl rfl rfl rfl) rfl (v := .int .u32 (wd ((mk9 ri).s + 1#32))) (dd_ari rfl (H224.ev 125 rfl) rfl rfl (wd_add1 _)) fun _ H225 => wl_ <| ig H225 (wg_ H225 rfl rfl rfl rfl) rfl (dd_cmp rfl (H225.ev 123 rfl) (H225.ev 126 rfl) (lt_f (ns_max1 _ _))) fun _ H226 => wl_ <| ig H226 (wg_ H226 rfl rfl rfl rfl) rfl (dd_pickF rfl (H226.ev 121 rfl) (H226.ev 127 rfl)) fun _ H227 => wl_ <| ig H227 (wg_ H227 rfl rfl rfl rfl) rfl (dd_mv rfl (H227.ev 128 rfl)) fun _ H228 => wl_ <| ig H228 (wg_ H228 rfl rfl rfl rfl) rfl (xf 2 2 rfl (H228.ev 12 rfl)) fun _ H229 => wl_ <| ig H229 (wg_ H229 rfl rfl rfl rfl) rfl (dd_get HS188 4 2 rfl rfl (H229.ev 130 rfl) rfl Try.underlying35 rfl) fun _ H230 => ?_
   clear H221 H222 H223 H224 H225 H226 H227 H228
   refine wl_ <| ig H230 (wg_ H230 rfl rfl rfl rfl) rfl (xf 2 2 rfl (H230.ev 9 rfl)) fun _ H231 => wl_ <| ig H231 (wg_ H231 rfl rfl rfl rfl) rfl (dd_get HS188 3 2 rfl rfl (H231.ev 132 rfl) rfl Try.underlying35 rfl) fun _ H232 => wl_ <| ig H232 (wg_ H232 rfl rfl rfl rfl) rfl (dd_cmp rfl (H232.ev 131 rfl) (H232.ev 133 rfl) (lt_f (ns_max2 _ _))) fun _ H233 => wl_ <| ig H233 (wg_ H233 rfl rfl rfl rfl) rfl (dd_pickF rfl (H233.ev 129 rfl) (H233.ev 134 rfl)) fun _ H234 => wl_ <| ig H234 (wg_ H234 rfl rfl rfl rfl) rfl (dd_mv rfl (H234.ev 135 rfl)) fun _ H235 => wl_ <| ig H235 (wg_ H235 rfl rfl rfl rfl) rfl (xf 3 3 rfl (H235.ev 12 rfl)) fun _ H236 => wl_ <| ig H236 (wg_ H236 rfl rfl rfl rfl) rfl (dd_get HS188 4 3 rfl rfl (H236.ev 137 rfl) rfl Try.underlying23 rfl) fun _ H237 => wl_ <| ig H237 (wg_ H237 rfl rfl rfl rfl) rfl (dd_cmp rfl (H237.ev 138 rfl) rfl (ne_f (show hd 3#16 = 3 by decide))) fun _ H238 => ?_
   clear H229 H230 H231 H232 H233 H234 H235 H236
   refine wl_ <| ig H238 (wg_ H238 rfl rfl rfl rfl) rfl (dd_pickF rfl (H238.ev 136 rfl) (H238.ev 139 rfl)) fun _ H239 => wl_ <| p_ H239 rfl rfl fun _ H240 => ln_ <| ?_
   clear H237 H238 H239
   have H241 := H240.sel [0, 5, 7, 141] rfl
   refine nx <| cf_ H241 rfl <| wp_skip <| bn <| nx <| rl_ <| wl_ <| p_ H241 rfl rfl fun _ H242 => wl_ <| i_ H242 rfl (v := .int .i64 (i + 1)) (dd_ari rfl (H242.ev 50 rfl) rfl rfl (i64_of (by first | omega | (have := bd_lo; omega)) (by omega))) fun _ H243 => wl_ <| p_ H243 rfl rfl fun _ H244 => ln_ <| ?_
   clear H240 H241 H242 H243
   refine nx ⟨i + 1, ⟨s181, (doneLab Lk (mk9 ri) (3#16)), (updB ri.l Bk), (by omega), hN181, H244.sel [0, 5, 7] rfl, (HZ183.move HS188).sel [0, 1] [0]⟩, (by omega)⟩
  refine wl_ <| i_ H56 rfl (dd_cmp rfl (H56.ev 46 rfl) (H56.ev 48 rfl) (lt_f hc58)) fun _ H245 => ln_ <| nx <| cf_ H245 rfl <| wp_exit <| tx <| tx <| bx <| nx <| sq_ <| rl_ <| wl_ <| c_ H245 rfl HS54 (dcs Try.func8 rfl (args0 ) (ndwakes D O wL53) (.bool true)) fun _ HS246 _ H246 => wl_ <| p_ H246 rfl rfl fun _ H247 => ln_ <| nx <| wp_ret <| ret_run H247.env0 (res_t Try.results5 (H247.get 4 rfl)) <| ?_
  clear H56 H245 HS54 H246
  exact ⟨rfl, (HZ54.bel HS246)⟩
end Go.Proofs.Ytiabfojcfcpdiaa

/- NodeStale: for every list of records and label the call returns true and changes nothing that it was handed. Conditions: those of the row. -/
set_option maxRecDepth 4000
namespace Go.Proofs.Ytiabfojcfcpdiaa.nodeStale
open Go Go.ChangeShapes Go.WideShapes Go.ChangeAt Go.RowKit

theorem contract (H : Type) (enc : TypeId × Value → H) (W : World) (base : Nat) (args : Array Value) (ds gs : List (DataW H)) (before : List MemPlace)
    (hval : ∀ (j : Nat) t v, Try.f5.params[j]? = some t → args[j]? = some v → Value.okWide Try.prog W .any base t v)
    (hW : DataW.Whole enc Try.prog Try.f5.params.toList Rows.nodeStaleSpec.vars false W args.toList ds gs before) :
    Calls Try.prog 5 args W fun e W' => ∃ v, e = .returned v ∧ Rows.nodeStaleSpec.post enc Try.prog Try.f5 false true false false W args v W' := by
  have hW' := hW
  obtain ⟨p, q, hA0, hV, rfl, _, _⟩ := hW
  have hA : DataW.TrodAll enc Try.prog W 0 (fun _ => true) true Try.f5.params.toList args.toList ds p := hA0
  rw [Try.params5] at hA hval
  obtain ⟨v0, vs0, d0, ds0, p0, q0, hargs, rfl, rfl, h0, r0⟩ := trodAll_cons hA
  obtain ⟨v1, vs1, d1, ds1, p1, q1, rfl, rfl, rfl, h1, r1⟩ := trodAll_cons r0
  obtain ⟨rfl, rfl, rfl⟩ := trodAll_nil r1
  obtain rfl : args = #[v0, v1] := by cases args; simp_all
  obtain ⟨rfl, rfl⟩ := trodVars_none hV
  have hlt0 : ∀ x ∈ p0, x.block < W.heap.size := fun x hx => hW'.lt x (by simp [hx])
  have hlt1 : ∀ x ∈ p1, x.block < W.heap.size := fun x hx => hW'.lt x (by simp [hx])
  obtain ⟨A0, n0, c0, l0, rfl, hS0, hm0⟩ := open_recsA (hval 0 22 v0 rfl rfl) h0 hlt0
  obtain ⟨L1, rfl⟩ := open_lab (hval 1 37 v1 rfl rfl) h1 hlt1
  refine (nstale_walk diskOps walOps A0 n0 c0 l0 L1 W hS0 hm0 ).mono fun e W' ⟨he, hb⟩ => ?_
  subst he
  exact ⟨_, rfl, [d0, d1], [], _, [], _, [], hW', trodAll_cons_mk (shut_bool Try.underlying4 _) trodAll_mk0, trodAll_cons_mk (Below.trod laidOutT (by kernel_rfl) (of_decide_eq_true (by kernel_rfl)) h0 hb hlt0) (trodAll_cons_mk (Below.trod laidOutT (by kernel_rfl) (of_decide_eq_true (by kernel_rfl)) h1 hb hlt1) trodAll_mk0), rfl, hb.frame _, fun h => by cases h⟩

set_option maxRecDepth 100000 in
theorem lifted (os : Os) (started : os.Started) (H : Type) (enc : TypeId × Value → H) :
    ReturnsInHanded {} Try.checked os 5 .any (Rows.nodeStaleSpec.pre6 enc Try.prog Try.f5 Rows.nodeStaleRow.domain false) (Rows.nodeStaleSpec.post enc Try.prog Try.f5 false true false false) := by
  refine returnsInHanded_of_change (C := Try.checked) ownK started (by kernel_rfl) Try.func5
    (ChangeSpec.witness6 (enc := enc) (C := Try.checked) false ⟨#[], #[.slice none 0 0, .agg #[.int .u32 0, .int .u32 0, .int .u32 0, .int .u16 0, .int .u16 0]], []⟩ 8 (by kernel_rfl) (by kernel_rfl) (by kernel_rfl) (by kernel_rfl)) ?_
  intro W base args ds gs before hval hW _ _
  exact contract H enc W base args ds gs before hval hW

theorem said : Rows.NodeStaleSaid :=
  OpenClaim.holds_of_wide 5 Try.f5 rfl rfl rfl rfl rfl rfl rfl ⟨rfl, rfl, rfl, rfl, rfl⟩ rfl rfl rfl rfl rfl (by kernel_rfl) Try.func5 (by kernel_rfl)
    (of_decide_eq_true (by kernel_rfl)) (by unfold Func.isWrapper; first | (rw [if_pos (by decide +kernel)]; kernel_rfl) | (rw [if_neg (by decide +kernel)]; exact ⟨rfl, rfl⟩))
    (fun os started H enc _ => lifted os started H enc)
end Go.Proofs.Ytiabfojcfcpdiaa.nodeStale
