/- TakerOnce: for every list of packets and order the call returns true and changes nothing that it was handed. Conditions: those of the row. -/
import Derived.Test.YtbdpocbnkgckhaaRows
import Derived.Test.YtbdpocbnkgckhaaMAw1
import Derived.Test.YtbdpocbnkgckhaaMGen0
import Derived.Test.YtbdpocbnkgckhaaMWal0
/- The statement TakerOnce: its walk. -/
set_option maxRecDepth 4000
namespace Go.Proofs.Ytbdpocbnkgckhaa
open Go Go.RowKit
theorem og_S {X : List Pkt} {i : Nat} {p : Pkt} (h : ∀ (j : Nat) (y : Pkt), X[j]? = some y → j < i → goodB (y.l.map (·.1)) = true) (hp : X[i]? = some p) (hg : goodB (p.l.map (·.1)) = true) : ∀ (j : Nat) (y : Pkt), X[j]? = some y → j < i + 1 → goodB (y.l.map (·.1)) = true := fun j y hy hj => by
  by_cases e : j = i
  · subst e; rw [hp] at hy; cases hy; exact hg
  · exact h j y hy (by omega)
theorem wd_of0 (n : Nat) : IntKind.u32.wrap ((n : Nat) : Int) = wd (BitVec.ofNat 32 n) := by
  show _ = ((BitVec.ofNat 32 n).toNat : Int)
  rw [BitVec.toNat_ofNat, IntKind.wrap_u32]; omega
section
variable {L : Lab} {la rk : Nat} {k : Int} {l : List Pt}
theorem to_nat {n : Nat} (h : n < 1000) : (BitVec.ofNat 32 n).toNat = n := by rw [BitVec.toNat_ofNat]; omega
theorem to_l (h : ((la = 0 ∧ L = lab0) ∨ (L.e = 3#32 ∧ L.s = BitVec.ofNat 32 la ∧ 0 < la))) (h1 : la < rk + 1) (h2 : rk < 100) : ndLater L (pkR (⟨k, 3#32, BitVec.ofNat 32 (rk + 1), l⟩ : Pkt)) = true := by
  show laterB 3#32 (BitVec.ofNat 32 (rk + 1)) L.e L.s = true
  unfold laterB
  simp only [Bool.or_eq_true, Bool.and_eq_true, decide_eq_true_eq, to_nat (n := rk + 1) (by omega)]
  rcases h with ⟨_, rfl⟩ | ⟨h3, h4, _⟩
  · left; decide
  · right; rw [h4, to_nat (by omega)]; exact ⟨h3.symm, h1⟩
theorem to_same (h : ((la = 0 ∧ L = lab0) ∨ (L.e = 3#32 ∧ L.s = BitVec.ofNat 32 la ∧ 0 < la))) (h1 : rk + 1 = la) : (⟨k, 3#32, BitVec.ofNat 32 (rk + 1), l⟩ : Pkt).e = L.e ∧ (⟨k, 3#32, BitVec.ofNat 32 (rk + 1), l⟩ : Pkt).s = L.s := by
  rcases h with ⟨h, _⟩ | ⟨h3, h4, _⟩
  · omega
  · exact ⟨h3.symm, by rw [h4, ← h1]⟩
theorem to_s (h : ((la = 0 ∧ L = lab0) ∨ (L.e = 3#32 ∧ L.s = BitVec.ofNat 32 la ∧ 0 < la))) (h1 : rk + 1 < la) (h2 : la < 100) : ndLater L (pkR (⟨k, 3#32, BitVec.ofNat 32 (rk + 1), l⟩ : Pkt)) = false := by
  show laterB 3#32 (BitVec.ofNat 32 (rk + 1)) L.e L.s = false
  rcases h with ⟨h, _⟩ | ⟨h3, h4, _⟩
  · omega
  · unfold laterB
    rw [h3, h4, to_nat (n := rk + 1) (by omega), to_nat (by omega)]
    simp; omega
theorem to_n (h : ((la = 0 ∧ L = lab0) ∨ (L.e = 3#32 ∧ L.s = BitVec.ofNat 32 la ∧ 0 < la))) (h1 : rk + 1 < la) (h2 : la < 100) : ¬ ((⟨k, 3#32, BitVec.ofNat 32 (rk + 1), l⟩ : Pkt).e = L.e ∧ (⟨k, 3#32, BitVec.ofNat 32 (rk + 1), l⟩ : Pkt).s = L.s) := fun ⟨_, h9⟩ => by
  rcases h with ⟨h, _⟩ | ⟨h3, h4, _⟩
  · omega
  · have h9 : BitVec.ofNat 32 (rk + 1) = L.s := h9
    rw [h4] at h9
    have := congrArg BitVec.toNat h9
    rw [to_nat (n := rk + 1) (by omega), to_nat (by omega)] at this
    omega
theorem to_e (h : ((la = 0 ∧ L = lab0) ∨ (L.e = 3#32 ∧ L.s = BitVec.ofNat 32 la ∧ 0 < la))) (h1 : 0 < la) : wd L.e = 3 := by
  rcases h with ⟨h, _⟩ | ⟨h3, _⟩
  · omega
  · rw [h3]; decide
theorem to_q (h : ((la = 0 ∧ L = lab0) ∨ (L.e = 3#32 ∧ L.s = BitVec.ofNat 32 la ∧ 0 < la))) (h1 : 0 < la) : wd L.s = wd (BitVec.ofNat 32 la) := by
  rcases h with ⟨h, _⟩ | ⟨_, h4, _⟩
  · omega
  · rw [h4]
end
attribute [local irreducible] blk zer spl updB cat12
variable (D : DiskOps) (O : WalOps D)
include O in
set_option maxHeartbeats 3200000 in
theorem tkonce_walk (Al : Option Addr) (nl cl : Nat) (X : List Pkt) (A : Option Addr) (c : Nat) (q : List (BitVec 8)) (w : World) (hX : PktsAt w Al nl X) (_ : nl ≤ maxLen) (hs' : Slice w (.slice A q.length c) q) (_ : A = none → c = 0) (_ : q.length ≤ maxLen) : Calls Try.prog 3 #[.slice Al nl cl, .slice A q.length c] w fun x w' => x = .returned (.bool true) ∧ Below w.heap.size w w' := by
  obtain ⟨n, hn9⟩ : ∃ n, q.length = n := ⟨_, rfl⟩
  have hs := hs'
  rw [hn9] at hs ⊢
  have HS := St.nil w noF
  have HX : Rs w noF [] [] w := Rs.of HS
  clear HS
  obtain ⟨G1, HZ1, HS1⟩ := HX.anchor
  clear HX
  refine enter_en Try.func3 rfl Try.ntmps3 (Nat.le_of_ble_eq_true rfl) fun a0 (HA0 : En 168 [(0, .slice Al nl cl), (1, .slice A n c)] a0) => ?_
  refine sq_ <| rl_ <| wl_ <| p_ HA0 rfl rfl fun _ H2 => ln_ <| nx <| sq_ <| sq_ <| rl_ <| wl_ <| p_ H2 rfl rfl fun _ H3 => wl_ <| i_ H3 rfl (v := .int .i64 nl) (dd_len rfl (H3.ev 19 rfl) Try.underlying22) fun _ H4 => ?_
  clear HA0 H2 H3
  by_cases hc6 : (nl : Int) = 0
  ·
   refine wl_ <| i_ H4 rfl (dd_cmp rfl (H4.ev 20 rfl) rfl (eq_t hc6)) fun _ H7 => wl_ <| p_ H7 rfl rfl fun _ H8 => wl_ <| k_ H8 (wg_ H8 rfl rfl rfl rfl) rfl fun a9 H9 => wl_ <| k_ H9 (wg_ H9 rfl rfl rfl rfl) rfl fun _ H10 => wl_ <| k_ H10 (wg_ H10 rfl rfl rfl rfl) rfl fun _ H11 => q_ H11 2 rfl fun _ H12 => wl_ <| k_ H12 (wg_ H12 rfl rfl rfl rfl) rfl fun _ H13 => wl_ <| k_ H13 (wg_ H13 rfl rfl rfl rfl) rfl fun _ H14 => ?_
   clear H4 H7 H8 H9 H10 H11 H12
   refine wl_ <| k_ H14 (wg_ H14 rfl rfl rfl rfl) rfl fun _ H15 => wl_ <| p_ H15 rfl rfl fun _ H16 => ln_ <| nx <| ct_ H16 rfl <| sq_ <| rl_ <| wl_ <| c_ H16 rfl HS1 (dcs Try.func6 rfl (args0 ) (tkwakes D O w) (.bool true)) fun _ HS17 _ H17 => wl_ <| p_ H17 rfl rfl fun _ H18 => ln_ <| ?_
   clear H13 H14 H15 H16 HS1 H17
   have H19 := H18.sel [4] rfl
   refine nx <| wp_ret <| tr <| ret_run H19.env0 (res_t Try.results3 (H19.get 4 rfl)) <| ?_
   clear H18
   exact ⟨rfl, (HZ1.bel HS17)⟩
  refine wl_ <| i_ H4 rfl (dd_cmp rfl (H4.ev 20 rfl) rfl (eq_f hc6)) fun _ H20 => wl_ <| p_ H20 rfl rfl fun _ H21 => wl_ <| ig H21 (wg_ H21 rfl rfl rfl rfl) rfl (dd_mv rfl (H21.ev 0 rfl)) fun _ H22 => wl_ <| ig H22 (wg_ H22 rfl rfl rfl rfl) rfl (v := .int .i64 nl) (dd_len rfl (H22.ev 23 rfl) Try.underlying22) fun _ H23 => ?_
  clear H4 H20 H21 H22
  by_cases hc25 : (10 : Int) < nl
  ·
   refine wl_ <| ig H23 (wg_ H23 rfl rfl rfl rfl) rfl (dd_cmp rfl (H23.ev 24 rfl) rfl (gt_t hc25)) fun _ H26 => q_ H26 2 rfl fun _ H27 => wl_ <| k_ H27 (wg_ H27 rfl rfl rfl rfl) rfl fun _ H28 => wl_ <| k_ H28 (wg_ H28 rfl rfl rfl rfl) rfl fun _ H29 => wl_ <| k_ H29 (wg_ H29 rfl rfl rfl rfl) rfl fun _ H30 => wl_ <| p_ H30 rfl rfl fun _ H31 => ln_ <| nx <| ct_ H31 rfl <| sq_ <| rl_ <| wl_ <| c_ H31 rfl HS1 (dcs Try.func6 rfl (args0 ) (tkwakes D O w) (.bool true)) fun _ HS32 _ H32 => wl_ <| p_ H32 rfl rfl fun _ H33 => ?_
   clear H23 H26 H27 H28 H29 H30 H31 HS1
   refine ln_ <| ?_
   clear H32
   have H34 := H33.sel [4] rfl
   refine nx <| wp_ret <| tr <| ret_run H34.env0 (res_t Try.results3 (H34.get 4 rfl)) <| ?_
   clear H33
   exact ⟨rfl, (HZ1.bel HS32)⟩
  refine wl_ <| ig H23 (wg_ H23 rfl rfl rfl rfl) rfl (dd_cmp rfl (H23.ev 24 rfl) rfl (gt_f hc25)) fun _ H35 => q_ H35 2 rfl fun _ H36 => wl_ <| ig H36 (wg_ H36 rfl rfl rfl rfl) rfl (dd_mv rfl (H36.ev 1 rfl)) fun _ H37 => wl_ <| ig H37 (wg_ H37 rfl rfl rfl rfl) rfl (v := .int .i64 n) (dd_len rfl (H37.ev 28 rfl) Try.underlying23) fun _ H38 => ?_
  clear H23 H35 H36 H37
  by_cases hc40 : (60 : Int) < n
  ·
   refine wl_ <| ig H38 (wg_ H38 rfl rfl rfl rfl) rfl (dd_cmp rfl (H38.ev 29 rfl) rfl (gt_t hc40)) fun _ H41 => wl_ <| p_ H41 rfl rfl fun _ H42 => ln_ <| nx <| ct_ H42 rfl <| sq_ <| rl_ <| wl_ <| c_ H42 rfl HS1 (dcs Try.func6 rfl (args0 ) (tkwakes D O w) (.bool true)) fun _ HS43 _ H43 => wl_ <| p_ H43 rfl rfl fun _ H44 => ln_ <| ?_
   clear H38 H41 H42 HS1 H43
   have H45 := H44.sel [4] rfl
   refine nx <| wp_ret <| tr <| ret_run H45.env0 (res_t Try.results3 (H45.get 4 rfl)) <| ?_
   clear H44
   exact ⟨rfl, (HZ1.bel HS43)⟩
  refine wl_ <| ig H38 (wg_ H38 rfl rfl rfl rfl) rfl (dd_cmp rfl (H38.ev 29 rfl) rfl (gt_f hc40)) fun _ H46 => wl_ <| p_ H46 rfl rfl fun _ H47 => ln_ <| nx <| cf_ H47 rfl <| wp_skip <| nx <| sq_ <| sq_ <| rl_ <| wl_ <| p_ H47 rfl rfl fun _ H48 => ln_ <| nx <| wp_block <| ?_
  clear H38 H46 H47
  refine wp_loopG (ι := Nat) (fun i a9 w9 => (i ≤ nl) ∧ (∀ (j : Nat) (y : Pkt), X[j]? = some y → j < i → goodB (y.l.map (·.1)) = true) ∧ En 168 [(5, .int .i64 i), (0, .slice Al nl cl), (1, .slice A n c)] a9 ∧ Rs w noF [] [] w9) (fun i => nl - i) (0) ⟨(Nat.zero_le _), (fun _ _ _ h9 => absurd h9 (Nat.not_lt_zero _)), H48.sel [1, 0, 5] rfl, (HZ1.move HS1).sel [] []⟩ ?_
  clear H48 HS1 HZ1
  rintro i aL49 wL49 ⟨hi, hgd, HL49, HXL49⟩
  obtain ⟨G50, HZ50, HS50⟩ := HXL49.anchor
  clear HXL49
  refine sq_ <| sq_ <| rl_ <| q_ HL49 2 rfl fun _ H51 => wl_ <| i_ H51 rfl (v := .int .i64 nl) (dd_len rfl (H51.ev 34 rfl) Try.underlying22) fun _ H52 => ?_
  clear HL49 H51
  by_cases hc54 : (i : Int) < nl
  ·
   refine wl_ <| i_ H52 rfl (dd_cmp rfl (H52.ev 33 rfl) (H52.ev 35 rfl) (lt_t hc54)) fun _ H55 => ln_ <| nx <| ct_ H55 rfl <| wp_skip <| nx <| sq_ <| wp_block <| sq_ <| ?_
   clear H52
   obtain ⟨b8, o8, hA8, hb8, hall⟩ := hX.at_ (by omega)
   obtain ⟨ri, hxi⟩ : ∃ x, X[i]? = some x := ⟨_, List.getElem?_eq_getElem (by rw [hX.len]; omega)⟩
   obtain ⟨A2, c2, hc2, hp2, hm2⟩ := hall i ri hxi
   obtain ⟨xi, exi⟩ : ∃ x, ri.l = x := ⟨_, rfl⟩
   rw [exi] at hc2 hp2 hm2
   obtain ⟨n2, hn⟩ : ∃ n, xi.length = n := ⟨_, rfl⟩
   rw [hn] at hc2 hp2
   have HC2 := fun (W9 : World) (hb9 : Below w.heap.size w W9) => range_stay hc2 hb8 hb9
   have HP := fun (W9 : World) (hb9 : Below w.heap.size w W9) => hp2.below hb9 (Nat.le_refl _)
   have hwf := (puts_open hp2).2.2.1
   have hA0 := (puts_open hp2).2.2.2
   have hnm : n2 ≤ maxLen := hn ▸ hm2
   have hmx : n2 ≤ 9223372036854775807 := by have := hnm; unfold maxLen at this; omega
   refine rl_ <| q_ H55 2 rfl fun _ H56 => wl_ <| i_ H56 rfl (dd_idxS (sz := 4) (j := o8 + i * 4) rfl (sl_at (H56.ev 39 rfl) hA8) (H56.ev 40 rfl) (by kernel_rfl) (by omega) (by omega) (by omega)) fun _ H57 => wl_ <| i_ H57 rfl (xf 3 (o8 + i * 4 + 3) rfl (H57.ev 41 rfl)) fun _ H58 => wl_ <| i_ H58 rfl (dd_at rfl (H58.ev 42 rfl) ((HC2 _ (HZ50.bel HS50)) 3 _ rfl) Try.underlying27 rfl) fun _ H59 => ?_
   clear H55 H56 H57 H58
   cases hb60 : goodB (xi.map (·.1))
   ·
    refine wl_ <| c_ H59 rfl HS50 (v := .bool false) (dc_ Try.func7 rfl (args1 (H59.ev 43 rfl)) (refgood_any xi _ wL49 (HP _ (HZ50.bel HS50)) (by rw [hn]; unfold maxLen; omega)) (fun _ w9 h9 => ⟨_, h9.1, by rw [hb60], h9.2⟩)) fun W61 HS61 _ H61 => wl_ <| i_ H61 rfl (v := .bool true) (dd_nt rfl (H61.ev 44 rfl) rfl) fun _ H62 => ln_ <| nx <| ct_ H62 rfl <| sq_ <| rl_ <| wl_ <| c_ H62 rfl HS61 (dcs Try.func6 rfl (args0 ) (tkwakes D O W61) (.bool true)) fun _ HS63 _ H63 => wl_ <| p_ H63 rfl rfl fun _ H64 => ln_ <| nx <| wp_ret <| br_ <| tr <| tr <| br_ <| tr <| ret_run H64.env0 (res_t Try.results3 (H64.get 4 rfl)) <| ?_
    clear H59 HS50 H61 H62 HS61 H63
    exact ⟨rfl, (HZ50.bel HS63)⟩
   refine wl_ <| c_ H59 rfl HS50 (v := .bool true) (dc_ Try.func7 rfl (args1 (H59.ev 43 rfl)) (refgood_any xi _ wL49 (HP _ (HZ50.bel HS50)) (by rw [hn]; unfold maxLen; omega)) (fun _ w9 h9 => ⟨_, h9.1, by rw [hb60], h9.2⟩)) fun _ HS65 _ H65 => wl_ <| i_ H65 rfl (v := .bool false) (dd_nt rfl (H65.ev 44 rfl) rfl) fun _ H66 => ln_ <| nx <| cf_ H66 rfl <| wp_skip <| bn <| nx <| rl_ <| wl_ <| p_ H66 rfl rfl fun _ H67 => wl_ <| i_ H67 rfl (v := .int .i64 (i + 1)) (dd_ari rfl (H67.ev 37 rfl) rfl rfl (i64_of (by first | omega | (have := bd_lo; omega)) (by omega))) fun _ H68 => wl_ <| p_ H68 rfl rfl fun _ H69 => ln_ <| ?_
   clear H59 HS50 H65 H66 H67 H68
   refine nx ⟨i + 1, ⟨(by omega), (og_S hgd hxi (by rw [exi]; exact hb60)), H69.sel [1, 0, 5] rfl, (HZ50.move HS65).sel [] []⟩, (by omega)⟩
  refine wl_ <| i_ H52 rfl (dd_cmp rfl (H52.ev 33 rfl) (H52.ev 35 rfl) (lt_f hc54)) fun _ H70 => ln_ <| nx <| cf_ H70 rfl <| wp_exit <| tx <| tx <| bx <| nx <| sq_ <| rl_ <| ?_
  clear H52
  obtain ⟨Gc72, hc72, hf72, hk72, hq72⟩ := Rs.reframe (R1 := []) (R2 := []) (Q1 := []) (Q2 := []) ((HZ50.move HS50).sel [] [])
  refine wl_ <| d_ H70 rfl (R := fun v9 w9 => ∃ gd71 : Nat, v9 = .pointer (some ⟨gd71, 0, none⟩) ∧ Rs w noF [] [dskT D (.pointer (some ⟨gd71, 0, none⟩)) (rest (List.replicate 19 (blk 0#8)) (-1))] w9) (dc_ Try.func9 rfl (args0) (nd_new D Gc72 wL49) (fun _ w9 ⟨gd71, he, hX⟩ => ⟨_, he, gd71, rfl, hk72 _ _ _ hX⟩)) ?_
  rintro _ W72 ⟨gd71, rfl, HX72⟩ a72 H72
  clear hc72 hk72 hf72 hq72 HS50 HZ50
  clear H70
  obtain ⟨G73, HZ73, HS73⟩ := HX72.anchor
  clear HX72
  obtain ⟨Gc75, hc75, hf75, hk75, hq75⟩ := Rs.reframe (R1 := []) (R2 := []) (Q1 := [dskT D (.pointer (some ⟨gd71, 0, none⟩)) (rest (List.replicate 19 (blk 0#8)) (-1))]) (Q2 := []) ((HZ73.move HS73).sel [] [0])
  refine wl_ <| d_ H72 rfl (R := fun v9 w9 => ∃ gn74 : Nat, v9 = .tuple #[.pointer (some ⟨gn74, 0, none⟩), .int .i64 0] ∧ Rs w noF [⟨gn74, 59, #[.pointer (some ⟨gd71, 0, none⟩), .int .u32 (wd lab0.e), .int .u32 (wd lab0.s), .int .u32 (wd lab0.n), .int .u16 (hd lab0.d), .int .u16 (hd lab0.l)]⟩] [dskT D (.pointer (some ⟨gd71, 0, none⟩)) (rest (List.replicate 19 (blk 0#8)) (-1))] w9) (dc_ Try.func8 rfl (args1 (H72.ev 48 rfl)) (lw_open (O := O) hc75 nds_new) (fun _ w9 ⟨gn74, he, hX⟩ => ⟨_, he, gn74, rfl, hk75 _ _ _ hX⟩)) ?_
  rintro _ W75 ⟨gn74, rfl, HX75⟩ a75 H75
  clear hc75 hk75 hf75 hq75 HS73 HZ73
  clear H72
  obtain ⟨G76, HZ76, HS76⟩ := HX75.anchor
  clear HX75
  refine wl_ <| p_ H75 rfl rfl fun _ H77 => wl_ <| i_ H77 rfl (v := .pointer (some ⟨gn74, 0, none⟩)) (dd_ext rfl (H77.ev 47 rfl) rfl) fun _ H78 => wl_ <| i_ H78 rfl (v := .int .i64 0) (dd_ext rfl (H78.ev 47 rfl) rfl) fun _ H79 => q_ H79 2 rfl fun _ H80 => ln_ <| nx <| sq_ <| sq_ <| rl_ <| wl_ <| p_ H80 rfl rfl fun _ H81 => wl_ <| i_ H81 rfl (dd_cmp rfl (H81.ev 52 rfl) rfl (ne_f (by decide))) fun _ H82 => wl_ <| p_ H82 rfl rfl fun _ H83 => wl_ <| ig H83 (wg_ H83 rfl rfl rfl rfl) rfl (dd_mv rfl (H83.ev 6 rfl)) fun _ H84 => ?_
  clear H75 H77 H78 H79 H80 H81 H82
  refine wl_ <| ig H84 (wg_ H84 rfl rfl rfl rfl) rfl (v := .bool false) (dd_eqp rfl (H84.ev 55 rfl) rfl Try.underlying30 rfl) fun _ H85 => wl_ <| p_ H85 rfl rfl fun _ H86 => ln_ <| ?_
  clear H83 H84 H85
  have H87 := H86.sel [1, 0, 6, 57] rfl
  refine nx <| cf_ H87 rfl <| wp_skip <| nx <| sq_ <| rl_ <| wl_ <| n_ H87 rfl (fun _ h => dd_new HS76 (bs (cat12 (fun _ => blk 0#8))) rfl (z := .agg (bs (cat12 (fun _ => blk 0#8)))) (by kernel_rfl) rfl h) fun gW8 _ HS88 _ H88 => ln_ <| nx <| sq_ <| rl_ <| wl_ <| p_ H88 rfl rfl fun _ H89 => ln_ <| nx <| sq_ <| sq_ <| rl_ <| wl_ <| p_ H89 rfl rfl fun _ H90 => ln_ <| nx <| wp_block <| ?_
  clear H86 HS76 H87 H88 H89
  refine wp_loopG (ι := Nat) (fun i2 a9 w9 => ∃ sL : Secs, ∃ Lk : Lab, ∃ Bk : Bks, ∃ la : Nat, (i2 ≤ n) ∧ (Nds sL Lk Bk) ∧ (∀ i : Nat, i < 12 → (Bk i).length = 32) ∧ (la ≤ 10) ∧ ((la = 0 ∧ Lk = lab0) ∨ (Lk.e = 3#32 ∧ Lk.s = BitVec.ofNat 32 la ∧ 0 < la)) ∧ En 168 [(10, .int .i64 i2), (9, .int .i64 la), (8, .pointer (some ⟨gW8, 0, none⟩)), (6, .pointer (some ⟨gn74, 0, none⟩)), (0, .slice Al nl cl), (1, .slice A n c)] a9 ∧ Rs w noF [⟨gn74, 59, #[.pointer (some ⟨gd71, 0, none⟩), .int .u32 (wd Lk.e), .int .u32 (wd Lk.s), .int .u32 (wd Lk.n), .int .u16 (hd Lk.d), .int .u16 (hd Lk.l)]⟩, ⟨gW8, 38, bs (cat12 Bk)⟩] [dskT D (.pointer (some ⟨gd71, 0, none⟩)) (rest sL (-1))] w9) (fun i2 => n - i2) (0) ⟨(List.replicate 19 (blk 0#8)), lab0, (fun _ => blk 0#8), 0, (Nat.zero_le _), nds_new, (fun _ _ => length_blk _), (by decide), (.inl ⟨rfl, rfl⟩), H90.sel [1, 0, 6, 8, 9, 10] rfl, (HZ76.move HS88).sel [0, 1] [0]⟩ ?_
  clear H90 HS88 HZ76
  rintro i2 aL91 wL91 ⟨sL, Lk, Bk, la, hi2, hNL, hBk, hla, hL, HL91, HXL91⟩
  obtain ⟨G92, HZ92, HS92⟩ := HXL91.anchor
  clear HXL91
  refine sq_ <| sq_ <| rl_ <| q_ HL91 2 rfl fun _ H93 => wl_ <| i_ H93 rfl (v := .int .i64 n) (dd_len rfl (H93.ev 59 rfl) Try.underlying23) fun _ H94 => ?_
  clear HL91 H93
  by_cases hc96 : (i2 : Int) < n
  ·
   refine wl_ <| i_ H94 rfl (dd_cmp rfl (H94.ev 58 rfl) (H94.ev 60 rfl) (lt_t hc96)) fun _ H97 => ln_ <| nx <| ct_ H97 rfl <| wp_skip <| nx <| sq_ <| wp_block <| sq_ <| ?_
   clear H94
   obtain ⟨b7, o7, hA7, hB7, _⟩ := slice_bat hs (by omega)
   have HB7 := fun (W9 : World) (hb9 : Below w.heap.size w W9) => hB7.call hb9
   refine rl_ <| q_ H97 2 rfl fun _ H98 => wl_ <| i_ H98 rfl (dd_idxS (sz := 1) (j := o7 + i2) rfl (sl_at (H98.ev 64 rfl) hA7) (H98.ev 65 rfl) (by kernel_rfl) (by omega) (by omega) (by omega)) fun _ H99 => wl_ <| i_ H99 rfl (dd_at rfl (H99.ev 66 rfl) ((HB7 _ (HZ92.bel HS92)).get i2 (by omega)) Try.underlying5 rfl) fun _ H100 => wl_ <| i_ H100 rfl (v := .int .i64 (bd (q.getD i2 0#8))) (dd_conv (k := .i64) rfl (H100.ev 67 rfl) Try.underlying5 (by kernel_rfl) (i64_bdA _)) fun _ H101 => wl_ <| p_ H101 rfl rfl fun _ H102 => wl_ <| i_ H102 rfl (v := .int .i64 nl) (dd_len rfl (H102.ev 69 rfl) Try.underlying22) fun _ H103 => ?_
   clear H97 H98 H99 H100 H101 H102
   obtain ⟨rk, hrk, lrk⟩ := mod_nat (bd (q.getD i2 0#8)) nl (bd_lo _) (by omega)
   refine wl_ <| i_ H103 rfl (v := .int .i64 rk) (dd_rem rfl (H103.ev 68 rfl) (H103.ev 70 rfl) (by omega) hrk) fun _ H104 => wl_ <| p_ H104 rfl rfl fun _ H105 => ln_ <| nx <| sq_ <| ?_
   clear H103 H104
   obtain ⟨b8, o8, hA8, hb8, hall⟩ := hX.at_ (by omega)
   obtain ⟨ri, hxi⟩ : ∃ x, X[rk]? = some x := ⟨_, List.getElem?_eq_getElem (by rw [hX.len]; omega)⟩
   obtain ⟨A2, c2, hc2, hp2, hm2⟩ := hall rk ri hxi
   obtain ⟨xi, exi⟩ : ∃ x, ri.l = x := ⟨_, rfl⟩
   rw [exi] at hc2 hp2 hm2
   obtain ⟨n2, hn⟩ : ∃ n, xi.length = n := ⟨_, rfl⟩
   rw [hn] at hc2 hp2
   have HC2 := fun (W9 : World) (hb9 : Below w.heap.size w W9) => range_stay hc2 hb8 hb9
   have HP := fun (W9 : World) (hb9 : Below w.heap.size w W9) => hp2.below hb9 (Nat.le_refl _)
   have hwf := (puts_open hp2).2.2.1
   have hA0 := (puts_open hp2).2.2.2
   have hnm : n2 ≤ maxLen := hn ▸ hm2
   have hmx : n2 ≤ 9223372036854775807 := by have := hnm; unfold maxLen at this; omega
   have hgd9 : goodB (xi.map (·.1)) = true := exi ▸ hgd rk ri hxi (by omega)
   refine rl_ <| wl_ <| p_ H105 rfl rfl fun _ H106 => ?_
   clear H105
   obtain ⟨rk2, hrk2, lrk2⟩ := mod_nat (rk) 2 (by omega) (by omega)
   refine wl_ <| i_ H106 rfl (v := .int .i64 rk2) (dd_rem rfl (H106.ev 72 rfl) rfl (by omega) hrk2) fun _ H107 => wl_ <| i_ H107 rfl (v := .int .i64 (1 + rk2)) (dd_ari rfl rfl (H107.ev 73 rfl) rfl (i64_of (by first | omega | (have := bd_lo; omega)) (by omega))) fun _ H108 => wl_ <| p_ H108 rfl rfl fun _ H109 => wl_ <| i_ H109 rfl (v := .int .i64 (rk + 1)) (dd_ari rfl (H109.ev 75 rfl) rfl rfl (i64_of (by first | omega | (have := bd_lo; omega)) (by omega))) fun _ H110 => wl_ <| i_ H110 rfl (v := .int .u32 (wd (BitVec.ofNat 32 (rk + 1)))) (dd_conv (k := .u32) rfl (H110.ev 76 rfl) Try.underlying3 (by kernel_rfl) (wd_ofn _)) fun _ H111 => q_ H111 2 rfl fun _ H112 => wl_ <| i_ H112 rfl (dd_idxS (sz := 4) (j := o8 + rk * 4) rfl (sl_at (H112.ev 78 rfl) hA8) (H112.ev 79 rfl) (by kernel_rfl) (by omega) (by omega) (by omega)) fun _ H113 => wl_ <| i_ H113 rfl (xf 3 (o8 + rk * 4 + 3) rfl (H113.ev 80 rfl)) fun _ H114 => ?_
   clear H106 H107 H108 H109 H110 H111 H112
   refine wl_ <| i_ H114 rfl (dd_at rfl (H114.ev 81 rfl) ((HC2 _ (HZ92.bel HS92)) 3 _ rfl) Try.underlying27 rfl) fun _ H115 => wl_ <| i_ H115 rfl (v := .agg #[.int .i64 (1 + rk2), .int .u32 3, .int .u32 (wd (BitVec.ofNat 32 (rk + 1))), .slice A2 n2 c2]) (dd_bld rfl (ps := [(0, .int .i64 (1 + rk2)), (1, .int .u32 3), (2, .int .u32 (wd (BitVec.ofNat 32 (rk + 1)))), (3, .slice A2 n2 c2)]) (pr1 (H115.ev 74 rfl) (pr1 rfl (pr1 (H115.ev 77 rfl) (pr1 (H115.ev 82 rfl) (pr0))))) (Lz := [[.int .i64 0], [.int .u32 0], [.int .u32 0], [.slice none 0 0]]) (by kernel_rfl) (lens_cons rfl (lens_cons rfl (lens_cons rfl (lens_cons rfl (lens_nil))))) (fit_cons (i := 0) rfl rfl (fit_cons (i := 1) rfl rfl (fit_cons (i := 2) rfl rfl (fit_cons (i := 3) rfl rfl (fit_nil))))) (cs := #[.int .i64 (1 + rk2), .int .u32 3, .int .u32 (wd (BitVec.ofNat 32 (rk + 1))), .slice A2 n2 c2]) rfl) fun _ H116 => wl_ <| n_ H116 rfl (fun _ h => dd_new HS92 #[.int .i64 0, .int .u32 0, .int .u32 0, .slice none 0 0] rfl (z := .agg #[.int .i64 0, .int .u32 0, .int .u32 0, .slice none 0 0]) (by kernel_rfl) rfl h) fun g12 _ HS117 _ H117 => wl_ <| t_ rfl (fun _ h => dd_setrow HS117 2 rfl rfl (H117.ev 12 rfl) (H117.ev 83 rfl) (by kernel_rfl) (rfl : #[.int .i64 (1 + rk2), .int .u32 3, .int .u32 (wd (BitVec.ofNat 32 (rk + 1))), .slice A2 n2 c2].size = 4) (rfl : #[.int .i64 0, .int .u32 0, .int .u32 0, .slice none 0 0].size = 4) (one_l (ao_cons rfl (ao_cons rfl (ao_cons rfl (ao_cons rfl ao_nil))))) h) fun W118 HS118 => ln_ <| ?_
   clear H113 H114 H115 HS92 H116 HS117
   have H119 := H117.sel [1, 0, 6, 8, 9, 10, 11, 12] rfl
   refine nx <| sq_ <| rl_ <| wl_ <| p_ H119 rfl rfl fun _ H120 => wl_ <| i_ H120 rfl (v := .agg #[.int .i64 (1 + rk2), .int .u32 3, .int .u32 (wd (BitVec.ofNat 32 (rk + 1))), .slice A2 n2 c2]) (dd_load HS118 2 0 rfl rfl (H120.ev 12 rfl) (slab_whole _) Try.underlying29 rfl (by kernel_rfl)) fun _ H121 => ?_
   clear H117 H119 H120
   obtain ⟨nB122, hnB122⟩ : ∃ n, (encP (⟨1 + rk2, 3#32, (BitVec.ofNat 32 (rk + 1)), xi⟩ : Pkt)).length = n := ⟨_, rfl⟩
   obtain ⟨Gc123, hc123, hf123, hk123, hq123⟩ := Rs.reframe (R1 := []) (R2 := [⟨gn74, 59, #[.pointer (some ⟨gd71, 0, none⟩), .int .u32 (wd Lk.e), .int .u32 (wd Lk.s), .int .u32 (wd Lk.n), .int .u16 (hd Lk.d), .int .u16 (hd Lk.l)]⟩, ⟨gW8, 38, bs (cat12 Bk)⟩, ⟨g12, 29, #[.int .i64 (1 + rk2), .int .u32 3, .int .u32 (wd (BitVec.ofNat 32 (rk + 1))), .slice A2 n2 c2]⟩]) (Q1 := []) (Q2 := [dskT D (.pointer (some ⟨gd71, 0, none⟩)) (rest sL (-1))]) ((HZ92.move HS118).sel [0, 1, 2] [0])
   refine wl_ <| d_ H121 rfl (R := fun v9 w9 => ∃ gp122 : Nat, ∃ cp122 : Nat, ∃ cbp122 : Array Value, v9 = .slice (some ⟨gp122, 0, none⟩) nB122 cp122 ∧ (OwnC cbp122 cp122 nB122 1 (bytesV (encP (⟨1 + rk2, 3#32, (BitVec.ofNat 32 (rk + 1)), xi⟩ : Pkt)))) ∧ Rs w noF [⟨gp122, 5, cbp122⟩, ⟨gn74, 59, #[.pointer (some ⟨gd71, 0, none⟩), .int .u32 (wd Lk.e), .int .u32 (wd Lk.s), .int .u32 (wd Lk.n), .int .u16 (hd Lk.d), .int .u16 (hd Lk.l)]⟩, ⟨gW8, 38, bs (cat12 Bk)⟩, ⟨g12, 29, #[.int .i64 (1 + rk2), .int .u32 3, .int .u32 (wd (BitVec.ofNat 32 (rk + 1))), .slice A2 n2 c2]⟩] [dskT D (.pointer (some ⟨gd71, 0, none⟩)) (rest sL (-1))] w9) (dc_ Try.func11 rfl (args1 (H121.ev 86 rfl)) (tk_pkt Gc123 (⟨1 + rk2, 3#32, (BitVec.ofNat 32 (rk + 1)), xi⟩ : Pkt) _ _ _ nB122 W118 (HP _ (HZ92.bel HS118)) (fun x9 hx9 => (hwf x9 hx9).1) hnm (tk_may (show 1 + (rk2 : Int) = 1 ∨ 1 + (rk2 : Int) = 2 by omega) hgd9) hnB122) (fun _ w9 ⟨gp122, cp122, cbp122, he, Op122, hX⟩ => ⟨_, he, gp122, cp122, cbp122, rfl, Op122, hk123 _ _ _ hX⟩)) ?_
   rintro _ W123 ⟨gp122, cp122, cbp122, rfl, Op122, HX123⟩ a123 H123
   clear hc123 hk123 hf123 hq123 HS118 HZ92
   clear H121
   obtain ⟨G124, HZ124, HS124⟩ := HX123.anchor
   clear HX123
   by_cases hc125 : (la : Int) < rk + 1
   ·
    obtain ⟨Gc127, hc127, hf127, hk127, hq127⟩ := Rs.reframe (R1 := [⟨gn74, 59, #[.pointer (some ⟨gd71, 0, none⟩), .int .u32 (wd Lk.e), .int .u32 (wd Lk.s), .int .u32 (wd Lk.n), .int .u16 (hd Lk.d), .int .u16 (hd Lk.l)]⟩]) (R2 := [⟨gp122, 5, cbp122⟩, ⟨gW8, 38, bs (cat12 Bk)⟩, ⟨g12, 29, #[.int .i64 (1 + rk2), .int .u32 3, .int .u32 (wd (BitVec.ofNat 32 (rk + 1))), .slice A2 n2 c2]⟩]) (Q1 := [dskT D (.pointer (some ⟨gd71, 0, none⟩)) (rest sL (-1))]) (Q2 := []) ((HZ124.move HS124).sel [1, 0, 2, 3] [0])
    refine wl_ <| d_ H123 rfl (R := fun v9 w9 => ∃ s126 : Secs, v9 = .tuple #[.agg #[.int .i64 3, .int .u32 3, .int .u32 (wd (BitVec.ofNat 32 (rk + 1))), .slice none 0 0], .int .i64 0] ∧ (Nds s126 (doneLab Lk (pkR (⟨1 + rk2, 3#32, (BitVec.ofNat 32 (rk + 1)), xi⟩ : Pkt)) Lk.d) (updB xi Bk)) ∧ Rs w noF [⟨gn74, 59, #[.pointer (some ⟨gd71, 0, none⟩), .int .u32 (wd (doneLab Lk (pkR (⟨1 + rk2, 3#32, (BitVec.ofNat 32 (rk + 1)), xi⟩ : Pkt)) Lk.d).e), .int .u32 (wd (doneLab Lk (pkR (⟨1 + rk2, 3#32, (BitVec.ofNat 32 (rk + 1)), xi⟩ : Pkt)) Lk.d).s), .int .u32 (wd (doneLab Lk (pkR (⟨1 + rk2, 3#32, (BitVec.ofNat 32 (rk + 1)), xi⟩ : Pkt)) Lk.d).n), .int .u16 (hd (doneLab Lk (pkR (⟨1 + rk2, 3#32, (BitVec.ofNat 32 (rk + 1)), xi⟩ : Pkt)) Lk.d).d), .int .u16 (hd (doneLab Lk (pkR (⟨1 + rk2, 3#32, (BitVec.ofNat 32 (rk + 1)), xi⟩ : Pkt)) Lk.d).l)]⟩, ⟨gp122, 5, cbp122⟩, ⟨gW8, 38, bs (cat12 Bk)⟩, ⟨g12, 29, #[.int .i64 (1 + rk2), .int .u32 3, .int .u32 (wd (BitVec.ofNat 32 (rk + 1))), .slice A2 n2 c2]⟩] [dskT D (.pointer (some ⟨gd71, 0, none⟩)) (rest s126 (-1))] w9) (dc_ Try.func10 rfl (args2 (H123.ev 85 rfl) (H123.ev 87 rfl)) (tk_done (O := O) (⟨1 + rk2, 3#32, (BitVec.ofNat 32 (rk + 1)), xi⟩ : Pkt) hc127 hNL (slice_own (HS124.row 0 rfl) Op122 hnB122) (own_off1 hf127 0 rfl rfl) (tk_may (show 1 + (rk2 : Int) = 1 ∨ 1 + (rk2 : Int) = 2 by omega) hgd9) (fun x9 hx9 => (hwf x9 hx9).1) (show 1 + (rk2 : Int) = 1 ∨ 1 + (rk2 : Int) = 2 by omega) (to_l hL (by omega) (by omega))) (fun _ w9 ⟨s126, he, hN126, hX⟩ => ⟨_, he, s126, rfl, hN126, hk127 _ _ _ hX⟩)) ?_
    rintro _ W127 ⟨s126, rfl, hN126, HX127⟩ a127 H127
    clear hc127 hk127 hf127 hq127 HS124 HZ124
    clear H123
    obtain ⟨G128, HZ128, HS128⟩ := HX127.anchor
    clear HX127
    refine wl_ <| p_ H127 rfl rfl fun _ H129 => wl_ <| i_ H129 rfl (v := .agg #[.int .i64 3, .int .u32 3, .int .u32 (wd (BitVec.ofNat 32 (rk + 1))), .slice none 0 0]) (dd_ext rfl (H129.ev 84 rfl) rfl) fun _ H130 => wl_ <| i_ H130 rfl (v := .int .i64 0) (dd_ext rfl (H130.ev 84 rfl) rfl) fun _ H131 => wl_ <| n_ H131 rfl (fun _ h => dd_new HS128 #[.int .i64 0, .int .u32 0, .int .u32 0, .slice none 0 0] rfl (z := .agg #[.int .i64 0, .int .u32 0, .int .u32 0, .slice none 0 0]) (by kernel_rfl) rfl h) fun g13 _ HS132 _ H132 => wl_ <| t_ rfl (S := [⟨gn74, 59, #[.pointer (some ⟨gd71, 0, none⟩), .int .u32 (wd (doneLab Lk (pkR (⟨1 + rk2, 3#32, (BitVec.ofNat 32 (rk + 1)), xi⟩ : Pkt)) Lk.d).e), .int .u32 (wd (doneLab Lk (pkR (⟨1 + rk2, 3#32, (BitVec.ofNat 32 (rk + 1)), xi⟩ : Pkt)) Lk.d).s), .int .u32 (wd (doneLab Lk (pkR (⟨1 + rk2, 3#32, (BitVec.ofNat 32 (rk + 1)), xi⟩ : Pkt)) Lk.d).n), .int .u16 (hd (doneLab Lk (pkR (⟨1 + rk2, 3#32, (BitVec.ofNat 32 (rk + 1)), xi⟩ : Pkt)) Lk.d).d), .int .u16 (hd (doneLab Lk (pkR (⟨1 + rk2, 3#32, (BitVec.ofNat 32 (rk + 1)), xi⟩ : Pkt)) Lk.d).l)]⟩, ⟨gp122, 5, cbp122⟩, ⟨gW8, 38, bs (cat12 Bk)⟩, ⟨g12, 29, #[.int .i64 (1 + rk2), .int .u32 3, .int .u32 (wd (BitVec.ofNat 32 (rk + 1))), .slice A2 n2 c2]⟩, ⟨g13, 29, #[.int .i64 3, .int .u32 3, .int .u32 (wd (BitVec.ofNat 32 (rk + 1))), .slice none 0 0]⟩]) (fun _ h => dd_setrow HS132 4 rfl rfl (H132.ev 13 rfl) (H132.ev 89 rfl) (by kernel_rfl) (rfl : #[.int .i64 3, .int .u32 3, .int .u32 (wd (BitVec.ofNat 32 (rk + 1))), .slice none 0 0].size = 4) (rfl : #[.int .i64 0, .int .u32 0, .int .u32 0, .slice none 0 0].size = 4) (one_l (ao_cons rfl (ao_cons rfl (ao_cons rfl (ao_cons rfl ao_nil))))) h) fun W133 HS133 => wl_ <| p_ H132 rfl rfl fun _ H134 => ln_ <| nx <| sq_ <| sq_ <| rl_ <| wl_ <| p_ H134 rfl rfl fun _ H135 => wl_ <| i_ H135 rfl (dd_cmp rfl (H135.ev 91 rfl) rfl (ne_f (by decide))) fun _ H136 => ?_
    clear H127 H129 H130 HS128 H131 HS132 H132 H134
    refine wl_ <| p_ H136 rfl rfl fun _ H137 => wl_ <| ig H137 (wg_ H137 rfl rfl rfl rfl) rfl (xf 2 2 rfl (H137.ev 13 rfl)) fun _ H138 => wl_ <| ig H138 (wg_ H138 rfl rfl rfl rfl) rfl (dd_get HS133 4 2 rfl rfl (H138.ev 94 rfl) rfl Try.underlying26 rfl) fun _ H139 => wl_ <| ig H139 (wg_ H139 rfl rfl rfl rfl) rfl (xf 2 2 rfl (H139.ev 12 rfl)) fun _ H140 => wl_ <| ig H140 (wg_ H140 rfl rfl rfl rfl) rfl (dd_get HS133 3 2 rfl rfl (H140.ev 96 rfl) rfl Try.underlying26 rfl) fun _ H141 => wl_ <| ig H141 (wg_ H141 rfl rfl rfl rfl) rfl (dd_cmp rfl (H141.ev 95 rfl) (H141.ev 97 rfl) (ne_f rfl)) fun _ H142 => wl_ <| p_ H142 rfl rfl fun _ H143 => ln_ <| ?_
    clear H135 H136 H137 H138 H139 H140 H141 H142
    have H144 := H143.sel [1, 0, 6, 8, 9, 10, 11, 12, 13, 99] rfl
    refine nx <| cf_ H144 rfl <| wp_skip <| nx <| sq_ <| sq_ <| rl_ <| wl_ <| p_ H144 rfl rfl fun _ H145 => wl_ <| i_ H145 rfl (v := .int .i64 (rk + 1)) (dd_ari rfl (H145.ev 100 rfl) rfl rfl (i64_of (by first | omega | (have := bd_lo; omega)) (by omega))) fun _ H146 => wl_ <| p_ H146 rfl rfl fun _ H147 => wl_ <| i_ H147 rfl (dd_cmp rfl (H147.ev 101 rfl) (H147.ev 102 rfl) (gt_t hc125)) fun _ H148 => ln_ <| nx <| ct_ H148 rfl <| sq_ <| rl_ <| wl_ <| p_ H148 rfl rfl fun _ H149 => wl_ <| i_ H149 rfl (v := .int .i64 (rk + 1)) (dd_ari rfl (H149.ev 104 rfl) rfl rfl (i64_of (by first | omega | (have := bd_lo; omega)) (by omega))) fun _ H150 => wl_ <| p_ H150 rfl rfl fun _ H151 => ln_ <| nx <| sq_ <| rl_ <| wl_ <| p_ H151 rfl rfl fun _ H152 => ?_
    clear H143 H144 H145 H146 H147 H148 H149 H150
    refine ln_ <| nx <| wp_block <| ?_
    clear H151
    have HXr153 : Rs w noF [⟨gn74, 59, #[.pointer (some ⟨gd71, 0, none⟩), .int .u32 (wd (doneLab Lk (pkR (⟨1 + rk2, 3#32, (BitVec.ofNat 32 (rk + 1)), xi⟩ : Pkt)) Lk.d).e), .int .u32 (wd (doneLab Lk (pkR (⟨1 + rk2, 3#32, (BitVec.ofNat 32 (rk + 1)), xi⟩ : Pkt)) Lk.d).s), .int .u32 (wd (doneLab Lk (pkR (⟨1 + rk2, 3#32, (BitVec.ofNat 32 (rk + 1)), xi⟩ : Pkt)) Lk.d).n), .int .u16 (hd (doneLab Lk (pkR (⟨1 + rk2, 3#32, (BitVec.ofNat 32 (rk + 1)), xi⟩ : Pkt)) Lk.d).d), .int .u16 (hd (doneLab Lk (pkR (⟨1 + rk2, 3#32, (BitVec.ofNat 32 (rk + 1)), xi⟩ : Pkt)) Lk.d).l)]⟩, ⟨gp122, 5, cbp122⟩, ⟨gW8, 38, bs (cat12 (updB (xi.take 0) Bk))⟩, ⟨g12, 29, #[.int .i64 (1 + rk2), .int .u32 3, .int .u32 (wd (BitVec.ofNat 32 (rk + 1))), .slice A2 n2 c2]⟩, ⟨g13, 29, #[.int .i64 3, .int .u32 3, .int .u32 (wd (BitVec.ofNat 32 (rk + 1))), .slice none 0 0]⟩] [dskT D (.pointer (some ⟨gd71, 0, none⟩)) (rest s126 (-1))] W133 := by rw [← updB_0 xi Bk]; exact (HZ128.move HS133)
    clear HS133 HZ128
    obtain ⟨G154, HZ154, HS154⟩ := HXr153.anchor
    clear HXr153
    refine wp_loopG (ι := Nat) (fun k a9 w9 => (k ≤ n2) ∧ En 168 [(15, .int .i64 k), (9, .int .i64 (rk + 1)), (13, .pointer (some ⟨g13, 0, none⟩)), (12, .pointer (some ⟨g12, 0, none⟩)), (11, .int .i64 rk), (10, .int .i64 i2), (8, .pointer (some ⟨gW8, 0, none⟩)), (6, .pointer (some ⟨gn74, 0, none⟩)), (0, .slice Al nl cl), (1, .slice A n c)] a9 ∧ Rs w noF [⟨gn74, 59, #[.pointer (some ⟨gd71, 0, none⟩), .int .u32 (wd (doneLab Lk (pkR (⟨1 + rk2, 3#32, (BitVec.ofNat 32 (rk + 1)), xi⟩ : Pkt)) Lk.d).e), .int .u32 (wd (doneLab Lk (pkR (⟨1 + rk2, 3#32, (BitVec.ofNat 32 (rk + 1)), xi⟩ : Pkt)) Lk.d).s), .int .u32 (wd (doneLab Lk (pkR (⟨1 + rk2, 3#32, (BitVec.ofNat 32 (rk + 1)), xi⟩ : Pkt)) Lk.d).n), .int .u16 (hd (doneLab Lk (pkR (⟨1 + rk2, 3#32, (BitVec.ofNat 32 (rk + 1)), xi⟩ : Pkt)) Lk.d).d), .int .u16 (hd (doneLab Lk (pkR (⟨1 + rk2, 3#32, (BitVec.ofNat 32 (rk + 1)), xi⟩ : Pkt)) Lk.d).l)]⟩, ⟨gp122, 5, cbp122⟩, ⟨gW8, 38, bs (cat12 (updB (xi.take k) Bk))⟩, ⟨g12, 29, #[.int .i64 (1 + rk2), .int .u32 3, .int .u32 (wd (BitVec.ofNat 32 (rk + 1))), .slice A2 n2 c2]⟩, ⟨g13, 29, #[.int .i64 3, .int .u32 3, .int .u32 (wd (BitVec.ofNat 32 (rk + 1))), .slice none 0 0]⟩] [dskT D (.pointer (some ⟨gd71, 0, none⟩)) (rest s126 (-1))] w9) (fun k => n2 - k) (0) ⟨(Nat.zero_le _), H152.sel [1, 0, 6, 8, 10, 11, 12, 13, 9, 15] rfl, (HZ154.move HS154).sel [0, 1, 2, 3, 4] [0]⟩ ?_
    clear H152 HS154 HZ154
    rintro k aL155 wL155 ⟨hk, HL155, HXL155⟩
    obtain ⟨G156, HZ156, HS156⟩ := HXL155.anchor
    clear HXL155
    refine sq_ <| sq_ <| rl_ <| wl_ <| p_ HL155 rfl rfl fun _ H157 => wl_ <| i_ H157 rfl (xf 3 3 rfl (H157.ev 12 rfl)) fun _ H158 => wl_ <| i_ H158 rfl (dd_get HS156 3 3 rfl rfl (H158.ev 107 rfl) rfl Try.underlying27 rfl) fun _ H159 => wl_ <| i_ H159 rfl (v := .int .i64 n2) (dd_len rfl (H159.ev 108 rfl) Try.underlying27) fun _ H160 => ?_
    clear HL155 H157 H158 H159
    by_cases hc162 : (k : Int) < n2
    ·
     refine wl_ <| i_ H160 rfl (dd_cmp rfl (H160.ev 106 rfl) (H160.ev 109 rfl) (lt_t hc162)) fun _ H163 => ln_ <| nx <| ct_ H163 rfl <| wp_skip <| nx <| sq_ <| wp_block <| ?_
     clear H160
     obtain ⟨b9, o9, hA9⟩ := hA0 (by omega)
     have HB := fun (W9 : World) (hb9 : Below w.heap.size w W9) => puts_all_at (hA9 ▸ HP W9 hb9)
     have hat : ∀ x ∈ xi, 0 ≤ x.1 ∧ x.1 < 12 := fun x hx => goodB_at hgd9 x.1 (List.mem_map.2 ⟨x, hx, rfl⟩)
     obtain ⟨xk, hxk⟩ : ∃ x, xi[k]? = some x := ⟨_, List.getElem?_eq_getElem (by rw [hn]; omega)⟩
     have hwk := hwf xk (List.mem_of_getElem? hxk)
     have hatk := hat xk (List.mem_of_getElem? hxk)
     refine wr_ (HZ156.move HS156) [0, 3, 4] [0, 3, 4, 1, 2] rfl rfl fun HXd165 hx164 => ?_
     obtain ⟨G166, HZ166, HS166⟩ := HXd165.anchor
     clear HXd165
     refine ht_ H163 0 hx164 rfl rfl (fun _ _ _ => xf 3 3 rfl (H163.ev 12 rfl)) fun _ H167 => ht_ H167 1 hx164 rfl rfl (fun _ _ HS9 => dd_get HS9 1 3 rfl rfl (H167.ev 113 rfl) rfl Try.underlying27 rfl) fun _ H168 => hp_ H168 2 hx164 rfl rfl rfl fun _ H169 => ht_ H169 3 hx164 rfl rfl (fun _ _ _ => dd_idxS (sz := 33) (j := o9 + k * 33) rfl (sl_at (H169.ev 114 rfl) hA9) (H169.ev 115 rfl) (by kernel_rfl) (by omega) (by omega) (by omega)) fun _ H170 => ht_ H170 4 hx164 rfl rfl (fun _ _ _ => xf 0 (o9 + k * 33) rfl (H170.ev 116 rfl)) fun _ H171 => ht_ H171 5 hx164 rfl rfl (fun _ _ HS9 => dd_at rfl (H171.ev 117 rfl) (pc_c0 (pc_cat (HB _ HS9.below k xk hxk))) Try.underlying3 rfl) fun _ H172 => ht_ H172 6 hx164 rfl rfl (fun _ _ _ => xf 3 3 rfl (H172.ev 12 rfl)) fun _ H173 => ht_ H173 7 hx164 rfl rfl (fun _ _ HS9 => dd_get HS9 1 3 rfl rfl (H173.ev 119 rfl) rfl Try.underlying27 rfl) fun _ H174 => ?_
     clear H163 H167 H168 H169 H170 H171 H172
     refine hp_ H174 8 hx164 rfl rfl rfl fun _ H175 => ht_ H175 9 hx164 rfl rfl (fun _ _ _ => dd_idxS (sz := 33) (j := o9 + k * 33) rfl (sl_at (H175.ev 120 rfl) hA9) (H175.ev 121 rfl) (by kernel_rfl) (by omega) (by omega) (by omega)) fun _ H176 => ht_ H176 10 hx164 rfl rfl (fun _ _ _ => xf 1 (o9 + k * 33 + 1) rfl (H176.ev 122 rfl)) fun _ H177 => ht_ H177 11 hx164 rfl rfl (v := .agg (bs xk.2)) (fun _ _ HS9 => dd_atN rfl (H177.ev 123 rfl) (pc_c1 (pc_cat (HB _ HS9.below k xk hxk))) Try.underlying37 rfl (by show _ = some (bytesV xk.2).length; rw [show (bytesV xk.2).length = 32 from len_bv hwk.1]; kernel_rfl)) fun _ H178 => ht_ H178 12 hx164 rfl rfl (fun _ _ _ => xAo 12 32 ((Int.toNat xk.1) * 32) rfl (H178.ev 8 rfl) (H178.ev 118 rfl)) fun _ H179 => h1_ 13 rfl <| t_ rfl (S := [⟨gn74, 59, #[.pointer (some ⟨gd71, 0, none⟩), .int .u32 (wd (doneLab Lk (pkR (⟨1 + rk2, 3#32, (BitVec.ofNat 32 (rk + 1)), xi⟩ : Pkt)) Lk.d).e), .int .u32 (wd (doneLab Lk (pkR (⟨1 + rk2, 3#32, (BitVec.ofNat 32 (rk + 1)), xi⟩ : Pkt)) Lk.d).s), .int .u32 (wd (doneLab Lk (pkR (⟨1 + rk2, 3#32, (BitVec.ofNat 32 (rk + 1)), xi⟩ : Pkt)) Lk.d).n), .int .u16 (hd (doneLab Lk (pkR (⟨1 + rk2, 3#32, (BitVec.ofNat 32 (rk + 1)), xi⟩ : Pkt)) Lk.d).d), .int .u16 (hd (doneLab Lk (pkR (⟨1 + rk2, 3#32, (BitVec.ofNat 32 (rk + 1)), xi⟩ : Pkt)) Lk.d).l)]⟩, ⟨gp122, 5, cbp122⟩, ⟨gW8, 38, bs (cat12 (updB (xi.take (k + 1)) Bk))⟩, ⟨g12, 29, #[.int .i64 (1 + rk2), .int .u32 3, .int .u32 (wd (BitVec.ofNat 32 (rk + 1))), .slice A2 n2 c2]⟩, ⟨g13, 29, #[.int .i64 3, .int .u32 3, .int .u32 (wd (BitVec.ofNat 32 (rk + 1))), .slice none 0 0]⟩]) (fun _ h => dd_store HS166 2 ((Int.toNat xk.1) * 32) rfl rfl (H179.ev 125 rfl) (H179.ev 124 rfl) (by rw [show Value.cells (.agg (bs xk.2)) = bs xk.2 from rfl, show (bs xk.2).size = 32 from ((size_bs _).trans hwk.1)]; kernel_rfl) (by rw [show (Value.agg (bs xk.2)).cells.size = 32 from ((size_bs _).trans hwk.1), show (bs (cat12 (updB (xi.take k) Bk))).size = 384 from ((size_bs _).trans (cat12_len (updB_len hBk (xi.take k) (fun x9 hx9 => (hwf x9 (List.mem_of_mem_take hx9)).1))))]; omega) (one_bs _) ((spl_blkN _ _ _).trans (congrArg bs ((cat12_set (updB_len hBk (xi.take k) (fun x9 hx9 => (hwf x9 (List.mem_of_mem_take hx9)).1)) (by omega) hwk.1).trans (congrArg cat12 (updB_S hxk hatk.1).symm)))) h) fun _ HS180 => sx_ (sxi (HZ166.move HS180).st [0, 3, 4, 1, 2] rfl) fun hx181 => ?_
     clear H173 H174 H175 H176 H177 H178 HS166 hx164
     refine wpAnyH_done (by kernel_rfl) ?_ _
     clear hx181
     refine bn <| nx <| rl_ <| wl_ <| p_ H179 rfl rfl fun _ H182 => wl_ <| i_ H182 rfl (v := .int .i64 (k + 1)) (dd_ari rfl (H182.ev 111 rfl) rfl rfl (i64_of (by first | omega | (have := bd_lo; omega)) (by omega))) fun _ H183 => wl_ <| p_ H183 rfl rfl fun _ H184 => ln_ <| ?_
     clear H179 H182 H183
     have H185 := H184.sel [1, 0, 6, 8, 10, 11, 12, 13, 9, 15] rfl
     clear H184
     refine nx ⟨k + 1, ⟨(by omega), H185.sel [1, 0, 6, 8, 10, 11, 12, 13, 9, 15] rfl, (HZ166.move HS180).sel [0, 1, 2, 3, 4] [0]⟩, (by omega)⟩
    refine wl_ <| i_ H160 rfl (dd_cmp rfl (H160.ev 106 rfl) (H160.ev 109 rfl) (lt_f hc162)) fun _ H186 => ln_ <| nx <| cf_ H186 rfl <| wp_exit <| tx <| tx <| bx <| nx <| sq_ <| ?_
    clear H160
    have HXr187 : Rs w noF [⟨gn74, 59, #[.pointer (some ⟨gd71, 0, none⟩), .int .u32 (wd (doneLab Lk (pkR (⟨1 + rk2, 3#32, (BitVec.ofNat 32 (rk + 1)), xi⟩ : Pkt)) Lk.d).e), .int .u32 (wd (doneLab Lk (pkR (⟨1 + rk2, 3#32, (BitVec.ofNat 32 (rk + 1)), xi⟩ : Pkt)) Lk.d).s), .int .u32 (wd (doneLab Lk (pkR (⟨1 + rk2, 3#32, (BitVec.ofNat 32 (rk + 1)), xi⟩ : Pkt)) Lk.d).n), .int .u16 (hd (doneLab Lk (pkR (⟨1 + rk2, 3#32, (BitVec.ofNat 32 (rk + 1)), xi⟩ : Pkt)) Lk.d).d), .int .u16 (hd (doneLab Lk (pkR (⟨1 + rk2, 3#32, (BitVec.ofNat 32 (rk + 1)), xi⟩ : Pkt)) Lk.d).l)]⟩, ⟨gp122, 5, cbp122⟩, ⟨gW8, 38, bs (cat12 (updB (xi.take k) Bk))⟩, ⟨g12, 29, #[.int .i64 (1 + rk2), .int .u32 3, .int .u32 (wd (BitVec.ofNat 32 (rk + 1))), .slice A2 n2 c2]⟩, ⟨g13, 29, #[.int .i64 3, .int .u32 3, .int .u32 (wd (BitVec.ofNat 32 (rk + 1))), .slice none 0 0]⟩] [dskT D (.pointer (some ⟨gd71, 0, none⟩)) (rest s126 (-1))] wL155 := (HZ156.move HS156)
    rw [show xi.take k = xi from List.take_of_length_le (by omega)] at HXr187
    clear HS156 HZ156
    obtain ⟨G188, HZ188, HS188⟩ := HXr187.anchor
    clear HXr187
    refine rl_ <| wl_ <| i_ H186 rfl (xf 0 0 rfl (H186.ev 13 rfl)) fun _ H189 => wl_ <| i_ H189 rfl (dd_get HS188 4 0 rfl rfl (H189.ev 126 rfl) rfl Try.underlying3 rfl) fun _ H190 => wl_ <| i_ H190 rfl (dd_cmp rfl (H190.ev 127 rfl) rfl (eq_t (by decide))) fun _ H191 => wl_ <| p_ H191 rfl rfl fun _ H192 => wl_ <| i_ H192 rfl (v := .int .i64 (rk + 1)) (dd_ari rfl (H192.ev 129 rfl) rfl rfl (i64_of (by first | omega | (have := bd_lo; omega)) (by omega))) fun _ H193 => wl_ <| p_ H193 rfl rfl fun _ H194 => wl_ <| i_ H194 rfl (dd_cmp rfl (H194.ev 130 rfl) (H194.ev 131 rfl) (eq_t rfl)) fun _ H195 => wl_ <| i_ H195 rfl (v := .bool false) (dd_neb rfl (H195.ev 128 rfl) (H195.ev 132 rfl) Try.underlying4 rfl) fun _ H196 => ?_
    clear H186 H189 H190 H191 H192 H193 H194
    refine wl_ <| p_ H196 rfl rfl fun _ H197 => wl_ <| ig H197 (wg_ H197 rfl rfl rfl rfl) rfl (dd_mv rfl (H197.ev 6 rfl)) fun _ H198 => wl_ <| cg H198 (wg_ H198 rfl rfl rfl rfl) rfl HS188 (dcs Try.func12 rfl (args1 (H198.ev 135 rfl)) (ndlabel_at gn74 _ (doneLab Lk (pkR (⟨1 + rk2, 3#32, (BitVec.ofNat 32 (rk + 1)), xi⟩ : Pkt)) Lk.d) wL155 (HS188.row 0 rfl)) (.agg #[.int .u32 (wd (doneLab Lk (pkR (⟨1 + rk2, 3#32, (BitVec.ofNat 32 (rk + 1)), xi⟩ : Pkt)) Lk.d).e), .int .u32 (wd (doneLab Lk (pkR (⟨1 + rk2, 3#32, (BitVec.ofNat 32 (rk + 1)), xi⟩ : Pkt)) Lk.d).s), .int .u32 (wd (doneLab Lk (pkR (⟨1 + rk2, 3#32, (BitVec.ofNat 32 (rk + 1)), xi⟩ : Pkt)) Lk.d).n), .int .u16 (hd (doneLab Lk (pkR (⟨1 + rk2, 3#32, (BitVec.ofNat 32 (rk + 1)), xi⟩ : Pkt)) Lk.d).d), .int .u16 (hd (doneLab Lk (pkR (⟨1 + rk2, 3#32, (BitVec.ofNat 32 (rk + 1)), xi⟩ : Pkt)) Lk.d).l)])) fun W199 HS199 _ H199 => wl_ <| ig H199 (wg_ H199 rfl rfl rfl rfl) rfl (v := .int .u32 (wd (doneLab Lk (pkR (⟨1 + rk2, 3#32, (BitVec.ofNat 32 (rk + 1)), xi⟩ : Pkt)) Lk.d).s)) (dd_fld rfl (H199.ev 136 rfl) (by kernel_rfl)) fun _ H200 => wl_ <| ig H200 (wg_ H200 rfl rfl rfl rfl) rfl (dd_mv rfl (H200.ev 9 rfl)) fun _ H201 => wl_ <| ig H201 (wg_ H201 rfl rfl rfl rfl) rfl (v := .int .u32 (wd (BitVec.ofNat 32 (rk + 1)))) (dd_conv (k := .u32) rfl (H201.ev 138 rfl) Try.underlying3 (by kernel_rfl) (wd_ofn _)) fun _ H202 => wl_ <| ig H202 (wg_ H202 rfl rfl rfl rfl) rfl (dd_cmp rfl (H202.ev 137 rfl) (H202.ev 139 rfl) (ne_f rfl)) fun _ H203 => q_ H203 2 rfl fun _ H204 => ?_
    clear H195 H196 H197 H198 HS188 H199 H200 H201 H202
    refine wl_ <| ig H204 (wg_ H204 rfl rfl rfl rfl) rfl (dd_mv rfl (H204.ev 6 rfl)) fun _ H205 => wl_ <| cg H205 (wg_ H205 rfl rfl rfl rfl) rfl HS199 (dcs Try.func12 rfl (args1 (H205.ev 143 rfl)) (ndlabel_at gn74 _ (doneLab Lk (pkR (⟨1 + rk2, 3#32, (BitVec.ofNat 32 (rk + 1)), xi⟩ : Pkt)) Lk.d) W199 (HS199.row 0 rfl)) (.agg #[.int .u32 (wd (doneLab Lk (pkR (⟨1 + rk2, 3#32, (BitVec.ofNat 32 (rk + 1)), xi⟩ : Pkt)) Lk.d).e), .int .u32 (wd (doneLab Lk (pkR (⟨1 + rk2, 3#32, (BitVec.ofNat 32 (rk + 1)), xi⟩ : Pkt)) Lk.d).s), .int .u32 (wd (doneLab Lk (pkR (⟨1 + rk2, 3#32, (BitVec.ofNat 32 (rk + 1)), xi⟩ : Pkt)) Lk.d).n), .int .u16 (hd (doneLab Lk (pkR (⟨1 + rk2, 3#32, (BitVec.ofNat 32 (rk + 1)), xi⟩ : Pkt)) Lk.d).d), .int .u16 (hd (doneLab Lk (pkR (⟨1 + rk2, 3#32, (BitVec.ofNat 32 (rk + 1)), xi⟩ : Pkt)) Lk.d).l)])) fun _ HS206 _ H206 => wl_ <| ig H206 (wg_ H206 rfl rfl rfl rfl) rfl (v := .int .u32 (wd (doneLab Lk (pkR (⟨1 + rk2, 3#32, (BitVec.ofNat 32 (rk + 1)), xi⟩ : Pkt)) Lk.d).e)) (dd_fld rfl (H206.ev 144 rfl) (by kernel_rfl)) fun _ H207 => wl_ <| ig H207 (wg_ H207 rfl rfl rfl rfl) rfl (dd_cmp rfl (H207.ev 145 rfl) rfl (ne_f (show wd 3#32 = 3 by decide))) fun _ H208 => wl_ <| p_ H208 rfl rfl fun _ H209 => ln_ <| ?_
    clear H203 H204 H205 HS199 H206 H207 H208
    have H210 := H209.sel [1, 0, 6, 8, 10, 9, 147] rfl
    refine nx <| cf_ H210 rfl <| wp_skip <| bn <| nx <| rl_ <| wl_ <| p_ H210 rfl rfl fun _ H211 => wl_ <| i_ H211 rfl (v := .int .i64 (i2 + 1)) (dd_ari rfl (H211.ev 62 rfl) rfl rfl (i64_of (by first | omega | (have := bd_lo; omega)) (by omega))) fun _ H212 => wl_ <| p_ H212 rfl rfl fun _ H213 => ln_ <| ?_
    clear H209 H210 H211 H212
    refine nx ⟨i2 + 1, ⟨s126, (doneLab Lk (pkR (⟨1 + rk2, 3#32, (BitVec.ofNat 32 (rk + 1)), xi⟩ : Pkt)) Lk.d), (updB xi Bk), (rk + 1), (by omega), hN126, (updB_len hBk xi (fun x9 hx9 => (hwf x9 hx9).1)), (by omega), (.inr ⟨rfl, rfl, by omega⟩), H213.sel [1, 0, 6, 8, 9, 10] rfl, (HZ188.move HS206).sel [0, 2] [0]⟩, (by omega)⟩
   by_cases hc214 : (rk + 1 : Int) = la
   ·
    obtain ⟨Gc216, hc216, hf216, hk216, hq216⟩ := Rs.reframe (R1 := [⟨gn74, 59, #[.pointer (some ⟨gd71, 0, none⟩), .int .u32 (wd Lk.e), .int .u32 (wd Lk.s), .int .u32 (wd Lk.n), .int .u16 (hd Lk.d), .int .u16 (hd Lk.l)]⟩]) (R2 := [⟨gp122, 5, cbp122⟩, ⟨gW8, 38, bs (cat12 Bk)⟩, ⟨g12, 29, #[.int .i64 (1 + rk2), .int .u32 3, .int .u32 (wd (BitVec.ofNat 32 (rk + 1))), .slice A2 n2 c2]⟩]) (Q1 := [dskT D (.pointer (some ⟨gd71, 0, none⟩)) (rest sL (-1))]) (Q2 := []) ((HZ124.move HS124).sel [1, 0, 2, 3] [0])
    refine wl_ <| d_ H123 rfl (R := fun v9 w9 => v9 = .tuple #[.agg #[.int .i64 3, .int .u32 3, .int .u32 (wd (BitVec.ofNat 32 (rk + 1))), .slice none 0 0], .int .i64 0] ∧ Rs w noF [⟨gn74, 59, #[.pointer (some ⟨gd71, 0, none⟩), .int .u32 (wd Lk.e), .int .u32 (wd Lk.s), .int .u32 (wd Lk.n), .int .u16 (hd Lk.d), .int .u16 (hd Lk.l)]⟩, ⟨gp122, 5, cbp122⟩, ⟨gW8, 38, bs (cat12 Bk)⟩, ⟨g12, 29, #[.int .i64 (1 + rk2), .int .u32 3, .int .u32 (wd (BitVec.ofNat 32 (rk + 1))), .slice A2 n2 c2]⟩] [dskT D (.pointer (some ⟨gd71, 0, none⟩)) (rest sL (-1))] w9) (dc_ Try.func10 rfl (args2 (H123.ev 85 rfl) (H123.ev 87 rfl)) (tk_same (O := O) (⟨1 + rk2, 3#32, (BitVec.ofNat 32 (rk + 1)), xi⟩ : Pkt) hc216 hNL (slice_own (HS124.row 0 rfl) Op122 hnB122) (own_off1 hf216 0 rfl rfl) (tk_may (show 1 + (rk2 : Int) = 1 ∨ 1 + (rk2 : Int) = 2 by omega) hgd9) (fun x9 hx9 => (hwf x9 hx9).1) (show 1 + (rk2 : Int) = 1 ∨ 1 + (rk2 : Int) = 2 by omega) (to_same hL (by omega))) (fun _ w9 ⟨he, hX⟩ => ⟨_, he, rfl, hk216 _ _ _ hX⟩)) ?_
    rintro _ W216 ⟨rfl, HX216⟩ a216 H216
    clear hc216 hk216 hf216 hq216 HS124 HZ124
    clear H123
    obtain ⟨G217, HZ217, HS217⟩ := HX216.anchor
    clear HX216
    refine wl_ <| p_ H216 rfl rfl fun _ H218 => wl_ <| i_ H218 rfl (v := .agg #[.int .i64 3, .int .u32 3, .int .u32 (wd (BitVec.ofNat 32 (rk + 1))), .slice none 0 0]) (dd_ext rfl (H218.ev 84 rfl) rfl) fun _ H219 => wl_ <| i_ H219 rfl (v := .int .i64 0) (dd_ext rfl (H219.ev 84 rfl) rfl) fun _ H220 => wl_ <| n_ H220 rfl (fun _ h => dd_new HS217 #[.int .i64 0, .int .u32 0, .int .u32 0, .slice none 0 0] rfl (z := .agg #[.int .i64 0, .int .u32 0, .int .u32 0, .slice none 0 0]) (by kernel_rfl) rfl h) fun g13 _ HS221 _ H221 => wl_ <| t_ rfl (S := [⟨gn74, 59, #[.pointer (some ⟨gd71, 0, none⟩), .int .u32 (wd Lk.e), .int .u32 (wd Lk.s), .int .u32 (wd Lk.n), .int .u16 (hd Lk.d), .int .u16 (hd Lk.l)]⟩, ⟨gp122, 5, cbp122⟩, ⟨gW8, 38, bs (cat12 Bk)⟩, ⟨g12, 29, #[.int .i64 (1 + rk2), .int .u32 3, .int .u32 (wd (BitVec.ofNat 32 (rk + 1))), .slice A2 n2 c2]⟩, ⟨g13, 29, #[.int .i64 3, .int .u32 3, .int .u32 (wd (BitVec.ofNat 32 (rk + 1))), .slice none 0 0]⟩]) (fun _ h => dd_setrow HS221 4 rfl rfl (H221.ev 13 rfl) (H221.ev 89 rfl) (by kernel_rfl) (rfl : #[.int .i64 3, .int .u32 3, .int .u32 (wd (BitVec.ofNat 32 (rk + 1))), .slice none 0 0].size = 4) (rfl : #[.int .i64 0, .int .u32 0, .int .u32 0, .slice none 0 0].size = 4) (one_l (ao_cons rfl (ao_cons rfl (ao_cons rfl (ao_cons rfl ao_nil))))) h) fun W222 HS222 => wl_ <| p_ H221 rfl rfl fun _ H223 => ln_ <| nx <| sq_ <| sq_ <| rl_ <| wl_ <| p_ H223 rfl rfl fun _ H224 => wl_ <| i_ H224 rfl (dd_cmp rfl (H224.ev 91 rfl) rfl (ne_f (by decide))) fun _ H225 => ?_
    clear H216 H218 H219 HS217 H220 HS221 H221 H223
    refine wl_ <| p_ H225 rfl rfl fun _ H226 => wl_ <| ig H226 (wg_ H226 rfl rfl rfl rfl) rfl (xf 2 2 rfl (H226.ev 13 rfl)) fun _ H227 => wl_ <| ig H227 (wg_ H227 rfl rfl rfl rfl) rfl (dd_get HS222 4 2 rfl rfl (H227.ev 94 rfl) rfl Try.underlying26 rfl) fun _ H228 => wl_ <| ig H228 (wg_ H228 rfl rfl rfl rfl) rfl (xf 2 2 rfl (H228.ev 12 rfl)) fun _ H229 => wl_ <| ig H229 (wg_ H229 rfl rfl rfl rfl) rfl (dd_get HS222 3 2 rfl rfl (H229.ev 96 rfl) rfl Try.underlying26 rfl) fun _ H230 => wl_ <| ig H230 (wg_ H230 rfl rfl rfl rfl) rfl (dd_cmp rfl (H230.ev 95 rfl) (H230.ev 97 rfl) (ne_f rfl)) fun _ H231 => wl_ <| p_ H231 rfl rfl fun _ H232 => ln_ <| ?_
    clear H224 H225 H226 H227 H228 H229 H230 H231
    have H233 := H232.sel [1, 0, 6, 8, 9, 10, 11, 12, 13, 99] rfl
    refine nx <| cf_ H233 rfl <| wp_skip <| nx <| sq_ <| sq_ <| rl_ <| wl_ <| p_ H233 rfl rfl fun _ H234 => wl_ <| i_ H234 rfl (v := .int .i64 (rk + 1)) (dd_ari rfl (H234.ev 100 rfl) rfl rfl (i64_of (by first | omega | (have := bd_lo; omega)) (by omega))) fun _ H235 => wl_ <| p_ H235 rfl rfl fun _ H236 => wl_ <| i_ H236 rfl (dd_cmp rfl (H236.ev 101 rfl) (H236.ev 102 rfl) (gt_f hc125)) fun _ H237 => ln_ <| nx <| cf_ H237 rfl <| wp_skip <| nx <| sq_ <| rl_ <| wl_ <| i_ H237 rfl (xf 0 0 rfl (H237.ev 13 rfl)) fun _ H238 => wl_ <| i_ H238 rfl (dd_get HS222 4 0 rfl rfl (H238.ev 126 rfl) rfl Try.underlying3 rfl) fun _ H239 => wl_ <| i_ H239 rfl (dd_cmp rfl (H239.ev 127 rfl) rfl (eq_t (by decide))) fun _ H240 => wl_ <| p_ H240 rfl rfl fun _ H241 => ?_
    clear H232 H233 H234 H235 H236 H237 H238 H239
    refine wl_ <| i_ H241 rfl (v := .int .i64 (rk + 1)) (dd_ari rfl (H241.ev 129 rfl) rfl rfl (i64_of (by first | omega | (have := bd_lo; omega)) (by omega))) fun _ H242 => wl_ <| p_ H242 rfl rfl fun _ H243 => wl_ <| i_ H243 rfl (dd_cmp rfl (H243.ev 130 rfl) (H243.ev 131 rfl) (eq_t hc214)) fun _ H244 => wl_ <| i_ H244 rfl (v := .bool false) (dd_neb rfl (H244.ev 128 rfl) (H244.ev 132 rfl) Try.underlying4 rfl) fun _ H245 => wl_ <| p_ H245 rfl rfl fun _ H246 => wl_ <| ig H246 (wg_ H246 rfl rfl rfl rfl) rfl (dd_mv rfl (H246.ev 6 rfl)) fun _ H247 => wl_ <| cg H247 (wg_ H247 rfl rfl rfl rfl) rfl HS222 (dcs Try.func12 rfl (args1 (H247.ev 135 rfl)) (ndlabel_at gn74 _ Lk W222 (HS222.row 0 rfl)) (.agg #[.int .u32 (wd Lk.e), .int .u32 (wd Lk.s), .int .u32 (wd Lk.n), .int .u16 (hd Lk.d), .int .u16 (hd Lk.l)])) fun W248 HS248 _ H248 => wl_ <| ig H248 (wg_ H248 rfl rfl rfl rfl) rfl (v := .int .u32 (wd Lk.s)) (dd_fld rfl (H248.ev 136 rfl) (by kernel_rfl)) fun _ H249 => ?_
    clear H240 H241 H242 H243 H244 H245 H246 H247 HS222
    refine wl_ <| ig H249 (wg_ H249 rfl rfl rfl rfl) rfl (dd_mv rfl (H249.ev 9 rfl)) fun _ H250 => wl_ <| ig H250 (wg_ H250 rfl rfl rfl rfl) rfl (v := .int .u32 (wd (BitVec.ofNat 32 la))) (dd_conv (k := .u32) rfl (H250.ev 138 rfl) Try.underlying3 (by kernel_rfl) (wd_of0 _)) fun _ H251 => wl_ <| ig H251 (wg_ H251 rfl rfl rfl rfl) rfl (dd_cmp rfl (H251.ev 137 rfl) (H251.ev 139 rfl) (ne_f (to_q hL (by omega)))) fun _ H252 => q_ H252 2 rfl fun _ H253 => wl_ <| ig H253 (wg_ H253 rfl rfl rfl rfl) rfl (dd_mv rfl (H253.ev 6 rfl)) fun _ H254 => wl_ <| cg H254 (wg_ H254 rfl rfl rfl rfl) rfl HS248 (dcs Try.func12 rfl (args1 (H254.ev 143 rfl)) (ndlabel_at gn74 _ Lk W248 (HS248.row 0 rfl)) (.agg #[.int .u32 (wd Lk.e), .int .u32 (wd Lk.s), .int .u32 (wd Lk.n), .int .u16 (hd Lk.d), .int .u16 (hd Lk.l)])) fun _ HS255 _ H255 => wl_ <| ig H255 (wg_ H255 rfl rfl rfl rfl) rfl (v := .int .u32 (wd Lk.e)) (dd_fld rfl (H255.ev 144 rfl) (by kernel_rfl)) fun _ H256 => wl_ <| ig H256 (wg_ H256 rfl rfl rfl rfl) rfl (dd_cmp rfl (H256.ev 145 rfl) rfl (ne_f (to_e hL (by omega)))) fun _ H257 => ?_
    clear H248 H249 H250 H251 H252 H253 H254 HS248 H255
    refine wl_ <| p_ H257 rfl rfl fun _ H258 => ln_ <| ?_
    clear H256 H257
    have H259 := H258.sel [1, 0, 6, 8, 9, 10, 147] rfl
    refine nx <| cf_ H259 rfl <| wp_skip <| bn <| nx <| rl_ <| wl_ <| p_ H259 rfl rfl fun _ H260 => wl_ <| i_ H260 rfl (v := .int .i64 (i2 + 1)) (dd_ari rfl (H260.ev 62 rfl) rfl rfl (i64_of (by first | omega | (have := bd_lo; omega)) (by omega))) fun _ H261 => wl_ <| p_ H261 rfl rfl fun _ H262 => ln_ <| ?_
    clear H258 H259 H260 H261
    refine nx ⟨i2 + 1, ⟨sL, Lk, Bk, la, (by omega), hNL, hBk, (by omega), hL, H262.sel [1, 0, 6, 8, 9, 10] rfl, (HZ217.move HS255).sel [0, 2] [0]⟩, (by omega)⟩
   obtain ⟨Gc264, hc264, hf264, hk264, hq264⟩ := Rs.reframe (R1 := [⟨gn74, 59, #[.pointer (some ⟨gd71, 0, none⟩), .int .u32 (wd Lk.e), .int .u32 (wd Lk.s), .int .u32 (wd Lk.n), .int .u16 (hd Lk.d), .int .u16 (hd Lk.l)]⟩]) (R2 := [⟨gp122, 5, cbp122⟩, ⟨gW8, 38, bs (cat12 Bk)⟩, ⟨g12, 29, #[.int .i64 (1 + rk2), .int .u32 3, .int .u32 (wd (BitVec.ofNat 32 (rk + 1))), .slice A2 n2 c2]⟩]) (Q1 := [dskT D (.pointer (some ⟨gd71, 0, none⟩)) (rest sL (-1))]) (Q2 := []) ((HZ124.move HS124).sel [1, 0, 2, 3] [0])
   refine wl_ <| d_ H123 rfl (R := fun v9 w9 => v9 = .tuple #[.agg #[.int .i64 4, .int .u32 (wd Lk.e), .int .u32 (wd (BitVec.ofNat 32 (rk + 1))), .slice none 0 0], .int .i64 0] ∧ Rs w noF [⟨gn74, 59, #[.pointer (some ⟨gd71, 0, none⟩), .int .u32 (wd Lk.e), .int .u32 (wd Lk.s), .int .u32 (wd Lk.n), .int .u16 (hd Lk.d), .int .u16 (hd Lk.l)]⟩, ⟨gp122, 5, cbp122⟩, ⟨gW8, 38, bs (cat12 Bk)⟩, ⟨g12, 29, #[.int .i64 (1 + rk2), .int .u32 3, .int .u32 (wd (BitVec.ofNat 32 (rk + 1))), .slice A2 n2 c2]⟩] [dskT D (.pointer (some ⟨gd71, 0, none⟩)) (rest sL (-1))] w9) (dc_ Try.func10 rfl (args2 (H123.ev 85 rfl) (H123.ev 87 rfl)) (tk_stale (O := O) (⟨1 + rk2, 3#32, (BitVec.ofNat 32 (rk + 1)), xi⟩ : Pkt) hc264 hNL (slice_own (HS124.row 0 rfl) Op122 hnB122) (own_off1 hf264 0 rfl rfl) (tk_may (show 1 + (rk2 : Int) = 1 ∨ 1 + (rk2 : Int) = 2 by omega) hgd9) (fun x9 hx9 => (hwf x9 hx9).1) (show 1 + (rk2 : Int) = 1 ∨ 1 + (rk2 : Int) = 2 by omega) (to_s hL (by omega) (by omega)) (to_n hL (by omega) (by omega))) (fun _ w9 ⟨he, hX⟩ => ⟨_, he, rfl, hk264 _ _ _ hX⟩)) ?_
   rintro _ W264 ⟨rfl, HX264⟩ a264 H264
   clear hc264 hk264 hf264 hq264 HS124 HZ124
   clear H123
   obtain ⟨G265, HZ265, HS265⟩ := HX264.anchor
   clear HX264
   refine wl_ <| p_ H264 rfl rfl fun _ H266 => wl_ <| i_ H266 rfl (v := .agg #[.int .i64 4, .int .u32 (wd Lk.e), .int .u32 (wd (BitVec.ofNat 32 (rk + 1))), .slice none 0 0]) (dd_ext rfl (H266.ev 84 rfl) rfl) fun _ H267 => wl_ <| i_ H267 rfl (v := .int .i64 0) (dd_ext rfl (H267.ev 84 rfl) rfl) fun _ H268 => wl_ <| n_ H268 rfl (fun _ h => dd_new HS265 #[.int .i64 0, .int .u32 0, .int .u32 0, .slice none 0 0] rfl (z := .agg #[.int .i64 0, .int .u32 0, .int .u32 0, .slice none 0 0]) (by kernel_rfl) rfl h) fun g13 _ HS269 _ H269 => wl_ <| t_ rfl (S := [⟨gn74, 59, #[.pointer (some ⟨gd71, 0, none⟩), .int .u32 (wd Lk.e), .int .u32 (wd Lk.s), .int .u32 (wd Lk.n), .int .u16 (hd Lk.d), .int .u16 (hd Lk.l)]⟩, ⟨gp122, 5, cbp122⟩, ⟨gW8, 38, bs (cat12 Bk)⟩, ⟨g12, 29, #[.int .i64 (1 + rk2), .int .u32 3, .int .u32 (wd (BitVec.ofNat 32 (rk + 1))), .slice A2 n2 c2]⟩, ⟨g13, 29, #[.int .i64 4, .int .u32 (wd Lk.e), .int .u32 (wd (BitVec.ofNat 32 (rk + 1))), .slice none 0 0]⟩]) (fun _ h => dd_setrow HS269 4 rfl rfl (H269.ev 13 rfl) (H269.ev 89 rfl) (by kernel_rfl) (rfl : #[.int .i64 4, .int .u32 (wd Lk.e), .int .u32 (wd (BitVec.ofNat 32 (rk + 1))), .slice none 0 0].size = 4) (rfl : #[.int .i64 0, .int .u32 0, .int .u32 0, .slice none 0 0].size = 4) (one_l (ao_cons rfl (ao_cons rfl (ao_cons rfl (ao_cons rfl ao_nil))))) h) fun W270 HS270 => wl_ <| p_ H269 rfl rfl fun _ H271 => ln_ <| nx <| sq_ <| sq_ <| rl_ <| wl_ <| p_ H271 rfl rfl fun _ H272 => wl_ <| i_ H272 rfl (dd_cmp rfl (H272.ev 91 rfl) rfl (ne_f (by decide))) fun _ H273 => ?_
   clear H264 H266 H267 HS265 H268 HS269 H269 H271
   refine wl_ <| p_ H273 rfl rfl fun _ H274 => wl_ <| ig H274 (wg_ H274 rfl rfl rfl rfl) rfl (xf 2 2 rfl (H274.ev 13 rfl)) fun _ H275 => wl_ <| ig H275 (wg_ H275 rfl rfl rfl rfl) rfl (dd_get HS270 4 2 rfl rfl (H275.ev 94 rfl) rfl Try.underlying26 rfl) fun _ H276 => wl_ <| ig H276 (wg_ H276 rfl rfl rfl rfl) rfl (xf 2 2 rfl (H276.ev 12 rfl)) fun _ H277 => wl_ <| ig H277 (wg_ H277 rfl rfl rfl rfl) rfl (dd_get HS270 3 2 rfl rfl (H277.ev 96 rfl) rfl Try.underlying26 rfl) fun _ H278 => wl_ <| ig H278 (wg_ H278 rfl rfl rfl rfl) rfl (dd_cmp rfl (H278.ev 95 rfl) (H278.ev 97 rfl) (ne_f rfl)) fun _ H279 => wl_ <| p_ H279 rfl rfl fun _ H280 => ln_ <| ?_
   clear H272 H273 H274 H275 H276 H277 H278 H279
   have H281 := H280.sel [1, 0, 6, 8, 9, 10, 11, 12, 13, 99] rfl
   refine nx <| cf_ H281 rfl <| wp_skip <| nx <| sq_ <| sq_ <| rl_ <| wl_ <| p_ H281 rfl rfl fun _ H282 => wl_ <| i_ H282 rfl (v := .int .i64 (rk + 1)) (dd_ari rfl (H282.ev 100 rfl) rfl rfl (i64_of (by first | omega | (have := bd_lo; omega)) (by omega))) fun _ H283 => wl_ <| p_ H283 rfl rfl fun _ H284 => wl_ <| i_ H284 rfl (dd_cmp rfl (H284.ev 101 rfl) (H284.ev 102 rfl) (gt_f hc125)) fun _ H285 => ln_ <| nx <| cf_ H285 rfl <| wp_skip <| nx <| sq_ <| rl_ <| wl_ <| i_ H285 rfl (xf 0 0 rfl (H285.ev 13 rfl)) fun _ H286 => wl_ <| i_ H286 rfl (dd_get HS270 4 0 rfl rfl (H286.ev 126 rfl) rfl Try.underlying3 rfl) fun _ H287 => wl_ <| i_ H287 rfl (dd_cmp rfl (H287.ev 127 rfl) rfl (eq_f (by decide))) fun _ H288 => wl_ <| p_ H288 rfl rfl fun _ H289 => ?_
   clear H280 H281 H282 H283 H284 H285 H286 H287
   refine wl_ <| i_ H289 rfl (v := .int .i64 (rk + 1)) (dd_ari rfl (H289.ev 129 rfl) rfl rfl (i64_of (by first | omega | (have := bd_lo; omega)) (by omega))) fun _ H290 => wl_ <| p_ H290 rfl rfl fun _ H291 => wl_ <| i_ H291 rfl (dd_cmp rfl (H291.ev 130 rfl) (H291.ev 131 rfl) (eq_f hc214)) fun _ H292 => wl_ <| i_ H292 rfl (v := .bool false) (dd_neb rfl (H292.ev 128 rfl) (H292.ev 132 rfl) Try.underlying4 rfl) fun _ H293 => wl_ <| p_ H293 rfl rfl fun _ H294 => wl_ <| ig H294 (wg_ H294 rfl rfl rfl rfl) rfl (dd_mv rfl (H294.ev 6 rfl)) fun _ H295 => wl_ <| cg H295 (wg_ H295 rfl rfl rfl rfl) rfl HS270 (dcs Try.func12 rfl (args1 (H295.ev 135 rfl)) (ndlabel_at gn74 _ Lk W270 (HS270.row 0 rfl)) (.agg #[.int .u32 (wd Lk.e), .int .u32 (wd Lk.s), .int .u32 (wd Lk.n), .int .u16 (hd Lk.d), .int .u16 (hd Lk.l)])) fun W296 HS296 _ H296 => wl_ <| ig H296 (wg_ H296 rfl rfl rfl rfl) rfl (v := .int .u32 (wd Lk.s)) (dd_fld rfl (H296.ev 136 rfl) (by kernel_rfl)) fun _ H297 => ?_
   clear H288 H289 H290 H291 H292 H293 H294 H295 HS270
   refine wl_ <| ig H297 (wg_ H297 rfl rfl rfl rfl) rfl (dd_mv rfl (H297.ev 9 rfl)) fun _ H298 => wl_ <| ig H298 (wg_ H298 rfl rfl rfl rfl) rfl (v := .int .u32 (wd (BitVec.ofNat 32 la))) (dd_conv (k := .u32) rfl (H298.ev 138 rfl) Try.underlying3 (by kernel_rfl) (wd_of0 _)) fun _ H299 => wl_ <| ig H299 (wg_ H299 rfl rfl rfl rfl) rfl (dd_cmp rfl (H299.ev 137 rfl) (H299.ev 139 rfl) (ne_f (to_q hL (by omega)))) fun _ H300 => q_ H300 2 rfl fun _ H301 => wl_ <| ig H301 (wg_ H301 rfl rfl rfl rfl) rfl (dd_mv rfl (H301.ev 6 rfl)) fun _ H302 => wl_ <| cg H302 (wg_ H302 rfl rfl rfl rfl) rfl HS296 (dcs Try.func12 rfl (args1 (H302.ev 143 rfl)) (ndlabel_at gn74 _ Lk W296 (HS296.row 0 rfl)) (.agg #[.int .u32 (wd Lk.e), .int .u32 (wd Lk.s), .int .u32 (wd Lk.n), .int .u16 (hd Lk.d), .int .u16 (hd Lk.l)])) fun _ HS303 _ H303 => wl_ <| ig H303 (wg_ H303 rfl rfl rfl rfl) rfl (v := .int .u32 (wd Lk.e)) (dd_fld rfl (H303.ev 144 rfl) (by kernel_rfl)) fun _ H304 => wl_ <| ig H304 (wg_ H304 rfl rfl rfl rfl) rfl (dd_cmp rfl (H304.ev 145 rfl) rfl (ne_f (to_e hL (by omega)))) fun _ H305 => ?_
   clear H296 H297 H298 H299 H300 H301 H302 HS296 H303
   refine wl_ <| p_ H305 rfl rfl fun _ H306 => ln_ <| ?_
   clear H304 H305
   have H307 := H306.sel [1, 0, 6, 8, 9, 10, 147] rfl
   refine nx <| cf_ H307 rfl <| wp_skip <| bn <| nx <| rl_ <| wl_ <| p_ H307 rfl rfl fun _ H308 => wl_ <| i_ H308 rfl (v := .int .i64 (i2 + 1)) (dd_ari rfl (H308.ev 62 rfl) rfl rfl (i64_of (by first | omega | (have := bd_lo; omega)) (by omega))) fun _ H309 => wl_ <| p_ H309 rfl rfl fun _ H310 => ln_ <| ?_
   clear H306 H307 H308 H309
   refine nx ⟨i2 + 1, ⟨sL, Lk, Bk, la, (by omega), hNL, hBk, (by omega), hL, H310.sel [1, 0, 6, 8, 9, 10] rfl, (HZ265.move HS303).sel [0, 2] [0]⟩, (by omega)⟩
  refine wl_ <| i_ H94 rfl (dd_cmp rfl (H94.ev 58 rfl) (H94.ev 60 rfl) (lt_f hc96)) fun _ H311 => ln_ <| nx <| cf_ H311 rfl <| wp_exit <| tx <| tx <| bx <| nx <| sq_ <| sq_ <| rl_ <| wl_ <| p_ H311 rfl rfl fun _ H312 => ln_ <| nx <| wp_block <| ?_
  clear H94 H311
  refine wp_loopG (ι := Nat) (fun b4 a9 w9 => (b4 ≤ 12) ∧ En 168 [(16, .int .i64 b4), (8, .pointer (some ⟨gW8, 0, none⟩)), (6, .pointer (some ⟨gn74, 0, none⟩))] a9 ∧ Rs w noF [⟨gn74, 59, #[.pointer (some ⟨gd71, 0, none⟩), .int .u32 (wd Lk.e), .int .u32 (wd Lk.s), .int .u32 (wd Lk.n), .int .u16 (hd Lk.d), .int .u16 (hd Lk.l)]⟩, ⟨gW8, 38, bs (cat12 Bk)⟩] [dskT D (.pointer (some ⟨gd71, 0, none⟩)) (rest sL (-1))] w9) (fun b4 => 12 - b4) (0) ⟨(Nat.zero_le _), H312.sel [6, 8, 16] rfl, (HZ92.move HS92).sel [0, 1] [0]⟩ ?_
  clear H312 HS92 HZ92
  rintro b4 aL313 wL313 ⟨hb4, HL313, HXL313⟩
  obtain ⟨G314, HZ314, HS314⟩ := HXL313.anchor
  clear HXL313
  refine sq_ <| sq_ <| rl_ <| wl_ <| p_ HL313 rfl rfl fun _ H315 => ?_
  clear HL313
  by_cases hc317 : (b4 : Int) < 12
  ·
   refine wl_ <| i_ H315 rfl (dd_cmp rfl (H315.ev 148 rfl) rfl (lt_t hc317)) fun _ H318 => ln_ <| nx <| ct_ H318 rfl <| wp_skip <| nx <| sq_ <| wp_block <| sq_ <| rl_ <| q_ H318 2 rfl fun _ H319 => ?_
   clear H315 H318
   refine wl_ <| d_ H319 rfl (R := fun v w9 => v = .tuple #[.agg (bs (Bk b4)), .int .i64 0] ∧ ((Bk b4).length = 32) ∧ Below wL313.heap.size wL313 w9) (dc_ Try.func13 rfl (args2 (H319.ev 153 rfl) (H319.ev 154 rfl)) (lw_block b4 ((HZ314.move HS314).sel [] [0]) (HS314.row 0 rfl) hNL (by omega)) (fun _ w9 h9 => ⟨_, h9.1, rfl, (lw_sec ((HZ314.move HS314).sel [] [0]) hNL b4 (by omega)), h9.2⟩)) ?_
   rintro _ W321 ⟨rfl, hbl322, hb321⟩ a321 H321
   have HS321 := HS314.same hb321
   clear H319
   clear HS314 hb321
   refine wl_ <| p_ H321 rfl rfl fun _ H323 => wl_ <| i_ H323 rfl (v := .agg (bs (Bk b4))) (dd_ext rfl (H323.ev 152 rfl) rfl) fun _ H324 => wl_ <| i_ H324 rfl (v := .int .i64 0) (dd_ext rfl (H324.ev 152 rfl) rfl) fun _ H325 => wl_ <| n_ H325 rfl (fun _ h => dd_new HS321 (bs (zer 32)) rfl (z := .agg (bs (zer 32))) (by kernel_rfl) rfl h) fun _ _ HS326 _ H326 => wl_ <| t_ rfl (fun _ h => dd_setrow HS326 2 rfl rfl (H326.ev 17 rfl) (H326.ev 156 rfl) (by kernel_rfl) (((size_bs _).trans hbl322) : (bs (Bk b4)).size = 32) (((size_bs _).trans (length_zer 32)) : (bs (zer 32)).size = 32) (one_bs _) h) fun _ HS327 => wl_ <| p_ H326 rfl rfl fun _ H328 => ln_ <| nx <| sq_ <| ?_
   clear H321 H323 H324 HS321 H325 HS326 H326
   refine wr_ (HZ314.move HS327) [0, 1, 2] [0, 1, 2] rfl rfl fun HXd330 hx329 => ?_
   obtain ⟨G331, HZ331, HS331⟩ := HXd330.anchor
   clear HXd330
   refine hp_ H328 0 hx329 rfl rfl rfl fun _ H332 => ht_ H332 1 hx329 rfl rfl (fun _ _ _ => dd_cmp rfl (H332.ev 158 rfl) rfl (ne_f (by decide))) fun _ H333 => hp_ H333 2 hx329 rfl rfl rfl fun _ H334 => htg H334 3 hx329 rfl (wg_ H334 rfl rfl rfl rfl) rfl (v := .agg (bs (Bk b4))) (fun _ _ HS9 => dd_load HS9 2 0 rfl rfl (H334.ev 17 rfl) (slab_whole _) Try.underlying37 rfl (by rw [show (bs (Bk b4)).size = 32 from ((size_bs _).trans hbl322)]; kernel_rfl)) fun _ H335 => htg H335 4 hx329 rfl (wg_ H335 rfl rfl rfl rfl) rfl (fun _ _ _ => dd_mv rfl (H335.ev 16 rfl)) fun _ H336 => htg H336 5 hx329 rfl (wg_ H336 rfl rfl rfl rfl) rfl (fun _ _ _ => xAo 12 32 (b4 * 32) rfl (H336.ev 8 rfl) (H336.ev 162 rfl)) fun _ H337 => htg H337 6 hx329 rfl (wg_ H337 rfl rfl rfl rfl) rfl (v := .agg (bs (((cat12 Bk).drop (b4 * 32)).take 32))) (fun _ _ HS9 => dd_load HS9 1 (b4 * 32) rfl rfl (H337.ev 163 rfl) (bs_slab (cat12_len hBk) (b4 * 32) 32 (by omega)) Try.underlying37 rfl (by rw [show (bs (((cat12 Bk).drop (b4 * 32)).take 32)).size = 32 from ((size_bs _).trans (len_take (n := 384 - b4 * 32) (len_drop (cat12_len hBk) rfl) (by omega)))]; kernel_rfl)) fun _ H338 => htg H338 7 hx329 rfl (wg_ H338 rfl rfl rfl rfl) rfl (v := .bool false) (fun _ _ _ => dd_nea (b := true) rfl (H338.ev 161 rfl) (H338.ev 164 rfl) (by kernel_rfl) (fun w => by have h9 := eql_blk (Bk b4) (((cat12 Bk).drop (b4 * 32)).take 32) hbl322 (len_take (n := 384 - b4 * 32) (len_drop (cat12_len hBk) rfl) (by omega)) w; rw [decide_eq_true (show (Bk b4) = ((cat12 Bk).drop (b4 * 32)).take 32 from (cat12_get hBk (by omega)).symm)] at h9; exact h9) rfl) fun _ H339 => ?_
   clear H328 H332 H333 H334 H335 H336 H337
   refine hp_ H339 8 hx329 rfl rfl rfl fun _ H340 => ?_
   clear H338 H339
   refine wpAnyH_done (by kernel_rfl) ?_ _
   clear hx329
   refine nx <| cf_ H340 rfl <| wp_skip <| bn <| nx <| rl_ <| wl_ <| p_ H340 rfl rfl fun _ H341 => wl_ <| i_ H341 rfl (v := .int .i64 (b4 + 1)) (dd_ari rfl (H341.ev 150 rfl) rfl rfl (i64_of (by first | omega | (have := bd_lo; omega)) (by omega))) fun _ H342 => wl_ <| p_ H342 rfl rfl fun _ H343 => ln_ <| ?_
   clear H340 H341 H342
   have H344 := H343.sel [6, 8, 16] rfl
   clear H343
   refine nx ⟨b4 + 1, ⟨(by omega), H344.sel [6, 8, 16] rfl, (HZ331.move HS331).sel [0, 1] [0]⟩, (by omega)⟩
  refine wl_ <| i_ H315 rfl (dd_cmp rfl (H315.ev 148 rfl) rfl (lt_f hc317)) fun _ H345 => ln_ <| nx <| cf_ H345 rfl <| wp_exit <| tx <| tx <| bx <| nx <| sq_ <| rl_ <| wl_ <| c_ H345 rfl HS314 (dcs Try.func6 rfl (args0 ) (tkwakes D O wL313) (.bool true)) fun _ HS346 _ H346 => wl_ <| p_ H346 rfl rfl fun _ H347 => ln_ <| nx <| wp_ret <| ret_run H347.env0 (res_t Try.results3 (H347.get 4 rfl)) <| ?_
  clear H315 H345 HS314 H346
  exact ⟨rfl, (HZ314.bel HS346)⟩
end Go.Proofs.Ytbdpocbnkgckhaa

/- TakerOnce: for every list of packets and order the call returns true and changes nothing that it was handed. Conditions: those of the row. -/
set_option maxRecDepth 4000
namespace Go.Proofs.Ytbdpocbnkgckhaa.takerOnce
open Go Go.ChangeShapes Go.WideShapes Go.ChangeAt Go.RowKit

theorem contract (H : Type) (enc : TypeId × Value → H) (W : World) (base : Nat) (args : Array Value) (ds gs : List (DataW H)) (before : List MemPlace)
    (hval : ∀ (j : Nat) t v, Try.f3.params[j]? = some t → args[j]? = some v → Value.okWide Try.prog W .any base t v)
    (hW : DataW.Whole enc Try.prog Try.f3.params.toList Rows.takerOnceSpec.vars false W args.toList ds gs before) :
    Calls Try.prog 3 args W fun e W' => ∃ v, e = .returned v ∧ Rows.takerOnceSpec.post enc Try.prog Try.f3 false true false false W args v W' := by
  have hW' := hW
  obtain ⟨p, q, hA0, hV, rfl, _, _⟩ := hW
  have hA : DataW.TrodAll enc Try.prog W 0 (fun _ => true) true Try.f3.params.toList args.toList ds p := hA0
  rw [Try.params3] at hA hval
  obtain ⟨v0, vs0, d0, ds0, p0, q0, hargs, rfl, rfl, h0, r0⟩ := trodAll_cons hA
  obtain ⟨v1, vs1, d1, ds1, p1, q1, rfl, rfl, rfl, h1, r1⟩ := trodAll_cons r0
  obtain ⟨rfl, rfl, rfl⟩ := trodAll_nil r1
  obtain rfl : args = #[v0, v1] := by cases args; simp_all
  obtain ⟨rfl, rfl⟩ := trodVars_none hV
  have hlt0 : ∀ x ∈ p0, x.block < W.heap.size := fun x hx => hW'.lt x (by simp [hx])
  have hlt1 : ∀ x ∈ p1, x.block < W.heap.size := fun x hx => hW'.lt x (by simp [hx])
  obtain ⟨A0, n0, c0, l0, rfl, hS0, hm0⟩ := open_pkts9 (hval 0 22 v0 rfl rfl) h0 hlt0
  obtain ⟨A1, c1, b1, rfl, hS1, hN1, hm1⟩ := open_bytes (hval 1 23 v1 rfl rfl) h1 hlt1
  refine (tkonce_walk diskOps walOps A0 n0 c0 l0 A1 c1 b1 W hS0 hm0 hS1 hN1 hm1).mono fun e W' ⟨he, hb⟩ => ?_
  subst he
  exact ⟨_, rfl, [d0, d1], [], _, [], _, [], hW', trodAll_cons_mk (shut_bool Try.underlying4 _) trodAll_mk0, trodAll_cons_mk (Below.trod laidOutT (by kernel_rfl) (of_decide_eq_true (by kernel_rfl)) h0 hb hlt0) (trodAll_cons_mk (Below.trod laidOutT (by kernel_rfl) (of_decide_eq_true (by kernel_rfl)) h1 hb hlt1) trodAll_mk0), rfl, hb.frame _, fun h => by cases h⟩

set_option maxRecDepth 100000 in
theorem lifted (os : Os) (started : os.Started) (H : Type) (enc : TypeId × Value → H) :
    ReturnsInHanded {} Try.checked os 3 .any (Rows.takerOnceSpec.pre6 enc Try.prog Try.f3 Rows.takerOnceRow.domain false) (Rows.takerOnceSpec.post enc Try.prog Try.f3 false true false false) := by
  refine returnsInHanded_of_change (C := Try.checked) ownK started (by kernel_rfl) Try.func3
    (ChangeSpec.witness6 (enc := enc) (C := Try.checked) false ⟨#[], #[.slice none 0 0, .slice none 0 0], []⟩ 8 (by kernel_rfl) (by kernel_rfl) (by kernel_rfl) (by kernel_rfl)) ?_
  intro W base args ds gs before hval hW _ _
  exact contract H enc W base args ds gs before hval hW

theorem said : Rows.TakerOnceSaid :=
  OpenClaim.holds_of_wide 3 Try.f3 rfl rfl rfl rfl rfl rfl rfl ⟨rfl, rfl, rfl, rfl, rfl⟩ rfl rfl rfl rfl rfl (by kernel_rfl) Try.func3 (by kernel_rfl)
    (of_decide_eq_true (by kernel_rfl)) (by unfold Func.isWrapper; first | (rw [if_pos (by decide +kernel)]; kernel_rfl) | (rw [if_neg (by decide +kernel)]; exact ⟨rfl, rfl⟩))
    (fun os started H enc _ => lifted os started H enc)
end Go.Proofs.Ytbdpocbnkgckhaa.takerOnce
