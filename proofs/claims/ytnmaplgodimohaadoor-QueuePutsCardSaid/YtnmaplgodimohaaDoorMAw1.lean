/- Merged: TabEnc TabDec TabPure TabBack TabRef TabRefE AwV TabRefD TabWakes OpsSpec Itm QueCat AwP. -/
import Derived.Test.YtnmaplgodimohaaDoorMAw0
import Derived.Test.YtnmaplgodimohaaDoorMGen0
import Derived.Test.YtnmaplgodimohaaDoorMStr0
/- The volumes' block: the program's. -/
set_option maxRecDepth 4000
namespace Go.Proofs.YtnmaplgodimohaaDoor
open Go Go.RowKit
theorem vols_getC {w : World} {b o n c : Nat} {l : List Tv} (h : VolsAt w (.slice (some ⟨b, o, none⟩) n c) (volL l)) {k : Nat} (hk : k < n) :
    ∃ p L B m c', l[k]? = some (p, L) ∧ (∀ W, Below w.heap.size w W → W.rangeAt b (o + k * 2) [.string (strB p), .slice B m c'] ∧ IntsAt W (.slice B m c') L) ∧ L.length = m ∧ p.length ≤ maxLen := by
  obtain ⟨b', o', s, L, B, m, c', h1, h2, h0, h3, h4, h5, h6⟩ := vols_get h (k := k) (by rw [vols_len h]; exact hk)
  injection h2 with h2
  injection h2 with h2 h7
  subst h2 h7
  obtain ⟨p, h8, rfl⟩ := volL_get h1
  exact ⟨p, L, B, m, c', h8, fun W hb => ⟨fun j v hv => (hb.cell (p := ⟨b, o + k * 2 + j, none⟩) h0).trans (h3 j v hv), h4.below hb (Nat.le_refl _)⟩, h5, by rw [strB_size] at h6; exact h6⟩
/- the volumes' block -/
def encB (l : List Tv) : List (BitVec 8) := [byteI l.length] ++ l.flatMap volE ++ zer (31 - 9 * l.length)
def encT (l : List Tv) : List (BitVec 8) := if goodT l then encB l else zer 32
def encE (l : List Tv) : Int := if goodT l then 0 else 11
theorem len_flatE : ∀ l : List Tv, (l.flatMap volE).length = 9 * l.length
  | [] => rfl
  | x :: l => by rw [List.flatMap_cons, List.length_append, length_volE, len_flatE l, List.length_cons]; omega
theorem length_encB {l : List Tv} (h : l.length ≤ 3) : (encB l).length = 32 := by
  unfold encB; rw [List.length_append, List.length_append, len_flatE, length_zer]; simp only [List.length_cons, List.length_nil]; omega
theorem length_encT (l : List Tv) : (encT l).length = 32 := by
  unfold encT
  split
  · rename_i h; exact length_encB (goodT_parts h).1
  · exact length_zer 32
theorem spl_zer (A E : List (BitVec 8)) (m n o : Nat) (hE : E.length = m) (hA : A.length = o) : spl (A ++ zer (m + n)) o E = (A ++ E) ++ zer n := by
  subst hE hA
  unfold spl
  rw [List.take_left' rfl]
  congr 1
  rw [← List.drop_drop, List.drop_left' rfl]
  unfold zer
  simp
theorem tvs_1 {l : List Tv} {x : Tv} (h : l.length = 1) (h0 : l[0]? = some x) : l = [x] := by
  obtain ⟨a, rfl⟩ := list_1 h
  simp at h0; rw [h0]
theorem tvs_2 {l : List Tv} {x y : Tv} (h : l.length = 2) (h0 : l[0]? = some x) (h1 : l[1]? = some y) : l = [x, y] := by
  obtain ⟨a, b, rfl⟩ := list_2 h
  simp at h0 h1; rw [h0, h1]
theorem tvs_3 {l : List Tv} {x y z : Tv} (h : l.length = 3) (h0 : l[0]? = some x) (h1 : l[1]? = some y) (h2 : l[2]? = some z) : l = [x, y, z] := by
  obtain ⟨a, b, c, rfl⟩ := list_3 h
  simp at h0 h1 h2; rw [h0, h1, h2]
theorem set0 (x : BitVec 8) : (zer 32).set 0 x = [x] ++ zer 31 := rfl
theorem encB_0 : (zer 32).set 0 0#8 = encB [] := rfl
theorem encB_1 (x : Tv) : spl ((zer 32).set 0 1#8) 1 (volE x) = encB [x] := by
  rw [set0, spl_zer [1#8] (volE x) 9 22 1 (length_volE x) rfl]
  unfold encB
  simp [byteI]
theorem encB_2 (x y : Tv) : spl (spl ((zer 32).set 0 2#8) 1 (volE x)) 10 (volE y) = encB [x, y] := by
  rw [set0, spl_zer [2#8] (volE x) 9 22 1 (length_volE x) rfl, spl_zer ([2#8] ++ volE x) (volE y) 9 13 10 (length_volE y) (by rw [List.length_append, length_volE]; rfl)]
  unfold encB
  simp [byteI]
theorem encB_3 (x y z : Tv) : spl (spl (spl ((zer 32).set 0 3#8) 1 (volE x)) 10 (volE y)) 19 (volE z) = encB [x, y, z] := by
  rw [set0, spl_zer [3#8] (volE x) 9 22 1 (length_volE x) rfl, spl_zer ([3#8] ++ volE x) (volE y) 9 13 10 (length_volE y) (by rw [List.length_append, length_volE]; rfl), spl_zer ([3#8] ++ volE x ++ volE y) (volE z) 9 4 19 (length_volE z) (by rw [List.length_append, List.length_append, length_volE, length_volE]; rfl)]
  unfold encB
  simp [byteI]
set_option maxHeartbeats 800000 in
theorem enct_bad (A : Option Addr) (n c : Nat) (l : List Tv) (w : World) (hv : VolsAt w (.slice A n c) (volL l)) (hn : n ≤ 1000000) (hml : ∀ x ∈ l, x.2.length ≤ 1000000) (hG : goodT l = false) :
    Calls Tryd.prog 48 #[.slice A n c] w fun e w' => e = .returned (.tuple #[.agg (bs (encT l)), .int .i64 (encE l)]) ∧ Below w.heap.size w w' := by
  have HS := St.nil w noF
  refine enter_en Tryd.func48 rfl Tryd.ntmps48 (Nat.le_of_ble_eq_true rfl) fun a0 (HA0 : En 33 [(0, .slice A n c)] a0) => ?_
  refine sq_ <| rl_ <| wl_ <| n_ HA0 rfl (fun _ h => dd_new HS (bs (zer 32)) rfl (z := .agg (bs (zer 32))) (by kernel_rfl) rfl h) fun g2 W1 HS1 a1 H1 => wl_ <| p_ H1 rfl rfl fun a2 H2 => ln_ <| nx <| sq_ <| sq_ <| rl_ <| wl_ <| p_ H2 rfl rfl fun a3 H3 => wl_ <| c_ H3 rfl HS1 (v := .bool false) (dc_ Tryd.func56 rfl (args1 (H3.ev 8 rfl)) (goodt_any _ _ _ l W1 (hv.below HS1.below (Nat.le_refl _)) hn hml) (fun _ w9 h9 => ⟨_, h9.1, by rw [hG], h9.2⟩)) fun W4 HS4 a4 H4 => wl_ <| i_ H4 rfl (v := .bool true) (dd_nt rfl (H4.ev 9 rfl) rfl) fun a5 H5 => ln_ <| nx <| ct_ H5 rfl <| sq_ <| rl_ <| wl_ <| i_ H5 rfl (v := .agg (bs (zer 32))) (dd_bldk rfl (ps := []) (pr0) (cs := bs (zer 32)) (by kernel_rfl)) fun a6 H6 => wl_ <| t_ rfl (fun _ h => dd_setrow HS4 0 rfl rfl (H6.ev 2 rfl) (H6.ev 11 rfl) (by kernel_rfl) (((size_bs _).trans (length_zer 32)) : (bs (zer 32)).size = 32) (((size_bs _).trans (length_zer 32)) : (bs (zer 32)).size = 32) (one_bs _) h) fun W7 HS7 => wl_ <| p_ H6 rfl rfl fun a8 H8 => ?_
  clear HS HA0 a0 H1 a1 H2 a2 H3 a3 HS1 H4 a4 H5 a5 HS4
  refine ln_ <| nx <| wp_ret <| tr <| ret_run H8.env0 (res_ct Tryd.results48 (H8.get 2 rfl) (HS7.row 0 rfl) Tryd.underlying36 rfl (by rw [show (bs (zer 32)).size = 32 from ((size_bs _).trans (length_zer 32))]; kernel_rfl) (H8.get 3 rfl)) <| ?_
  clear H6 a6
  exact ⟨by unfold encT encE; rw [hG]; rfl, HS7.below⟩
set_option maxHeartbeats 1600000 in
theorem enct0 (c : Nat) (A : Option Addr) (l : List Tv) (w : World) (hv : VolsAt w (.slice A 0 c) (volL l)) (hml : ∀ x ∈ l, x.2.length ≤ 1000000) (hG : goodT l = true) :
    Calls Tryd.prog 48 #[.slice A 0 c] w fun e w' => e = .returned (.tuple #[.agg (bs (encT l)), .int .i64 (encE l)]) ∧ Below w.heap.size w w' := by
  have HS := St.nil w noF
  have hn : 0 ≤ 1000000 := by decide
  have hln : l.length = 0 := by rw [← len_volL]; exact vols_len hv
  refine enter_en Tryd.func48 rfl Tryd.ntmps48 (Nat.le_of_ble_eq_true rfl) fun a0 (HA0 : En 33 [(0, .slice A 0 c)] a0) => ?_
  refine sq_ <| rl_ <| wl_ <| n_ HA0 rfl (fun _ h => dd_new HS (bs (zer 32)) rfl (z := .agg (bs (zer 32))) (by kernel_rfl) rfl h) fun g2 W1 HS1 a1 H1 => wl_ <| p_ H1 rfl rfl fun a2 H2 => ln_ <| nx <| sq_ <| sq_ <| rl_ <| wl_ <| p_ H2 rfl rfl fun a3 H3 => wl_ <| c_ H3 rfl HS1 (v := .bool true) (dc_ Tryd.func56 rfl (args1 (H3.ev 8 rfl)) (goodt_any _ _ _ l W1 (hv.below HS1.below (Nat.le_refl _)) hn hml) (fun _ w9 h9 => ⟨_, h9.1, by rw [hG], h9.2⟩)) fun W4 HS4 a4 H4 => wl_ <| i_ H4 rfl (v := .bool false) (dd_nt rfl (H4.ev 9 rfl) rfl) fun a5 H5 => ln_ <| nx <| cf_ H5 rfl <| wp_skip <| nx <| sq_ <| rl_ <| wl_ <| n_ H5 rfl (fun _ h => dd_new HS4 (bs (zer 32)) rfl (z := .agg (bs (zer 32))) (by kernel_rfl) rfl h) fun g4 W6 HS6 a6 H6 => ln_ <| nx <| sq_ <| rl_ <| wl_ <| p_ H6 rfl rfl fun a7 H7 => wl_ <| i_ H7 rfl (v := .int .i64 0) (dd_len rfl (H7.ev 12 rfl) Tryd.underlying75) fun a8 H8 => ?_
  clear HS HA0 a0 H1 a1 H2 a2 H3 a3 HS1 H4 a4 HS4 H5 a5 H6 a6
  refine wl_ <| i_ H8 rfl (v := .int .u8 0) (dd_conv (k := .u8) rfl (H8.ev 13 rfl) Tryd.underlying3 (by kernel_rfl) (by decide)) fun a9 H9 => wl_ <| i_ H9 rfl (xA 32 1 0 rfl (H9.ev 4 rfl) rfl) fun a10 H10 => wl_ <| t_ rfl (S := [⟨g2, 36, bs (zer 32)⟩, ⟨g4, 36, bs ((zer 32).set 0 (0#8))⟩]) (fun _ h => dd_put HS6 1 0 rfl rfl (H10.ev 15 rfl) (H10.ev 14 rfl) (by kernel_rfl) rfl rfl (by rw [((size_bs _).trans (length_zer 32))]; rfl) (set_bs _ _ (0#8)) h) fun W11 HS11 => ln_ <| nx <| sq_ <| sq_ <| rl_ <| wl_ <| p_ H10 rfl rfl fun a12 H12 => wl_ <| i_ H12 rfl (v := .int .i64 0) (dd_len rfl (H12.ev 16 rfl) Tryd.underlying75) fun a13 H13 => wl_ <| p_ H13 rfl rfl fun a14 H14 => ln_ <| nx <| wp_block <| wp_unr 1 <| unr_go <| sq_ <| rl_ <| wl_ <| i_ H14 rfl (dd_cmp rfl (H14.ev 18 rfl) (H14.ev 17 rfl) (lt_f (by decide))) fun a15 H15 => ln_ <| nx <| sq_ <| cf_ H15 rfl <| wp_exit <| tx <| tx <| bx <| nx <| sq_ <| rl_ <| wl_ <| i_ H15 rfl (v := .agg (bs ((zer 32).set 0 (0#8)))) (dd_load HS11 1 0 rfl rfl (H15.ev 4 rfl) (slab_whole _) Tryd.underlying36 rfl (by rw [show (bs ((zer 32).set 0 (0#8))).size = 32 from ((size_bs _).trans (len_set (length_zer 32)))]; kernel_rfl)) fun a16 H16 => ?_
  clear H7 a7 H8 a8 H9 a9 HS6 H10 a10 H12 a12 H13 a13 H14 a14
  refine wl_ <| t_ rfl (fun _ h => dd_setrow HS11 0 rfl rfl (H16.ev 2 rfl) (H16.ev 32 rfl) (by kernel_rfl) (((size_bs _).trans (len_set (length_zer 32))) : (bs ((zer 32).set 0 (0#8))).size = 32) (((size_bs _).trans (length_zer 32)) : (bs (zer 32)).size = 32) (one_bs _) h) fun W17 HS17 => wl_ <| p_ H16 rfl rfl fun a18 H18 => ln_ <| nx <| wp_ret <| ret_run H18.env0 (res_ct Tryd.results48 (H18.get 2 rfl) (HS17.row 0 rfl) Tryd.underlying36 rfl (by rw [show (bs ((zer 32).set 0 (0#8))).size = 32 from ((size_bs _).trans (len_set (length_zer 32)))]; kernel_rfl) (H18.get 3 rfl)) <| ?_
  clear H15 a15 HS11 H16 a16
  have hl : l = [] := list_0 hln
  exact ⟨by unfold encT encE; rw [hG, if_pos rfl, if_pos rfl, hl, ← encB_0], HS17.below⟩
set_option maxHeartbeats 1600000 in
theorem enct1 (b o c : Nat) (l : List Tv) (w : World) (hv : VolsAt w (.slice (some ⟨b, o, none⟩) 1 c) (volL l)) (hml : ∀ x ∈ l, x.2.length ≤ 1000000) (hG : goodT l = true) :
    Calls Tryd.prog 48 #[.slice (some ⟨b, o, none⟩) 1 c] w fun e w' => e = .returned (.tuple #[.agg (bs (encT l)), .int .i64 (encE l)]) ∧ Below w.heap.size w w' := by
  have HS := St.nil w noF
  have hn : 1 ≤ 1000000 := by decide
  have hln : l.length = 1 := by rw [← len_volL]; exact vols_len hv
  refine enter_en Tryd.func48 rfl Tryd.ntmps48 (Nat.le_of_ble_eq_true rfl) fun a0 (HA0 : En 33 [(0, .slice (some ⟨b, o, none⟩) 1 c)] a0) => ?_
  refine sq_ <| rl_ <| wl_ <| n_ HA0 rfl (fun _ h => dd_new HS (bs (zer 32)) rfl (z := .agg (bs (zer 32))) (by kernel_rfl) rfl h) fun g2 W1 HS1 a1 H1 => wl_ <| p_ H1 rfl rfl fun a2 H2 => ln_ <| nx <| sq_ <| sq_ <| rl_ <| wl_ <| p_ H2 rfl rfl fun a3 H3 => wl_ <| c_ H3 rfl HS1 (v := .bool true) (dc_ Tryd.func56 rfl (args1 (H3.ev 8 rfl)) (goodt_any _ _ _ l W1 (hv.below HS1.below (Nat.le_refl _)) hn hml) (fun _ w9 h9 => ⟨_, h9.1, by rw [hG], h9.2⟩)) fun W4 HS4 a4 H4 => wl_ <| i_ H4 rfl (v := .bool false) (dd_nt rfl (H4.ev 9 rfl) rfl) fun a5 H5 => ln_ <| nx <| cf_ H5 rfl <| wp_skip <| nx <| sq_ <| rl_ <| wl_ <| n_ H5 rfl (fun _ h => dd_new HS4 (bs (zer 32)) rfl (z := .agg (bs (zer 32))) (by kernel_rfl) rfl h) fun g4 W6 HS6 a6 H6 => ln_ <| nx <| sq_ <| rl_ <| wl_ <| p_ H6 rfl rfl fun a7 H7 => wl_ <| i_ H7 rfl (v := .int .i64 1) (dd_len rfl (H7.ev 12 rfl) Tryd.underlying75) fun a8 H8 => ?_
  clear HS HA0 a0 H1 a1 H2 a2 H3 a3 HS1 H4 a4 HS4 H5 a5 H6 a6
  refine wl_ <| i_ H8 rfl (v := .int .u8 1) (dd_conv (k := .u8) rfl (H8.ev 13 rfl) Tryd.underlying3 (by kernel_rfl) (by decide)) fun a9 H9 => wl_ <| i_ H9 rfl (xA 32 1 0 rfl (H9.ev 4 rfl) rfl) fun a10 H10 => wl_ <| t_ rfl (S := [⟨g2, 36, bs (zer 32)⟩, ⟨g4, 36, bs ((zer 32).set 0 (1#8))⟩]) (fun _ h => dd_put HS6 1 0 rfl rfl (H10.ev 15 rfl) (H10.ev 14 rfl) (by kernel_rfl) rfl rfl (by rw [((size_bs _).trans (length_zer 32))]; rfl) (set_bs _ _ (1#8)) h) fun W11 HS11 => ln_ <| nx <| sq_ <| sq_ <| rl_ <| wl_ <| p_ H10 rfl rfl fun a12 H12 => wl_ <| i_ H12 rfl (v := .int .i64 1) (dd_len rfl (H12.ev 16 rfl) Tryd.underlying75) fun a13 H13 => wl_ <| p_ H13 rfl rfl fun a14 H14 => ln_ <| nx <| wp_block <| wp_unr 2 <| unr_go <| sq_ <| rl_ <| wl_ <| i_ H14 rfl (dd_cmp rfl (H14.ev 18 rfl) (H14.ev 17 rfl) (lt_t (by decide))) fun a15 H15 => ln_ <| nx <| sq_ <| ct_ H15 rfl <| wp_skip <| nx <| sq_ <| wp_block <| sq_ <| rl_ <| wl_ <| p_ H15 rfl rfl fun a16 H16 => ?_
  clear H7 a7 H8 a8 H9 a9 HS6 H10 a10 H12 a12 H13 a13 H14 a14
  refine wl_ <| i_ H16 rfl (xS 2 (o + 0) rfl (H16.ev 16 rfl) (H16.ev 18 rfl)) fun a17 H17 => ?_
  clear H15 a15 H16 a16
  obtain ⟨p19, L19, B19, m19, c19, hg19, hr19, hm19, hp19⟩ := vols_getC hv (k := 0) (by decide)
  refine wl_ <| i_ H17 rfl (v := .agg #[.string (strB p19), .slice B19 m19 c19]) (dd_atN rfl (H17.ev 21 rfl) (hr19 _ HS11.below).1 Tryd.underlying81 rfl (by kernel_rfl)) fun a18 H18 => wl_ <| n_ H18 rfl (fun _ h => dd_new HS11 #[.string (⟨#[]⟩), .slice none 0 0] rfl (z := .agg #[.string (⟨#[]⟩), .slice none 0 0]) (by kernel_rfl) rfl h) fun g6 W20 HS20 a20 H20 => wl_ <| p_ H20 rfl rfl fun a21 H21 => wl_ <| t_ rfl (fun _ h => dd_setrow HS20 2 rfl rfl (H21.ev 6 rfl) (H21.ev 22 rfl) (by kernel_rfl) (rfl : #[.string (strB p19), .slice B19 m19 c19].size = 2) (rfl : #[.string (⟨#[]⟩), .slice none 0 0].size = 2) (one_l (ao_cons rfl (ao_cons rfl ao_nil))) h) fun W22 HS22 => ln_ <| nx <| sq_ <| rl_ <| wl_ <| i_ H21 rfl (v := .agg #[.string (strB p19), .slice B19 m19 c19]) (dd_load HS22 2 0 rfl rfl (H21.ev 6 rfl) (slab_whole _) Tryd.underlying81 rfl (by kernel_rfl)) fun a23 H23 => wl_ <| c_ H23 rfl HS22 (dcs Tryd.func57 rfl (args1 (H23.ev 23 rfl)) (tobytes_any _ _ _ p19 L19 W22 (hr19 _ HS22.below).2 (by have h9 := okT_parts ((goodT_parts hG).2.1 _ _ hg19); simp only at h9; omega)) (.agg (bs (volE (p19, L19))))) fun W24 HS24 a24 H24 => wl_ <| n_ H24 rfl (fun _ h => dd_new HS24 (bs (zer 9)) rfl (z := .agg (bs (zer 9))) (by kernel_rfl) rfl h) fun g7 W25 HS25 a25 H25 => wl_ <| t_ rfl (fun _ h => dd_setrow HS25 3 rfl rfl (H25.ev 7 rfl) (H25.ev 24 rfl) (by kernel_rfl) (((size_bs _).trans (length_volE _)) : (bs (volE (p19, L19))).size = 9) (((size_bs _).trans (length_zer 9)) : (bs (zer 9)).size = 9) (one_bs _) h) fun W26 HS26 => ?_
  clear H17 a17 HS11 H18 a18 H20 a20 HS20 H21 a21 H23 a23 HS22 HS24 H24 a24
  refine ln_ <| ?_
  clear HS25
  have H27 := H25.sel [2, 4, 16, 17, 18, 5, 7] rfl
  refine nx <| ?_
  clear H25
  refine wi_ HS26 [0, 2, 3] rfl [0, 2, 3, 1] rfl fun HSh28 hx28 => hp_ H27 0 hx28 rfl rfl rfl fun a29 H29 => ht_ H29 1 hx28 rfl rfl (v := .int .i64 0) (fun _ _ _ => dd_ari rfl (H29.ev 25 rfl) rfl rfl (by decide)) fun a30 H30 => ht_ H30 2 hx28 rfl rfl (v := .int .i64 1) (fun _ _ _ => dd_ari rfl rfl (H30.ev 26 rfl) rfl (by decide)) fun a31 H31 => ht_ H31 3 hx28 rfl rfl (v := .slice (some ⟨g4, 1, none⟩) 31 31) (fun _ _ _ => dd_slAl (l := 1) (n := 32) (sz := 1) (j := 1) rfl (H31.ev 4 rfl) (H31.ev 27 rfl) (by kernel_rfl) (by decide) rfl rfl) fun a32 H32 => ht_ H32 4 hx28 rfl rfl (v := .slice (some ⟨g7, 0, none⟩) 9 9) (fun _ _ _ => dd_slA (n := 9) (sz := 1) rfl (H32.ev 7 rfl) (by kernel_rfl)) fun a33 H33 => h1_ 5 rfl <| tv H33 rfl (S := [⟨g2, 36, bs (zer 32)⟩, ⟨g4, 36, bs (spl ((zer 32).set 0 (1#8)) 1 (volE (p19, L19)))⟩, ⟨g6, 81, #[.string (strB p19), .slice B19 m19 c19]⟩, ⟨g7, 110, bs (volE (p19, L19))⟩]) (v := .int .i64 9) (fun _ h => dd_copyR HSh28 1 rfl (len_set (length_zer 32)) rfl (H33.ev 28 rfl) (H33.ev 29 rfl) (slice_part (HSh28.row 3 rfl) 0 (bytes_slab (slab_whole _)) (length_volE _) (by decide)) (length_volE _) (by decide) (by decide) h) fun W34 HS34 a34 H34 => sx_ (sxi HS34 [0, 2, 3, 1] rfl) fun hx35 => ?_
  clear HS26 H27 a25 H29 a29 H30 a30 H31 a31 H32 a32 HSh28 H33 a33
  clear hx28
  refine wpAnyH_done (by kernel_rfl) ?_ _
  clear hx35
  refine bn <| nx <| rl_ <| wl_ <| i_ H34 rfl (v := .int .i64 1) (dd_ari rfl (H34.ev 18 rfl) rfl rfl (by decide)) fun a36 H36 => wl_ <| p_ H36 rfl rfl fun a37 H37 => ln_ <| nx <| unr_go <| sq_ <| rl_ <| wl_ <| i_ H37 rfl (dd_cmp rfl (H37.ev 18 rfl) (H37.ev 17 rfl) (lt_f (by decide))) fun a38 H38 => ln_ <| nx <| sq_ <| cf_ H38 rfl <| wp_exit <| tx <| tx <| bx <| nx <| sq_ <| rl_ <| wl_ <| i_ H38 rfl (v := .agg (bs (spl ((zer 32).set 0 (1#8)) 1 (volE (p19, L19))))) (dd_load HS34 1 0 rfl rfl (H38.ev 4 rfl) (slab_whole _) Tryd.underlying36 rfl (by rw [show (bs (spl ((zer 32).set 0 (1#8)) 1 (volE (p19, L19)))).size = 32 from ((size_bs _).trans (len_spl (len_set (length_zer 32)) (length_volE _) (by decide)))]; kernel_rfl)) fun a39 H39 => wl_ <| t_ rfl (fun _ h => dd_setrow HS34 0 rfl rfl (H39.ev 2 rfl) (H39.ev 32 rfl) (by kernel_rfl) (((size_bs _).trans (len_spl (len_set (length_zer 32)) (length_volE _) (by decide))) : (bs (spl ((zer 32).set 0 (1#8)) 1 (volE (p19, L19)))).size = 32) (((size_bs _).trans (length_zer 32)) : (bs (zer 32)).size = 32) (one_bs _) h) fun W40 HS40 => wl_ <| p_ H39 rfl rfl fun a41 H41 => ln_ <| nx <| wp_ret <| ret_run H41.env0 (res_ct Tryd.results48 (H41.get 2 rfl) (HS40.row 0 rfl) Tryd.underlying36 rfl (by rw [show (bs (spl ((zer 32).set 0 (1#8)) 1 (volE (p19, L19)))).size = 32 from ((size_bs _).trans (len_spl (len_set (length_zer 32)) (length_volE _) (by decide)))]; kernel_rfl) (H41.get 3 rfl)) <| ?_
  clear H34 a34 H36 a36 H37 a37 H38 a38 HS34 H39 a39
  have hl : l = [(p19, L19)] := tvs_1 hln hg19
  exact ⟨by unfold encT encE; rw [hG, if_pos rfl, if_pos rfl, hl, ← encB_1], HS40.below⟩
set_option maxHeartbeats 1600000 in
theorem enct2 (b o c : Nat) (l : List Tv) (w : World) (hv : VolsAt w (.slice (some ⟨b, o, none⟩) 2 c) (volL l)) (hml : ∀ x ∈ l, x.2.length ≤ 1000000) (hG : goodT l = true) :
    Calls Tryd.prog 48 #[.slice (some ⟨b, o, none⟩) 2 c] w fun e w' => e = .returned (.tuple #[.agg (bs (encT l)), .int .i64 (encE l)]) ∧ Below w.heap.size w w' := by
  have HS := St.nil w noF
  have hn : 2 ≤ 1000000 := by decide
  have hln : l.length = 2 := by rw [← len_volL]; exact vols_len hv
  refine enter_en Tryd.func48 rfl Tryd.ntmps48 (Nat.le_of_ble_eq_true rfl) fun a0 (HA0 : En 33 [(0, .slice (some ⟨b, o, none⟩) 2 c)] a0) => ?_
  refine sq_ <| rl_ <| wl_ <| n_ HA0 rfl (fun _ h => dd_new HS (bs (zer 32)) rfl (z := .agg (bs (zer 32))) (by kernel_rfl) rfl h) fun g2 W1 HS1 a1 H1 => wl_ <| p_ H1 rfl rfl fun a2 H2 => ln_ <| nx <| sq_ <| sq_ <| rl_ <| wl_ <| p_ H2 rfl rfl fun a3 H3 => wl_ <| c_ H3 rfl HS1 (v := .bool true) (dc_ Tryd.func56 rfl (args1 (H3.ev 8 rfl)) (goodt_any _ _ _ l W1 (hv.below HS1.below (Nat.le_refl _)) hn hml) (fun _ w9 h9 => ⟨_, h9.1, by rw [hG], h9.2⟩)) fun W4 HS4 a4 H4 => wl_ <| i_ H4 rfl (v := .bool false) (dd_nt rfl (H4.ev 9 rfl) rfl) fun a5 H5 => ln_ <| nx <| cf_ H5 rfl <| wp_skip <| nx <| sq_ <| rl_ <| wl_ <| n_ H5 rfl (fun _ h => dd_new HS4 (bs (zer 32)) rfl (z := .agg (bs (zer 32))) (by kernel_rfl) rfl h) fun g4 W6 HS6 a6 H6 => ln_ <| nx <| sq_ <| rl_ <| wl_ <| p_ H6 rfl rfl fun a7 H7 => wl_ <| i_ H7 rfl (v := .int .i64 2) (dd_len rfl (H7.ev 12 rfl) Tryd.underlying75) fun a8 H8 => ?_
  clear HS HA0 a0 H1 a1 H2 a2 H3 a3 HS1 H4 a4 HS4 H5 a5 H6 a6
  refine wl_ <| i_ H8 rfl (v := .int .u8 2) (dd_conv (k := .u8) rfl (H8.ev 13 rfl) Tryd.underlying3 (by kernel_rfl) (by decide)) fun a9 H9 => wl_ <| i_ H9 rfl (xA 32 1 0 rfl (H9.ev 4 rfl) rfl) fun a10 H10 => wl_ <| t_ rfl (S := [⟨g2, 36, bs (zer 32)⟩, ⟨g4, 36, bs ((zer 32).set 0 (2#8))⟩]) (fun _ h => dd_put HS6 1 0 rfl rfl (H10.ev 15 rfl) (H10.ev 14 rfl) (by kernel_rfl) rfl rfl (by rw [((size_bs _).trans (length_zer 32))]; rfl) (set_bs _ _ (2#8)) h) fun W11 HS11 => ln_ <| nx <| sq_ <| sq_ <| rl_ <| wl_ <| p_ H10 rfl rfl fun a12 H12 => wl_ <| i_ H12 rfl (v := .int .i64 2) (dd_len rfl (H12.ev 16 rfl) Tryd.underlying75) fun a13 H13 => wl_ <| p_ H13 rfl rfl fun a14 H14 => ln_ <| nx <| wp_block <| wp_unr 3 <| unr_go <| sq_ <| rl_ <| wl_ <| i_ H14 rfl (dd_cmp rfl (H14.ev 18 rfl) (H14.ev 17 rfl) (lt_t (by decide))) fun a15 H15 => ln_ <| nx <| sq_ <| ct_ H15 rfl <| wp_skip <| nx <| sq_ <| wp_block <| sq_ <| rl_ <| wl_ <| p_ H15 rfl rfl fun a16 H16 => ?_
  clear H7 a7 H8 a8 H9 a9 HS6 H10 a10 H12 a12 H13 a13 H14 a14
  refine wl_ <| i_ H16 rfl (xS 2 (o + 0) rfl (H16.ev 16 rfl) (H16.ev 18 rfl)) fun a17 H17 => ?_
  clear H15 a15 H16 a16
  obtain ⟨p19, L19, B19, m19, c19, hg19, hr19, hm19, hp19⟩ := vols_getC hv (k := 0) (by decide)
  refine wl_ <| i_ H17 rfl (v := .agg #[.string (strB p19), .slice B19 m19 c19]) (dd_atN rfl (H17.ev 21 rfl) (hr19 _ HS11.below).1 Tryd.underlying81 rfl (by kernel_rfl)) fun a18 H18 => wl_ <| n_ H18 rfl (fun _ h => dd_new HS11 #[.string (⟨#[]⟩), .slice none 0 0] rfl (z := .agg #[.string (⟨#[]⟩), .slice none 0 0]) (by kernel_rfl) rfl h) fun g6 W20 HS20 a20 H20 => wl_ <| p_ H20 rfl rfl fun a21 H21 => wl_ <| t_ rfl (fun _ h => dd_setrow HS20 2 rfl rfl (H21.ev 6 rfl) (H21.ev 22 rfl) (by kernel_rfl) (rfl : #[.string (strB p19), .slice B19 m19 c19].size = 2) (rfl : #[.string (⟨#[]⟩), .slice none 0 0].size = 2) (one_l (ao_cons rfl (ao_cons rfl ao_nil))) h) fun W22 HS22 => ln_ <| nx <| sq_ <| rl_ <| wl_ <| i_ H21 rfl (v := .agg #[.string (strB p19), .slice B19 m19 c19]) (dd_load HS22 2 0 rfl rfl (H21.ev 6 rfl) (slab_whole _) Tryd.underlying81 rfl (by kernel_rfl)) fun a23 H23 => wl_ <| c_ H23 rfl HS22 (dcs Tryd.func57 rfl (args1 (H23.ev 23 rfl)) (tobytes_any _ _ _ p19 L19 W22 (hr19 _ HS22.below).2 (by have h9 := okT_parts ((goodT_parts hG).2.1 _ _ hg19); simp only at h9; omega)) (.agg (bs (volE (p19, L19))))) fun W24 HS24 a24 H24 => wl_ <| n_ H24 rfl (fun _ h => dd_new HS24 (bs (zer 9)) rfl (z := .agg (bs (zer 9))) (by kernel_rfl) rfl h) fun g7 W25 HS25 a25 H25 => wl_ <| t_ rfl (fun _ h => dd_setrow HS25 3 rfl rfl (H25.ev 7 rfl) (H25.ev 24 rfl) (by kernel_rfl) (((size_bs _).trans (length_volE _)) : (bs (volE (p19, L19))).size = 9) (((size_bs _).trans (length_zer 9)) : (bs (zer 9)).size = 9) (one_bs _) h) fun W26 HS26 => ?_
  clear H17 a17 HS11 H18 a18 H20 a20 HS20 H21 a21 H23 a23 HS22 HS24 H24 a24
  refine ln_ <| ?_
  clear HS25
  have H27 := H25.sel [2, 4, 16, 17, 18, 5, 7] rfl
  refine nx <| ?_
  clear H25
  refine wi_ HS26 [0, 2, 3] rfl [0, 2, 3, 1] rfl fun HSh28 hx28 => hp_ H27 0 hx28 rfl rfl rfl fun a29 H29 => ht_ H29 1 hx28 rfl rfl (v := .int .i64 0) (fun _ _ _ => dd_ari rfl (H29.ev 25 rfl) rfl rfl (by decide)) fun a30 H30 => ht_ H30 2 hx28 rfl rfl (v := .int .i64 1) (fun _ _ _ => dd_ari rfl rfl (H30.ev 26 rfl) rfl (by decide)) fun a31 H31 => ht_ H31 3 hx28 rfl rfl (v := .slice (some ⟨g4, 1, none⟩) 31 31) (fun _ _ _ => dd_slAl (l := 1) (n := 32) (sz := 1) (j := 1) rfl (H31.ev 4 rfl) (H31.ev 27 rfl) (by kernel_rfl) (by decide) rfl rfl) fun a32 H32 => ht_ H32 4 hx28 rfl rfl (v := .slice (some ⟨g7, 0, none⟩) 9 9) (fun _ _ _ => dd_slA (n := 9) (sz := 1) rfl (H32.ev 7 rfl) (by kernel_rfl)) fun a33 H33 => h1_ 5 rfl <| tv H33 rfl (S := [⟨g2, 36, bs (zer 32)⟩, ⟨g4, 36, bs (spl ((zer 32).set 0 (2#8)) 1 (volE (p19, L19)))⟩, ⟨g6, 81, #[.string (strB p19), .slice B19 m19 c19]⟩, ⟨g7, 110, bs (volE (p19, L19))⟩]) (v := .int .i64 9) (fun _ h => dd_copyR HSh28 1 rfl (len_set (length_zer 32)) rfl (H33.ev 28 rfl) (H33.ev 29 rfl) (slice_part (HSh28.row 3 rfl) 0 (bytes_slab (slab_whole _)) (length_volE _) (by decide)) (length_volE _) (by decide) (by decide) h) fun W34 HS34 a34 H34 => sx_ (sxi HS34 [0, 2, 3, 1] rfl) fun hx35 => ?_
  clear HS26 H27 a25 H29 a29 H30 a30 H31 a31 H32 a32 HSh28 H33 a33
  clear hx28
  refine wpAnyH_done (by kernel_rfl) ?_ _
  clear hx35
  refine bn <| nx <| rl_ <| wl_ <| i_ H34 rfl (v := .int .i64 1) (dd_ari rfl (H34.ev 18 rfl) rfl rfl (by decide)) fun a36 H36 => wl_ <| p_ H36 rfl rfl fun a37 H37 => ln_ <| nx <| unr_go <| sq_ <| rl_ <| wl_ <| i_ H37 rfl (dd_cmp rfl (H37.ev 18 rfl) (H37.ev 17 rfl) (lt_t (by decide))) fun a38 H38 => ln_ <| nx <| sq_ <| ct_ H38 rfl <| wp_skip <| nx <| sq_ <| wp_block <| sq_ <| rl_ <| wl_ <| p_ H38 rfl rfl fun a39 H39 => wl_ <| i_ H39 rfl (xS 2 (o + 2) rfl (H39.ev 16 rfl) (H39.ev 18 rfl)) fun a40 H40 => ?_
  clear H34 a34 H36 a36 H37 a37 H38 a38 H39 a39
  obtain ⟨p42, L42, B42, m42, c42, hg42, hr42, hm42, hp42⟩ := vols_getC hv (k := 1) (by decide)
  refine wl_ <| i_ H40 rfl (v := .agg #[.string (strB p42), .slice B42 m42 c42]) (dd_atN rfl (H40.ev 21 rfl) (hr42 _ HS34.below).1 Tryd.underlying81 rfl (by kernel_rfl)) fun a41 H41 => wl_ <| n_ H41 rfl (fun _ h => dd_new HS34 #[.string (⟨#[]⟩), .slice none 0 0] rfl (z := .agg #[.string (⟨#[]⟩), .slice none 0 0]) (by kernel_rfl) rfl h) fun g6_43 W43 HS43 a43 H43 => wl_ <| p_ H43 rfl rfl fun a44 H44 => wl_ <| t_ rfl (fun _ h => dd_setrow HS43 4 rfl rfl (H44.ev 6 rfl) (H44.ev 22 rfl) (by kernel_rfl) (rfl : #[.string (strB p42), .slice B42 m42 c42].size = 2) (rfl : #[.string (⟨#[]⟩), .slice none 0 0].size = 2) (one_l (ao_cons rfl (ao_cons rfl ao_nil))) h) fun W45 HS45 => ln_ <| nx <| sq_ <| rl_ <| wl_ <| i_ H44 rfl (v := .agg #[.string (strB p42), .slice B42 m42 c42]) (dd_load HS45 4 0 rfl rfl (H44.ev 6 rfl) (slab_whole _) Tryd.underlying81 rfl (by kernel_rfl)) fun a46 H46 => wl_ <| c_ H46 rfl HS45 (dcs Tryd.func57 rfl (args1 (H46.ev 23 rfl)) (tobytes_any _ _ _ p42 L42 W45 (hr42 _ HS45.below).2 (by have h9 := okT_parts ((goodT_parts hG).2.1 _ _ hg42); simp only at h9; omega)) (.agg (bs (volE (p42, L42))))) fun W47 HS47 a47 H47 => wl_ <| n_ H47 rfl (fun _ h => dd_new HS47 (bs (zer 9)) rfl (z := .agg (bs (zer 9))) (by kernel_rfl) rfl h) fun g7_48 W48 HS48 a48 H48 => wl_ <| t_ rfl (fun _ h => dd_setrow HS48 5 rfl rfl (H48.ev 7 rfl) (H48.ev 24 rfl) (by kernel_rfl) (((size_bs _).trans (length_volE _)) : (bs (volE (p42, L42))).size = 9) (((size_bs _).trans (length_zer 9)) : (bs (zer 9)).size = 9) (one_bs _) h) fun W49 HS49 => ?_
  clear H40 a40 HS34 H41 a41 H43 a43 HS43 H44 a44 H46 a46 HS45 HS47 H47 a47
  refine ln_ <| nx <| ?_
  clear HS48
  refine wi_ HS49 [0, 2, 3, 4, 5] rfl [0, 2, 3, 4, 5, 1] rfl fun HSh50 hx50 => hp_ H48 0 hx50 rfl rfl rfl fun a51 H51 => ht_ H51 1 hx50 rfl rfl (v := .int .i64 9) (fun _ _ _ => dd_ari rfl (H51.ev 25 rfl) rfl rfl (by decide)) fun a52 H52 => ht_ H52 2 hx50 rfl rfl (v := .int .i64 10) (fun _ _ _ => dd_ari rfl rfl (H52.ev 26 rfl) rfl (by decide)) fun a53 H53 => ht_ H53 3 hx50 rfl rfl (v := .slice (some ⟨g4, 10, none⟩) 22 22) (fun _ _ _ => dd_slAl (l := 10) (n := 32) (sz := 1) (j := 10) rfl (H53.ev 4 rfl) (H53.ev 27 rfl) (by kernel_rfl) (by decide) rfl rfl) fun a54 H54 => ht_ H54 4 hx50 rfl rfl (v := .slice (some ⟨g7_48, 0, none⟩) 9 9) (fun _ _ _ => dd_slA (n := 9) (sz := 1) rfl (H54.ev 7 rfl) (by kernel_rfl)) fun a55 H55 => h1_ 5 rfl <| tv H55 rfl (S := [⟨g2, 36, bs (zer 32)⟩, ⟨g4, 36, bs (spl (spl ((zer 32).set 0 (2#8)) 1 (volE (p19, L19))) 10 (volE (p42, L42)))⟩, ⟨g6, 81, #[.string (strB p19), .slice B19 m19 c19]⟩, ⟨g7, 110, bs (volE (p19, L19))⟩, ⟨g6_43, 81, #[.string (strB p42), .slice B42 m42 c42]⟩, ⟨g7_48, 110, bs (volE (p42, L42))⟩]) (v := .int .i64 9) (fun _ h => dd_copyR HSh50 1 rfl (len_spl (len_set (length_zer 32)) (length_volE _) (by decide)) rfl (H55.ev 28 rfl) (H55.ev 29 rfl) (slice_part (HSh50.row 5 rfl) 0 (bytes_slab (slab_whole _)) (length_volE _) (by decide)) (length_volE _) (by decide) (by decide) h) fun W56 HS56 a56 H56 => sx_ (sxi HS56 [0, 2, 3, 4, 5, 1] rfl) fun hx57 => ?_
  clear HS49 H48 a48 H51 a51 H52 a52 H53 a53 H54 a54 HSh50 H55 a55
  clear hx50
  refine wpAnyH_done (by kernel_rfl) ?_ _
  clear hx57
  refine bn <| nx <| rl_ <| wl_ <| i_ H56 rfl (v := .int .i64 2) (dd_ari rfl (H56.ev 18 rfl) rfl rfl (by decide)) fun a58 H58 => wl_ <| p_ H58 rfl rfl fun a59 H59 => ln_ <| ?_
  clear H56 a56 H58 a58
  have H60 := H59.sel [2, 4, 16, 17, 18] rfl
  refine nx <| unr_go <| sq_ <| rl_ <| wl_ <| i_ H60 rfl (dd_cmp rfl (H60.ev 18 rfl) (H60.ev 17 rfl) (lt_f (by decide))) fun a61 H61 => ln_ <| nx <| sq_ <| cf_ H61 rfl <| wp_exit <| tx <| tx <| bx <| nx <| sq_ <| rl_ <| wl_ <| i_ H61 rfl (v := .agg (bs (spl (spl ((zer 32).set 0 (2#8)) 1 (volE (p19, L19))) 10 (volE (p42, L42))))) (dd_load HS56 1 0 rfl rfl (H61.ev 4 rfl) (slab_whole _) Tryd.underlying36 rfl (by rw [show (bs (spl (spl ((zer 32).set 0 (2#8)) 1 (volE (p19, L19))) 10 (volE (p42, L42)))).size = 32 from ((size_bs _).trans (len_spl (len_spl (len_set (length_zer 32)) (length_volE _) (by decide)) (length_volE _) (by decide)))]; kernel_rfl)) fun a62 H62 => wl_ <| t_ rfl (fun _ h => dd_setrow HS56 0 rfl rfl (H62.ev 2 rfl) (H62.ev 32 rfl) (by kernel_rfl) (((size_bs _).trans (len_spl (len_spl (len_set (length_zer 32)) (length_volE _) (by decide)) (length_volE _) (by decide))) : (bs (spl (spl ((zer 32).set 0 (2#8)) 1 (volE (p19, L19))) 10 (volE (p42, L42)))).size = 32) (((size_bs _).trans (length_zer 32)) : (bs (zer 32)).size = 32) (one_bs _) h) fun W63 HS63 => wl_ <| p_ H62 rfl rfl fun a64 H64 => ln_ <| nx <| wp_ret <| ret_run H64.env0 (res_ct Tryd.results48 (H64.get 2 rfl) (HS63.row 0 rfl) Tryd.underlying36 rfl (by rw [show (bs (spl (spl ((zer 32).set 0 (2#8)) 1 (volE (p19, L19))) 10 (volE (p42, L42)))).size = 32 from ((size_bs _).trans (len_spl (len_spl (len_set (length_zer 32)) (length_volE _) (by decide)) (length_volE _) (by decide)))]; kernel_rfl) (H64.get 3 rfl)) <| ?_
  clear H59 H60 a59 H61 a61 HS56 H62 a62
  have hl : l = [(p19, L19), (p42, L42)] := tvs_2 hln hg19 hg42
  exact ⟨by unfold encT encE; rw [hG, if_pos rfl, if_pos rfl, hl, ← encB_2], HS63.below⟩
set_option maxHeartbeats 1600000 in
theorem enct3 (b o c : Nat) (l : List Tv) (w : World) (hv : VolsAt w (.slice (some ⟨b, o, none⟩) 3 c) (volL l)) (hml : ∀ x ∈ l, x.2.length ≤ 1000000) (hG : goodT l = true) :
    Calls Tryd.prog 48 #[.slice (some ⟨b, o, none⟩) 3 c] w fun e w' => e = .returned (.tuple #[.agg (bs (encT l)), .int .i64 (encE l)]) ∧ Below w.heap.size w w' := by
  have HS := St.nil w noF
  have hn : 3 ≤ 1000000 := by decide
  have hln : l.length = 3 := by rw [← len_volL]; exact vols_len hv
  refine enter_en Tryd.func48 rfl Tryd.ntmps48 (Nat.le_of_ble_eq_true rfl) fun a0 (HA0 : En 33 [(0, .slice (some ⟨b, o, none⟩) 3 c)] a0) => ?_
  refine sq_ <| rl_ <| wl_ <| n_ HA0 rfl (fun _ h => dd_new HS (bs (zer 32)) rfl (z := .agg (bs (zer 32))) (by kernel_rfl) rfl h) fun g2 W1 HS1 a1 H1 => wl_ <| p_ H1 rfl rfl fun a2 H2 => ln_ <| nx <| sq_ <| sq_ <| rl_ <| wl_ <| p_ H2 rfl rfl fun a3 H3 => wl_ <| c_ H3 rfl HS1 (v := .bool true) (dc_ Tryd.func56 rfl (args1 (H3.ev 8 rfl)) (goodt_any _ _ _ l W1 (hv.below HS1.below (Nat.le_refl _)) hn hml) (fun _ w9 h9 => ⟨_, h9.1, by rw [hG], h9.2⟩)) fun W4 HS4 a4 H4 => wl_ <| i_ H4 rfl (v := .bool false) (dd_nt rfl (H4.ev 9 rfl) rfl) fun a5 H5 => ln_ <| nx <| cf_ H5 rfl <| wp_skip <| nx <| sq_ <| rl_ <| wl_ <| n_ H5 rfl (fun _ h => dd_new HS4 (bs (zer 32)) rfl (z := .agg (bs (zer 32))) (by kernel_rfl) rfl h) fun g4 W6 HS6 a6 H6 => ln_ <| nx <| sq_ <| rl_ <| wl_ <| p_ H6 rfl rfl fun a7 H7 => wl_ <| i_ H7 rfl (v := .int .i64 3) (dd_len rfl (H7.ev 12 rfl) Tryd.underlying75) fun a8 H8 => ?_
  clear HS HA0 a0 H1 a1 H2 a2 H3 a3 HS1 H4 a4 HS4 H5 a5 H6 a6
  refine wl_ <| i_ H8 rfl (v := .int .u8 3) (dd_conv (k := .u8) rfl (H8.ev 13 rfl) Tryd.underlying3 (by kernel_rfl) (by decide)) fun a9 H9 => wl_ <| i_ H9 rfl (xA 32 1 0 rfl (H9.ev 4 rfl) rfl) fun a10 H10 => wl_ <| t_ rfl (S := [⟨g2, 36, bs (zer 32)⟩, ⟨g4, 36, bs ((zer 32).set 0 (3#8))⟩]) (fun _ h => dd_put HS6 1 0 rfl rfl (H10.ev 15 rfl) (H10.ev 14 rfl) (by kernel_rfl) rfl rfl (by rw [((size_bs _).trans (length_zer 32))]; rfl) (set_bs _ _ (3#8)) h) fun W11 HS11 => ln_ <| nx <| sq_ <| sq_ <| rl_ <| wl_ <| p_ H10 rfl rfl fun a12 H12 => wl_ <| i_ H12 rfl (v := .int .i64 3) (dd_len rfl (H12.ev 16 rfl) Tryd.underlying75) fun a13 H13 => wl_ <| p_ H13 rfl rfl fun a14 H14 => ln_ <| nx <| wp_block <| wp_unr 4 <| unr_go <| sq_ <| rl_ <| wl_ <| i_ H14 rfl (dd_cmp rfl (H14.ev 18 rfl) (H14.ev 17 rfl) (lt_t (by decide))) fun a15 H15 => ln_ <| nx <| sq_ <| ct_ H15 rfl <| wp_skip <| nx <| sq_ <| wp_block <| sq_ <| rl_ <| wl_ <| p_ H15 rfl rfl fun a16 H16 => ?_
  clear H7 a7 H8 a8 H9 a9 HS6 H10 a10 H12 a12 H13 a13 H14 a14
  refine wl_ <| i_ H16 rfl (xS 2 (o + 0) rfl (H16.ev 16 rfl) (H16.ev 18 rfl)) fun a17 H17 => ?_
  clear H15 a15 H16 a16
  obtain ⟨p19, L19, B19, m19, c19, hg19, hr19, hm19, hp19⟩ := vols_getC hv (k := 0) (by decide)
  refine wl_ <| i_ H17 rfl (v := .agg #[.string (strB p19), .slice B19 m19 c19]) (dd_atN rfl (H17.ev 21 rfl) (hr19 _ HS11.below).1 Tryd.underlying81 rfl (by kernel_rfl)) fun a18 H18 => wl_ <| n_ H18 rfl (fun _ h => dd_new HS11 #[.string (⟨#[]⟩), .slice none 0 0] rfl (z := .agg #[.string (⟨#[]⟩), .slice none 0 0]) (by kernel_rfl) rfl h) fun g6 W20 HS20 a20 H20 => wl_ <| p_ H20 rfl rfl fun a21 H21 => wl_ <| t_ rfl (fun _ h => dd_setrow HS20 2 rfl rfl (H21.ev 6 rfl) (H21.ev 22 rfl) (by kernel_rfl) (rfl : #[.string (strB p19), .slice B19 m19 c19].size = 2) (rfl : #[.string (⟨#[]⟩), .slice none 0 0].size = 2) (one_l (ao_cons rfl (ao_cons rfl ao_nil))) h) fun W22 HS22 => ln_ <| nx <| sq_ <| rl_ <| wl_ <| i_ H21 rfl (v := .agg #[.string (strB p19), .slice B19 m19 c19]) (dd_load HS22 2 0 rfl rfl (H21.ev 6 rfl) (slab_whole _) Tryd.underlying81 rfl (by kernel_rfl)) fun a23 H23 => wl_ <| c_ H23 rfl HS22 (dcs Tryd.func57 rfl (args1 (H23.ev 23 rfl)) (tobytes_any _ _ _ p19 L19 W22 (hr19 _ HS22.below).2 (by have h9 := okT_parts ((goodT_parts hG).2.1 _ _ hg19); simp only at h9; omega)) (.agg (bs (volE (p19, L19))))) fun W24 HS24 a24 H24 => wl_ <| n_ H24 rfl (fun _ h => dd_new HS24 (bs (zer 9)) rfl (z := .agg (bs (zer 9))) (by kernel_rfl) rfl h) fun g7 W25 HS25 a25 H25 => wl_ <| t_ rfl (fun _ h => dd_setrow HS25 3 rfl rfl (H25.ev 7 rfl) (H25.ev 24 rfl) (by kernel_rfl) (((size_bs _).trans (length_volE _)) : (bs (volE (p19, L19))).size = 9) (((size_bs _).trans (length_zer 9)) : (bs (zer 9)).size = 9) (one_bs _) h) fun W26 HS26 => ?_
  clear H17 a17 HS11 H18 a18 H20 a20 HS20 H21 a21 H23 a23 HS22 HS24 H24 a24
  refine ln_ <| ?_
  clear HS25
  have H27 := H25.sel [2, 4, 16, 17, 18, 5, 7] rfl
  refine nx <| ?_
  clear H25
  refine wi_ HS26 [0, 2, 3] rfl [0, 2, 3, 1] rfl fun HSh28 hx28 => hp_ H27 0 hx28 rfl rfl rfl fun a29 H29 => ht_ H29 1 hx28 rfl rfl (v := .int .i64 0) (fun _ _ _ => dd_ari rfl (H29.ev 25 rfl) rfl rfl (by decide)) fun a30 H30 => ht_ H30 2 hx28 rfl rfl (v := .int .i64 1) (fun _ _ _ => dd_ari rfl rfl (H30.ev 26 rfl) rfl (by decide)) fun a31 H31 => ht_ H31 3 hx28 rfl rfl (v := .slice (some ⟨g4, 1, none⟩) 31 31) (fun _ _ _ => dd_slAl (l := 1) (n := 32) (sz := 1) (j := 1) rfl (H31.ev 4 rfl) (H31.ev 27 rfl) (by kernel_rfl) (by decide) rfl rfl) fun a32 H32 => ht_ H32 4 hx28 rfl rfl (v := .slice (some ⟨g7, 0, none⟩) 9 9) (fun _ _ _ => dd_slA (n := 9) (sz := 1) rfl (H32.ev 7 rfl) (by kernel_rfl)) fun a33 H33 => h1_ 5 rfl <| tv H33 rfl (S := [⟨g2, 36, bs (zer 32)⟩, ⟨g4, 36, bs (spl ((zer 32).set 0 (3#8)) 1 (volE (p19, L19)))⟩, ⟨g6, 81, #[.string (strB p19), .slice B19 m19 c19]⟩, ⟨g7, 110, bs (volE (p19, L19))⟩]) (v := .int .i64 9) (fun _ h => dd_copyR HSh28 1 rfl (len_set (length_zer 32)) rfl (H33.ev 28 rfl) (H33.ev 29 rfl) (slice_part (HSh28.row 3 rfl) 0 (bytes_slab (slab_whole _)) (length_volE _) (by decide)) (length_volE _) (by decide) (by decide) h) fun W34 HS34 a34 H34 => sx_ (sxi HS34 [0, 2, 3, 1] rfl) fun hx35 => ?_
  clear HS26 H27 a25 H29 a29 H30 a30 H31 a31 H32 a32 HSh28 H33 a33
  clear hx28
  refine wpAnyH_done (by kernel_rfl) ?_ _
  clear hx35
  refine bn <| nx <| rl_ <| wl_ <| i_ H34 rfl (v := .int .i64 1) (dd_ari rfl (H34.ev 18 rfl) rfl rfl (by decide)) fun a36 H36 => wl_ <| p_ H36 rfl rfl fun a37 H37 => ln_ <| nx <| unr_go <| sq_ <| rl_ <| wl_ <| i_ H37 rfl (dd_cmp rfl (H37.ev 18 rfl) (H37.ev 17 rfl) (lt_t (by decide))) fun a38 H38 => ln_ <| nx <| sq_ <| ct_ H38 rfl <| wp_skip <| nx <| sq_ <| wp_block <| sq_ <| rl_ <| wl_ <| p_ H38 rfl rfl fun a39 H39 => wl_ <| i_ H39 rfl (xS 2 (o + 2) rfl (H39.ev 16 rfl) (H39.ev 18 rfl)) fun a40 H40 => ?_
  clear H34 a34 H36 a36 H37 a37 H38 a38 H39 a39
  obtain ⟨p42, L42, B42, m42, c42, hg42, hr42, hm42, hp42⟩ := vols_getC hv (k := 1) (by decide)
  refine wl_ <| i_ H40 rfl (v := .agg #[.string (strB p42), .slice B42 m42 c42]) (dd_atN rfl (H40.ev 21 rfl) (hr42 _ HS34.below).1 Tryd.underlying81 rfl (by kernel_rfl)) fun a41 H41 => wl_ <| n_ H41 rfl (fun _ h => dd_new HS34 #[.string (⟨#[]⟩), .slice none 0 0] rfl (z := .agg #[.string (⟨#[]⟩), .slice none 0 0]) (by kernel_rfl) rfl h) fun g6_43 W43 HS43 a43 H43 => wl_ <| p_ H43 rfl rfl fun a44 H44 => wl_ <| t_ rfl (fun _ h => dd_setrow HS43 4 rfl rfl (H44.ev 6 rfl) (H44.ev 22 rfl) (by kernel_rfl) (rfl : #[.string (strB p42), .slice B42 m42 c42].size = 2) (rfl : #[.string (⟨#[]⟩), .slice none 0 0].size = 2) (one_l (ao_cons rfl (ao_cons rfl ao_nil))) h) fun W45 HS45 => ln_ <| nx <| sq_ <| rl_ <| wl_ <| i_ H44 rfl (v := .agg #[.string (strB p42), .slice B42 m42 c42]) (dd_load HS45 4 0 rfl rfl (H44.ev 6 rfl) (slab_whole _) Tryd.underlying81 rfl (by kernel_rfl)) fun a46 H46 => wl_ <| c_ H46 rfl HS45 (dcs Tryd.func57 rfl (args1 (H46.ev 23 rfl)) (tobytes_any _ _ _ p42 L42 W45 (hr42 _ HS45.below).2 (by have h9 := okT_parts ((goodT_parts hG).2.1 _ _ hg42); simp only at h9; omega)) (.agg (bs (volE (p42, L42))))) fun W47 HS47 a47 H47 => wl_ <| n_ H47 rfl (fun _ h => dd_new HS47 (bs (zer 9)) rfl (z := .agg (bs (zer 9))) (by kernel_rfl) rfl h) fun g7_48 W48 HS48 a48 H48 => wl_ <| t_ rfl (fun _ h => dd_setrow HS48 5 rfl rfl (H48.ev 7 rfl) (H48.ev 24 rfl) (by kernel_rfl) (((size_bs _).trans (length_volE _)) : (bs (volE (p42, L42))).size = 9) (((size_bs _).trans (length_zer 9)) : (bs (zer 9)).size = 9) (one_bs _) h) fun W49 HS49 => ?_
  clear H40 a40 HS34 H41 a41 H43 a43 HS43 H44 a44 H46 a46 HS45 HS47 H47 a47
  refine ln_ <| nx <| ?_
  clear HS48
  refine wi_ HS49 [0, 2, 3, 4, 5] rfl [0, 2, 3, 4, 5, 1] rfl fun HSh50 hx50 => hp_ H48 0 hx50 rfl rfl rfl fun a51 H51 => ht_ H51 1 hx50 rfl rfl (v := .int .i64 9) (fun _ _ _ => dd_ari rfl (H51.ev 25 rfl) rfl rfl (by decide)) fun a52 H52 => ht_ H52 2 hx50 rfl rfl (v := .int .i64 10) (fun _ _ _ => dd_ari rfl rfl (H52.ev 26 rfl) rfl (by decide)) fun a53 H53 => ht_ H53 3 hx50 rfl rfl (v := .slice (some ⟨g4, 10, none⟩) 22 22) (fun _ _ _ => dd_slAl (l := 10) (n := 32) (sz := 1) (j := 10) rfl (H53.ev 4 rfl) (H53.ev 27 rfl) (by kernel_rfl) (by decide) rfl rfl) fun a54 H54 => ht_ H54 4 hx50 rfl rfl (v := .slice (some ⟨g7_48, 0, none⟩) 9 9) (fun _ _ _ => dd_slA (n := 9) (sz := 1) rfl (H54.ev 7 rfl) (by kernel_rfl)) fun a55 H55 => h1_ 5 rfl <| tv H55 rfl (S := [⟨g2, 36, bs (zer 32)⟩, ⟨g4, 36, bs (spl (spl ((zer 32).set 0 (3#8)) 1 (volE (p19, L19))) 10 (volE (p42, L42)))⟩, ⟨g6, 81, #[.string (strB p19), .slice B19 m19 c19]⟩, ⟨g7, 110, bs (volE (p19, L19))⟩, ⟨g6_43, 81, #[.string (strB p42), .slice B42 m42 c42]⟩, ⟨g7_48, 110, bs (volE (p42, L42))⟩]) (v := .int .i64 9) (fun _ h => dd_copyR HSh50 1 rfl (len_spl (len_set (length_zer 32)) (length_volE _) (by decide)) rfl (H55.ev 28 rfl) (H55.ev 29 rfl) (slice_part (HSh50.row 5 rfl) 0 (bytes_slab (slab_whole _)) (length_volE _) (by decide)) (length_volE _) (by decide) (by decide) h) fun W56 HS56 a56 H56 => sx_ (sxi HS56 [0, 2, 3, 4, 5, 1] rfl) fun hx57 => ?_
  clear HS49 H48 a48 H51 a51 H52 a52 H53 a53 H54 a54 HSh50 H55 a55
  clear hx50
  refine wpAnyH_done (by kernel_rfl) ?_ _
  clear hx57
  refine bn <| nx <| rl_ <| wl_ <| i_ H56 rfl (v := .int .i64 2) (dd_ari rfl (H56.ev 18 rfl) rfl rfl (by decide)) fun a58 H58 => wl_ <| p_ H58 rfl rfl fun a59 H59 => ln_ <| ?_
  clear H56 a56 H58 a58
  have H60 := H59.sel [2, 4, 16, 17, 18] rfl
  refine nx <| unr_go <| sq_ <| rl_ <| wl_ <| i_ H60 rfl (dd_cmp rfl (H60.ev 18 rfl) (H60.ev 17 rfl) (lt_t (by decide))) fun a61 H61 => ln_ <| nx <| sq_ <| ct_ H61 rfl <| wp_skip <| nx <| sq_ <| wp_block <| sq_ <| rl_ <| wl_ <| p_ H61 rfl rfl fun a62 H62 => wl_ <| i_ H62 rfl (xS 2 (o + 4) rfl (H62.ev 16 rfl) (H62.ev 18 rfl)) fun a63 H63 => ?_
  clear H59 H60 a59 H61 a61 H62 a62
  obtain ⟨p65, L65, B65, m65, c65, hg65, hr65, hm65, hp65⟩ := vols_getC hv (k := 2) (by decide)
  refine wl_ <| i_ H63 rfl (v := .agg #[.string (strB p65), .slice B65 m65 c65]) (dd_atN rfl (H63.ev 21 rfl) (hr65 _ HS56.below).1 Tryd.underlying81 rfl (by kernel_rfl)) fun a64 H64 => wl_ <| n_ H64 rfl (fun _ h => dd_new HS56 #[.string (⟨#[]⟩), .slice none 0 0] rfl (z := .agg #[.string (⟨#[]⟩), .slice none 0 0]) (by kernel_rfl) rfl h) fun g6_66 W66 HS66 a66 H66 => wl_ <| p_ H66 rfl rfl fun a67 H67 => wl_ <| t_ rfl (fun _ h => dd_setrow HS66 6 rfl rfl (H67.ev 6 rfl) (H67.ev 22 rfl) (by kernel_rfl) (rfl : #[.string (strB p65), .slice B65 m65 c65].size = 2) (rfl : #[.string (⟨#[]⟩), .slice none 0 0].size = 2) (one_l (ao_cons rfl (ao_cons rfl ao_nil))) h) fun W68 HS68 => ln_ <| nx <| sq_ <| rl_ <| wl_ <| i_ H67 rfl (v := .agg #[.string (strB p65), .slice B65 m65 c65]) (dd_load HS68 6 0 rfl rfl (H67.ev 6 rfl) (slab_whole _) Tryd.underlying81 rfl (by kernel_rfl)) fun a69 H69 => wl_ <| c_ H69 rfl HS68 (dcs Tryd.func57 rfl (args1 (H69.ev 23 rfl)) (tobytes_any _ _ _ p65 L65 W68 (hr65 _ HS68.below).2 (by have h9 := okT_parts ((goodT_parts hG).2.1 _ _ hg65); simp only at h9; omega)) (.agg (bs (volE (p65, L65))))) fun W70 HS70 a70 H70 => wl_ <| n_ H70 rfl (fun _ h => dd_new HS70 (bs (zer 9)) rfl (z := .agg (bs (zer 9))) (by kernel_rfl) rfl h) fun g7_71 W71 HS71 a71 H71 => wl_ <| t_ rfl (fun _ h => dd_setrow HS71 7 rfl rfl (H71.ev 7 rfl) (H71.ev 24 rfl) (by kernel_rfl) (((size_bs _).trans (length_volE _)) : (bs (volE (p65, L65))).size = 9) (((size_bs _).trans (length_zer 9)) : (bs (zer 9)).size = 9) (one_bs _) h) fun W72 HS72 => ?_
  clear H63 a63 HS56 H64 a64 H66 a66 HS66 H67 a67 H69 a69 HS68 HS70 H70 a70
  refine ln_ <| nx <| ?_
  clear HS71
  refine wi_ HS72 [0, 2, 3, 4, 5, 6, 7] rfl [0, 2, 3, 4, 5, 6, 7, 1] rfl fun HSh73 hx73 => hp_ H71 0 hx73 rfl rfl rfl fun a74 H74 => ht_ H74 1 hx73 rfl rfl (v := .int .i64 18) (fun _ _ _ => dd_ari rfl (H74.ev 25 rfl) rfl rfl (by decide)) fun a75 H75 => ht_ H75 2 hx73 rfl rfl (v := .int .i64 19) (fun _ _ _ => dd_ari rfl rfl (H75.ev 26 rfl) rfl (by decide)) fun a76 H76 => ht_ H76 3 hx73 rfl rfl (v := .slice (some ⟨g4, 19, none⟩) 13 13) (fun _ _ _ => dd_slAl (l := 19) (n := 32) (sz := 1) (j := 19) rfl (H76.ev 4 rfl) (H76.ev 27 rfl) (by kernel_rfl) (by decide) rfl rfl) fun a77 H77 => ht_ H77 4 hx73 rfl rfl (v := .slice (some ⟨g7_71, 0, none⟩) 9 9) (fun _ _ _ => dd_slA (n := 9) (sz := 1) rfl (H77.ev 7 rfl) (by kernel_rfl)) fun a78 H78 => h1_ 5 rfl <| tv H78 rfl (S := [⟨g2, 36, bs (zer 32)⟩, ⟨g4, 36, bs (spl (spl (spl ((zer 32).set 0 (3#8)) 1 (volE (p19, L19))) 10 (volE (p42, L42))) 19 (volE (p65, L65)))⟩, ⟨g6, 81, #[.string (strB p19), .slice B19 m19 c19]⟩, ⟨g7, 110, bs (volE (p19, L19))⟩, ⟨g6_43, 81, #[.string (strB p42), .slice B42 m42 c42]⟩, ⟨g7_48, 110, bs (volE (p42, L42))⟩, ⟨g6_66, 81, #[.string (strB p65), .slice B65 m65 c65]⟩, ⟨g7_71, 110, bs (volE (p65, L65))⟩]) (v := .int .i64 9) (fun _ h => dd_copyR HSh73 1 rfl (len_spl (len_spl (len_set (length_zer 32)) (length_volE _) (by decide)) (length_volE _) (by decide)) rfl (H78.ev 28 rfl) (H78.ev 29 rfl) (slice_part (HSh73.row 7 rfl) 0 (bytes_slab (slab_whole _)) (length_volE _) (by decide)) (length_volE _) (by decide) (by decide) h) fun W79 HS79 a79 H79 => sx_ (sxi HS79 [0, 2, 3, 4, 5, 6, 7, 1] rfl) fun hx80 => ?_
  clear HS72 H71 a71 H74 a74 H75 a75 H76 a76 H77 a77 HSh73 H78 a78
  clear hx73
  refine wpAnyH_done (by kernel_rfl) ?_ _
  clear hx80
  refine bn <| nx <| rl_ <| wl_ <| i_ H79 rfl (v := .int .i64 3) (dd_ari rfl (H79.ev 18 rfl) rfl rfl (by decide)) fun a81 H81 => wl_ <| p_ H81 rfl rfl fun a82 H82 => ln_ <| ?_
  clear H79 a79 H81 a81
  have H83 := H82.sel [2, 4, 16, 17, 18] rfl
  refine nx <| unr_go <| sq_ <| rl_ <| wl_ <| i_ H83 rfl (dd_cmp rfl (H83.ev 18 rfl) (H83.ev 17 rfl) (lt_f (by decide))) fun a84 H84 => ln_ <| nx <| sq_ <| cf_ H84 rfl <| wp_exit <| tx <| tx <| bx <| nx <| sq_ <| rl_ <| wl_ <| i_ H84 rfl (v := .agg (bs (spl (spl (spl ((zer 32).set 0 (3#8)) 1 (volE (p19, L19))) 10 (volE (p42, L42))) 19 (volE (p65, L65))))) (dd_load HS79 1 0 rfl rfl (H84.ev 4 rfl) (slab_whole _) Tryd.underlying36 rfl (by rw [show (bs (spl (spl (spl ((zer 32).set 0 (3#8)) 1 (volE (p19, L19))) 10 (volE (p42, L42))) 19 (volE (p65, L65)))).size = 32 from ((size_bs _).trans (len_spl (len_spl (len_spl (len_set (length_zer 32)) (length_volE _) (by decide)) (length_volE _) (by decide)) (length_volE _) (by decide)))]; kernel_rfl)) fun a85 H85 => wl_ <| t_ rfl (fun _ h => dd_setrow HS79 0 rfl rfl (H85.ev 2 rfl) (H85.ev 32 rfl) (by kernel_rfl) (((size_bs _).trans (len_spl (len_spl (len_spl (len_set (length_zer 32)) (length_volE _) (by decide)) (length_volE _) (by decide)) (length_volE _) (by decide))) : (bs (spl (spl (spl ((zer 32).set 0 (3#8)) 1 (volE (p19, L19))) 10 (volE (p42, L42))) 19 (volE (p65, L65)))).size = 32) (((size_bs _).trans (length_zer 32)) : (bs (zer 32)).size = 32) (one_bs _) h) fun W86 HS86 => wl_ <| p_ H85 rfl rfl fun a87 H87 => ln_ <| nx <| wp_ret <| ret_run H87.env0 (res_ct Tryd.results48 (H87.get 2 rfl) (HS86.row 0 rfl) Tryd.underlying36 rfl (by rw [show (bs (spl (spl (spl ((zer 32).set 0 (3#8)) 1 (volE (p19, L19))) 10 (volE (p42, L42))) 19 (volE (p65, L65)))).size = 32 from ((size_bs _).trans (len_spl (len_spl (len_spl (len_set (length_zer 32)) (length_volE _) (by decide)) (length_volE _) (by decide)) (length_volE _) (by decide)))]; kernel_rfl) (H87.get 3 rfl)) <| ?_
  clear H82 H83 a82 H84 a84 HS79 H85 a85
  have hl : l = [(p19, L19), (p42, L42), (p65, L65)] := tvs_3 hln hg19 hg42 hg65
  exact ⟨by unfold encT encE; rw [hG, if_pos rfl, if_pos rfl, hl, ← encB_3], HS86.below⟩
theorem enct_any (A : Option Addr) (n c : Nat) (l : List Tv) (w : World) (hv : VolsAt w (.slice A n c) (volL l)) (hn : n ≤ 1000000) (hml : ∀ x ∈ l, x.2.length ≤ 1000000) :
    Calls Tryd.prog 48 #[.slice A n c] w fun e w' => e = .returned (.tuple #[.agg (bs (encT l)), .int .i64 (encE l)]) ∧ Below w.heap.size w w' := by
  cases hG : goodT l with
  | false => exact enct_bad A n c l w hv hn hml hG
  | true =>
    have hln : l.length = n := by rw [← len_volL]; exact vols_len hv
    have h3 := (goodT_parts hG).1
    rcases (by omega : n = 0 ∨ n = 1 ∨ n = 2 ∨ n = 3) with rfl | rfl | rfl | rfl
    · exact enct0 c A l w hv hml hG
    · obtain ⟨b, o, rfl⟩ := vols_some hv (by decide); exact enct1 b o c l w hv hml hG
    · obtain ⟨b, o, rfl⟩ := vols_some hv (by decide); exact enct2 b o c l w hv hml hG
    · obtain ⟨b, o, rfl⟩ := vols_some hv (by decide); exact enct3 b o c l w hv hml hG
end Go.Proofs.YtnmaplgodimohaaDoor

/- The volumes of a block: the program's. -/
set_option maxRecDepth 4000
namespace Go.Proofs.YtnmaplgodimohaaDoor
open Go Go.RowKit
theorem get_nilP {α : Type} {P : Nat → α → Prop} : ∀ (k : Nat) (x : α), ([] : List α)[k]? = some x → P k x := fun k x h => by simp at h
theorem get_consP {α : Type} {P : Nat → α → Prop} {a : α} {l : List α} (h0 : P 0 a) (t : ∀ (k : Nat) (x : α), l[k]? = some x → P (k + 1) x) : ∀ (k : Nat) (x : α), (a :: l)[k]? = some x → P k x := fun k x h => by
  cases k with
  | zero => have h : a = x := by simpa using h
            subst h; exact h0
  | succ k => exact t k x (by simpa using h)
theorem own_rowI {w : World} {g base : Nat} {L : List Int} (h : Row w g 3 (intsV L).toArray) (hb : base ≤ g) (hm : L.length ≤ maxLen) : w.ownsRow base 3 1 (.slice (some ⟨g, 0, none⟩) L.length L.length) L.length (intsV L) :=
  ⟨by rw [len_intsV, Nat.mul_one], .inr ⟨g, L.length, _, rfl, hb, h, Nat.le_refl _, hm, by simp [intsV], by show (intsV L).take (L.length * 1) = intsV L; exact List.take_of_length_le (by rw [len_intsV]; omega)⟩⟩
theorem ints_rowI {w : World} {g : Nat} {L : List Int} (h : Row w g 3 (intsV L).toArray) (hm : L.length ≤ maxLen) (hb : ∀ x ∈ L, -9223372036854775808 ≤ x ∧ x < 9223372036854775808) : IntsAt w (.slice (some ⟨g, 0, none⟩) L.length L.length) L :=
  ints_own (own_rowI h (Nat.zero_le g) hm) hb
theorem volAt_of {w : World} {A : Option Addr} {c : Nat} {p : List (BitVec 8)} {L : List Int} (hi : IntsAt w (.slice A L.length c) L) (hp : p.length ≤ maxLen) : VolAt w [.string (strB p), .slice A L.length c] (strB p, L) := ⟨A, c, rfl, hi, by rw [strB_size]; exact hp⟩
theorem cellsV_nil (base : Nat) (W : World) : CellsV base W [] [] := ⟨rfl, (fun c h => by cases h), (fun j x h => by simp at h)⟩
theorem cellsV_cons {base : Nat} {W : World} {vs : List (List Value)} {l : List Vl} {A : Option Addr} {c : Nat} {p : List (BitVec 8)} {L : List Int} (hi : InV base W A c L) (hp : p.length ≤ maxLen) (t : CellsV base W vs l) : CellsV base W ([.string (strB p), .slice A L.length c] :: vs) ((strB p, L) :: l) :=
  ⟨by simp [t.1], (fun d hd => by
    cases hd with
    | head => rfl
    | tail _ hd => exact t.2.1 d hd), fun j x hx => by
    cases j with
    | zero => have hx : (strB p, L) = x := by simpa using hx
              subst hx; exact ⟨A, c, rfl, hi, by rw [strB_size]; exact hp⟩
    | succ j => simpa using t.2.2 j x (by simpa using hx)⟩
/- the volumes of a block -/
def decQ (q : List (BitVec 8)) : List Tv := (List.range (q.getD 0 0#8).toNat).map fun i => volQ ((q.drop (1 + 9 * i)).take 9)
def okD (q : List (BitVec 8)) : Bool := decide ((q.getD 0 0#8).toNat ≤ 3) && (goodT (decQ q) && decide (encT (decQ q) = q))
def decLT (q : List (BitVec 8)) : List Tv := if okD q then decQ q else []
def decE (q : List (BitVec 8)) : Int := if okD q then 0 else 11
theorem okD_no {q : List (BitVec 8)} (h : ¬ ((q.getD 0 0#8).toNat ≤ 3 ∧ goodT (decQ q) = true ∧ encT (decQ q) = q)) : okD q = false := by
  cases hk : okD q with
  | false => rfl
  | true =>
    unfold okD at hk
    simp only [Bool.and_eq_true, decide_eq_true_eq] at hk
    exact (h hk).elim
theorem okD_yes {q : List (BitVec 8)} (h1 : (q.getD 0 0#8).toNat ≤ 3) (h2 : goodT (decQ q) = true) (h3 : encT (decQ q) = q) : okD q = true := by
  unfold okD
  simp only [Bool.and_eq_true, decide_eq_true_eq]
  exact ⟨h1, h2, h3⟩
theorem dec_bad {q : List (BitVec 8)} (h : okD q = false) : decLT q = [] ∧ decE q = 11 := by unfold decLT decE; rw [h]; exact ⟨rfl, rfl⟩
theorem dec_good {q : List (BitVec 8)} (h : okD q = true) : decLT q = decQ q ∧ decE q = 0 := by unfold decLT decE; rw [h]; exact ⟨rfl, rfl⟩
theorem encE_z {l : List Tv} : encE l = 0 ↔ goodT l = true := by
  unfold encE
  cases goodT l <;> simp
theorem small_vq {l : List (List (BitVec 8))} : ∀ x ∈ l.map volQ, x.2.length ≤ 1000000 := fun x hx => by
  obtain ⟨y, _, rfl⟩ := List.mem_map.1 hx
  exact Nat.le_trans (fromL_len y) (by decide)
set_option maxRecDepth 10000 in
set_option maxHeartbeats 1600000 in
theorem dect0 (q : List (BitVec 8)) (w : World) (hq : q.length = 32) (h0 : q.getD 0 0#8 = 0#8) :
    Calls Tryd.prog 44 #[.agg (bs q)] w fun e w' => ∃ v, e = .returned (.tuple #[v, .int .i64 (decE q)]) ∧ OV w.heap.size w' v (volL (decLT q)) ∧ Below w.heap.size w w' := by
  have HS := St.nil w noF
  have hQ : decQ q = [] := by unfold decQ; rw [h0]; rfl
  refine enter_en Tryd.func44 rfl Tryd.ntmps44 (Nat.le_of_ble_eq_true rfl) fun a0 (HA0 : En 43 [(0, .agg (bs q))] a0) => ?_
  refine sq_ <| rl_ <| wl_ <| n_ HA0 rfl (fun _ h => dd_box HS rfl (HA0.ev 0 rfl) (cs := (bs q)) rfl h) fun g1 W1 HS1 a1 H1 => q_ H1 2 rfl fun a2 H2 => ln_ <| nx <| sq_ <| sq_ <| rl_ <| wl_ <| i_ H2 rfl (xA 32 1 0 rfl (H2.ev 1 rfl) rfl) fun a3 H3 => wl_ <| i_ H3 rfl (v := .int .u8 0) (dd_get HS1 0 0 rfl rfl (H3.ev 8 rfl) ((bs_get hq 0 (by decide)).trans (by rw [h0]; rfl)) Tryd.underlying5 rfl) fun a4 H4 => wl_ <| i_ H4 rfl (dd_cmp rfl (H4.ev 9 rfl) rfl (gt_f (by decide))) fun a5 H5 => ln_ <| nx <| cf_ H5 rfl <| wp_skip <| nx <| sq_ <| rl_ <| wl_ <| i_ H5 rfl (xA 32 1 0 rfl (H5.ev 1 rfl) rfl) fun a6 H6 => wl_ <| i_ H6 rfl (v := .int .u8 0) (dd_get HS1 0 0 rfl rfl (H6.ev 11 rfl) ((bs_get hq 0 (by decide)).trans (by rw [h0]; rfl)) Tryd.underlying5 rfl) fun a7 H7 => wl_ <| n_ H7 rfl (A := fun g13 => .slice (some ⟨g13, 0, none⟩) 0 0) (fun _ h => dd_mk HS1 rfl (H7.ev 12 rfl) (H7.ev 12 rfl) (z := .agg #[.string (⟨#[]⟩), .slice none 0 0]) (sz := 2) (bytes := 40) (cs := #[]) Tryd.underlying75 (by kernel_rfl) (by decide) (by decide) (by decide) (by kernel_rfl) h) fun g13 W8 HS8 a8 H8 => ?_
  clear HS HA0 a0 H1 a1 H2 a2 H3 a3 H4 a4 H5 a5 H6 a6
  refine wl_ <| p_ H8 rfl rfl fun a9 H9 => ln_ <| nx <| sq_ <| sq_ <| rl_ <| wl_ <| p_ H9 rfl rfl fun a10 H10 => wl_ <| i_ H10 rfl (v := .int .i64 0) (dd_len rfl (H10.ev 14 rfl) Tryd.underlying75) fun a11 H11 => wl_ <| p_ H11 rfl rfl fun a12 H12 => ln_ <| nx <| wp_block <| wp_unr 1 <| unr_go <| sq_ <| rl_ <| wl_ <| i_ H12 rfl (dd_cmp rfl (H12.ev 16 rfl) (H12.ev 15 rfl) (lt_f (by decide))) fun a13 H13 => ln_ <| nx <| sq_ <| cf_ H13 rfl <| wp_exit <| tx <| tx <| bx <| nx <| sq_ <| sq_ <| rl_ <| wl_ <| p_ H13 rfl rfl fun a14 H14 => wl_ <| c_ H14 rfl HS8 (dcs Tryd.func48 rfl (args1 (H14.ev 31 rfl)) (enct_any _ _ _ [] W8 (vols_row (l := volL []) (HS8.row 1 rfl) (Nat.le_refl _) (by show 0 ≤ maxLen; decide) (get_nilP)) (by decide) (small_vq (l := []))) (.tuple #[.agg (bs (encT [])), .int .i64 (encE [])])) fun W15 HS15 a15 H15 => wl_ <| p_ H15 rfl rfl fun a16 H16 => ?_
  clear HS1 H7 a7 H8 a8 H9 a9 H10 a10 H11 a11 H12 a12 H13 a13 H14 a14 HS8
  refine wl_ <| i_ H16 rfl (dd_ext rfl (H16.ev 30 rfl) rfl) fun a17 H17 => wl_ <| i_ H17 rfl (dd_ext rfl (H17.ev 30 rfl) rfl) fun a18 H18 => wl_ <| n_ H18 rfl (fun _ h => dd_new HS15 (bs (zer 32)) rfl (z := .agg (bs (zer 32))) (by kernel_rfl) rfl h) fun g6 W19 HS19 a19 H19 => wl_ <| t_ rfl (fun _ h => dd_setrow HS19 2 rfl rfl (H19.ev 6 rfl) (H19.ev 33 rfl) (by kernel_rfl) (((size_bs _).trans (length_encT _)) : (bs (encT [])).size = 32) (((size_bs _).trans (length_zer 32)) : (bs (zer 32)).size = 32) (one_bs _) h) fun W20 HS20 => wl_ <| p_ H19 rfl rfl fun a21 H21 => ln_ <| ?_
  clear H15 a15 H16 a16 H17 a17 HS15 H18 a18 HS19 H19 a19
  have H22 := H21.sel [1, 4, 6, 7] rfl
  refine nx <| sq_ <| rl_ <| wl_ <| p_ H22 rfl rfl fun a23 H23 => ?_
  clear H21 H22 a21
  by_cases hc25 : (encE [] : Int) = 0
  ·
   refine wl_ <| i_ H23 rfl (dd_cmp rfl (H23.ev 35 rfl) rfl (ne_f hc25)) fun a26 H26 => wl_ <| p_ H26 rfl rfl fun a27 H27 => wl_ <| ig H27 (wg_ H27 rfl rfl rfl rfl) rfl (v := .agg (bs (encT []))) (dd_load HS20 2 0 rfl rfl (H27.ev 6 rfl) (slab_whole _) Tryd.underlying36 rfl (by rw [show (bs (encT [])).size = 32 from ((size_bs _).trans (length_encT _))]; kernel_rfl)) fun a28 H28 => wl_ <| ig H28 (wg_ H28 rfl rfl rfl rfl) rfl (v := .agg (bs q)) (dd_load HS20 0 0 rfl rfl (H28.ev 1 rfl) (slab_whole _) Tryd.underlying36 rfl (by rw [show (bs q).size = 32 from ((size_bs _).trans hq)]; kernel_rfl)) fun a29 H29 => ?_
   clear H23 a23 H26 a26 H27 a27 H28 a28
   cases hb31 : decide (encT [] = q)
   case false =>
    refine wl_ <| ig H29 (wg_ H29 rfl rfl rfl rfl) rfl (v := .bool true) (dd_nea (b := false) rfl (H29.ev 38 rfl) (H29.ev 39 rfl) (by kernel_rfl) (fun w => by have h9 := eql_blk (encT []) q (length_encT _) hq w; rw [hb31] at h9; exact h9) rfl) fun a32 H32 => wl_ <| p_ H32 rfl rfl fun a33 H33 => ln_ <| nx <| ct_ H33 rfl <| sq_ <| rl_ <| q_ H33 2 rfl fun a34 H34 => ln_ <| nx <| wp_ret <| tr <| ret_run H34.env0 (res_tt Tryd.results44 (H34.get 2 rfl) (H34.get 3 rfl)) <| ?_
    clear H29 a29 H32 a32 H33 a33
    have hbad := okD_no (q := q) (fun ⟨_, h2, h3⟩ => by exact of_decide_eq_false hb31 (hQ ▸ h3))
    exact ⟨_, by rw [(dec_bad hbad).2], by rw [(dec_bad hbad).1]; exact OV.nil _ _, HS20.below⟩
   case true =>
    refine wl_ <| ig H29 (wg_ H29 rfl rfl rfl rfl) rfl (v := .bool false) (dd_nea (b := true) rfl (H29.ev 38 rfl) (H29.ev 39 rfl) (by kernel_rfl) (fun w => by have h9 := eql_blk (encT []) q (length_encT _) hq w; rw [hb31] at h9; exact h9) rfl) fun a35 H35 => wl_ <| p_ H35 rfl rfl fun a36 H36 => ln_ <| nx <| cf_ H36 rfl <| wp_skip <| nx <| sq_ <| rl_ <| q_ H36 3 rfl fun a37 H37 => ln_ <| nx <| wp_ret <| ret_run H37.env0 (res_tt Tryd.results44 (H37.get 2 rfl) (H37.get 3 rfl)) <| ?_
    clear H29 a29 H35 a35 H36 a36
    have hok := okD_yes (q := q) (by rw [h0]; decide) (by rw [hQ]; exact encE_z.1 hc25) (by rw [hQ]; exact of_decide_eq_true hb31)
    exact ⟨_, by rw [(dec_good hok).2], by rw [(dec_good hok).1, hQ]; exact ⟨_, ⟨rfl, .inr ⟨_, 0, _, rfl, st_fresh HS20 1 rfl, HS20.row 1 rfl, Nat.le_refl _, by decide, rfl, rfl⟩⟩, cellsV_nil _ _⟩, HS20.below⟩
  ·
   refine wl_ <| i_ H23 rfl (dd_cmp rfl (H23.ev 35 rfl) rfl (ne_t hc25)) fun a38 H38 => wl_ <| p_ H38 rfl rfl fun a39 H39 => wl_ <| k_ H39 (wg_ H39 rfl rfl rfl rfl) rfl fun a40 H40 => wl_ <| k_ H40 (wg_ H40 rfl rfl rfl rfl) rfl fun a41 H41 => wl_ <| k_ H41 (wg_ H41 rfl rfl rfl rfl) rfl fun a42 H42 => wl_ <| p_ H42 rfl rfl fun a43 H43 => ln_ <| nx <| ct_ H43 rfl <| sq_ <| rl_ <| q_ H43 2 rfl fun a44 H44 => ln_ <| nx <| wp_ret <| tr <| ret_run H44.env0 (res_tt Tryd.results44 (H44.get 2 rfl) (H44.get 3 rfl)) <| ?_
   clear H23 a23 H38 a38 H39 a39 H40 a40 H41 a41 H42 a42 H43 a43
   have hbad := okD_no (q := q) (fun ⟨_, h2, h3⟩ => by exact hc25 (encE_z.2 (hQ ▸ h2)))
   exact ⟨_, by rw [(dec_bad hbad).2], by rw [(dec_bad hbad).1]; exact OV.nil _ _, HS20.below⟩
set_option maxRecDepth 10000 in
set_option maxHeartbeats 1600000 in
theorem dect1 (q : List (BitVec 8)) (w : World) (hq : q.length = 32) (h0 : q.getD 0 0#8 = 1#8) :
    Calls Tryd.prog 44 #[.agg (bs q)] w fun e w' => ∃ v, e = .returned (.tuple #[v, .int .i64 (decE q)]) ∧ OV w.heap.size w' v (volL (decLT q)) ∧ Below w.heap.size w w' := by
  have HS := St.nil w noF
  have hQ : decQ q = [volQ ((q.drop 1).take 9)] := by unfold decQ; rw [h0]; rfl
  refine enter_en Tryd.func44 rfl Tryd.ntmps44 (Nat.le_of_ble_eq_true rfl) fun a0 (HA0 : En 43 [(0, .agg (bs q))] a0) => ?_
  refine sq_ <| rl_ <| wl_ <| n_ HA0 rfl (fun _ h => dd_box HS rfl (HA0.ev 0 rfl) (cs := (bs q)) rfl h) fun g1 W1 HS1 a1 H1 => q_ H1 2 rfl fun a2 H2 => ln_ <| nx <| sq_ <| sq_ <| rl_ <| wl_ <| i_ H2 rfl (xA 32 1 0 rfl (H2.ev 1 rfl) rfl) fun a3 H3 => wl_ <| i_ H3 rfl (v := .int .u8 1) (dd_get HS1 0 0 rfl rfl (H3.ev 8 rfl) ((bs_get hq 0 (by decide)).trans (by rw [h0]; rfl)) Tryd.underlying5 rfl) fun a4 H4 => wl_ <| i_ H4 rfl (dd_cmp rfl (H4.ev 9 rfl) rfl (gt_f (by decide))) fun a5 H5 => ln_ <| nx <| cf_ H5 rfl <| wp_skip <| nx <| sq_ <| rl_ <| wl_ <| i_ H5 rfl (xA 32 1 0 rfl (H5.ev 1 rfl) rfl) fun a6 H6 => wl_ <| i_ H6 rfl (v := .int .u8 1) (dd_get HS1 0 0 rfl rfl (H6.ev 11 rfl) ((bs_get hq 0 (by decide)).trans (by rw [h0]; rfl)) Tryd.underlying5 rfl) fun a7 H7 => wl_ <| n_ H7 rfl (A := fun g13 => .slice (some ⟨g13, 0, none⟩) 1 1) (fun _ h => dd_mk HS1 rfl (H7.ev 12 rfl) (H7.ev 12 rfl) (z := .agg #[.string (⟨#[]⟩), .slice none 0 0]) (sz := 2) (bytes := 40) (cs := #[.string (⟨#[]⟩), .slice none 0 0]) Tryd.underlying75 (by kernel_rfl) (by decide) (by decide) (by decide) (by kernel_rfl) h) fun g13 W8 HS8 a8 H8 => ?_
  clear HS HA0 a0 H1 a1 H2 a2 H3 a3 H4 a4 H5 a5 H6 a6
  refine wl_ <| p_ H8 rfl rfl fun a9 H9 => ln_ <| nx <| sq_ <| sq_ <| rl_ <| wl_ <| p_ H9 rfl rfl fun a10 H10 => wl_ <| i_ H10 rfl (v := .int .i64 1) (dd_len rfl (H10.ev 14 rfl) Tryd.underlying75) fun a11 H11 => wl_ <| p_ H11 rfl rfl fun a12 H12 => ln_ <| nx <| wp_block <| wp_unr 2 <| unr_go <| sq_ <| rl_ <| wl_ <| i_ H12 rfl (dd_cmp rfl (H12.ev 16 rfl) (H12.ev 15 rfl) (lt_t (by decide))) fun a13 H13 => ln_ <| nx <| sq_ <| ct_ H13 rfl <| wp_skip <| nx <| sq_ <| wp_block <| sq_ <| rl_ <| q_ H13 2 rfl fun a14 H14 => ln_ <| nx <| rl_ <| q_ H14 3 rfl fun a15 H15 => wl_ <| i_ H15 rfl (v := .int .i64 0) (dd_ari rfl (H15.ev 21 rfl) rfl rfl (by decide)) fun a16 H16 => ?_
  clear HS1 H7 a7 H8 a8 H9 a9 H10 a10 H11 a11 H12 a12 H13 a13 H14 a14
  refine wl_ <| i_ H16 rfl (v := .int .i64 1) (dd_ari rfl rfl (H16.ev 22 rfl) rfl (by decide)) fun a17 H17 => wl_ <| i_ H17 rfl (v := .slice (some ⟨g1, 1, none⟩) 31 31) (dd_slAl (l := 1) (n := 32) (sz := 1) (j := 1) rfl (H17.ev 1 rfl) (H17.ev 23 rfl) (by kernel_rfl) (by decide) rfl rfl) fun a18 H18 => wl_ <| i_ H18 rfl (v := .pointer (some ⟨g1, 1, none⟩)) (dd_s2a (m := 9) (sz := 1) rfl (H18.ev 24 rfl) (by kernel_rfl) (by decide)) fun a19 H19 => wl_ <| i_ H19 rfl (v := .agg (bs ((q.drop 1).take 9))) (dd_load HS8 0 1 rfl rfl (H19.ev 25 rfl) (bs_slab hq 1 9 (by decide)) Tryd.underlying110 rfl (by rw [show (bs ((q.drop 1).take 9)).size = 9 from ((size_bs _).trans (len_take (n := 32 - 1) (len_drop hq rfl) (by decide)))]; kernel_rfl)) fun a20 H20 => ?_
  clear H15 a15 H16 a16 H17 a17 H18 a18 H19 a19
  refine wl_ <| d_ H20 rfl (R := fun v w9 => ∃ gf22, v = .agg #[.string (strB (volQ ((q.drop 1).take 9)).1), .slice (some ⟨gf22, 0, none⟩) ((fromL ((q.drop 1).take 9)).length) ((fromL ((q.drop 1).take 9)).length)] ∧ (W8.heap.size ≤ gf22) ∧ (Row w9 gf22 3 (intsV (fromL ((q.drop 1).take 9))).toArray) ∧ Below W8.heap.size W8 w9) (dc_ Tryd.func53 rfl (args1 (H20.ev 26 rfl)) (frombytes_any ((q.drop 1).take 9) W8 (len_take (n := 32 - 1) (len_drop hq rfl) (by decide))) (fun _ w9 ⟨g9, he, h1, h2, hb⟩ => ⟨_, he, g9, rfl, h1, h2, hb⟩)) ?_
  rintro _ W21 ⟨gf22, rfl, hg22, hr22, hb21⟩ a21 H21
  have HS21 := HS8.same hb21
  clear H20 a20
  have HS21j : St w noF [⟨g1, 36, bs q⟩, ⟨g13, 81, #[.string (⟨#[]⟩), .slice none 0 0]⟩, ⟨gf22, 3, (intsV (fromL ((q.drop 1).take 9))).toArray⟩] W21 := HS8.joins hb21 hr22 hg22
  clear HS21 hr22 hg22
  clear HS8 hb21
  refine wl_ <| i_ H21 rfl (xS 2 0 rfl (H21.ev 19 rfl) (H21.ev 20 rfl)) fun a23 H23 => wl_ <| t_ rfl (fun _ h => dd_setrow HS21j 1 rfl rfl (H23.ev 28 rfl) (H23.ev 27 rfl) (by kernel_rfl) (rfl : #[.string (strB (volQ ((q.drop 1).take 9)).1), .slice (some ⟨gf22, 0, none⟩) ((fromL ((q.drop 1).take 9)).length) ((fromL ((q.drop 1).take 9)).length)].size = 2) (rfl : #[.string (⟨#[]⟩), .slice none 0 0].size = 2) (one_l (ao_cons rfl (ao_cons rfl ao_nil))) h) fun W24 HS24 => ln_ <| ?_
  clear H21 a21 HS21j
  have H25 := H23.sel [1, 4, 15, 16] rfl
  refine bn <| nx <| rl_ <| wl_ <| i_ H25 rfl (v := .int .i64 1) (dd_ari rfl (H25.ev 16 rfl) rfl rfl (by decide)) fun a26 H26 => wl_ <| p_ H26 rfl rfl fun a27 H27 => ln_ <| nx <| unr_go <| sq_ <| rl_ <| wl_ <| i_ H27 rfl (dd_cmp rfl (H27.ev 16 rfl) (H27.ev 15 rfl) (lt_f (by decide))) fun a28 H28 => ln_ <| nx <| sq_ <| cf_ H28 rfl <| wp_exit <| tx <| tx <| bx <| nx <| sq_ <| sq_ <| rl_ <| wl_ <| p_ H28 rfl rfl fun a29 H29 => wl_ <| c_ H29 rfl HS24 (dcs Tryd.func48 rfl (args1 (H29.ev 31 rfl)) (enct_any _ _ _ [volQ ((q.drop 1).take 9)] W24 (vols_row (l := volL [volQ ((q.drop 1).take 9)]) (HS24.row 1 rfl) (Nat.le_refl _) (by show 1 ≤ maxLen; decide) (get_consP (volAt_of (ints_rowI (HS24.row 2 rfl) (Nat.le_trans (fromL_len _) (by decide)) (fromL_bound _)) (Nat.le_trans (volQ_name _ (by rw [List.length_take, List.length_drop, hq]; rfl)) (by decide))) (get_nilP))) (by decide) (small_vq (l := [(q.drop 1).take 9]))) (.tuple #[.agg (bs (encT [volQ ((q.drop 1).take 9)])), .int .i64 (encE [volQ ((q.drop 1).take 9)])])) fun W30 HS30 a30 H30 => wl_ <| p_ H30 rfl rfl fun a31 H31 => wl_ <| i_ H31 rfl (dd_ext rfl (H31.ev 30 rfl) rfl) fun a32 H32 => wl_ <| i_ H32 rfl (dd_ext rfl (H32.ev 30 rfl) rfl) fun a33 H33 => ?_
  clear H23 H25 a23 H26 a26 H27 a27 H28 a28 H29 a29 HS24 H30 a30 H31 a31
  refine wl_ <| n_ H33 rfl (fun _ h => dd_new HS30 (bs (zer 32)) rfl (z := .agg (bs (zer 32))) (by kernel_rfl) rfl h) fun g6 W34 HS34 a34 H34 => wl_ <| t_ rfl (fun _ h => dd_setrow HS34 3 rfl rfl (H34.ev 6 rfl) (H34.ev 33 rfl) (by kernel_rfl) (((size_bs _).trans (length_encT _)) : (bs (encT [volQ ((q.drop 1).take 9)])).size = 32) (((size_bs _).trans (length_zer 32)) : (bs (zer 32)).size = 32) (one_bs _) h) fun W35 HS35 => wl_ <| p_ H34 rfl rfl fun a36 H36 => ln_ <| nx <| sq_ <| rl_ <| wl_ <| p_ H36 rfl rfl fun a37 H37 => ?_
  clear H32 a32 HS30 H33 a33 HS34 H34 a34 H36 a36
  by_cases hc39 : (encE [volQ ((q.drop 1).take 9)] : Int) = 0
  ·
   refine wl_ <| i_ H37 rfl (dd_cmp rfl (H37.ev 35 rfl) rfl (ne_f hc39)) fun a40 H40 => wl_ <| p_ H40 rfl rfl fun a41 H41 => wl_ <| ig H41 (wg_ H41 rfl rfl rfl rfl) rfl (v := .agg (bs (encT [volQ ((q.drop 1).take 9)]))) (dd_load HS35 3 0 rfl rfl (H41.ev 6 rfl) (slab_whole _) Tryd.underlying36 rfl (by rw [show (bs (encT [volQ ((q.drop 1).take 9)])).size = 32 from ((size_bs _).trans (length_encT _))]; kernel_rfl)) fun a42 H42 => wl_ <| ig H42 (wg_ H42 rfl rfl rfl rfl) rfl (v := .agg (bs q)) (dd_load HS35 0 0 rfl rfl (H42.ev 1 rfl) (slab_whole _) Tryd.underlying36 rfl (by rw [show (bs q).size = 32 from ((size_bs _).trans hq)]; kernel_rfl)) fun a43 H43 => ?_
   clear H37 a37 H40 a40 H41 a41 H42 a42
   cases hb45 : decide (encT [volQ ((q.drop 1).take 9)] = q)
   case false =>
    refine wl_ <| ig H43 (wg_ H43 rfl rfl rfl rfl) rfl (v := .bool true) (dd_nea (b := false) rfl (H43.ev 38 rfl) (H43.ev 39 rfl) (by kernel_rfl) (fun w => by have h9 := eql_blk (encT [volQ ((q.drop 1).take 9)]) q (length_encT _) hq w; rw [hb45] at h9; exact h9) rfl) fun a46 H46 => wl_ <| p_ H46 rfl rfl fun a47 H47 => ln_ <| ?_
    clear H43 a43 H46 a46
    have H48 := H47.sel [4, 41] rfl
    refine nx <| ct_ H48 rfl <| sq_ <| rl_ <| q_ H48 2 rfl fun a49 H49 => ln_ <| nx <| wp_ret <| tr <| ret_run H49.env0 (res_tt Tryd.results44 (H49.get 2 rfl) (H49.get 3 rfl)) <| ?_
    clear H47 H48 a47
    have hbad := okD_no (q := q) (fun ⟨_, h2, h3⟩ => by exact of_decide_eq_false hb45 (hQ ▸ h3))
    exact ⟨_, by rw [(dec_bad hbad).2], by rw [(dec_bad hbad).1]; exact OV.nil _ _, HS35.below⟩
   case true =>
    refine wl_ <| ig H43 (wg_ H43 rfl rfl rfl rfl) rfl (v := .bool false) (dd_nea (b := true) rfl (H43.ev 38 rfl) (H43.ev 39 rfl) (by kernel_rfl) (fun w => by have h9 := eql_blk (encT [volQ ((q.drop 1).take 9)]) q (length_encT _) hq w; rw [hb45] at h9; exact h9) rfl) fun a50 H50 => wl_ <| p_ H50 rfl rfl fun a51 H51 => ln_ <| ?_
    clear H43 a43 H50 a50
    have H52 := H51.sel [4, 41] rfl
    refine nx <| cf_ H52 rfl <| wp_skip <| nx <| sq_ <| rl_ <| q_ H52 3 rfl fun a53 H53 => ln_ <| nx <| wp_ret <| ret_run H53.env0 (res_tt Tryd.results44 (H53.get 2 rfl) (H53.get 3 rfl)) <| ?_
    clear H51 H52 a51
    have hok := okD_yes (q := q) (by rw [h0]; decide) (by rw [hQ]; exact encE_z.1 hc39) (by rw [hQ]; exact of_decide_eq_true hb45)
    exact ⟨_, by rw [(dec_good hok).2], by rw [(dec_good hok).1, hQ]; exact ⟨_, ⟨rfl, .inr ⟨_, 1, _, rfl, st_fresh HS35 1 rfl, HS35.row 1 rfl, Nat.le_refl _, by decide, rfl, rfl⟩⟩, cellsV_cons (.inr ⟨own_rowI (HS35.row 2 rfl) (st_fresh HS35 2 rfl) (Nat.le_trans (fromL_len _) (by decide)), fromL_bound _⟩) (Nat.le_trans (volQ_name _ (by rw [List.length_take, List.length_drop, hq]; rfl)) (by decide)) (cellsV_nil _ _)⟩, HS35.below⟩
  ·
   refine wl_ <| i_ H37 rfl (dd_cmp rfl (H37.ev 35 rfl) rfl (ne_t hc39)) fun a54 H54 => wl_ <| p_ H54 rfl rfl fun a55 H55 => wl_ <| k_ H55 (wg_ H55 rfl rfl rfl rfl) rfl fun a56 H56 => wl_ <| k_ H56 (wg_ H56 rfl rfl rfl rfl) rfl fun a57 H57 => wl_ <| k_ H57 (wg_ H57 rfl rfl rfl rfl) rfl fun a58 H58 => wl_ <| p_ H58 rfl rfl fun a59 H59 => ln_ <| ?_
   clear H37 a37 H54 a54 H55 a55 H56 a56 H57 a57 H58 a58
   have H60 := H59.sel [4, 41] rfl
   refine nx <| ct_ H60 rfl <| sq_ <| rl_ <| q_ H60 2 rfl fun a61 H61 => ln_ <| nx <| wp_ret <| tr <| ret_run H61.env0 (res_tt Tryd.results44 (H61.get 2 rfl) (H61.get 3 rfl)) <| ?_
   clear H59 H60 a59
   have hbad := okD_no (q := q) (fun ⟨_, h2, h3⟩ => by exact hc39 (encE_z.2 (hQ ▸ h2)))
   exact ⟨_, by rw [(dec_bad hbad).2], by rw [(dec_bad hbad).1]; exact OV.nil _ _, HS35.below⟩
set_option maxRecDepth 10000 in
set_option maxHeartbeats 1600000 in
theorem dect2 (q : List (BitVec 8)) (w : World) (hq : q.length = 32) (h0 : q.getD 0 0#8 = 2#8) :
    Calls Tryd.prog 44 #[.agg (bs q)] w fun e w' => ∃ v, e = .returned (.tuple #[v, .int .i64 (decE q)]) ∧ OV w.heap.size w' v (volL (decLT q)) ∧ Below w.heap.size w w' := by
  have HS := St.nil w noF
  have hQ : decQ q = [volQ ((q.drop 1).take 9), volQ ((q.drop 10).take 9)] := by unfold decQ; rw [h0]; rfl
  refine enter_en Tryd.func44 rfl Tryd.ntmps44 (Nat.le_of_ble_eq_true rfl) fun a0 (HA0 : En 43 [(0, .agg (bs q))] a0) => ?_
  refine sq_ <| rl_ <| wl_ <| n_ HA0 rfl (fun _ h => dd_box HS rfl (HA0.ev 0 rfl) (cs := (bs q)) rfl h) fun g1 W1 HS1 a1 H1 => q_ H1 2 rfl fun a2 H2 => ln_ <| nx <| sq_ <| sq_ <| rl_ <| wl_ <| i_ H2 rfl (xA 32 1 0 rfl (H2.ev 1 rfl) rfl) fun a3 H3 => wl_ <| i_ H3 rfl (v := .int .u8 2) (dd_get HS1 0 0 rfl rfl (H3.ev 8 rfl) ((bs_get hq 0 (by decide)).trans (by rw [h0]; rfl)) Tryd.underlying5 rfl) fun a4 H4 => wl_ <| i_ H4 rfl (dd_cmp rfl (H4.ev 9 rfl) rfl (gt_f (by decide))) fun a5 H5 => ln_ <| nx <| cf_ H5 rfl <| wp_skip <| nx <| sq_ <| rl_ <| wl_ <| i_ H5 rfl (xA 32 1 0 rfl (H5.ev 1 rfl) rfl) fun a6 H6 => wl_ <| i_ H6 rfl (v := .int .u8 2) (dd_get HS1 0 0 rfl rfl (H6.ev 11 rfl) ((bs_get hq 0 (by decide)).trans (by rw [h0]; rfl)) Tryd.underlying5 rfl) fun a7 H7 => wl_ <| n_ H7 rfl (A := fun g13 => .slice (some ⟨g13, 0, none⟩) 2 2) (fun _ h => dd_mk HS1 rfl (H7.ev 12 rfl) (H7.ev 12 rfl) (z := .agg #[.string (⟨#[]⟩), .slice none 0 0]) (sz := 2) (bytes := 40) (cs := #[.string (⟨#[]⟩), .slice none 0 0, .string (⟨#[]⟩), .slice none 0 0]) Tryd.underlying75 (by kernel_rfl) (by decide) (by decide) (by decide) (by kernel_rfl) h) fun g13 W8 HS8 a8 H8 => ?_
  clear HS HA0 a0 H1 a1 H2 a2 H3 a3 H4 a4 H5 a5 H6 a6
  refine wl_ <| p_ H8 rfl rfl fun a9 H9 => ln_ <| nx <| sq_ <| sq_ <| rl_ <| wl_ <| p_ H9 rfl rfl fun a10 H10 => wl_ <| i_ H10 rfl (v := .int .i64 2) (dd_len rfl (H10.ev 14 rfl) Tryd.underlying75) fun a11 H11 => wl_ <| p_ H11 rfl rfl fun a12 H12 => ln_ <| nx <| wp_block <| wp_unr 3 <| unr_go <| sq_ <| rl_ <| wl_ <| i_ H12 rfl (dd_cmp rfl (H12.ev 16 rfl) (H12.ev 15 rfl) (lt_t (by decide))) fun a13 H13 => ln_ <| nx <| sq_ <| ct_ H13 rfl <| wp_skip <| nx <| sq_ <| wp_block <| sq_ <| rl_ <| q_ H13 2 rfl fun a14 H14 => ln_ <| nx <| rl_ <| q_ H14 3 rfl fun a15 H15 => wl_ <| i_ H15 rfl (v := .int .i64 0) (dd_ari rfl (H15.ev 21 rfl) rfl rfl (by decide)) fun a16 H16 => ?_
  clear HS1 H7 a7 H8 a8 H9 a9 H10 a10 H11 a11 H12 a12 H13 a13 H14 a14
  refine wl_ <| i_ H16 rfl (v := .int .i64 1) (dd_ari rfl rfl (H16.ev 22 rfl) rfl (by decide)) fun a17 H17 => wl_ <| i_ H17 rfl (v := .slice (some ⟨g1, 1, none⟩) 31 31) (dd_slAl (l := 1) (n := 32) (sz := 1) (j := 1) rfl (H17.ev 1 rfl) (H17.ev 23 rfl) (by kernel_rfl) (by decide) rfl rfl) fun a18 H18 => wl_ <| i_ H18 rfl (v := .pointer (some ⟨g1, 1, none⟩)) (dd_s2a (m := 9) (sz := 1) rfl (H18.ev 24 rfl) (by kernel_rfl) (by decide)) fun a19 H19 => wl_ <| i_ H19 rfl (v := .agg (bs ((q.drop 1).take 9))) (dd_load HS8 0 1 rfl rfl (H19.ev 25 rfl) (bs_slab hq 1 9 (by decide)) Tryd.underlying110 rfl (by rw [show (bs ((q.drop 1).take 9)).size = 9 from ((size_bs _).trans (len_take (n := 32 - 1) (len_drop hq rfl) (by decide)))]; kernel_rfl)) fun a20 H20 => ?_
  clear H15 a15 H16 a16 H17 a17 H18 a18 H19 a19
  refine wl_ <| d_ H20 rfl (R := fun v w9 => ∃ gf22, v = .agg #[.string (strB (volQ ((q.drop 1).take 9)).1), .slice (some ⟨gf22, 0, none⟩) ((fromL ((q.drop 1).take 9)).length) ((fromL ((q.drop 1).take 9)).length)] ∧ (W8.heap.size ≤ gf22) ∧ (Row w9 gf22 3 (intsV (fromL ((q.drop 1).take 9))).toArray) ∧ Below W8.heap.size W8 w9) (dc_ Tryd.func53 rfl (args1 (H20.ev 26 rfl)) (frombytes_any ((q.drop 1).take 9) W8 (len_take (n := 32 - 1) (len_drop hq rfl) (by decide))) (fun _ w9 ⟨g9, he, h1, h2, hb⟩ => ⟨_, he, g9, rfl, h1, h2, hb⟩)) ?_
  rintro _ W21 ⟨gf22, rfl, hg22, hr22, hb21⟩ a21 H21
  have HS21 := HS8.same hb21
  clear H20 a20
  have HS21j : St w noF [⟨g1, 36, bs q⟩, ⟨g13, 81, #[.string (⟨#[]⟩), .slice none 0 0, .string (⟨#[]⟩), .slice none 0 0]⟩, ⟨gf22, 3, (intsV (fromL ((q.drop 1).take 9))).toArray⟩] W21 := HS8.joins hb21 hr22 hg22
  clear HS21 hr22 hg22
  clear HS8 hb21
  refine wl_ <| i_ H21 rfl (xS 2 0 rfl (H21.ev 19 rfl) (H21.ev 20 rfl)) fun a23 H23 => wl_ <| t_ rfl (fun _ h => dd_store (cs := #[.string (strB (volQ ((q.drop 1).take 9)).1), .slice (some ⟨gf22, 0, none⟩) ((fromL ((q.drop 1).take 9)).length) ((fromL ((q.drop 1).take 9)).length), .string (⟨#[]⟩), .slice none 0 0]) HS21j 1 0 rfl rfl (H23.ev 28 rfl) (H23.ev 27 rfl) (by kernel_rfl) (Nat.le_of_ble_eq_true rfl) (one_l (ao_cons rfl (ao_cons rfl ao_nil))) rfl h) fun W24 HS24 => ln_ <| ?_
  clear H21 a21 HS21j
  have H25 := H23.sel [1, 4, 15, 16] rfl
  refine bn <| nx <| rl_ <| wl_ <| i_ H25 rfl (v := .int .i64 1) (dd_ari rfl (H25.ev 16 rfl) rfl rfl (by decide)) fun a26 H26 => wl_ <| p_ H26 rfl rfl fun a27 H27 => ln_ <| nx <| unr_go <| sq_ <| rl_ <| wl_ <| i_ H27 rfl (dd_cmp rfl (H27.ev 16 rfl) (H27.ev 15 rfl) (lt_t (by decide))) fun a28 H28 => ln_ <| nx <| sq_ <| ct_ H28 rfl <| wp_skip <| nx <| sq_ <| wp_block <| sq_ <| rl_ <| q_ H28 2 rfl fun a29 H29 => ln_ <| nx <| rl_ <| q_ H29 3 rfl fun a30 H30 => wl_ <| i_ H30 rfl (v := .int .i64 9) (dd_ari rfl (H30.ev 21 rfl) rfl rfl (by decide)) fun a31 H31 => wl_ <| i_ H31 rfl (v := .int .i64 10) (dd_ari rfl rfl (H31.ev 22 rfl) rfl (by decide)) fun a32 H32 => wl_ <| i_ H32 rfl (v := .slice (some ⟨g1, 10, none⟩) 22 22) (dd_slAl (l := 10) (n := 32) (sz := 1) (j := 10) rfl (H32.ev 1 rfl) (H32.ev 23 rfl) (by kernel_rfl) (by decide) rfl rfl) fun a33 H33 => ?_
  clear H23 H25 a23 H26 a26 H27 a27 H28 a28 H29 a29 H30 a30 H31 a31
  refine wl_ <| i_ H33 rfl (v := .pointer (some ⟨g1, 10, none⟩)) (dd_s2a (m := 9) (sz := 1) rfl (H33.ev 24 rfl) (by kernel_rfl) (by decide)) fun a34 H34 => wl_ <| i_ H34 rfl (v := .agg (bs ((q.drop 10).take 9))) (dd_load HS24 0 10 rfl rfl (H34.ev 25 rfl) (bs_slab hq 10 9 (by decide)) Tryd.underlying110 rfl (by rw [show (bs ((q.drop 10).take 9)).size = 9 from ((size_bs _).trans (len_take (n := 32 - 10) (len_drop hq rfl) (by decide)))]; kernel_rfl)) fun a35 H35 => ?_
  clear H32 a32 H33 a33 H34 a34
  refine wl_ <| d_ H35 rfl (R := fun v w9 => ∃ gf37, v = .agg #[.string (strB (volQ ((q.drop 10).take 9)).1), .slice (some ⟨gf37, 0, none⟩) ((fromL ((q.drop 10).take 9)).length) ((fromL ((q.drop 10).take 9)).length)] ∧ (W24.heap.size ≤ gf37) ∧ (Row w9 gf37 3 (intsV (fromL ((q.drop 10).take 9))).toArray) ∧ Below W24.heap.size W24 w9) (dc_ Tryd.func53 rfl (args1 (H35.ev 26 rfl)) (frombytes_any ((q.drop 10).take 9) W24 (len_take (n := 32 - 10) (len_drop hq rfl) (by decide))) (fun _ w9 ⟨g9, he, h1, h2, hb⟩ => ⟨_, he, g9, rfl, h1, h2, hb⟩)) ?_
  rintro _ W36 ⟨gf37, rfl, hg37, hr37, hb36⟩ a36 H36
  have HS36 := HS24.same hb36
  clear H35 a35
  have HS36j : St w noF [⟨g1, 36, bs q⟩, ⟨g13, 81, #[.string (strB (volQ ((q.drop 1).take 9)).1), .slice (some ⟨gf22, 0, none⟩) ((fromL ((q.drop 1).take 9)).length) ((fromL ((q.drop 1).take 9)).length), .string (⟨#[]⟩), .slice none 0 0]⟩, ⟨gf22, 3, (intsV (fromL ((q.drop 1).take 9))).toArray⟩, ⟨gf37, 3, (intsV (fromL ((q.drop 10).take 9))).toArray⟩] W36 := HS24.joins hb36 hr37 hg37
  clear HS36 hr37 hg37
  clear HS24 hb36
  refine wl_ <| i_ H36 rfl (xS 2 2 rfl (H36.ev 19 rfl) (H36.ev 20 rfl)) fun a38 H38 => wl_ <| t_ rfl (fun _ h => dd_store (cs := #[.string (strB (volQ ((q.drop 1).take 9)).1), .slice (some ⟨gf22, 0, none⟩) ((fromL ((q.drop 1).take 9)).length) ((fromL ((q.drop 1).take 9)).length), .string (strB (volQ ((q.drop 10).take 9)).1), .slice (some ⟨gf37, 0, none⟩) ((fromL ((q.drop 10).take 9)).length) ((fromL ((q.drop 10).take 9)).length)]) HS36j 1 2 rfl rfl (H38.ev 28 rfl) (H38.ev 27 rfl) (by kernel_rfl) (Nat.le_of_ble_eq_true rfl) (one_l (ao_cons rfl (ao_cons rfl ao_nil))) rfl h) fun W39 HS39 => ln_ <| bn <| nx <| rl_ <| wl_ <| i_ H38 rfl (v := .int .i64 2) (dd_ari rfl (H38.ev 16 rfl) rfl rfl (by decide)) fun a40 H40 => wl_ <| p_ H40 rfl rfl fun a41 H41 => ln_ <| nx <| unr_go <| sq_ <| rl_ <| wl_ <| i_ H41 rfl (dd_cmp rfl (H41.ev 16 rfl) (H41.ev 15 rfl) (lt_f (by decide))) fun a42 H42 => ln_ <| nx <| sq_ <| cf_ H42 rfl <| wp_exit <| tx <| tx <| bx <| nx <| sq_ <| sq_ <| rl_ <| wl_ <| p_ H42 rfl rfl fun a43 H43 => wl_ <| c_ H43 rfl HS39 (dcs Tryd.func48 rfl (args1 (H43.ev 31 rfl)) (enct_any _ _ _ [volQ ((q.drop 1).take 9), volQ ((q.drop 10).take 9)] W39 (vols_row (l := volL [volQ ((q.drop 1).take 9), volQ ((q.drop 10).take 9)]) (HS39.row 1 rfl) (Nat.le_refl _) (by show 2 ≤ maxLen; decide) (get_consP (volAt_of (ints_rowI (HS39.row 2 rfl) (Nat.le_trans (fromL_len _) (by decide)) (fromL_bound _)) (Nat.le_trans (volQ_name _ (by rw [List.length_take, List.length_drop, hq]; rfl)) (by decide))) (get_consP (volAt_of (ints_rowI (HS39.row 3 rfl) (Nat.le_trans (fromL_len _) (by decide)) (fromL_bound _)) (Nat.le_trans (volQ_name _ (by rw [List.length_take, List.length_drop, hq]; rfl)) (by decide))) (get_nilP)))) (by decide) (small_vq (l := [(q.drop 1).take 9, (q.drop 10).take 9]))) (.tuple #[.agg (bs (encT [volQ ((q.drop 1).take 9), volQ ((q.drop 10).take 9)])), .int .i64 (encE [volQ ((q.drop 1).take 9), volQ ((q.drop 10).take 9)])])) fun W44 HS44 a44 H44 => wl_ <| p_ H44 rfl rfl fun a45 H45 => ?_
  clear H36 a36 HS36j H38 a38 H40 a40 H41 a41 H42 a42 H43 a43 HS39
  refine wl_ <| i_ H45 rfl (dd_ext rfl (H45.ev 30 rfl) rfl) fun a46 H46 => wl_ <| i_ H46 rfl (dd_ext rfl (H46.ev 30 rfl) rfl) fun a47 H47 => wl_ <| n_ H47 rfl (fun _ h => dd_new HS44 (bs (zer 32)) rfl (z := .agg (bs (zer 32))) (by kernel_rfl) rfl h) fun g6 W48 HS48 a48 H48 => wl_ <| t_ rfl (fun _ h => dd_setrow HS48 4 rfl rfl (H48.ev 6 rfl) (H48.ev 33 rfl) (by kernel_rfl) (((size_bs _).trans (length_encT _)) : (bs (encT [volQ ((q.drop 1).take 9), volQ ((q.drop 10).take 9)])).size = 32) (((size_bs _).trans (length_zer 32)) : (bs (zer 32)).size = 32) (one_bs _) h) fun W49 HS49 => wl_ <| p_ H48 rfl rfl fun a50 H50 => ln_ <| ?_
  clear H44 a44 H45 a45 H46 a46 HS44 H47 a47 HS48 H48 a48
  have H51 := H50.sel [1, 4, 6, 7] rfl
  refine nx <| sq_ <| rl_ <| wl_ <| p_ H51 rfl rfl fun a52 H52 => ?_
  clear H50 H51 a50
  by_cases hc54 : (encE [volQ ((q.drop 1).take 9), volQ ((q.drop 10).take 9)] : Int) = 0
  ·
   refine wl_ <| i_ H52 rfl (dd_cmp rfl (H52.ev 35 rfl) rfl (ne_f hc54)) fun a55 H55 => wl_ <| p_ H55 rfl rfl fun a56 H56 => wl_ <| ig H56 (wg_ H56 rfl rfl rfl rfl) rfl (v := .agg (bs (encT [volQ ((q.drop 1).take 9), volQ ((q.drop 10).take 9)]))) (dd_load HS49 4 0 rfl rfl (H56.ev 6 rfl) (slab_whole _) Tryd.underlying36 rfl (by rw [show (bs (encT [volQ ((q.drop 1).take 9), volQ ((q.drop 10).take 9)])).size = 32 from ((size_bs _).trans (length_encT _))]; kernel_rfl)) fun a57 H57 => wl_ <| ig H57 (wg_ H57 rfl rfl rfl rfl) rfl (v := .agg (bs q)) (dd_load HS49 0 0 rfl rfl (H57.ev 1 rfl) (slab_whole _) Tryd.underlying36 rfl (by rw [show (bs q).size = 32 from ((size_bs _).trans hq)]; kernel_rfl)) fun a58 H58 => ?_
   clear H52 a52 H55 a55 H56 a56 H57 a57
   cases hb60 : decide (encT [volQ ((q.drop 1).take 9), volQ ((q.drop 10).take 9)] = q)
   case false =>
    refine wl_ <| ig H58 (wg_ H58 rfl rfl rfl rfl) rfl (v := .bool true) (dd_nea (b := false) rfl (H58.ev 38 rfl) (H58.ev 39 rfl) (by kernel_rfl) (fun w => by have h9 := eql_blk (encT [volQ ((q.drop 1).take 9), volQ ((q.drop 10).take 9)]) q (length_encT _) hq w; rw [hb60] at h9; exact h9) rfl) fun a61 H61 => wl_ <| p_ H61 rfl rfl fun a62 H62 => ln_ <| nx <| ct_ H62 rfl <| sq_ <| rl_ <| q_ H62 2 rfl fun a63 H63 => ln_ <| nx <| wp_ret <| tr <| ret_run H63.env0 (res_tt Tryd.results44 (H63.get 2 rfl) (H63.get 3 rfl)) <| ?_
    clear H58 a58 H61 a61 H62 a62
    have hbad := okD_no (q := q) (fun ⟨_, h2, h3⟩ => by exact of_decide_eq_false hb60 (hQ ▸ h3))
    exact ⟨_, by rw [(dec_bad hbad).2], by rw [(dec_bad hbad).1]; exact OV.nil _ _, HS49.below⟩
   case true =>
    refine wl_ <| ig H58 (wg_ H58 rfl rfl rfl rfl) rfl (v := .bool false) (dd_nea (b := true) rfl (H58.ev 38 rfl) (H58.ev 39 rfl) (by kernel_rfl) (fun w => by have h9 := eql_blk (encT [volQ ((q.drop 1).take 9), volQ ((q.drop 10).take 9)]) q (length_encT _) hq w; rw [hb60] at h9; exact h9) rfl) fun a64 H64 => wl_ <| p_ H64 rfl rfl fun a65 H65 => ln_ <| nx <| cf_ H65 rfl <| wp_skip <| nx <| sq_ <| rl_ <| q_ H65 3 rfl fun a66 H66 => ln_ <| nx <| wp_ret <| ret_run H66.env0 (res_tt Tryd.results44 (H66.get 2 rfl) (H66.get 3 rfl)) <| ?_
    clear H58 a58 H64 a64 H65 a65
    have hok := okD_yes (q := q) (by rw [h0]; decide) (by rw [hQ]; exact encE_z.1 hc54) (by rw [hQ]; exact of_decide_eq_true hb60)
    exact ⟨_, by rw [(dec_good hok).2], by rw [(dec_good hok).1, hQ]; exact ⟨_, ⟨rfl, .inr ⟨_, 2, _, rfl, st_fresh HS49 1 rfl, HS49.row 1 rfl, Nat.le_refl _, by decide, rfl, rfl⟩⟩, cellsV_cons (.inr ⟨own_rowI (HS49.row 2 rfl) (st_fresh HS49 2 rfl) (Nat.le_trans (fromL_len _) (by decide)), fromL_bound _⟩) (Nat.le_trans (volQ_name _ (by rw [List.length_take, List.length_drop, hq]; rfl)) (by decide)) (cellsV_cons (.inr ⟨own_rowI (HS49.row 3 rfl) (st_fresh HS49 3 rfl) (Nat.le_trans (fromL_len _) (by decide)), fromL_bound _⟩) (Nat.le_trans (volQ_name _ (by rw [List.length_take, List.length_drop, hq]; rfl)) (by decide)) (cellsV_nil _ _))⟩, HS49.below⟩
  ·
   refine wl_ <| i_ H52 rfl (dd_cmp rfl (H52.ev 35 rfl) rfl (ne_t hc54)) fun a67 H67 => wl_ <| p_ H67 rfl rfl fun a68 H68 => wl_ <| k_ H68 (wg_ H68 rfl rfl rfl rfl) rfl fun a69 H69 => wl_ <| k_ H69 (wg_ H69 rfl rfl rfl rfl) rfl fun a70 H70 => wl_ <| k_ H70 (wg_ H70 rfl rfl rfl rfl) rfl fun a71 H71 => wl_ <| p_ H71 rfl rfl fun a72 H72 => ln_ <| nx <| ct_ H72 rfl <| sq_ <| rl_ <| q_ H72 2 rfl fun a73 H73 => ln_ <| nx <| wp_ret <| tr <| ret_run H73.env0 (res_tt Tryd.results44 (H73.get 2 rfl) (H73.get 3 rfl)) <| ?_
   clear H52 a52 H67 a67 H68 a68 H69 a69 H70 a70 H71 a71 H72 a72
   have hbad := okD_no (q := q) (fun ⟨_, h2, h3⟩ => by exact hc54 (encE_z.2 (hQ ▸ h2)))
   exact ⟨_, by rw [(dec_bad hbad).2], by rw [(dec_bad hbad).1]; exact OV.nil _ _, HS49.below⟩
set_option maxRecDepth 10000 in
set_option maxHeartbeats 1600000 in
theorem dect3 (q : List (BitVec 8)) (w : World) (hq : q.length = 32) (h0 : q.getD 0 0#8 = 3#8) :
    Calls Tryd.prog 44 #[.agg (bs q)] w fun e w' => ∃ v, e = .returned (.tuple #[v, .int .i64 (decE q)]) ∧ OV w.heap.size w' v (volL (decLT q)) ∧ Below w.heap.size w w' := by
  have HS := St.nil w noF
  have hQ : decQ q = [volQ ((q.drop 1).take 9), volQ ((q.drop 10).take 9), volQ ((q.drop 19).take 9)] := by unfold decQ; rw [h0]; rfl
  refine enter_en Tryd.func44 rfl Tryd.ntmps44 (Nat.le_of_ble_eq_true rfl) fun a0 (HA0 : En 43 [(0, .agg (bs q))] a0) => ?_
  refine sq_ <| rl_ <| wl_ <| n_ HA0 rfl (fun _ h => dd_box HS rfl (HA0.ev 0 rfl) (cs := (bs q)) rfl h) fun g1 W1 HS1 a1 H1 => q_ H1 2 rfl fun a2 H2 => ln_ <| nx <| sq_ <| sq_ <| rl_ <| wl_ <| i_ H2 rfl (xA 32 1 0 rfl (H2.ev 1 rfl) rfl) fun a3 H3 => wl_ <| i_ H3 rfl (v := .int .u8 3) (dd_get HS1 0 0 rfl rfl (H3.ev 8 rfl) ((bs_get hq 0 (by decide)).trans (by rw [h0]; rfl)) Tryd.underlying5 rfl) fun a4 H4 => wl_ <| i_ H4 rfl (dd_cmp rfl (H4.ev 9 rfl) rfl (gt_f (by decide))) fun a5 H5 => ln_ <| nx <| cf_ H5 rfl <| wp_skip <| nx <| sq_ <| rl_ <| wl_ <| i_ H5 rfl (xA 32 1 0 rfl (H5.ev 1 rfl) rfl) fun a6 H6 => wl_ <| i_ H6 rfl (v := .int .u8 3) (dd_get HS1 0 0 rfl rfl (H6.ev 11 rfl) ((bs_get hq 0 (by decide)).trans (by rw [h0]; rfl)) Tryd.underlying5 rfl) fun a7 H7 => wl_ <| n_ H7 rfl (A := fun g13 => .slice (some ⟨g13, 0, none⟩) 3 3) (fun _ h => dd_mk HS1 rfl (H7.ev 12 rfl) (H7.ev 12 rfl) (z := .agg #[.string (⟨#[]⟩), .slice none 0 0]) (sz := 2) (bytes := 40) (cs := #[.string (⟨#[]⟩), .slice none 0 0, .string (⟨#[]⟩), .slice none 0 0, .string (⟨#[]⟩), .slice none 0 0]) Tryd.underlying75 (by kernel_rfl) (by decide) (by decide) (by decide) (by kernel_rfl) h) fun g13 W8 HS8 a8 H8 => ?_
  clear HS HA0 a0 H1 a1 H2 a2 H3 a3 H4 a4 H5 a5 H6 a6
  refine wl_ <| p_ H8 rfl rfl fun a9 H9 => ln_ <| nx <| sq_ <| sq_ <| rl_ <| wl_ <| p_ H9 rfl rfl fun a10 H10 => wl_ <| i_ H10 rfl (v := .int .i64 3) (dd_len rfl (H10.ev 14 rfl) Tryd.underlying75) fun a11 H11 => wl_ <| p_ H11 rfl rfl fun a12 H12 => ln_ <| nx <| wp_block <| wp_unr 4 <| unr_go <| sq_ <| rl_ <| wl_ <| i_ H12 rfl (dd_cmp rfl (H12.ev 16 rfl) (H12.ev 15 rfl) (lt_t (by decide))) fun a13 H13 => ln_ <| nx <| sq_ <| ct_ H13 rfl <| wp_skip <| nx <| sq_ <| wp_block <| sq_ <| rl_ <| q_ H13 2 rfl fun a14 H14 => ln_ <| nx <| rl_ <| q_ H14 3 rfl fun a15 H15 => wl_ <| i_ H15 rfl (v := .int .i64 0) (dd_ari rfl (H15.ev 21 rfl) rfl rfl (by decide)) fun a16 H16 => ?_
  clear HS1 H7 a7 H8 a8 H9 a9 H10 a10 H11 a11 H12 a12 H13 a13 H14 a14
  refine wl_ <| i_ H16 rfl (v := .int .i64 1) (dd_ari rfl rfl (H16.ev 22 rfl) rfl (by decide)) fun a17 H17 => wl_ <| i_ H17 rfl (v := .slice (some ⟨g1, 1, none⟩) 31 31) (dd_slAl (l := 1) (n := 32) (sz := 1) (j := 1) rfl (H17.ev 1 rfl) (H17.ev 23 rfl) (by kernel_rfl) (by decide) rfl rfl) fun a18 H18 => wl_ <| i_ H18 rfl (v := .pointer (some ⟨g1, 1, none⟩)) (dd_s2a (m := 9) (sz := 1) rfl (H18.ev 24 rfl) (by kernel_rfl) (by decide)) fun a19 H19 => wl_ <| i_ H19 rfl (v := .agg (bs ((q.drop 1).take 9))) (dd_load HS8 0 1 rfl rfl (H19.ev 25 rfl) (bs_slab hq 1 9 (by decide)) Tryd.underlying110 rfl (by rw [show (bs ((q.drop 1).take 9)).size = 9 from ((size_bs _).trans (len_take (n := 32 - 1) (len_drop hq rfl) (by decide)))]; kernel_rfl)) fun a20 H20 => ?_
  clear H15 a15 H16 a16 H17 a17 H18 a18 H19 a19
  refine wl_ <| d_ H20 rfl (R := fun v w9 => ∃ gf22, v = .agg #[.string (strB (volQ ((q.drop 1).take 9)).1), .slice (some ⟨gf22, 0, none⟩) ((fromL ((q.drop 1).take 9)).length) ((fromL ((q.drop 1).take 9)).length)] ∧ (W8.heap.size ≤ gf22) ∧ (Row w9 gf22 3 (intsV (fromL ((q.drop 1).take 9))).toArray) ∧ Below W8.heap.size W8 w9) (dc_ Tryd.func53 rfl (args1 (H20.ev 26 rfl)) (frombytes_any ((q.drop 1).take 9) W8 (len_take (n := 32 - 1) (len_drop hq rfl) (by decide))) (fun _ w9 ⟨g9, he, h1, h2, hb⟩ => ⟨_, he, g9, rfl, h1, h2, hb⟩)) ?_
  rintro _ W21 ⟨gf22, rfl, hg22, hr22, hb21⟩ a21 H21
  have HS21 := HS8.same hb21
  clear H20 a20
  have HS21j : St w noF [⟨g1, 36, bs q⟩, ⟨g13, 81, #[.string (⟨#[]⟩), .slice none 0 0, .string (⟨#[]⟩), .slice none 0 0, .string (⟨#[]⟩), .slice none 0 0]⟩, ⟨gf22, 3, (intsV (fromL ((q.drop 1).take 9))).toArray⟩] W21 := HS8.joins hb21 hr22 hg22
  clear HS21 hr22 hg22
  clear HS8 hb21
  refine wl_ <| i_ H21 rfl (xS 2 0 rfl (H21.ev 19 rfl) (H21.ev 20 rfl)) fun a23 H23 => wl_ <| t_ rfl (fun _ h => dd_store (cs := #[.string (strB (volQ ((q.drop 1).take 9)).1), .slice (some ⟨gf22, 0, none⟩) ((fromL ((q.drop 1).take 9)).length) ((fromL ((q.drop 1).take 9)).length), .string (⟨#[]⟩), .slice none 0 0, .string (⟨#[]⟩), .slice none 0 0]) HS21j 1 0 rfl rfl (H23.ev 28 rfl) (H23.ev 27 rfl) (by kernel_rfl) (Nat.le_of_ble_eq_true rfl) (one_l (ao_cons rfl (ao_cons rfl ao_nil))) rfl h) fun W24 HS24 => ln_ <| ?_
  clear H21 a21 HS21j
  have H25 := H23.sel [1, 4, 15, 16] rfl
  refine bn <| nx <| rl_ <| wl_ <| i_ H25 rfl (v := .int .i64 1) (dd_ari rfl (H25.ev 16 rfl) rfl rfl (by decide)) fun a26 H26 => wl_ <| p_ H26 rfl rfl fun a27 H27 => ln_ <| nx <| unr_go <| sq_ <| rl_ <| wl_ <| i_ H27 rfl (dd_cmp rfl (H27.ev 16 rfl) (H27.ev 15 rfl) (lt_t (by decide))) fun a28 H28 => ln_ <| nx <| sq_ <| ct_ H28 rfl <| wp_skip <| nx <| sq_ <| wp_block <| sq_ <| rl_ <| q_ H28 2 rfl fun a29 H29 => ln_ <| nx <| rl_ <| q_ H29 3 rfl fun a30 H30 => wl_ <| i_ H30 rfl (v := .int .i64 9) (dd_ari rfl (H30.ev 21 rfl) rfl rfl (by decide)) fun a31 H31 => wl_ <| i_ H31 rfl (v := .int .i64 10) (dd_ari rfl rfl (H31.ev 22 rfl) rfl (by decide)) fun a32 H32 => wl_ <| i_ H32 rfl (v := .slice (some ⟨g1, 10, none⟩) 22 22) (dd_slAl (l := 10) (n := 32) (sz := 1) (j := 10) rfl (H32.ev 1 rfl) (H32.ev 23 rfl) (by kernel_rfl) (by decide) rfl rfl) fun a33 H33 => ?_
  clear H23 H25 a23 H26 a26 H27 a27 H28 a28 H29 a29 H30 a30 H31 a31
  refine wl_ <| i_ H33 rfl (v := .pointer (some ⟨g1, 10, none⟩)) (dd_s2a (m := 9) (sz := 1) rfl (H33.ev 24 rfl) (by kernel_rfl) (by decide)) fun a34 H34 => wl_ <| i_ H34 rfl (v := .agg (bs ((q.drop 10).take 9))) (dd_load HS24 0 10 rfl rfl (H34.ev 25 rfl) (bs_slab hq 10 9 (by decide)) Tryd.underlying110 rfl (by rw [show (bs ((q.drop 10).take 9)).size = 9 from ((size_bs _).trans (len_take (n := 32 - 10) (len_drop hq rfl) (by decide)))]; kernel_rfl)) fun a35 H35 => ?_
  clear H32 a32 H33 a33 H34 a34
  refine wl_ <| d_ H35 rfl (R := fun v w9 => ∃ gf37, v = .agg #[.string (strB (volQ ((q.drop 10).take 9)).1), .slice (some ⟨gf37, 0, none⟩) ((fromL ((q.drop 10).take 9)).length) ((fromL ((q.drop 10).take 9)).length)] ∧ (W24.heap.size ≤ gf37) ∧ (Row w9 gf37 3 (intsV (fromL ((q.drop 10).take 9))).toArray) ∧ Below W24.heap.size W24 w9) (dc_ Tryd.func53 rfl (args1 (H35.ev 26 rfl)) (frombytes_any ((q.drop 10).take 9) W24 (len_take (n := 32 - 10) (len_drop hq rfl) (by decide))) (fun _ w9 ⟨g9, he, h1, h2, hb⟩ => ⟨_, he, g9, rfl, h1, h2, hb⟩)) ?_
  rintro _ W36 ⟨gf37, rfl, hg37, hr37, hb36⟩ a36 H36
  have HS36 := HS24.same hb36
  clear H35 a35
  have HS36j : St w noF [⟨g1, 36, bs q⟩, ⟨g13, 81, #[.string (strB (volQ ((q.drop 1).take 9)).1), .slice (some ⟨gf22, 0, none⟩) ((fromL ((q.drop 1).take 9)).length) ((fromL ((q.drop 1).take 9)).length), .string (⟨#[]⟩), .slice none 0 0, .string (⟨#[]⟩), .slice none 0 0]⟩, ⟨gf22, 3, (intsV (fromL ((q.drop 1).take 9))).toArray⟩, ⟨gf37, 3, (intsV (fromL ((q.drop 10).take 9))).toArray⟩] W36 := HS24.joins hb36 hr37 hg37
  clear HS36 hr37 hg37
  clear HS24 hb36
  refine wl_ <| i_ H36 rfl (xS 2 2 rfl (H36.ev 19 rfl) (H36.ev 20 rfl)) fun a38 H38 => wl_ <| t_ rfl (fun _ h => dd_store (cs := #[.string (strB (volQ ((q.drop 1).take 9)).1), .slice (some ⟨gf22, 0, none⟩) ((fromL ((q.drop 1).take 9)).length) ((fromL ((q.drop 1).take 9)).length), .string (strB (volQ ((q.drop 10).take 9)).1), .slice (some ⟨gf37, 0, none⟩) ((fromL ((q.drop 10).take 9)).length) ((fromL ((q.drop 10).take 9)).length), .string (⟨#[]⟩), .slice none 0 0]) HS36j 1 2 rfl rfl (H38.ev 28 rfl) (H38.ev 27 rfl) (by kernel_rfl) (Nat.le_of_ble_eq_true rfl) (one_l (ao_cons rfl (ao_cons rfl ao_nil))) rfl h) fun W39 HS39 => ln_ <| bn <| nx <| rl_ <| wl_ <| i_ H38 rfl (v := .int .i64 2) (dd_ari rfl (H38.ev 16 rfl) rfl rfl (by decide)) fun a40 H40 => wl_ <| p_ H40 rfl rfl fun a41 H41 => ln_ <| nx <| unr_go <| sq_ <| rl_ <| wl_ <| i_ H41 rfl (dd_cmp rfl (H41.ev 16 rfl) (H41.ev 15 rfl) (lt_t (by decide))) fun a42 H42 => ln_ <| nx <| sq_ <| ct_ H42 rfl <| wp_skip <| nx <| sq_ <| wp_block <| sq_ <| rl_ <| q_ H42 2 rfl fun a43 H43 => ln_ <| nx <| rl_ <| q_ H43 3 rfl fun a44 H44 => wl_ <| i_ H44 rfl (v := .int .i64 18) (dd_ari rfl (H44.ev 21 rfl) rfl rfl (by decide)) fun a45 H45 => ?_
  clear H36 a36 HS36j H38 a38 H40 a40 H41 a41 H42 a42 H43 a43
  refine wl_ <| i_ H45 rfl (v := .int .i64 19) (dd_ari rfl rfl (H45.ev 22 rfl) rfl (by decide)) fun a46 H46 => wl_ <| i_ H46 rfl (v := .slice (some ⟨g1, 19, none⟩) 13 13) (dd_slAl (l := 19) (n := 32) (sz := 1) (j := 19) rfl (H46.ev 1 rfl) (H46.ev 23 rfl) (by kernel_rfl) (by decide) rfl rfl) fun a47 H47 => wl_ <| i_ H47 rfl (v := .pointer (some ⟨g1, 19, none⟩)) (dd_s2a (m := 9) (sz := 1) rfl (H47.ev 24 rfl) (by kernel_rfl) (by decide)) fun a48 H48 => wl_ <| i_ H48 rfl (v := .agg (bs ((q.drop 19).take 9))) (dd_load HS39 0 19 rfl rfl (H48.ev 25 rfl) (bs_slab hq 19 9 (by decide)) Tryd.underlying110 rfl (by rw [show (bs ((q.drop 19).take 9)).size = 9 from ((size_bs _).trans (len_take (n := 32 - 19) (len_drop hq rfl) (by decide)))]; kernel_rfl)) fun a49 H49 => ?_
  clear H44 a44 H45 a45 H46 a46 H47 a47 H48 a48
  refine wl_ <| d_ H49 rfl (R := fun v w9 => ∃ gf51, v = .agg #[.string (strB (volQ ((q.drop 19).take 9)).1), .slice (some ⟨gf51, 0, none⟩) ((fromL ((q.drop 19).take 9)).length) ((fromL ((q.drop 19).take 9)).length)] ∧ (W39.heap.size ≤ gf51) ∧ (Row w9 gf51 3 (intsV (fromL ((q.drop 19).take 9))).toArray) ∧ Below W39.heap.size W39 w9) (dc_ Tryd.func53 rfl (args1 (H49.ev 26 rfl)) (frombytes_any ((q.drop 19).take 9) W39 (len_take (n := 32 - 19) (len_drop hq rfl) (by decide))) (fun _ w9 ⟨g9, he, h1, h2, hb⟩ => ⟨_, he, g9, rfl, h1, h2, hb⟩)) ?_
  rintro _ W50 ⟨gf51, rfl, hg51, hr51, hb50⟩ a50 H50
  have HS50 := HS39.same hb50
  clear H49 a49
  have HS50j : St w noF [⟨g1, 36, bs q⟩, ⟨g13, 81, #[.string (strB (volQ ((q.drop 1).take 9)).1), .slice (some ⟨gf22, 0, none⟩) ((fromL ((q.drop 1).take 9)).length) ((fromL ((q.drop 1).take 9)).length), .string (strB (volQ ((q.drop 10).take 9)).1), .slice (some ⟨gf37, 0, none⟩) ((fromL ((q.drop 10).take 9)).length) ((fromL ((q.drop 10).take 9)).length), .string (⟨#[]⟩), .slice none 0 0]⟩, ⟨gf22, 3, (intsV (fromL ((q.drop 1).take 9))).toArray⟩, ⟨gf37, 3, (intsV (fromL ((q.drop 10).take 9))).toArray⟩, ⟨gf51, 3, (intsV (fromL ((q.drop 19).take 9))).toArray⟩] W50 := HS39.joins hb50 hr51 hg51
  clear HS50 hr51 hg51
  clear HS39 hb50
  refine wl_ <| i_ H50 rfl (xS 2 4 rfl (H50.ev 19 rfl) (H50.ev 20 rfl)) fun a52 H52 => wl_ <| t_ rfl (fun _ h => dd_store (cs := #[.string (strB (volQ ((q.drop 1).take 9)).1), .slice (some ⟨gf22, 0, none⟩) ((fromL ((q.drop 1).take 9)).length) ((fromL ((q.drop 1).take 9)).length), .string (strB (volQ ((q.drop 10).take 9)).1), .slice (some ⟨gf37, 0, none⟩) ((fromL ((q.drop 10).take 9)).length) ((fromL ((q.drop 10).take 9)).length), .string (strB (volQ ((q.drop 19).take 9)).1), .slice (some ⟨gf51, 0, none⟩) ((fromL ((q.drop 19).take 9)).length) ((fromL ((q.drop 19).take 9)).length)]) HS50j 1 4 rfl rfl (H52.ev 28 rfl) (H52.ev 27 rfl) (by kernel_rfl) (Nat.le_of_ble_eq_true rfl) (one_l (ao_cons rfl (ao_cons rfl ao_nil))) rfl h) fun W53 HS53 => ln_ <| bn <| nx <| rl_ <| wl_ <| i_ H52 rfl (v := .int .i64 3) (dd_ari rfl (H52.ev 16 rfl) rfl rfl (by decide)) fun a54 H54 => wl_ <| p_ H54 rfl rfl fun a55 H55 => ln_ <| nx <| unr_go <| sq_ <| rl_ <| wl_ <| i_ H55 rfl (dd_cmp rfl (H55.ev 16 rfl) (H55.ev 15 rfl) (lt_f (by decide))) fun a56 H56 => ln_ <| nx <| sq_ <| cf_ H56 rfl <| wp_exit <| tx <| tx <| bx <| nx <| sq_ <| sq_ <| rl_ <| wl_ <| p_ H56 rfl rfl fun a57 H57 => wl_ <| c_ H57 rfl HS53 (dcs Tryd.func48 rfl (args1 (H57.ev 31 rfl)) (enct_any _ _ _ [volQ ((q.drop 1).take 9), volQ ((q.drop 10).take 9), volQ ((q.drop 19).take 9)] W53 (vols_row (l := volL [volQ ((q.drop 1).take 9), volQ ((q.drop 10).take 9), volQ ((q.drop 19).take 9)]) (HS53.row 1 rfl) (Nat.le_refl _) (by show 3 ≤ maxLen; decide) (get_consP (volAt_of (ints_rowI (HS53.row 2 rfl) (Nat.le_trans (fromL_len _) (by decide)) (fromL_bound _)) (Nat.le_trans (volQ_name _ (by rw [List.length_take, List.length_drop, hq]; rfl)) (by decide))) (get_consP (volAt_of (ints_rowI (HS53.row 3 rfl) (Nat.le_trans (fromL_len _) (by decide)) (fromL_bound _)) (Nat.le_trans (volQ_name _ (by rw [List.length_take, List.length_drop, hq]; rfl)) (by decide))) (get_consP (volAt_of (ints_rowI (HS53.row 4 rfl) (Nat.le_trans (fromL_len _) (by decide)) (fromL_bound _)) (Nat.le_trans (volQ_name _ (by rw [List.length_take, List.length_drop, hq]; rfl)) (by decide))) (get_nilP))))) (by decide) (small_vq (l := [(q.drop 1).take 9, (q.drop 10).take 9, (q.drop 19).take 9]))) (.tuple #[.agg (bs (encT [volQ ((q.drop 1).take 9), volQ ((q.drop 10).take 9), volQ ((q.drop 19).take 9)])), .int .i64 (encE [volQ ((q.drop 1).take 9), volQ ((q.drop 10).take 9), volQ ((q.drop 19).take 9)])])) fun W58 HS58 a58 H58 => wl_ <| p_ H58 rfl rfl fun a59 H59 => ?_
  clear H50 a50 HS50j H52 a52 H54 a54 H55 a55 H56 a56 H57 a57 HS53
  refine wl_ <| i_ H59 rfl (dd_ext rfl (H59.ev 30 rfl) rfl) fun a60 H60 => wl_ <| i_ H60 rfl (dd_ext rfl (H60.ev 30 rfl) rfl) fun a61 H61 => wl_ <| n_ H61 rfl (fun _ h => dd_new HS58 (bs (zer 32)) rfl (z := .agg (bs (zer 32))) (by kernel_rfl) rfl h) fun g6 W62 HS62 a62 H62 => wl_ <| t_ rfl (fun _ h => dd_setrow HS62 5 rfl rfl (H62.ev 6 rfl) (H62.ev 33 rfl) (by kernel_rfl) (((size_bs _).trans (length_encT _)) : (bs (encT [volQ ((q.drop 1).take 9), volQ ((q.drop 10).take 9), volQ ((q.drop 19).take 9)])).size = 32) (((size_bs _).trans (length_zer 32)) : (bs (zer 32)).size = 32) (one_bs _) h) fun W63 HS63 => wl_ <| p_ H62 rfl rfl fun a64 H64 => ln_ <| ?_
  clear H58 a58 H59 a59 H60 a60 HS58 H61 a61 HS62 H62 a62
  have H65 := H64.sel [1, 4, 6, 7] rfl
  refine nx <| sq_ <| rl_ <| wl_ <| p_ H65 rfl rfl fun a66 H66 => ?_
  clear H64 H65 a64
  by_cases hc68 : (encE [volQ ((q.drop 1).take 9), volQ ((q.drop 10).take 9), volQ ((q.drop 19).take 9)] : Int) = 0
  ·
   refine wl_ <| i_ H66 rfl (dd_cmp rfl (H66.ev 35 rfl) rfl (ne_f hc68)) fun a69 H69 => wl_ <| p_ H69 rfl rfl fun a70 H70 => wl_ <| ig H70 (wg_ H70 rfl rfl rfl rfl) rfl (v := .agg (bs (encT [volQ ((q.drop 1).take 9), volQ ((q.drop 10).take 9), volQ ((q.drop 19).take 9)]))) (dd_load HS63 5 0 rfl rfl (H70.ev 6 rfl) (slab_whole _) Tryd.underlying36 rfl (by rw [show (bs (encT [volQ ((q.drop 1).take 9), volQ ((q.drop 10).take 9), volQ ((q.drop 19).take 9)])).size = 32 from ((size_bs _).trans (length_encT _))]; kernel_rfl)) fun a71 H71 => wl_ <| ig H71 (wg_ H71 rfl rfl rfl rfl) rfl (v := .agg (bs q)) (dd_load HS63 0 0 rfl rfl (H71.ev 1 rfl) (slab_whole _) Tryd.underlying36 rfl (by rw [show (bs q).size = 32 from ((size_bs _).trans hq)]; kernel_rfl)) fun a72 H72 => ?_
   clear H66 a66 H69 a69 H70 a70 H71 a71
   cases hb74 : decide (encT [volQ ((q.drop 1).take 9), volQ ((q.drop 10).take 9), volQ ((q.drop 19).take 9)] = q)
   case false =>
    refine wl_ <| ig H72 (wg_ H72 rfl rfl rfl rfl) rfl (v := .bool true) (dd_nea (b := false) rfl (H72.ev 38 rfl) (H72.ev 39 rfl) (by kernel_rfl) (fun w => by have h9 := eql_blk (encT [volQ ((q.drop 1).take 9), volQ ((q.drop 10).take 9), volQ ((q.drop 19).take 9)]) q (length_encT _) hq w; rw [hb74] at h9; exact h9) rfl) fun a75 H75 => wl_ <| p_ H75 rfl rfl fun a76 H76 => ln_ <| nx <| ct_ H76 rfl <| sq_ <| rl_ <| q_ H76 2 rfl fun a77 H77 => ln_ <| nx <| wp_ret <| tr <| ret_run H77.env0 (res_tt Tryd.results44 (H77.get 2 rfl) (H77.get 3 rfl)) <| ?_
    clear H72 a72 H75 a75 H76 a76
    have hbad := okD_no (q := q) (fun ⟨_, h2, h3⟩ => by exact of_decide_eq_false hb74 (hQ ▸ h3))
    exact ⟨_, by rw [(dec_bad hbad).2], by rw [(dec_bad hbad).1]; exact OV.nil _ _, HS63.below⟩
   case true =>
    refine wl_ <| ig H72 (wg_ H72 rfl rfl rfl rfl) rfl (v := .bool false) (dd_nea (b := true) rfl (H72.ev 38 rfl) (H72.ev 39 rfl) (by kernel_rfl) (fun w => by have h9 := eql_blk (encT [volQ ((q.drop 1).take 9), volQ ((q.drop 10).take 9), volQ ((q.drop 19).take 9)]) q (length_encT _) hq w; rw [hb74] at h9; exact h9) rfl) fun a78 H78 => wl_ <| p_ H78 rfl rfl fun a79 H79 => ln_ <| nx <| cf_ H79 rfl <| wp_skip <| nx <| sq_ <| rl_ <| q_ H79 3 rfl fun a80 H80 => ln_ <| nx <| wp_ret <| ret_run H80.env0 (res_tt Tryd.results44 (H80.get 2 rfl) (H80.get 3 rfl)) <| ?_
    clear H72 a72 H78 a78 H79 a79
    have hok := okD_yes (q := q) (by rw [h0]; decide) (by rw [hQ]; exact encE_z.1 hc68) (by rw [hQ]; exact of_decide_eq_true hb74)
    exact ⟨_, by rw [(dec_good hok).2], by rw [(dec_good hok).1, hQ]; exact ⟨_, ⟨rfl, .inr ⟨_, 3, _, rfl, st_fresh HS63 1 rfl, HS63.row 1 rfl, Nat.le_refl _, by decide, rfl, rfl⟩⟩, cellsV_cons (.inr ⟨own_rowI (HS63.row 2 rfl) (st_fresh HS63 2 rfl) (Nat.le_trans (fromL_len _) (by decide)), fromL_bound _⟩) (Nat.le_trans (volQ_name _ (by rw [List.length_take, List.length_drop, hq]; rfl)) (by decide)) (cellsV_cons (.inr ⟨own_rowI (HS63.row 3 rfl) (st_fresh HS63 3 rfl) (Nat.le_trans (fromL_len _) (by decide)), fromL_bound _⟩) (Nat.le_trans (volQ_name _ (by rw [List.length_take, List.length_drop, hq]; rfl)) (by decide)) (cellsV_cons (.inr ⟨own_rowI (HS63.row 4 rfl) (st_fresh HS63 4 rfl) (Nat.le_trans (fromL_len _) (by decide)), fromL_bound _⟩) (Nat.le_trans (volQ_name _ (by rw [List.length_take, List.length_drop, hq]; rfl)) (by decide)) (cellsV_nil _ _)))⟩, HS63.below⟩
  ·
   refine wl_ <| i_ H66 rfl (dd_cmp rfl (H66.ev 35 rfl) rfl (ne_t hc68)) fun a81 H81 => wl_ <| p_ H81 rfl rfl fun a82 H82 => wl_ <| k_ H82 (wg_ H82 rfl rfl rfl rfl) rfl fun a83 H83 => wl_ <| k_ H83 (wg_ H83 rfl rfl rfl rfl) rfl fun a84 H84 => wl_ <| k_ H84 (wg_ H84 rfl rfl rfl rfl) rfl fun a85 H85 => wl_ <| p_ H85 rfl rfl fun a86 H86 => ln_ <| nx <| ct_ H86 rfl <| sq_ <| rl_ <| q_ H86 2 rfl fun a87 H87 => ln_ <| nx <| wp_ret <| tr <| ret_run H87.env0 (res_tt Tryd.results44 (H87.get 2 rfl) (H87.get 3 rfl)) <| ?_
   clear H66 a66 H81 a81 H82 a82 H83 a83 H84 a84 H85 a85 H86 a86
   have hbad := okD_no (q := q) (fun ⟨_, h2, h3⟩ => by exact hc68 (encE_z.2 (hQ ▸ h2)))
   exact ⟨_, by rw [(dec_bad hbad).2], by rw [(dec_bad hbad).1]; exact OV.nil _ _, HS63.below⟩
set_option maxRecDepth 10000 in
set_option maxHeartbeats 1600000 in
theorem dect4 (q : List (BitVec 8)) (w : World) (hq : q.length = 32) (h0 : (3 : Int) < bd (q.getD 0 0#8)) :
    Calls Tryd.prog 44 #[.agg (bs q)] w fun e w' => ∃ v, e = .returned (.tuple #[v, .int .i64 (decE q)]) ∧ OV w.heap.size w' v (volL (decLT q)) ∧ Below w.heap.size w w' := by
  have HS := St.nil w noF
  have hbad := okD_no (q := q) (fun ⟨h1, _, _⟩ => by unfold bd at h0; omega)
  refine enter_en Tryd.func44 rfl Tryd.ntmps44 (Nat.le_of_ble_eq_true rfl) fun a0 (HA0 : En 43 [(0, .agg (bs q))] a0) => ?_
  refine sq_ <| rl_ <| wl_ <| n_ HA0 rfl (fun _ h => dd_box HS rfl (HA0.ev 0 rfl) (cs := (bs q)) rfl h) fun g1 W1 HS1 a1 H1 => q_ H1 2 rfl fun a2 H2 => ln_ <| nx <| sq_ <| sq_ <| rl_ <| wl_ <| i_ H2 rfl (xA 32 1 0 rfl (H2.ev 1 rfl) rfl) fun a3 H3 => wl_ <| i_ H3 rfl (dd_get HS1 0 0 rfl rfl (H3.ev 8 rfl) (bs_get hq 0 (by decide)) Tryd.underlying5 rfl) fun a4 H4 => wl_ <| i_ H4 rfl (dd_cmp rfl (H4.ev 9 rfl) rfl (gt_t h0)) fun a5 H5 => ln_ <| nx <| ct_ H5 rfl <| sq_ <| rl_ <| q_ H5 2 rfl fun a6 H6 => ln_ <| nx <| wp_ret <| tr <| ret_run H6.env0 (res_tt Tryd.results44 (H6.get 2 rfl) (H6.get 3 rfl)) <| ?_
  clear HS HA0 a0 H1 a1 H2 a2 H3 a3 H4 a4 H5 a5
  exact ⟨_, by rw [(dec_bad hbad).2], by rw [(dec_bad hbad).1]; exact OV.nil _ _, HS1.below⟩
theorem dect_any (q : List (BitVec 8)) (w : World) (hq : q.length = 32) :
    Calls Tryd.prog 44 #[.agg (bs q)] w fun e w' => ∃ v, e = .returned (.tuple #[v, .int .i64 (decE q)]) ∧ OV w.heap.size w' v (volL (decLT q)) ∧ Below w.heap.size w w' := by
  have hb := bd_lo (q.getD 0 0#8)
  by_cases h : (3 : Int) < bd (q.getD 0 0#8)
  · exact dect4 q w hq h
  have e : q.getD 0 0#8 = BitVec.ofInt 8 (bd (q.getD 0 0#8)) := bd_inj (bd_of _ hb (by omega))
  rcases (by omega : bd (q.getD 0 0#8) = 0 ∨ bd (q.getD 0 0#8) = 1 ∨ bd (q.getD 0 0#8) = 2 ∨ bd (q.getD 0 0#8) = 3) with h | h | h | h <;> rw [h] at e
  · exact dect0 q w hq e
  · exact dect1 q w hq e
  · exact dect2 q w hq e
  · exact dect3 q w hq e
end Go.Proofs.YtnmaplgodimohaaDoor

/- When volumes take just as many blocks as they name. No function of the program is named here. -/
set_option maxRecDepth 4000
namespace Go.Proofs.YtnmaplgodimohaaDoor
open Go Go.RowKit
theorem bitI_get (x : Int) (b : Nat) (hb : b < 12) : (bitI x).getLsbD b = decide (x = (b : Int)) := by
  unfold bitI
  by_cases h : 0 ≤ x ∧ x < 12
  · rw [if_pos h]
    obtain ⟨n, hn⟩ := Int.eq_ofNat_of_zero_le h.1
    subst hn
    have hlt : n < 12 := by omega
    have key : ∀ (n b : Fin 12), (1#16 <<< n.val).getLsbD b.val = decide (n.val = b.val) := by decide
    have := key ⟨n, hlt⟩ ⟨b, hb⟩
    simp only at this
    rw [Int.toNat_natCast, this]
    exact decide_eq_decide.2 (by omega)
  · rw [if_neg h, decide_eq_false (by omega)]
    simp
theorem useL_get (L : List Int) (b : Nat) (hb : b < 12) : ∀ u : BitVec 16, (useL u L).getLsbD b = (u.getLsbD b || decide ((b : Int) ∈ L)) := by
  induction L with
  | nil => intro u; simp [useL]
  | cons x L ih =>
    intro u
    have e : useL u (x :: L) = useL (u ||| bitI x) L := rfl
    rw [e, ih, BitVec.getLsbD_or, bitI_get x b hb, Bool.or_assoc]
    congr 1
    rw [Bool.eq_iff_iff]
    simp only [Bool.or_eq_true, decide_eq_true_eq, List.mem_cons]
    exact or_congr ⟨fun h => h.symm, fun h => h.symm⟩ Iff.rfl
def flatB (l : List Tv) : List Int := l.flatMap (·.2)
theorem usedV_get (l : List Tv) (b : Nat) (hb : b < 12) : (usedV (volL l)).getLsbD b = (decide (b = 0) || decide ((b : Int) ∈ flatB l)) := by
  have key : ∀ (l : List Tv) (u : BitVec 16), ((volL l).foldl (fun u x => useL u x.2) u).getLsbD b = (u.getLsbD b || decide ((b : Int) ∈ flatB l)) := by
    intro l
    induction l with
    | nil => intro u; simp [volL, flatB]
    | cons x l ih =>
      intro u
      have e : (volL (x :: l)).foldl (fun u x => useL u x.2) u = (volL l).foldl (fun u x => useL u x.2) (useL u x.2) := rfl
      rw [e, ih, useL_get _ b hb, Bool.or_assoc]
      congr 1
      rw [Bool.eq_iff_iff]
      rw [Bool.or_eq_true, decide_eq_true_eq, decide_eq_true_eq, decide_eq_true_eq]
      unfold flatB
      rw [List.flatMap_cons, List.mem_append]
  unfold usedV
  rw [key l 1#16]
  congr 1
  have h1 : ∀ b : Fin 12, (1#16).getLsbD b.val = decide (b.val = 0) := by decide
  exact h1 ⟨b, hb⟩
/- how many blocks there are that are named -/
def cntF (F : List Int) : Nat := (List.range 12).countP fun b : Nat => decide (1 ≤ b) && decide (((b : Nat) : Int) ∈ F)
def okF (F : List Int) : Prop := F.Nodup ∧ ∀ x ∈ F, 1 ≤ x ∧ x < 12
theorem countP_more {l : List Nat} (hl : l.Nodup) (p : Nat → Bool) (a : Nat) (q : Nat → Bool) (hq : ∀ b, q b = (p b || decide (b = a))) : l.countP q = l.countP p + if a ∈ l ∧ p a = false then 1 else 0 := by
  induction l with
  | nil => simp
  | cons x l ih =>
    obtain ⟨hx, hl⟩ := List.nodup_cons.1 hl
    rw [List.countP_cons, List.countP_cons, ih hl, hq x]
    by_cases hxa : x = a
    · subst hxa
      have h2 : ¬ (x ∈ l ∧ p x = false) := fun h => hx h.1
      rw [if_neg h2]
      cases hp : p x <;> simp
    · have h3 : (x :: l).Mem a ↔ a ∈ l := by
        constructor
        · intro h; cases h with
          | head => exact absurd rfl hxa
          | tail _ h => exact h
        · intro h; exact List.Mem.tail _ h
      have h4 : (a ∈ x :: l ∧ p a = false) ↔ (a ∈ l ∧ p a = false) := and_congr h3 Iff.rfl
      rw [decide_eq_false hxa, Bool.or_false]
      by_cases h5 : a ∈ l ∧ p a = false
      · rw [if_pos h5, if_pos (h4.2 h5)]; omega
      · rw [if_neg h5, if_neg (fun h => h5 (h4.1 h))]; omega
theorem cntF_cons (x : Int) (F : List Int) : cntF (x :: F) = cntF F + if (1 ≤ x ∧ x < 12) ∧ x ∉ F then 1 else 0 := by
  unfold cntF
  by_cases hv : 1 ≤ x ∧ x < 12
  · obtain ⟨n, hn⟩ := Int.eq_ofNat_of_zero_le (show 0 ≤ x by omega)
    subst hn
    rw [countP_more List.nodup_range (fun b : Nat => decide (1 ≤ b) && decide (((b : Nat) : Int) ∈ F)) n _ (fun b => by
      rw [Bool.eq_iff_iff]
      simp only [Bool.or_eq_true, Bool.and_eq_true, decide_eq_true_eq, List.mem_cons]
      constructor
      · rintro ⟨h1, h2 | h2⟩
        · right; omega
        · left; exact ⟨h1, h2⟩
      · rintro (⟨h1, h2⟩ | h1)
        · exact ⟨h1, .inr h2⟩
        · exact ⟨by omega, .inl (by omega)⟩)]
    congr 1
    by_cases hF : (n : Int) ∈ F
    · rw [if_neg (fun h => by have := h.2; simp [hF] at this; omega), if_neg (fun h => h.2 hF)]
    · rw [if_pos ⟨by simp; omega, by simp [hF]⟩, if_pos ⟨hv, hF⟩]
  · rw [if_neg (fun h => hv h.1), Nat.add_zero]
    apply List.countP_congr
    intro b hb
    have hb := List.mem_range.1 hb
    simp only [Bool.and_eq_true, decide_eq_true_eq, List.mem_cons]
    constructor
    · rintro ⟨h1, h2 | h2⟩
      · omega
      · exact ⟨h1, h2⟩
    · rintro ⟨h1, h2⟩; exact ⟨h1, .inr h2⟩
theorem cntF_le : ∀ F : List Int, cntF F ≤ F.length
  | [] => by decide
  | x :: F => by
    have := cntF_le F
    rw [cntF_cons, List.length_cons]
    split <;> omega
theorem cntF_ok : ∀ F : List Int, cntF F = F.length ↔ okF F
  | [] => ⟨fun _ => ⟨List.nodup_nil, fun x h => by cases h⟩, fun _ => by decide⟩
  | x :: F => by
    have ih := cntF_ok F
    have hle := cntF_le F
    rw [cntF_cons, List.length_cons]
    constructor
    · intro h
      split at h
      · rename_i hx
        obtain ⟨h1, h2⟩ := ih.1 (by omega)
        exact ⟨List.nodup_cons.2 ⟨hx.2, h1⟩, fun y hy => by
          cases hy with
          | head => exact hx.1
          | tail _ hy => exact h2 y hy⟩
      · omega
    · rintro ⟨h1, h2⟩
      obtain ⟨h3, h4⟩ := List.nodup_cons.1 h1
      rw [if_pos ⟨h2 x (by simp), h3⟩, ih.2 ⟨h4, fun y hy => h2 y (by simp [hy])⟩]
theorem freeT_cnt (l : List Tv) : freeT l = 11 - cntF (flatB l) ∧ cntF (flatB l) ≤ 11 := by
  have h := usedV_get l
  have e : freeT l = (List.range 12).countP fun b : Nat => !(decide (b = 0) || decide (((b : Nat) : Int) ∈ flatB l)) := by
    unfold freeT freeL
    rw [List.length_map, ← List.countP_eq_length_filter]
    apply List.countP_congr
    intro b hb
    rw [h b (List.mem_range.1 hb)]
  unfold cntF
  rw [e]
  generalize flatB l = F
  simp only [List.range, List.range.loop, List.countP_cons, List.countP_nil]
  generalize decide ((((1 : Nat) : Int)) ∈ F) = b1
  generalize decide ((((2 : Nat) : Int)) ∈ F) = b2
  generalize decide ((((3 : Nat) : Int)) ∈ F) = b3
  generalize decide ((((4 : Nat) : Int)) ∈ F) = b4
  generalize decide ((((5 : Nat) : Int)) ∈ F) = b5
  generalize decide ((((6 : Nat) : Int)) ∈ F) = b6
  generalize decide ((((7 : Nat) : Int)) ∈ F) = b7
  generalize decide ((((8 : Nat) : Int)) ∈ F) = b8
  generalize decide ((((9 : Nat) : Int)) ∈ F) = b9
  generalize decide ((((10 : Nat) : Int)) ∈ F) = b10
  generalize decide ((((11 : Nat) : Int)) ∈ F) = b11
  simp
  revert b1 b2 b3 b4 b5 b6 b7 b8 b9 b10 b11
  decide
theorem sumT_flat (l : List Tv) : sumT l = (flatB l).length := by
  unfold sumT flatB
  rw [List.length_flatMap]
theorem free_okF (l : List Tv) : decide ((11 : Int) - (freeT l : Int) = (sumT l : Int)) = true ↔ okF (flatB l) := by
  obtain ⟨h1, h2⟩ := freeT_cnt l
  rw [decide_eq_true_eq, ← cntF_ok, sumT_flat]
  omega
theorem okF_left {F G : List Int} (h : okF (F ++ G)) : okF F := ⟨(List.nodup_append.1 h.1).1, fun x hx => h.2 x (by simp [hx])⟩
theorem okF_snoc {F : List Int} {x : Int} (h : okF F) (hx : x ∉ F) (h1 : 1 ≤ x) (h2 : x < 12) : okF (F ++ [x]) := by
  refine ⟨List.nodup_append.2 ⟨h.1, by simp, fun a ha b hb => ?_⟩, fun y hy => ?_⟩
  · obtain rfl := List.mem_singleton.1 hb
    rintro rfl; exact hx ha
  · rcases List.mem_append.1 hy with hy | hy
    · exact h.2 y hy
    · obtain rfl := List.mem_singleton.1 hy; exact ⟨h1, h2⟩
theorem okF_bad {F : List Int} {x : Int} (h : ¬ ((1 ≤ x ∧ x < 12) ∧ x ∉ F)) : ¬ okF (F ++ [x]) := fun k => h ⟨k.2 x (by simp), fun hx => by
  have := (List.nodup_append.1 k.1).2.2 x hx x (by simp)
  exact this rfl⟩
/- the blocks that were met -/
def metA (M : List Bool) : Array Value := (M.map Value.bool).toArray
def Met (M : List Bool) (F : List Int) : Prop := M.length = 12 ∧ ∀ b : Nat, b < 12 → M.getD b false = decide ((b : Int) ∈ F)
theorem met_nil : Met (List.replicate 12 false) [] := ⟨rfl, fun b hb => by
  have : ∀ b : Fin 12, (List.replicate 12 false).getD b.val false = false := by decide
  rw [this ⟨b, hb⟩]; simp⟩
theorem met_get {M : List Bool} {F : List Int} (h : Met M F) (b : Nat) (hb : b < 12) : (metA M)[b]? = some (.bool (M.getD b false)) := by
  have hl : b < M.length := by rw [h.1]; exact hb
  simp [metA, List.getD_eq_getElem?_getD, List.getElem?_eq_getElem hl]
theorem met_put (M : List Bool) (b : Nat) : (metA M).setIfInBounds b (.bool true) = metA (M.set b true) := by
  simp [metA, List.map_set]
theorem met_step {M : List Bool} {F : List Int} (h : Met M F) {x : Int} (h0 : 0 ≤ x) (h1 : x < 12) : Met (M.set x.toNat true) (F ++ [x]) := ⟨by rw [List.length_set, h.1], fun b hb => by
  have hl : x.toNat < M.length := by rw [h.1]; omega
  by_cases hbx : x.toNat = b
  · have hx : x = (b : Int) := by omega
    rw [List.getD_eq_getElem?_getD, hbx, List.getElem?_set_self (by omega), hx]
    simp
  · rw [List.getD_eq_getElem?_getD, List.getElem?_set_ne hbx, ← List.getD_eq_getElem?_getD, h.2 b hb]
    rw [Bool.eq_iff_iff]
    simp only [decide_eq_true_eq, List.mem_append, List.mem_singleton]
    constructor
    · exact fun h => .inl h
    · rintro (h | h)
      · exact h
      · omega⟩
theorem met_mem {M : List Bool} {F : List Int} (h : Met M F) {x : Int} (h0 : 0 ≤ x) (h1 : x < 12) : (M.getD x.toNat false = true ↔ x ∈ F) := by
  rw [h.2 _ (by omega), decide_eq_true_eq]
  rw [show ((x.toNat : Nat) : Int) = x by omega]
theorem flatB_take {l : List Tv} {k : Nat} {x : Tv} (h : l[k]? = some x) : flatB (l.take (k + 1)) = flatB (l.take k) ++ x.2 := by
  unfold flatB
  rw [List.take_add_one, h]
  simp
theorem flatB_split {l : List Tv} {k : Nat} {x : Tv} (h : l[k]? = some x) : flatB l = flatB (l.take k) ++ x.2 ++ flatB (l.drop (k + 1)) := by
  have e := List.take_append_drop (k + 1) l
  conv => lhs; rw [← e]
  unfold flatB
  rw [List.flatMap_append]
  congr 1
  exact flatB_take h
theorem goodT_noF {l : List Tv} {k j : Nat} {p : List (BitVec 8)} {L : List Int} (hk : l[k]? = some (p, L)) (h : ¬ okF (flatB (l.take k) ++ L.take j ++ [L.getD j 0])) (hj : j < L.length) : goodT l = false := by
  have h2 : ¬ okF (flatB l) := fun h3 => h (by
    rw [flatB_split hk] at h3
    have h4 := okF_left h3
    simp only at h4
    have e : L = L.take j ++ [L.getD j 0] ++ L.drop (j + 1) := by
      conv => lhs; rw [← List.take_append_drop (j + 1) L]
      rw [List.take_add_one, List.getElem?_eq_getElem hj, List.getD_eq_getElem?_getD, List.getElem?_eq_getElem hj]
      rfl
    generalize hG : flatB (l.take k) = G at h4
    have h6 : okF (G ++ (L.take j ++ [L.getD j 0] ++ L.drop (j + 1))) := e ▸ (show okF (G ++ L) by exact okF_left (G := []) (by simpa using h4))
    rw [← List.append_assoc, ← List.append_assoc] at h6
    exact okF_left h6)
  have h3 : decide ((11 : Int) - (freeT l : Int) = (sumT l : Int)) = false := by
    cases hd : decide ((11 : Int) - (freeT l : Int) = (sumT l : Int)) with
    | false => rfl
    | true => exact absurd ((free_okF l).1 hd) h2
  unfold goodT
  rw [h3]; simp
end Go.Proofs.YtnmaplgodimohaaDoor

/- Tables and their blocks: each is told by the other; tables turned about. No function of the program is named here. -/
set_option maxRecDepth 4000
namespace Go.Proofs.YtnmaplgodimohaaDoor
open Go Go.RowKit
theorem okD_parts {q : List (BitVec 8)} (h : okD q = true) : goodT (decLT q) = true ∧ encT (decLT q) = q := by
  rw [(dec_good h).1]
  unfold okD at h
  simp only [Bool.and_eq_true, decide_eq_true_eq] at h
  exact h.2
end Go.Proofs.YtnmaplgodimohaaDoor

/- The document's tables: Find, Good. -/
set_option maxRecDepth 4000
namespace Go.Proofs.YtnmaplgodimohaaDoor
open Go Go.RowKit
theorem ints_atB {w : World} {A : Option Addr} {b o n c : Nat} {L : List Int} (h : IntsAt w (.slice A n c) L) (hA : A = some ⟨b, o, none⟩) (k : Nat) (hk : k < n) : w.cell? ⟨b, o + k, none⟩ = some (.int .i64 (L.getD k 0)) := by
  subst hA; exact ints_at h k hk
set_option maxHeartbeats 800000 in
theorem rfind_pos (b o n c : Nat) (q : List (BitVec 8)) (l : List Tv) (w : World) (hv : VolsAt w (.slice (some ⟨b, o, none⟩) n c) (volL l)) (hn : n ≤ 1000000) :
    Calls Tryd.prog 41 #[.string (strB q), .slice (some ⟨b, o, none⟩) n c] w fun e w' => e = .returned (.int .i64 (findI q l)) ∧ Below w.heap.size w w' := by
  have HS := St.nil w noF
  have HV : ∀ W, Below w.heap.size w W → VolsAt W (.slice (some ⟨b, o, none⟩) n c) (volL l) := fun W hb => hv.below hb (Nat.le_refl _)
  have hln : l.length = n := by rw [← len_volL]; exact vols_len hv
  refine enter_en Tryd.func41 rfl Tryd.ntmps41 (Nat.le_of_ble_eq_true rfl) fun a0 (HA0 : En 20 [(0, .string (strB q)), (1, .slice (some ⟨b, o, none⟩) n c)] a0) => ?_
  refine sq_ <| rl_ <| wl_ <| p_ HA0 rfl rfl fun _ H1 => ln_ <| nx <| sq_ <| sq_ <| rl_ <| wl_ <| p_ H1 rfl rfl fun _ H2 => ln_ <| nx <| wp_block <| ?_
  clear HA0 H1
  refine wp_loopG (ι := Nat) (fun k a9 w9 => (k ≤ n) ∧ (∀ j, j < k → ∀ x, l[j]? = some x → x.1 ≠ q) ∧ En 20 [(5, .int .i64 k), (0, .string (strB q)), (1, .slice (some ⟨b, o, none⟩) n c)] a9 ∧ St w noF [] w9) (fun k => n - k) (0) ⟨Nat.zero_le _, (fun j hj => absurd hj (Nat.not_lt_zero _)), H2.sel [1, 0, 5] rfl, ss HS []⟩ ?_
  clear H2 HS
  rintro k aL3 wL3 ⟨hk, hno, HL3, HSL3⟩
  refine sq_ <| sq_ <| rl_ <| q_ HL3 2 rfl fun _ H4 => wl_ <| i_ H4 rfl (v := .int .i64 n) (dd_len rfl (H4.ev 7 rfl) Tryd.underlying75) fun _ H5 => ?_
  clear HL3 H4
  by_cases hc7 : (k : Int) < n
  ·
   refine wl_ <| i_ H5 rfl (dd_cmp rfl (H5.ev 6 rfl) (H5.ev 8 rfl) (lt_t hc7)) fun _ H8 => ln_ <| nx <| ct_ H8 rfl <| wp_skip <| nx <| sq_ <| wp_block <| sq_ <| rl_ <| q_ H8 2 rfl fun a9 H9 => wl_ <| i_ H9 rfl (xSo 2 (o + k * 2) rfl (H9.ev 12 rfl) (H9.ev 13 rfl)) fun _ H10 => wl_ <| i_ H10 rfl (xf 0 (o + k * 2) rfl (H10.ev 14 rfl)) fun _ H11 => ?_
   clear H5 H8 H9 H10
   obtain ⟨p13, L13, B13, m13, c13, hg13, hr13, hm13, hp13⟩ := vols_getC (HV _ (Below.refl _ _)) (k := k) (by omega)
   refine wl_ <| i_ H11 rfl (dd_at rfl (H11.ev 15 rfl) ((hr13 _ HSL3.below).1 0 _ rfl) Tryd.underlying9 rfl) fun _ H12 => wl_ <| p_ H12 rfl rfl fun _ H14 => ?_
   clear H11 H12
   by_cases hc16 : p13 = q
   ·
    refine wl_ <| i_ H14 rfl (v := .bool true) (dd_eqs rfl (H14.ev 16 rfl) (H14.ev 17 rfl) (sbeq_t hc16)) fun _ H17 => ln_ <| nx <| ct_ H17 rfl <| sq_ <| rl_ <| q_ H17 2 rfl fun _ H18 => ln_ <| nx <| wp_ret <| br_ <| tr <| tr <| br_ <| tr <| ret_run H18.env0 (res_t Tryd.results41 (H18.get 4 rfl)) <| ?_
    clear H14 H17
    exact ⟨by rw [findI_some hg13 hc16 hno], HSL3.below⟩
   refine wl_ <| i_ H14 rfl (v := .bool false) (dd_eqs rfl (H14.ev 16 rfl) (H14.ev 17 rfl) (sbeq_f hc16)) fun _ H19 => ln_ <| nx <| cf_ H19 rfl <| wp_skip <| bn <| nx <| rl_ <| wl_ <| p_ H19 rfl rfl fun _ H20 => wl_ <| i_ H20 rfl (v := .int .i64 (k + 1)) (dd_ari rfl (H20.ev 10 rfl) rfl rfl (i64_of (by first | omega | (have := bd_lo; omega)) (by omega))) fun _ H21 => wl_ <| p_ H21 rfl rfl fun _ H22 => ln_ <| ?_
   clear H14 H19 H20 H21
   refine nx ⟨k + 1, ⟨(by omega), (step_no hno hg13 hc16), H22.sel [1, 0, 5] rfl, ss HSL3 []⟩, (by omega)⟩
  refine wl_ <| i_ H5 rfl (dd_cmp rfl (H5.ev 6 rfl) (H5.ev 8 rfl) (lt_f hc7)) fun _ H23 => ln_ <| nx <| cf_ H23 rfl <| wp_exit <| tx <| tx <| bx <| nx <| sq_ <| rl_ <| wl_ <| p_ H23 rfl rfl fun _ H24 => ln_ <| nx <| wp_ret <| ret_run H24.env0 (res_t Tryd.results41 (H24.get 4 rfl)) <| ?_
  clear H5 H23
  exact ⟨by rw [findI_none (fun j hj => hno j (by omega))], HSL3.below⟩
theorem rfind_any (A : Option Addr) (n c : Nat) (q : List (BitVec 8)) (l : List Tv) (w : World) (hv : VolsAt w (.slice A n c) (volL l)) (hn : n ≤ 1000000) :
    Calls Tryd.prog 41 #[.string (strB q), .slice A n c] w fun e w' => e = .returned (.int .i64 (findI q l)) ∧ Below w.heap.size w w' := by
  by_cases h0 : n = 0
  · subst h0
    have hln : l.length = 0 := by rw [← len_volL]; exact vols_len hv
    have HS := St.nil w noF
    refine enter_en Tryd.func41 rfl Tryd.ntmps41 (Nat.le_of_ble_eq_true rfl) fun a0 (HA0 : En 20 [(0, .string (strB q)), (1, .slice A 0 c)] a0) => ?_
    refine sq_ <| rl_ <| wl_ <| p_ HA0 rfl rfl fun _ H1 => ln_ <| nx <| sq_ <| sq_ <| rl_ <| wl_ <| p_ H1 rfl rfl fun _ H2 => ln_ <| nx <| wp_block <| wp_unr 1 <| unr_go <| sq_ <| sq_ <| rl_ <| q_ H2 2 rfl fun _ H3 => wl_ <| i_ H3 rfl (v := .int .i64 0) (dd_len rfl (H3.ev 7 rfl) Tryd.underlying75) fun _ H4 => wl_ <| i_ H4 rfl (dd_cmp rfl (H4.ev 6 rfl) (H4.ev 8 rfl) (lt_f (by decide))) fun _ H5 => ln_ <| nx <| cf_ H5 rfl <| wp_exit <| tx <| tx <| bx <| nx <| sq_ <| rl_ <| wl_ <| p_ H5 rfl rfl fun _ H6 => ln_ <| nx <| wp_ret <| ret_run H6.env0 (res_t Tryd.results41 (H6.get 4 rfl)) <| ?_
    clear HA0 H1 H2 H3 H4 H5
    exact ⟨by rw [findI_none (fun j hj => absurd hj (by omega))], HS.below⟩
  · obtain ⟨b, o, rfl⟩ := vols_some hv (by omega)
    exact rfind_pos b o n c q l w hv hn
theorem met_size {M : List Bool} {F : List Int} (h : Met M F) : (metA M).size = 12 := by unfold metA; simp [h.1]
theorem met_fit {M : List Bool} {F : List Int} (h : Met M F) {i : Nat} (hi : i < 12) : Nat.blt i (metA M).size = true := by rw [met_size h]; exact Nat.ble_eq_true_of_le hi
theorem met_no {M : List Bool} {F : List Int} (h : Met M F) {x : Int} (h0 : 0 ≤ x) (h1 : x < 12) (hm : M.getD x.toNat false = false) : x ∉ F := fun hx => by
  have := (met_mem h h0 h1).2 hx
  rw [hm] at this; cases this
theorem flat_next {l : List Tv} {k j : Nat} {p : List (BitVec 8)} {L : List Int} (h : l[k]? = some (p, L)) (hj : L.length ≤ j) : flatB (l.take k) ++ L.take j = flatB (l.take (k + 1)) := by
  rw [flatB_take h, List.take_of_length_le hj]
theorem flat_step {F L : List Int} {j : Nat} (hj : j < L.length) : F ++ L.take j ++ [L.getD j 0] = F ++ L.take (j + 1) := by
  rw [List.take_add_one, List.getElem?_eq_getElem hj, List.getD_eq_getElem?_getD, List.getElem?_eq_getElem hj, ← List.append_assoc]; rfl
set_option maxHeartbeats 1600000 in
theorem rgoodt_pos (b o n c : Nat) (l : List Tv) (w : World) (hv : VolsAt w (.slice (some ⟨b, o, none⟩) n c) (volL l)) (hn : n ≤ 1000000) :
    Calls Tryd.prog 51 #[.slice (some ⟨b, o, none⟩) n c] w fun e w' => e = .returned (.bool (goodT l)) ∧ Below w.heap.size w w' := by
  have HS := St.nil w noF
  have HV : ∀ W, Below w.heap.size w W → VolsAt W (.slice (some ⟨b, o, none⟩) n c) (volL l) := fun W hb => hv.below hb (Nat.le_refl _)
  have hln : l.length = n := by rw [← len_volL]; exact vols_len hv
  refine enter_en Tryd.func51 rfl Tryd.ntmps51 (Nat.le_of_ble_eq_true rfl) fun a0 (HA0 : En 71 [(0, .slice (some ⟨b, o, none⟩) n c)] a0) => ?_
  refine sq_ <| rl_ <| wl_ <| p_ HA0 rfl rfl fun _ H1 => ln_ <| nx <| sq_ <| sq_ <| rl_ <| wl_ <| p_ H1 rfl rfl fun _ H2 => wl_ <| i_ H2 rfl (v := .int .i64 n) (dd_len rfl (H2.ev 8 rfl) Tryd.underlying75) fun _ H3 => ?_
  clear HA0 H1 H2
  by_cases hc5 : (3 : Int) < n
  ·
   refine wl_ <| i_ H3 rfl (dd_cmp rfl (H3.ev 9 rfl) rfl (gt_t hc5)) fun _ H6 => ln_ <| nx <| ct_ H6 rfl <| sq_ <| rl_ <| wl_ <| p_ H6 rfl rfl fun _ H7 => ln_ <| nx <| wp_ret <| tr <| ret_run H7.env0 (res_t Tryd.results51 (H7.get 2 rfl)) <| ?_
   clear H3 H6
   exact ⟨by rw [goodT_long (by omega)], HS.below⟩
  refine wl_ <| i_ H3 rfl (dd_cmp rfl (H3.ev 9 rfl) rfl (gt_f hc5)) fun _ H8 => ln_ <| nx <| cf_ H8 rfl <| wp_skip <| nx <| sq_ <| rl_ <| wl_ <| n_ H8 rfl (fun _ h => dd_new HS #[.bool false, .bool false, .bool false, .bool false, .bool false, .bool false, .bool false, .bool false, .bool false, .bool false, .bool false, .bool false] rfl (z := .agg #[.bool false, .bool false, .bool false, .bool false, .bool false, .bool false, .bool false, .bool false, .bool false, .bool false, .bool false, .bool false]) (by kernel_rfl) rfl h) fun g3 _ HS9 a9 H9 => ln_ <| nx <| sq_ <| sq_ <| rl_ <| wl_ <| p_ H9 rfl rfl fun _ H10 => ln_ <| nx <| wp_block <| ?_
  clear H3 HS H8 H9
  refine wp_loopG (ι := Nat) (fun k a9 w9 => ∃ M : List Bool, (k ≤ n) ∧ (∀ j, j < k → ∀ x, l[j]? = some x → okT l j x = true) ∧ (Met M (flatB (l.take k))) ∧ (okF (flatB (l.take k))) ∧ En 71 [(4, .int .i64 k), (3, .pointer (some ⟨g3, 0, none⟩)), (0, .slice (some ⟨b, o, none⟩) n c)] a9 ∧ St w noF [⟨g3, 120, metA M⟩] w9) (fun k => n - k) (0) ⟨(List.replicate 12 false), Nat.zero_le _, (fun j hj => absurd hj (Nat.not_lt_zero _)), met_nil, ((cntF_ok []).1 (by decide)), H10.sel [0, 3, 4] rfl, ss HS9 [0]⟩ ?_
  clear H10 HS9
  rintro k aL11 wL11 ⟨M, hk, hok, hM, hF, HL11, HSL11⟩
  refine sq_ <| sq_ <| rl_ <| q_ HL11 2 rfl fun _ H12 => wl_ <| i_ H12 rfl (v := .int .i64 n) (dd_len rfl (H12.ev 12 rfl) Tryd.underlying75) fun _ H13 => ?_
  clear HL11 H12
  by_cases hc15 : (k : Int) < n
  ·
   refine wl_ <| i_ H13 rfl (dd_cmp rfl (H13.ev 11 rfl) (H13.ev 13 rfl) (lt_t hc15)) fun _ H16 => ln_ <| nx <| ct_ H16 rfl <| wp_skip <| nx <| sq_ <| wp_block <| sq_ <| rl_ <| q_ H16 2 rfl fun _ H17 => wl_ <| i_ H17 rfl (xSo 2 (o + k * 2) rfl (H17.ev 17 rfl) (H17.ev 18 rfl)) fun _ H18 => ?_
   clear H13 H16 H17
   obtain ⟨p20, L20, B20, m20, c20, hg20, hr20, hm20, hp20⟩ := vols_getC (HV _ (Below.refl _ _)) (k := k) (by omega)
   refine wl_ <| i_ H18 rfl (v := .agg #[.string (strB p20), .slice B20 m20 c20]) (dd_atN rfl (H18.ev 19 rfl) (hr20 _ HSL11.below).1 Tryd.underlying81 rfl (by kernel_rfl)) fun _ H19 => wl_ <| n_ H19 rfl (fun _ h => dd_new HSL11 #[.string (⟨#[]⟩), .slice none 0 0] rfl (z := .agg #[.string (⟨#[]⟩), .slice none 0 0]) (by kernel_rfl) rfl h) fun g5 _ HS21 _ H21 => wl_ <| t_ rfl (fun _ h => dd_setrow HS21 1 rfl rfl (H21.ev 5 rfl) (H21.ev 20 rfl) (by kernel_rfl) (rfl : #[.string (strB p20), .slice B20 m20 c20].size = 2) (rfl : #[.string (⟨#[]⟩), .slice none 0 0].size = 2) (one_l (ao_cons rfl (ao_cons rfl ao_nil))) h) fun _ HS22 => ln_ <| nx <| sq_ <| sq_ <| rl_ <| wl_ <| i_ H21 rfl (xf 0 0 rfl (H21.ev 5 rfl)) fun _ H23 => wl_ <| i_ H23 rfl (dd_get HS22 1 0 rfl rfl (H23.ev 21 rfl) rfl Tryd.underlying9 rfl) fun _ H24 => wl_ <| n_ H24 rfl (fun _ h => dd_lits HS22 #[.string (strB p20)] rfl (ps := [(0, .string (strB p20))]) (pr1 (H24.ev 22 rfl) (pr0)) (z := .string (⟨#[]⟩)) (sz := 1) Tryd.underlying88 (by kernel_rfl) rfl rfl (by kernel_rfl) h) fun g23 W25 HS25 _ H25 => ?_
   clear H18 HSL11 H19 HS21 H21 H23 HS22 H24
   cases hb27 : goodN p20
   ·
    refine wl_ <| ic H25 rfl (v := .bool false) (dc_ Tryd.func40 rfl (args1 (H25.ev 23 rfl)) (refgoodn_any [p20] _ W25 (strs_row (HS25.row 2 rfl) hp20) (by unfold maxLen; simp)) (fun _ w9 h9 => ⟨_, h9.1, by rw [goodNs_oneT, hb27], h9.2.symm⟩)) fun _ H28 => wl_ <| i_ H28 rfl (v := .bool true) (dd_nt rfl (H28.ev 24 rfl) rfl) fun _ H29 => wl_ <| p_ H29 rfl rfl fun _ H30 => wl_ <| k_ H30 (wg_ H30 rfl rfl rfl rfl) rfl fun _ H31 => wl_ <| k_ H31 (wg_ H31 rfl rfl rfl rfl) rfl fun _ H32 => wl_ <| k_ H32 (wg_ H32 rfl rfl rfl rfl) rfl fun _ H33 => wl_ <| k_ H33 (wg_ H33 rfl rfl rfl rfl) rfl fun _ H34 => wl_ <| k_ H34 (wg_ H34 rfl rfl rfl rfl) rfl fun _ H35 => ?_
    clear H25 H28 H29 H30 H31 H32 H33
    refine wl_ <| k_ H35 (wg_ H35 rfl rfl rfl rfl) rfl fun _ H36 => q_ H36 2 rfl fun _ H37 => wl_ <| k_ H37 (wg_ H37 rfl rfl rfl rfl) rfl fun _ H38 => wl_ <| k_ H38 (wg_ H38 rfl rfl rfl rfl) rfl fun _ H39 => wl_ <| k_ H39 (wg_ H39 rfl rfl rfl rfl) rfl fun _ H40 => wl_ <| k_ H40 (wg_ H40 rfl rfl rfl rfl) rfl fun _ H41 => q_ H41 2 rfl fun _ H42 => wl_ <| k_ H42 (wg_ H42 rfl rfl rfl rfl) rfl fun _ H43 => ?_
    clear H34 H35 H36 H37 H38 H39 H40 H41
    refine wl_ <| k_ H43 (wg_ H43 rfl rfl rfl rfl) rfl fun _ H44 => wl_ <| k_ H44 (wg_ H44 rfl rfl rfl rfl) rfl fun _ H45 => wl_ <| k_ H45 (wg_ H45 rfl rfl rfl rfl) rfl fun _ H46 => wl_ <| p_ H46 rfl rfl fun _ H47 => ln_ <| ?_
    clear H42 H43 H44 H45 H46
    have H48 := H47.sel [0, 3, 4, 5, 45] rfl
    refine nx <| ct_ H48 rfl <| sq_ <| rl_ <| wl_ <| p_ H48 rfl rfl fun _ H49 => ln_ <| nx <| wp_ret <| tr <| br_ <| tr <| tr <| br_ <| tr <| ret_run H49.env0 (res_t Tryd.results51 (H49.get 2 rfl)) <| ?_
    clear H47 H48
    exact ⟨by rw [goodT_no hg20 (okT_no (fun h => by rw [hb27] at h; cases h.1))], HS25.below⟩
   refine wl_ <| ic H25 rfl (v := .bool true) (dc_ Tryd.func40 rfl (args1 (H25.ev 23 rfl)) (refgoodn_any [p20] _ W25 (strs_row (HS25.row 2 rfl) hp20) (by unfold maxLen; simp)) (fun _ w9 h9 => ⟨_, h9.1, by rw [goodNs_oneT, hb27], h9.2.symm⟩)) fun _ H50 => wl_ <| i_ H50 rfl (v := .bool false) (dd_nt rfl (H50.ev 24 rfl) rfl) fun _ H51 => wl_ <| p_ H51 rfl rfl fun _ H52 => wl_ <| ig H52 (wg_ H52 rfl rfl rfl rfl) rfl (xf 0 0 rfl (H52.ev 5 rfl)) fun _ H53 => wl_ <| ig H53 (wg_ H53 rfl rfl rfl rfl) rfl (dd_get HS25 1 0 rfl rfl (H53.ev 27 rfl) rfl Tryd.underlying9 rfl) fun _ H54 => wl_ <| ig H54 (wg_ H54 rfl rfl rfl rfl) rfl (dd_mv rfl (H54.ev 0 rfl)) fun _ H55 => wl_ <| cg H55 (wg_ H55 rfl rfl rfl rfl) rfl HS25 (dcs Tryd.func41 rfl (args2 (H55.ev 28 rfl) (H55.ev 29 rfl)) (rfind_any _ _ _ p20 l W25 (HV _ HS25.below) hn) (.int .i64 (findI p20 l))) fun _ HS56 _ H56 => wl_ <| ig H56 (wg_ H56 rfl rfl rfl rfl) rfl (dd_mv rfl (H56.ev 4 rfl)) fun _ H57 => ?_
   clear H25 H50 H51 H52 H53 H54 H55 HS25
   clear H56
   by_cases hc59 : (findI p20 l : Int) = k
   ·
    refine wl_ <| ig H57 (wg_ H57 rfl rfl rfl rfl) rfl (dd_cmp rfl (H57.ev 30 rfl) (H57.ev 31 rfl) (ne_f hc59)) fun _ H60 => q_ H60 2 rfl fun _ H61 => wl_ <| ig H61 (wg_ H61 rfl rfl rfl rfl) rfl (xf 1 1 rfl (H61.ev 5 rfl)) fun _ H62 => wl_ <| ig H62 (wg_ H62 rfl rfl rfl rfl) rfl (dd_get HS56 1 1 rfl rfl (H62.ev 35 rfl) rfl Tryd.underlying45 rfl) fun _ H63 => wl_ <| ig H63 (wg_ H63 rfl rfl rfl rfl) rfl (v := .int .i64 m20) (dd_len rfl (H63.ev 36 rfl) Tryd.underlying45) fun _ H64 => ?_
    clear H57 H60 H61 H62 H63
    by_cases hc66 : (m20 : Int) < 1
    ·
     refine wl_ <| ig H64 (wg_ H64 rfl rfl rfl rfl) rfl (dd_cmp rfl (H64.ev 37 rfl) rfl (lt_t hc66)) fun _ H67 => q_ H67 2 rfl fun _ H68 => wl_ <| k_ H68 (wg_ H68 rfl rfl rfl rfl) rfl fun _ H69 => wl_ <| k_ H69 (wg_ H69 rfl rfl rfl rfl) rfl fun _ H70 => wl_ <| k_ H70 (wg_ H70 rfl rfl rfl rfl) rfl fun _ H71 => wl_ <| k_ H71 (wg_ H71 rfl rfl rfl rfl) rfl fun _ H72 => wl_ <| p_ H72 rfl rfl fun _ H73 => ln_ <| ?_
     clear H64 H67 H68 H69 H70 H71 H72
     have H74 := H73.sel [0, 3, 4, 5, 45] rfl
     refine nx <| ct_ H74 rfl <| sq_ <| rl_ <| wl_ <| p_ H74 rfl rfl fun _ H75 => ln_ <| nx <| wp_ret <| tr <| br_ <| tr <| tr <| br_ <| tr <| ret_run H75.env0 (res_t Tryd.results51 (H75.get 2 rfl)) <| ?_
     clear H73 H74
     exact ⟨by rw [goodT_no hg20 (okT_no (fun h => by obtain ⟨h1, h2, h3, h4⟩ := h; simp only at h1 h2 h3 h4; omega))], HS56.below⟩
    refine wl_ <| ig H64 (wg_ H64 rfl rfl rfl rfl) rfl (dd_cmp rfl (H64.ev 37 rfl) rfl (lt_f hc66)) fun _ H76 => q_ H76 2 rfl fun _ H77 => wl_ <| ig H77 (wg_ H77 rfl rfl rfl rfl) rfl (xf 1 1 rfl (H77.ev 5 rfl)) fun _ H78 => wl_ <| ig H78 (wg_ H78 rfl rfl rfl rfl) rfl (dd_get HS56 1 1 rfl rfl (H78.ev 41 rfl) rfl Tryd.underlying45 rfl) fun _ H79 => wl_ <| ig H79 (wg_ H79 rfl rfl rfl rfl) rfl (v := .int .i64 m20) (dd_len rfl (H79.ev 42 rfl) Tryd.underlying45) fun _ H80 => ?_
    clear H64 H76 H77 H78 H79
    by_cases hc82 : (4 : Int) < m20
    ·
     refine wl_ <| ig H80 (wg_ H80 rfl rfl rfl rfl) rfl (dd_cmp rfl (H80.ev 43 rfl) rfl (gt_t hc82)) fun _ H83 => wl_ <| p_ H83 rfl rfl fun _ H84 => ln_ <| ?_
     clear H80 H83
     have H85 := H84.sel [0, 3, 4, 5, 45] rfl
     refine nx <| ct_ H85 rfl <| sq_ <| rl_ <| wl_ <| p_ H85 rfl rfl fun _ H86 => ln_ <| nx <| wp_ret <| tr <| br_ <| tr <| tr <| br_ <| tr <| ret_run H86.env0 (res_t Tryd.results51 (H86.get 2 rfl)) <| ?_
     clear H84 H85
     exact ⟨by rw [goodT_no hg20 (okT_no (fun h => by obtain ⟨h1, h2, h3, h4⟩ := h; simp only at h1 h2 h3 h4; omega))], HS56.below⟩
    refine wl_ <| ig H80 (wg_ H80 rfl rfl rfl rfl) rfl (dd_cmp rfl (H80.ev 43 rfl) rfl (gt_f hc82)) fun _ H87 => wl_ <| p_ H87 rfl rfl fun _ H88 => ln_ <| ?_
    clear H80 H87
    have H89 := H88.sel [0, 3, 4, 5, 45] rfl
    refine nx <| cf_ H89 rfl <| wp_skip <| nx <| sq_ <| rl_ <| wl_ <| p_ H89 rfl rfl fun _ H90 => ln_ <| nx <| wp_block <| ?_
    clear H88 H89
    refine wp_loopG (ι := Nat) (fun j a9 w9 => ∃ M2 : List Bool, (j ≤ m20) ∧ (Met M2 (flatB (l.take k) ++ L20.take j)) ∧ (okF (flatB (l.take k) ++ L20.take j)) ∧ En 71 [(6, .int .i64 j), (5, .pointer (some ⟨g5, 0, none⟩)), (4, .int .i64 k), (3, .pointer (some ⟨g3, 0, none⟩)), (0, .slice (some ⟨b, o, none⟩) n c)] a9 ∧ St w noF [⟨g3, 120, metA M2⟩, ⟨g5, 81, #[.string (strB p20), .slice B20 m20 c20]⟩, ⟨g23, 9, #[.string (strB p20)]⟩] w9) (fun j => m20 - j) (0) ⟨M, Nat.zero_le _, (by rw [List.take_zero, List.append_nil]; exact hM), (by rw [List.take_zero, List.append_nil]; exact hF), H90.sel [0, 3, 4, 5, 6] rfl, ss HS56 [0, 1, 2]⟩ ?_
    clear H90 HS56
    rintro j aL91 wL91 ⟨M2, hj, hM2, hF2, HL91, HSL91⟩
    refine sq_ <| sq_ <| rl_ <| wl_ <| p_ HL91 rfl rfl fun _ H92 => wl_ <| i_ H92 rfl (xf 1 1 rfl (H92.ev 5 rfl)) fun _ H93 => wl_ <| i_ H93 rfl (dd_get HSL91 1 1 rfl rfl (H93.ev 47 rfl) rfl Tryd.underlying45 rfl) fun _ H94 => wl_ <| i_ H94 rfl (v := .int .i64 m20) (dd_len rfl (H94.ev 48 rfl) Tryd.underlying45) fun _ H95 => ?_
    clear HL91 H92 H93 H94
    by_cases hc97 : (j : Int) < m20
    ·
     refine wl_ <| i_ H95 rfl (dd_cmp rfl (H95.ev 46 rfl) (H95.ev 49 rfl) (lt_t hc97)) fun _ H98 => ln_ <| nx <| ct_ H98 rfl <| wp_skip <| nx <| sq_ <| wp_block <| sq_ <| rl_ <| wl_ <| i_ H98 rfl (xf 1 1 rfl (H98.ev 5 rfl)) fun _ H99 => wl_ <| i_ H99 rfl (dd_get HSL91 1 1 rfl rfl (H99.ev 53 rfl) rfl Tryd.underlying45 rfl) fun _ H100 => wl_ <| p_ H100 rfl rfl fun _ H101 => ?_
     clear H95 H98 H99 H100
     obtain ⟨bi20, oi20, hB20⟩ := ints_addr (hr20 _ (Below.refl _ _)).2 (by omega)
     refine wl_ <| i_ H101 rfl (dd_idxS (sz := 1) (j := oi20 + j) rfl (sl_at (H101.ev 54 rfl) hB20) (H101.ev 55 rfl) (by kernel_rfl) (by omega) (by omega) (by omega)) fun _ H102 => wl_ <| i_ H102 rfl (dd_at rfl (H102.ev 56 rfl) (ints_atB (hr20 _ HSL91.below).2 hB20 j (by omega)) Tryd.underlying3 rfl) fun _ H103 => wl_ <| p_ H103 rfl rfl fun _ H104 => ln_ <| nx <| sq_ <| sq_ <| rl_ <| wl_ <| p_ H104 rfl rfl fun _ H105 => ?_
     clear H101 H102 H103 H104
     by_cases hc107 : (L20.getD j 0 : Int) < 1
     ·
      refine wl_ <| i_ H105 rfl (dd_cmp rfl (H105.ev 58 rfl) rfl (lt_t hc107)) fun _ H108 => wl_ <| p_ H108 rfl rfl fun _ H109 => wl_ <| k_ H109 (wg_ H109 rfl rfl rfl rfl) rfl fun _ H110 => wl_ <| k_ H110 (wg_ H110 rfl rfl rfl rfl) rfl fun _ H111 => q_ H111 2 rfl fun _ H112 => wl_ <| k_ H112 (wg_ H112 rfl rfl rfl rfl) rfl fun _ H113 => wl_ <| k_ H113 (wg_ H113 rfl rfl rfl rfl) rfl fun _ H114 => wl_ <| k_ H114 (wg_ H114 rfl rfl rfl rfl) rfl fun _ H115 => ?_
      clear H105 H108 H109 H110 H111 H112 H113
      refine wl_ <| p_ H115 rfl rfl fun _ H116 => ln_ <| ?_
      clear H114 H115
      have H117 := H116.sel [0, 3, 4, 5, 6, 7, 68] rfl
      refine nx <| ct_ H117 rfl <| sq_ <| rl_ <| wl_ <| p_ H117 rfl rfl fun _ H118 => ln_ <| nx <| wp_ret <| tr <| br_ <| tr <| tr <| br_ <| br_ <| tr <| tr <| br_ <| tr <| ret_run H118.env0 (res_t Tryd.results51 (H118.get 2 rfl)) <| ?_
      clear H116 H117
      exact ⟨by rw [goodT_noF hg20 (okF_bad (fun h9 => by omega)) (show j < L20.length by omega)], HSL91.below⟩
     refine wl_ <| i_ H105 rfl (dd_cmp rfl (H105.ev 58 rfl) rfl (lt_f hc107)) fun _ H119 => wl_ <| p_ H119 rfl rfl fun _ H120 => wl_ <| ig H120 (wg_ H120 rfl rfl rfl rfl) rfl (dd_mv rfl (H120.ev 7 rfl)) fun _ H121 => ?_
     clear H105 H119 H120
     by_cases hc123 : (12 : Int) ≤ L20.getD j 0
     ·
      refine wl_ <| ig H121 (wg_ H121 rfl rfl rfl rfl) rfl (dd_cmp rfl (H121.ev 61 rfl) rfl (ge_t hc123)) fun _ H124 => q_ H124 2 rfl fun _ H125 => wl_ <| k_ H125 (wg_ H125 rfl rfl rfl rfl) rfl fun _ H126 => wl_ <| k_ H126 (wg_ H126 rfl rfl rfl rfl) rfl fun _ H127 => wl_ <| k_ H127 (wg_ H127 rfl rfl rfl rfl) rfl fun _ H128 => wl_ <| p_ H128 rfl rfl fun _ H129 => ln_ <| ?_
      clear H121 H124 H125 H126 H127 H128
      have H130 := H129.sel [0, 3, 4, 5, 6, 7, 68] rfl
      refine nx <| ct_ H130 rfl <| sq_ <| rl_ <| wl_ <| p_ H130 rfl rfl fun _ H131 => ln_ <| nx <| wp_ret <| tr <| br_ <| tr <| tr <| br_ <| br_ <| tr <| tr <| br_ <| tr <| ret_run H131.env0 (res_t Tryd.results51 (H131.get 2 rfl)) <| ?_
      clear H129 H130
      exact ⟨by rw [goodT_noF hg20 (okF_bad (fun h9 => by omega)) (show j < L20.length by omega)], HSL91.below⟩
     refine wl_ <| ig H121 (wg_ H121 rfl rfl rfl rfl) rfl (dd_cmp rfl (H121.ev 61 rfl) rfl (ge_f hc123)) fun _ H132 => q_ H132 2 rfl fun _ H133 => wl_ <| ig H133 (wg_ H133 rfl rfl rfl rfl) rfl (dd_mv rfl (H133.ev 7 rfl)) fun _ H134 => wl_ <| ig H134 (wg_ H134 rfl rfl rfl rfl) rfl (xAo 12 1 (Int.toNat (L20.getD j 0)) rfl (H134.ev 3 rfl) (H134.ev 65 rfl)) fun _ H135 => ?_
     clear H121 H132 H133 H134
     cases hb137 : M2.getD (Int.toNat (L20.getD j 0)) false
     ·
      refine wl_ <| ig H135 (wg_ H135 rfl rfl rfl rfl) rfl (v := .bool false) (dd_get HSL91 0 (Int.toNat (L20.getD j 0)) rfl rfl (H135.ev 66 rfl) ((met_get hM2 (Int.toNat (L20.getD j 0)) (by omega)).trans (by rw [hb137])) Tryd.underlying4 rfl) fun _ H138 => wl_ <| p_ H138 rfl rfl fun _ H139 => ln_ <| ?_
      clear H135 H138
      have H140 := H139.sel [0, 3, 4, 5, 6, 7, 68] rfl
      refine nx <| cf_ H140 rfl <| wp_skip <| nx <| rl_ <| wl_ <| p_ H140 rfl rfl fun _ H141 => wl_ <| i_ H141 rfl (xAo 12 1 (Int.toNat (L20.getD j 0)) rfl (H141.ev 3 rfl) (H141.ev 69 rfl)) fun _ H142 => wl_ <| t_ rfl (S := [⟨g3, 120, metA (M2.set (Int.toNat (L20.getD j 0)) true)⟩, ⟨g5, 81, #[.string (strB p20), .slice B20 m20 c20]⟩, ⟨g23, 9, #[.string (strB p20)]⟩]) (fun _ h => dd_put HSL91 0 (Int.toNat (L20.getD j 0)) rfl rfl (H142.ev 70 rfl) rfl (by kernel_rfl) rfl rfl (met_fit hM2 (by omega)) (met_put M2 _) h) fun _ HS143 => ln_ <| bn <| nx <| rl_ <| wl_ <| p_ H142 rfl rfl fun _ H144 => wl_ <| i_ H144 rfl (v := .int .i64 (j + 1)) (dd_ari rfl (H144.ev 51 rfl) rfl rfl (i64_of (by first | omega | (have := bd_lo; omega)) (by omega))) fun _ H145 => wl_ <| p_ H145 rfl rfl fun _ H146 => ln_ <| ?_
      clear H139 H140 H141 HSL91 H142 H144 H145
      refine nx ⟨j + 1, ⟨(M2.set (Int.toNat (L20.getD j 0)) true), (by omega), (by rw [← flat_step (show j < L20.length by omega)]; exact met_step hM2 (by omega) (by omega)), (by rw [← flat_step (show j < L20.length by omega)]; exact okF_snoc hF2 (met_no hM2 (by omega) (by omega) hb137) (by omega) (by omega)), H146.sel [0, 3, 4, 5, 6] rfl, ss HS143 [0, 1, 2]⟩, (by omega)⟩
     refine wl_ <| ig H135 (wg_ H135 rfl rfl rfl rfl) rfl (v := .bool true) (dd_get HSL91 0 (Int.toNat (L20.getD j 0)) rfl rfl (H135.ev 66 rfl) ((met_get hM2 (Int.toNat (L20.getD j 0)) (by omega)).trans (by rw [hb137])) Tryd.underlying4 rfl) fun _ H147 => wl_ <| p_ H147 rfl rfl fun _ H148 => ln_ <| ?_
     clear H135 H147
     have H149 := H148.sel [0, 3, 4, 5, 6, 7, 68] rfl
     refine nx <| ct_ H149 rfl <| sq_ <| rl_ <| wl_ <| p_ H149 rfl rfl fun _ H150 => ln_ <| nx <| wp_ret <| tr <| br_ <| tr <| tr <| br_ <| br_ <| tr <| tr <| br_ <| tr <| ret_run H150.env0 (res_t Tryd.results51 (H150.get 2 rfl)) <| ?_
     clear H148 H149
     exact ⟨by rw [goodT_noF hg20 (okF_bad (fun h9 => h9.2 ((met_mem hM2 (by omega) (by omega)).1 hb137))) (show j < L20.length by omega)], HSL91.below⟩
    refine wl_ <| i_ H95 rfl (dd_cmp rfl (H95.ev 46 rfl) (H95.ev 49 rfl) (lt_f hc97)) fun _ H151 => ln_ <| nx <| cf_ H151 rfl <| wp_exit <| tx <| tx <| bx <| bn <| nx <| rl_ <| wl_ <| p_ H151 rfl rfl fun _ H152 => wl_ <| i_ H152 rfl (v := .int .i64 (k + 1)) (dd_ari rfl (H152.ev 15 rfl) rfl rfl (i64_of (by first | omega | (have := bd_lo; omega)) (by omega))) fun _ H153 => wl_ <| p_ H153 rfl rfl fun _ H154 => ln_ <| ?_
    clear H95 H151 H152 H153
    refine nx ⟨k + 1, ⟨M2, (by omega), (step_ok hok hg20 (okT_of hb27 hc59 (by simp only; omega) (by simp only; omega))), (by rw [← flat_next hg20 (show L20.length ≤ j by omega)]; exact hM2), (by rw [← flat_next hg20 (show L20.length ≤ j by omega)]; exact hF2), H154.sel [0, 3, 4] rfl, ss HSL91 [0]⟩, (by omega)⟩
   refine wl_ <| ig H57 (wg_ H57 rfl rfl rfl rfl) rfl (dd_cmp rfl (H57.ev 30 rfl) (H57.ev 31 rfl) (ne_t hc59)) fun _ H155 => q_ H155 2 rfl fun _ H156 => wl_ <| k_ H156 (wg_ H156 rfl rfl rfl rfl) rfl fun _ H157 => wl_ <| k_ H157 (wg_ H157 rfl rfl rfl rfl) rfl fun _ H158 => wl_ <| k_ H158 (wg_ H158 rfl rfl rfl rfl) rfl fun _ H159 => wl_ <| k_ H159 (wg_ H159 rfl rfl rfl rfl) rfl fun _ H160 => q_ H160 2 rfl fun _ H161 => wl_ <| k_ H161 (wg_ H161 rfl rfl rfl rfl) rfl fun _ H162 => ?_
   clear H57 H155 H156 H157 H158 H159 H160
   refine wl_ <| k_ H162 (wg_ H162 rfl rfl rfl rfl) rfl fun _ H163 => wl_ <| k_ H163 (wg_ H163 rfl rfl rfl rfl) rfl fun _ H164 => wl_ <| k_ H164 (wg_ H164 rfl rfl rfl rfl) rfl fun _ H165 => wl_ <| p_ H165 rfl rfl fun _ H166 => ln_ <| ?_
   clear H161 H162 H163 H164 H165
   have H167 := H166.sel [0, 3, 4, 5, 45] rfl
   refine nx <| ct_ H167 rfl <| sq_ <| rl_ <| wl_ <| p_ H167 rfl rfl fun _ H168 => ln_ <| nx <| wp_ret <| tr <| br_ <| tr <| tr <| br_ <| tr <| ret_run H168.env0 (res_t Tryd.results51 (H168.get 2 rfl)) <| ?_
   clear H166 H167
   exact ⟨by rw [goodT_no hg20 (okT_no (fun h => by obtain ⟨h1, h2, h3, h4⟩ := h; simp only at h1 h2 h3 h4; omega))], HS56.below⟩
  refine wl_ <| i_ H13 rfl (dd_cmp rfl (H13.ev 11 rfl) (H13.ev 13 rfl) (lt_f hc15)) fun _ H169 => ln_ <| nx <| cf_ H169 rfl <| wp_exit <| tx <| tx <| bx <| nx <| sq_ <| rl_ <| wl_ <| p_ H169 rfl rfl fun _ H170 => ln_ <| nx <| wp_ret <| ret_run H170.env0 (res_t Tryd.results51 (H170.get 2 rfl)) <| ?_
  clear H13 H169
  exact ⟨by rw [goodT_is (b := true) (by omega) (fun j hj => hok j (by omega)) ((free_okF l).2 (by rw [List.take_of_length_le (by omega)] at hF; exact hF))], HSL11.below⟩
set_option maxHeartbeats 800000 in
theorem rgoodt_zero (A : Option Addr) (c : Nat) (l : List Tv) (w : World) (hv : VolsAt w (.slice A 0 c) (volL l)) :
    Calls Tryd.prog 51 #[.slice A 0 c] w fun e w' => e = .returned (.bool (goodT l)) ∧ Below w.heap.size w w' := by
  have HS := St.nil w noF
  have hln : l.length = 0 := by rw [← len_volL]; exact vols_len hv
  have hok : ∀ j, j < l.length → ∀ x, l[j]? = some x → okT l j x = true := fun j hj => absurd hj (by omega)
  have hF : okF (flatB (l.take 0)) := (cntF_ok []).1 (by decide)
  refine enter_en Tryd.func51 rfl Tryd.ntmps51 (Nat.le_of_ble_eq_true rfl) fun a0 (HA0 : En 71 [(0, .slice A 0 c)] a0) => ?_
  refine sq_ <| rl_ <| wl_ <| p_ HA0 rfl rfl fun _ H1 => ln_ <| nx <| sq_ <| sq_ <| rl_ <| wl_ <| p_ H1 rfl rfl fun _ H2 => wl_ <| i_ H2 rfl (v := .int .i64 0) (dd_len rfl (H2.ev 8 rfl) Tryd.underlying75) fun _ H3 => wl_ <| i_ H3 rfl (dd_cmp rfl (H3.ev 9 rfl) rfl (gt_f (by decide))) fun _ H4 => ln_ <| nx <| cf_ H4 rfl <| wp_skip <| nx <| sq_ <| rl_ <| wl_ <| n_ H4 rfl (fun _ h => dd_new HS #[.bool false, .bool false, .bool false, .bool false, .bool false, .bool false, .bool false, .bool false, .bool false, .bool false, .bool false, .bool false] rfl (z := .agg #[.bool false, .bool false, .bool false, .bool false, .bool false, .bool false, .bool false, .bool false, .bool false, .bool false, .bool false, .bool false]) (by kernel_rfl) rfl h) fun _ _ HS5 _ H5 => ln_ <| nx <| sq_ <| sq_ <| rl_ <| wl_ <| p_ H5 rfl rfl fun _ H6 => ln_ <| nx <| wp_block <| wp_unr 1 <| unr_go <| sq_ <| sq_ <| rl_ <| q_ H6 2 rfl fun _ H7 => wl_ <| i_ H7 rfl (v := .int .i64 0) (dd_len rfl (H7.ev 12 rfl) Tryd.underlying75) fun _ H8 => ?_
  clear HA0 H1 H2 H3 HS H4 H5 H6
  refine wl_ <| i_ H8 rfl (dd_cmp rfl (H8.ev 11 rfl) (H8.ev 13 rfl) (lt_f (by decide))) fun _ H9 => ln_ <| nx <| cf_ H9 rfl <| wp_exit <| tx <| tx <| bx <| nx <| sq_ <| rl_ <| wl_ <| p_ H9 rfl rfl fun _ H10 => ln_ <| nx <| wp_ret <| ret_run H10.env0 (res_t Tryd.results51 (H10.get 2 rfl)) <| ?_
  clear H7 H8 H9
  exact ⟨by rw [goodT_is (b := true) (by omega) (fun j hj => hok j (by omega)) ((free_okF l).2 (by rw [List.take_of_length_le (by omega)] at hF; exact hF))], HS5.below⟩
theorem rgoodt_any (A : Option Addr) (n c : Nat) (l : List Tv) (w : World) (hv : VolsAt w (.slice A n c) (volL l)) (hn : n ≤ 1000000) :
    Calls Tryd.prog 51 #[.slice A n c] w fun e w' => e = .returned (.bool (goodT l)) ∧ Below w.heap.size w w' := by
  by_cases h0 : n = 0
  · subst h0; exact rgoodt_zero A c l w hv
  · obtain ⟨b, o, rfl⟩ := vols_some hv (by omega)
    exact rgoodt_pos b o n c l w hv hn
end Go.Proofs.YtnmaplgodimohaaDoor

/- The document's tables: Encode. -/
set_option maxRecDepth 4000
namespace Go.Proofs.YtnmaplgodimohaaDoor
open Go Go.RowKit
theorem own_n2 {cb : Array Value} {c n m : Nat} {L : List Value} (h : OwnC cb c n 1 L) (e : n = m) : OwnC cb c m 1 L := e ▸ h
def blkT (L : List Int) (j : Nat) : List (BitVec 8) := (List.range j).map fun i => byteI (L.getD i 0)
theorem qin (A : List (BitVec 8)) (L : List Int) (j : Nat) : (A ++ blkT L j) ++ [byteI (L.getD j 0)] = A ++ blkT L (j + 1) := by
  unfold blkT; rw [List.range_succ, List.map_append, List.append_assoc]; rfl
theorem qin0 (A : List (BitVec 8)) {L : List Int} {j : Nat} (h : L.length ≤ j) : (A ++ blkT L j) ++ [0#8] = A ++ blkT L (j + 1) := by
  rw [← qin, List.getD_eq_getElem?_getD, List.getElem?_eq_none h]; rfl
theorem qstep {l : List Tv} {k j n : Nat} {p : List (BitVec 8)} {L : List Int} (h : l[k]? = some (p, L)) (hj : j = 4) : ([byteI n] ++ (l.take k).flatMap volE) ++ padN p ++ [byteI L.length] ++ blkT L j = [byteI n] ++ (l.take (k + 1)).flatMap volE := by
  subst hj
  rw [List.take_add_one, h]
  simp [volE, blkT, blk4, List.range, List.range.loop]
theorem qall {l : List Tv} {Q : List (BitVec 8)} (h3 : l.length ≤ 3) (h : Q = [byteI l.length] ++ l.flatMap volE) : encB l = spl (zer 32) 0 Q := by
  have hl : Q.length = 1 + 9 * l.length := by rw [h, List.length_append, len_flatE]; rfl
  have e := spl_zer [] Q (1 + 9 * l.length) (31 - 9 * l.length) 0 hl rfl
  rw [show 1 + 9 * l.length + (31 - 9 * l.length) = 32 by omega, List.nil_append, List.nil_append] at e
  rw [e, h]; rfl
set_option maxHeartbeats 1600000 in
theorem renct_pos (b o n c : Nat) (l : List Tv) (w : World) (hv : VolsAt w (.slice (some ⟨b, o, none⟩) n c) (volL l)) (hn : n ≤ 1000000) (hG : goodT l = true) :
    Calls Tryd.prog 43 #[.slice (some ⟨b, o, none⟩) n c] w fun e w' => e = .returned (.tuple #[.agg (bs (encT l)), .int .i64 (encE l)]) ∧ Below w.heap.size w w' := by
  have HS := St.nil w noF
  have HV : ∀ W, Below w.heap.size w W → VolsAt W (.slice (some ⟨b, o, none⟩) n c) (volL l) := fun W hb => hv.below hb (Nat.le_refl _)
  have hln : l.length = n := by rw [← len_volL]; exact vols_len hv
  have hn3 : l.length ≤ 3 := (goodT_parts hG).1
  refine enter_en Tryd.func43 rfl Tryd.ntmps43 (Nat.le_of_ble_eq_true rfl) fun a0 (HA0 : En 71 [(0, .slice (some ⟨b, o, none⟩) n c)] a0) => ?_
  refine sq_ <| rl_ <| wl_ <| n_ HA0 rfl (fun _ h => dd_new HS (bs (zer 32)) rfl (z := .agg (bs (zer 32))) (by kernel_rfl) rfl h) fun g2 W1 HS1 _ H1 => wl_ <| p_ H1 rfl rfl fun _ H2 => ln_ <| nx <| sq_ <| sq_ <| rl_ <| wl_ <| p_ H2 rfl rfl fun _ H3 => wl_ <| c_ H3 rfl HS1 (v := .bool true) (dc_ Tryd.func51 rfl (args1 (H3.ev 10 rfl)) (rgoodt_any _ _ _ l W1 (hv.below HS1.below (Nat.le_refl _)) hn) (fun _ w9 h9 => ⟨_, h9.1, by rw [hG], h9.2⟩)) fun _ HS4 _ H4 => wl_ <| i_ H4 rfl (v := .bool false) (dd_nt rfl (H4.ev 11 rfl) rfl) fun _ H5 => ln_ <| nx <| cf_ H5 rfl <| wp_skip <| nx <| sq_ <| rl_ <| wl_ <| p_ H5 rfl rfl fun _ H6 => wl_ <| i_ H6 rfl (v := .int .i64 n) (dd_len rfl (H6.ev 14 rfl) Tryd.underlying75) fun _ H7 => wl_ <| i_ H7 rfl (v := .int .u8 (bd (byteI n))) (dd_conv (k := .u8) rfl (H7.ev 15 rfl) Tryd.underlying3 (by kernel_rfl) (wrap_u8_bd _)) fun _ H8 => ?_
  clear HS HA0 H1 H2 H3 HS1 H4 H5 H6
  refine wl_ <| n_ H8 rfl (fun _ h => dd_lits HS4 #[.int .u8 (bd (byteI n))] rfl (ps := [(0, .int .u8 (bd (byteI n)))]) (pr1 (H8.ev 16 rfl) (pr0)) (z := .int .u8 0) (sz := 1) Tryd.underlying106 (by kernel_rfl) rfl rfl (by kernel_rfl) h) fun g17 _ HS9 a9 H9 => wl_ <| p_ H9 rfl rfl fun _ H10 => ln_ <| nx <| sq_ <| sq_ <| rl_ <| wl_ <| p_ H10 rfl rfl fun _ H11 => ln_ <| nx <| wp_block <| ?_
  clear H7 HS4 H8 H9 H10
  refine wp_loopG (ι := Nat) (fun k a9 w9 => ∃ gq : Nat, ∃ cq : Nat, ∃ cbq : Array Value, ∃ Qq : List (BitVec 8), (k ≤ n) ∧ (OwnC cbq cq (1 + 9 * k) 1 (bytesV Qq)) ∧ (Qq.length = 1 + 9 * k) ∧ (Qq = [byteI n] ++ (l.take k).flatMap volE) ∧ En 71 [(5, .int .i64 k), (4, .slice (some ⟨gq, 0, none⟩) (1 + 9 * k) cq), (2, .pointer (some ⟨g2, 0, none⟩)), (0, .slice (some ⟨b, o, none⟩) n c)] a9 ∧ St w noF [⟨g2, 36, bs (zer 32)⟩, ⟨gq, 5, cbq⟩] w9) (fun k => n - k) (0) ⟨g17, 1, #[.int .u8 (bd (byteI n))], ([(byteI n)]), Nat.zero_le _, (⟨Nat.le_refl _, by decide, rfl, rfl, rfl⟩ : OwnC #[.int .u8 (bd (byteI n))] 1 1 1 (bytesV [(byteI n)])), rfl, rfl, H11.sel [0, 2, 4, 5] rfl, ss HS9 [0, 1]⟩ ?_
  clear H11 HS9
  rintro k aL12 wL12 ⟨gq, cq, cbq, Qq, hk, Oq, hq, hQ, HL12, HSL12⟩
  refine sq_ <| sq_ <| rl_ <| q_ HL12 2 rfl fun _ H13 => wl_ <| i_ H13 rfl (v := .int .i64 n) (dd_len rfl (H13.ev 19 rfl) Tryd.underlying75) fun _ H14 => ?_
  clear HL12 H13
  by_cases hc16 : (k : Int) < n
  ·
   refine wl_ <| i_ H14 rfl (dd_cmp rfl (H14.ev 18 rfl) (H14.ev 20 rfl) (lt_t hc16)) fun _ H17 => ln_ <| nx <| ct_ H17 rfl <| wp_skip <| nx <| sq_ <| wp_block <| sq_ <| rl_ <| q_ H17 2 rfl fun _ H18 => wl_ <| i_ H18 rfl (xSo 2 (o + k * 2) rfl (H18.ev 24 rfl) (H18.ev 25 rfl)) fun _ H19 => wl_ <| i_ H19 rfl (xf 0 (o + k * 2) rfl (H19.ev 26 rfl)) fun _ H20 => ?_
   clear H14 H17 H18 H19
   obtain ⟨p22, L22, B22, m22, c22, hg22, hr22, hm22, hp22⟩ := vols_getC (HV _ (Below.refl _ _)) (k := k) (by omega)
   refine wl_ <| i_ H20 rfl (dd_at rfl (H20.ev 27 rfl) ((hr22 _ HSL12.below).1 0 _ rfl) Tryd.underlying9 rfl) fun _ H21 => wl_ <| c_ H21 rfl HSL12 (dcs Tryd.func52 rfl (args1 (H21.ev 28 rfl)) (refpad_any p22 wL12 (Nat.le_trans hp22 (Nat.le_refl _))) (.agg (bs (padN p22)))) fun _ HS23 _ H23 => wl_ <| n_ H23 rfl (fun _ h => dd_new HS23 (bs (zer 4)) rfl (z := .agg (bs (zer 4))) (by kernel_rfl) rfl h) fun g6 _ HS24 _ H24 => wl_ <| t_ rfl (fun _ h => dd_setrow HS24 2 rfl rfl (H24.ev 6 rfl) (H24.ev 29 rfl) (by kernel_rfl) (((size_bs _).trans (length_padN _)) : (bs (padN p22)).size = 4) (((size_bs _).trans (length_zer 4)) : (bs (zer 4)).size = 4) (one_bs _) h) fun _ HS25 => ln_ <| nx <| sq_ <| ?_
   clear H20 H21 HSL12 HS23 H23 HS24
   refine wp_cut (fun a9 w9 => ∃ g41_42 : Nat, ∃ c41_42 : Nat, ∃ g40 : Nat, ∃ cb41_42 : Array Value, OwnC cb41_42 c41_42 (1 + 9 * k + 4 + 1) 1 (bytesV ((Qq ++ (padN p22)) ++ ([(byteI m22)]))) ∧ En 71 [(4, .slice (some ⟨g41_42, 0, none⟩) (1 + 9 * k + 4 + 1) c41_42), (5, .int .i64 k), (2, .pointer (some ⟨g2, 0, none⟩)), (0, .slice (some ⟨b, o, none⟩) n c)] a9 ∧ St w noF [⟨g2, 36, bs (zer 32)⟩, ⟨g6, 107, bs (padN p22)⟩, ⟨g40, 5, #[.int .u8 (bd (byteI m22))]⟩, ⟨g41_42, 5, cb41_42⟩] w9) ?_ ?_
   ·
    refine wi_ HS25 [0, 2] rfl [0, 2, 1] rfl fun HSh26 hx26 => hp_ H24 0 hx26 rfl rfl rfl fun _ H27 => ht_ H27 1 hx26 rfl rfl (v := .slice (some ⟨g6, 0, none⟩) 4 4) (fun _ _ _ => dd_slA (n := 4) (sz := 1) rfl (H27.ev 6 rfl) (by kernel_rfl)) fun _ H28 => hp_ H28 3 hx26 rfl rfl rfl fun _ H29 => hp_ H29 4 hx26 rfl rfl rfl fun _ H30 => ht_ H30 5 hx26 rfl rfl (fun _ _ _ => xSo 2 (o + k * 2) rfl (H30.ev 33 rfl) (H30.ev 34 rfl)) fun _ H31 => ht_ H31 6 hx26 rfl rfl (fun _ _ _ => xf 1 (o + k * 2 + 1) rfl (H31.ev 35 rfl)) fun _ H32 => ht_ H32 7 hx26 rfl rfl (fun _ _ HS9 => dd_at rfl (H32.ev 36 rfl) ((hr22 _ HS9.below).1 1 _ rfl) Tryd.underlying45 rfl) fun _ H33 => ?_
    clear HS25 H24 H27 H28 H29 H30 H31
    refine ht_ H33 8 hx26 rfl rfl (v := .int .i64 m22) (fun _ _ _ => dd_len rfl (H33.ev 37 rfl) Tryd.underlying45) fun _ H34 => ht_ H34 9 hx26 rfl rfl (v := .int .u8 (bd (byteI m22))) (fun _ _ _ => dd_conv (k := .u8) rfl (H34.ev 38 rfl) Tryd.underlying3 (by kernel_rfl) (wrap_u8_bd _)) fun _ H35 => ?_
    clear H32 H33 H34
    refine wpAnyH_all (rs := [2, 10]) (by kernel_rfl) (by decide) (hm_cons ?_ (hm_cons ?_ hm_nil))
    ·
     refine ho_ rfl <| a_ H35 rfl (S := fun g32_37 cb32_37 => [⟨g2, 36, bs (zer 32)⟩, ⟨g6, 107, bs (padN p22)⟩, ⟨g32_37, 5, cb32_37⟩]) (fun g32_37 c32_37 => .slice (some ⟨g32_37, 0, none⟩) (1 + 9 * k + 4) c32_37) (T := fun _ c32_37 cb32_37 => OwnC cb32_37 c32_37 (1 + 9 * k + 4) 1 (bytesV (Qq ++ (padN p22)))) (fun _ h => dd_appB HSh26 1 rfl Oq rfl (H35.ev 30 rfl) (H35.ev 31 rfl) (slice_part (HSh26.row 2 rfl) 0 (bytes_slab (slab_whole _)) (length_padN _) (by decide)) (fun h9 => by cases h9) rfl rfl (by unfold maxLen; omega) (by omega) h) fun g32_37 c32_37 cb32_37 _ O32_37 HS36 _ H36 => sx_ (sxi HS36 [0, 1, 2] rfl) fun hx38 => h1_ 10 rfl <| n_ H36 rfl (fun _ h => dd_lits HS36 #[.int .u8 (bd (byteI m22))] rfl (ps := [(0, .int .u8 (bd (byteI m22)))]) (pr1 (H36.ev 39 rfl) (pr0)) (z := .int .u8 0) (sz := 1) Tryd.underlying106 (by kernel_rfl) rfl rfl (by kernel_rfl) h) fun g40 _ HS39 _ H39 => sx_ (sxi HS39 [0, 1, 2, 3] rfl) fun hx40 => h1_ 11 rfl <| a_ H39 rfl (fun g41_42 c41_42 => .slice (some ⟨g41_42, 0, none⟩) (1 + 9 * k + 4 + 1) c41_42) (T := fun _ c41_42 cb41_42 => OwnC cb41_42 c41_42 (1 + 9 * k + 4 + 1) 1 (bytesV ((Qq ++ (padN p22)) ++ ([(byteI m22)])))) (fun _ h => dd_appB HS39 2 rfl O32_37 rfl (H39.ev 32 rfl) (H39.ev 40 rfl) (slice_own (HS39.row 3 rfl) (⟨Nat.le_refl _, by decide, rfl, rfl, rfl⟩ : OwnC #[.int .u8 (bd (byteI m22))] 1 1 1 (bytesV [(byteI m22)])) (show ([(byteI m22)] : List (BitVec 8)).length = 1 from rfl)) (fun h9 => by cases h9) rfl rfl (by unfold maxLen; omega) (by omega) h) fun g41_42 c41_42 cb41_42 _ O41_42 HS41 _ H41 => sx_ (sxi HS41 [0, 1, 2, 3] rfl) fun hx43 => hp_ H41 12 hx43 rfl rfl rfl fun _ H44 => ?_
     clear HSh26 H35 HS36 H36 hx38 HS39 H39 hx40 H41
     refine wpAnyH_done (by kernel_rfl) ?_ _
     clear hx43
     exact nx ⟨g41_42, c41_42, _, cb41_42, O41_42, H44.sel [0, 2, 5, 4] rfl, ss HS41 [0, 1, 2, 3]⟩
    refine ho_ rfl <| n_ H35 rfl (S := fun g40 => [⟨g2, 36, bs (zer 32)⟩, ⟨gq, 5, cbq⟩, ⟨g6, 107, bs (padN p22)⟩, ⟨g40, 5, #[.int .u8 (bd (byteI m22))]⟩]) (fun _ h => dd_lits HSh26 #[.int .u8 (bd (byteI m22))] rfl (ps := [(0, .int .u8 (bd (byteI m22)))]) (pr1 (H35.ev 39 rfl) (pr0)) (z := .int .u8 0) (sz := 1) Tryd.underlying106 (by kernel_rfl) rfl rfl (by kernel_rfl) h) fun g40 _ HS45 _ H45 => sx_ (sxi HS45 [0, 2, 1, 3] rfl) fun hx46 => h1_ 2 rfl <| a_ H45 rfl (fun g32_48 c32_48 => .slice (some ⟨g32_48, 0, none⟩) (1 + 9 * k + 4) c32_48) (T := fun _ c32_48 cb32_48 => OwnC cb32_48 c32_48 (1 + 9 * k + 4) 1 (bytesV (Qq ++ (padN p22)))) (fun _ h => dd_appB HS45 1 rfl Oq rfl (H45.ev 30 rfl) (H45.ev 31 rfl) (slice_part (HS45.row 2 rfl) 0 (bytes_slab (slab_whole _)) (length_padN _) (by decide)) (fun h9 => by cases h9) rfl rfl (by unfold maxLen; omega) (by omega) h) fun g32_48 c32_48 cb32_48 _ O32_48 HS47 _ H47 => sx_ (sxi HS47 [0, 1, 2, 3] rfl) fun hx49 => h1_ 11 rfl <| a_ H47 rfl (fun g41_51 c41_51 => .slice (some ⟨g41_51, 0, none⟩) (1 + 9 * k + 4 + 1) c41_51) (T := fun _ c41_51 cb41_51 => OwnC cb41_51 c41_51 (1 + 9 * k + 4 + 1) 1 (bytesV ((Qq ++ (padN p22)) ++ ([(byteI m22)])))) (fun _ h => dd_appB HS47 3 rfl O32_48 rfl (H47.ev 32 rfl) (H47.ev 40 rfl) (slice_own (HS47.row 2 rfl) (⟨Nat.le_refl _, by decide, rfl, rfl, rfl⟩ : OwnC #[.int .u8 (bd (byteI m22))] 1 1 1 (bytesV [(byteI m22)])) (show ([(byteI m22)] : List (BitVec 8)).length = 1 from rfl)) (fun h9 => by cases h9) rfl rfl (by unfold maxLen; omega) (by omega) h) fun g41_51 c41_51 cb41_51 _ O41_51 HS50 _ H50 => sx_ (sxi HS50 [0, 1, 2, 3] rfl) fun hx52 => hp_ H50 12 hx52 rfl rfl rfl fun _ H53 => ?_
    clear HSh26 H35 HS45 H45 hx46 HS47 H47 hx49 H50
    refine wpAnyH_done (by kernel_rfl) ?_ _
    clear hx52
    exact nx ⟨g41_51, c41_51, _, cb41_51, O41_51, H53.sel [0, 2, 5, 4] rfl, ss HS50 [0, 1, 2, 3]⟩
   rintro aj26 wj26 ⟨g41_42, c41_42, g40, cb41_42, O41_42, Hj26, HSj26⟩
   refine nx <| sq_ <| rl_ <| wl_ <| p_ Hj26 rfl rfl fun _ H55 => ln_ <| nx <| wp_block <| ?_
   clear Hj26
   refine wp_loopG (ι := Nat) (fun j a9 w9 => ∃ gj : Nat, ∃ cj : Nat, ∃ cbj : Array Value, ∃ Qj : List (BitVec 8), (j ≤ 4) ∧ (OwnC cbj cj (1 + 9 * k + 4 + 1 + j) 1 (bytesV Qj)) ∧ (Qj.length = 1 + 9 * k + 4 + 1 + j) ∧ (Qj = Qq ++ padN p22 ++ [byteI m22] ++ blkT L22 j) ∧ En 71 [(7, .int .i64 j), (4, .slice (some ⟨gj, 0, none⟩) (1 + 9 * k + 4 + 1 + j) cj), (5, .int .i64 k), (2, .pointer (some ⟨g2, 0, none⟩)), (0, .slice (some ⟨b, o, none⟩) n c)] a9 ∧ St w noF [⟨g2, 36, bs (zer 32)⟩, ⟨g6, 107, bs (padN p22)⟩, ⟨g40, 5, #[.int .u8 (bd (byteI m22))]⟩, ⟨gj, 5, cbj⟩] w9) (fun j => 4 - j) (0) ⟨g41_42, c41_42, cb41_42, ((Qq ++ (padN p22)) ++ ([(byteI m22)])), Nat.zero_le _, O41_42, ((len_app (len_app hq (length_padN _)) (show ([(byteI m22)] : List (BitVec 8)).length = 1 from rfl)).trans (by omega)), (by simp [blkT]), H55.sel [0, 2, 5, 4, 7] rfl, ss HSj26 [0, 1, 2, 3]⟩ ?_
   clear H55 HSj26
   rintro j aL56 wL56 ⟨gj, cj, cbj, Qj, hj, Oj, hqj, hQj, HL56, HSL56⟩
   refine sq_ <| sq_ <| rl_ <| wl_ <| p_ HL56 rfl rfl fun _ H57 => ?_
   clear HL56
   by_cases hc59 : (j : Int) < 4
   ·
    refine wl_ <| i_ H57 rfl (dd_cmp rfl (H57.ev 42 rfl) rfl (lt_t hc59)) fun _ H60 => ln_ <| nx <| ct_ H60 rfl <| wp_skip <| nx <| sq_ <| wp_block <| sq_ <| rl_ <| wl_ <| p_ H60 rfl rfl fun _ H61 => ln_ <| nx <| sq_ <| sq_ <| rl_ <| q_ H61 3 rfl fun _ H62 => wl_ <| i_ H62 rfl (xSo 2 (o + k * 2) rfl (H62.ev 47 rfl) (H62.ev 48 rfl)) fun _ H63 => wl_ <| i_ H63 rfl (xf 1 (o + k * 2 + 1) rfl (H63.ev 49 rfl)) fun _ H64 => wl_ <| i_ H64 rfl (dd_at rfl (H64.ev 50 rfl) ((hr22 _ HSL56.below).1 1 _ rfl) Tryd.underlying45 rfl) fun _ H65 => wl_ <| i_ H65 rfl (v := .int .i64 m22) (dd_len rfl (H65.ev 51 rfl) Tryd.underlying45) fun _ H66 => ?_
    clear H57 H60 H61 H62 H63 H64 H65
    by_cases hc68 : (j : Int) < m22
    ·
     refine wl_ <| i_ H66 rfl (dd_cmp rfl (H66.ev 46 rfl) (H66.ev 52 rfl) (lt_t hc68)) fun _ H69 => ln_ <| nx <| ct_ H69 rfl <| rl_ <| q_ H69 2 rfl fun _ H70 => wl_ <| i_ H70 rfl (xSo 2 (o + k * 2) rfl (H70.ev 54 rfl) (H70.ev 55 rfl)) fun _ H71 => wl_ <| i_ H71 rfl (xf 1 (o + k * 2 + 1) rfl (H71.ev 56 rfl)) fun _ H72 => wl_ <| i_ H72 rfl (dd_at rfl (H72.ev 57 rfl) ((hr22 _ HSL56.below).1 1 _ rfl) Tryd.underlying45 rfl) fun _ H73 => wl_ <| p_ H73 rfl rfl fun _ H74 => ?_
     clear H66 H69 H70 H71 H72 H73
     obtain ⟨bi22, oi22, hB22⟩ := ints_addr (hr22 _ (Below.refl _ _)).2 (by omega)
     refine wl_ <| i_ H74 rfl (dd_idxS (sz := 1) (j := oi22 + j) rfl (sl_at (H74.ev 58 rfl) hB22) (H74.ev 59 rfl) (by kernel_rfl) (by omega) (by omega) (by omega)) fun _ H75 => wl_ <| i_ H75 rfl (dd_at rfl (H75.ev 60 rfl) (ints_atB (hr22 _ HSL56.below).2 hB22 j (by omega)) Tryd.underlying3 rfl) fun _ H76 => wl_ <| p_ H76 rfl rfl fun _ H77 => ln_ <| ?_
     clear H74 H75 H76
     have H78 := H77.sel [0, 2, 5, 4, 7, 8] rfl
     refine nx <| rl_ <| q_ H78 2 rfl fun _ H79 => wl_ <| i_ H79 rfl (v := .int .u8 (bd (byteI (L22.getD j 0)))) (dd_conv (k := .u8) rfl (H79.ev 63 rfl) Tryd.underlying3 (by kernel_rfl) (wrap_u8_bd _)) fun _ H80 => wl_ <| n_ H80 rfl (fun _ h => dd_lits HSL56 #[.int .u8 (bd (byteI (L22.getD j 0)))] rfl (ps := [(0, .int .u8 (bd (byteI (L22.getD j 0))))]) (pr1 (H80.ev 64 rfl) (pr0)) (z := .int .u8 0) (sz := 1) Tryd.underlying106 (by kernel_rfl) rfl rfl (by kernel_rfl) h) fun g65 _ HS81 _ H81 => wl_ <| a_ H81 rfl (S := fun g66_83 cb66_83 => [⟨g2, 36, bs (zer 32)⟩, ⟨g6, 107, bs (padN p22)⟩, ⟨g40, 5, #[.int .u8 (bd (byteI m22))]⟩, ⟨g65, 5, #[.int .u8 (bd (byteI (L22.getD j 0)))]⟩, ⟨g66_83, 5, cb66_83⟩]) (fun g66_83 c66_83 => .slice (some ⟨g66_83, 0, none⟩) (1 + 9 * k + 4 + 1 + j + 1) c66_83) (T := fun _ c66_83 cb66_83 => OwnC cb66_83 c66_83 (1 + 9 * k + 4 + 1 + j + 1) 1 (bytesV (Qj ++ ([(byteI (L22.getD j 0))])))) (fun _ h => dd_appB HS81 3 rfl Oj rfl (H81.ev 62 rfl) (H81.ev 65 rfl) (slice_own (HS81.row 4 rfl) (⟨Nat.le_refl _, by decide, rfl, rfl, rfl⟩ : OwnC #[.int .u8 (bd (byteI (L22.getD j 0)))] 1 1 1 (bytesV [(byteI (L22.getD j 0))])) (show ([(byteI (L22.getD j 0))] : List (BitVec 8)).length = 1 from rfl)) (fun h9 => by cases h9) rfl rfl (by unfold maxLen; omega) (by omega) h) fun g66_83 c66_83 cb66_83 _ O66_83 HS82 _ H82 => wl_ <| p_ H82 rfl rfl fun _ H84 => ln_ <| bn <| nx <| rl_ <| wl_ <| p_ H84 rfl rfl fun _ H85 => wl_ <| i_ H85 rfl (v := .int .i64 (j + 1)) (dd_ari rfl (H85.ev 44 rfl) rfl rfl (i64_of (by first | omega | (have := bd_lo; omega)) (by omega))) fun _ H86 => wl_ <| p_ H86 rfl rfl fun _ H87 => ?_
     clear H77 H78 H79 HSL56 H80 HS81 H81 H82 H84 H85
     refine ln_ <| ?_
     clear H86
     refine nx ⟨j + 1, ⟨g66_83, c66_83, cb66_83, (Qj ++ ([(byteI (L22.getD j 0))])), (by omega), (own_n2 O66_83 (by omega)), ((len_app hqj (show ([(byteI (L22.getD j 0))] : List (BitVec 8)).length = 1 from rfl)).trans (by omega)), (by rw [hQj]; exact qin _ _ _), H87.sel [0, 2, 5, 4, 7] rfl, ss HS82 [0, 1, 2, 4]⟩, (by omega)⟩
    refine wl_ <| i_ H66 rfl (dd_cmp rfl (H66.ev 46 rfl) (H66.ev 52 rfl) (lt_f hc68)) fun _ H88 => ln_ <| nx <| cf_ H88 rfl <| wp_skip <| nx <| rl_ <| q_ H88 2 rfl fun _ H89 => wl_ <| i_ H89 rfl (v := .int .u8 0) (dd_conv (k := .u8) rfl (H89.ev 63 rfl) Tryd.underlying3 (by kernel_rfl) (by decide)) fun _ H90 => wl_ <| n_ H90 rfl (fun _ h => dd_lits HSL56 #[.int .u8 0] rfl (ps := [(0, .int .u8 0)]) (pr1 (H90.ev 64 rfl) (pr0)) (z := .int .u8 0) (sz := 1) Tryd.underlying106 (by kernel_rfl) rfl rfl (by kernel_rfl) h) fun g65 _ HS91 _ H91 => wl_ <| a_ H91 rfl (S := fun g66_93 cb66_93 => [⟨g2, 36, bs (zer 32)⟩, ⟨g6, 107, bs (padN p22)⟩, ⟨g40, 5, #[.int .u8 (bd (byteI m22))]⟩, ⟨g65, 5, #[.int .u8 0]⟩, ⟨g66_93, 5, cb66_93⟩]) (fun g66_93 c66_93 => .slice (some ⟨g66_93, 0, none⟩) (1 + 9 * k + 4 + 1 + j + 1) c66_93) (T := fun _ c66_93 cb66_93 => OwnC cb66_93 c66_93 (1 + 9 * k + 4 + 1 + j + 1) 1 (bytesV (Qj ++ ([0#8])))) (fun _ h => dd_appB HS91 3 rfl Oj rfl (H91.ev 62 rfl) (H91.ev 65 rfl) (slice_own (HS91.row 4 rfl) (⟨Nat.le_refl _, by decide, rfl, rfl, rfl⟩ : OwnC #[.int .u8 0] 1 1 1 (bytesV [0#8])) (show ([0#8] : List (BitVec 8)).length = 1 from rfl)) (fun h9 => by cases h9) rfl rfl (by unfold maxLen; omega) (by omega) h) fun g66_93 c66_93 cb66_93 _ O66_93 HS92 _ H92 => wl_ <| p_ H92 rfl rfl fun _ H94 => ln_ <| ?_
    clear H66 H88 H89 HSL56 H90 HS91 H91 H92
    have H95 := H94.sel [0, 2, 5, 7, 4] rfl
    refine bn <| nx <| rl_ <| wl_ <| p_ H95 rfl rfl fun _ H96 => wl_ <| i_ H96 rfl (v := .int .i64 (j + 1)) (dd_ari rfl (H96.ev 44 rfl) rfl rfl (i64_of (by first | omega | (have := bd_lo; omega)) (by omega))) fun _ H97 => wl_ <| p_ H97 rfl rfl fun _ H98 => ln_ <| ?_
    clear H94 H95 H96 H97
    refine nx ⟨j + 1, ⟨g66_93, c66_93, cb66_93, (Qj ++ ([0#8])), (by omega), (own_n2 O66_93 (by omega)), ((len_app hqj (show ([0#8] : List (BitVec 8)).length = 1 from rfl)).trans (by omega)), (by rw [hQj]; exact qin0 _ (show L22.length ≤ j by omega)), H98.sel [0, 2, 5, 4, 7] rfl, ss HS92 [0, 1, 2, 4]⟩, (by omega)⟩
   refine wl_ <| i_ H57 rfl (dd_cmp rfl (H57.ev 42 rfl) rfl (lt_f hc59)) fun _ H99 => ln_ <| nx <| cf_ H99 rfl <| wp_exit <| tx <| tx <| bx <| bn <| nx <| rl_ <| wl_ <| p_ H99 rfl rfl fun _ H100 => wl_ <| i_ H100 rfl (v := .int .i64 (k + 1)) (dd_ari rfl (H100.ev 22 rfl) rfl rfl (i64_of (by first | omega | (have := bd_lo; omega)) (by omega))) fun _ H101 => wl_ <| p_ H101 rfl rfl fun a102 H102 => ln_ <| ?_
   clear H57 H99 H100 H101
   have H103 : En 71 [(5, .int .i64 (k + 1)), (23, .int .i64 (k + 1)), (22, .int .i64 k), (43, .bool false), (42, .int .i64 j), (7, .int .i64 j), (4, .slice (some ⟨gj, 0, none⟩) (1 + 9 * k + 4 + 1 + j) cj), (2, .pointer (some ⟨g2, 0, none⟩)), (0, .slice (some ⟨b, o, none⟩) n c)] a102 := H102.sel [0, 2, 4, 7, 42, 43, 22, 23, 5] rfl
   clear H102
   have e9 : 1 + 9 * k + 4 + 1 + j = 1 + 9 * (k + 1) := by omega
   rw [e9] at H103
   refine nx ⟨k + 1, ⟨gj, cj, cbj, Qj, (by omega), (own_n2 Oj (by omega)), (hqj.trans (by omega)), (by rw [hQj, hQ, ← hm22, qstep hg22 (show j = 4 by omega)]), H103.sel [0, 2, 4, 5] rfl, ss HSL56 [0, 3]⟩, (by omega)⟩
  refine wl_ <| i_ H14 rfl (dd_cmp rfl (H14.ev 18 rfl) (H14.ev 20 rfl) (lt_f hc16)) fun _ H104 => ln_ <| nx <| cf_ H104 rfl <| wp_exit <| tx <| tx <| bx <| nx <| sq_ <| rl_ <| wl_ <| n_ H104 rfl (fun _ h => dd_new HSL12 (bs (zer 32)) rfl (z := .agg (bs (zer 32))) (by kernel_rfl) rfl h) fun g9 _ HS105 _ H105 => ln_ <| nx <| sq_ <| rl_ <| wl_ <| i_ H105 rfl (v := .slice (some ⟨g9, 0, none⟩) 32 32) (dd_slA (n := 32) (sz := 1) rfl (H105.ev 9 rfl) (by kernel_rfl)) fun _ H106 => wl_ <| p_ H106 rfl rfl fun _ H107 => wl_ <| tv H107 rfl (S := [⟨g2, 36, bs (zer 32)⟩, ⟨gq, 5, cbq⟩, ⟨g9, 36, bs (spl (zer 32) 0 Qq)⟩]) (v := .int .i64 (1 + 9 * k)) (fun _ h => dd_copyR HS105 2 rfl (length_zer 32) rfl (H107.ev 67 rfl) (H107.ev 68 rfl) (slice_own (HS105.row 1 rfl) Oq hq) hq (by omega) (by omega) h) fun _ HS108 _ H108 => ln_ <| nx <| sq_ <| rl_ <| wl_ <| i_ H108 rfl (v := .agg (bs (spl (zer 32) 0 Qq))) (dd_load HS108 2 0 rfl rfl (H108.ev 9 rfl) (slab_whole _) Tryd.underlying36 rfl (by rw [show (bs (spl (zer 32) 0 Qq)).size = 32 from ((size_bs _).trans (len_spl (length_zer 32) hq (by omega)))]; kernel_rfl)) fun _ H109 => wl_ <| t_ rfl (fun _ h => dd_setrow HS108 0 rfl rfl (H109.ev 2 rfl) (H109.ev 70 rfl) (by kernel_rfl) (((size_bs _).trans (len_spl (length_zer 32) hq (by omega))) : (bs (spl (zer 32) 0 Qq)).size = 32) (((size_bs _).trans (length_zer 32)) : (bs (zer 32)).size = 32) (one_bs _) h) fun _ HS110 => wl_ <| p_ H109 rfl rfl fun _ H111 => ?_
  clear H14 HSL12 H104 H105 H106 HS105 H107 H108 HS108
  refine ln_ <| nx <| wp_ret <| ret_run H111.env0 (res_ct Tryd.results43 (H111.get 2 rfl) (HS110.row 0 rfl) Tryd.underlying36 rfl (by rw [show (bs (spl (zer 32) 0 Qq)).size = 32 from ((size_bs _).trans (len_spl (length_zer 32) hq (by omega)))]; kernel_rfl) (H111.get 3 rfl)) <| ?_
  clear H109
  exact ⟨by unfold encT encE; rw [hG, if_pos rfl, if_pos rfl, qall (Q := Qq) (by omega) (by rw [List.take_of_length_le (show l.length ≤ k by omega)] at hQ; rw [hln]; exact hQ)], HS110.below⟩
set_option maxHeartbeats 800000 in
theorem renct_zero (A : Option Addr) (c : Nat) (l : List Tv) (w : World) (hv : VolsAt w (.slice A 0 c) (volL l)) (hn : 0 ≤ 1000000) (hG : goodT l = true) :
    Calls Tryd.prog 43 #[.slice A 0 c] w fun e w' => e = .returned (.tuple #[.agg (bs (encT l)), .int .i64 (encE l)]) ∧ Below w.heap.size w w' := by
  have HS := St.nil w noF
  have hln : l.length = 0 := by rw [← len_volL]; exact vols_len hv
  refine enter_en Tryd.func43 rfl Tryd.ntmps43 (Nat.le_of_ble_eq_true rfl) fun a0 (HA0 : En 71 [(0, .slice A 0 c)] a0) => ?_
  refine sq_ <| rl_ <| wl_ <| n_ HA0 rfl (fun _ h => dd_new HS (bs (zer 32)) rfl (z := .agg (bs (zer 32))) (by kernel_rfl) rfl h) fun g2 W1 HS1 _ H1 => wl_ <| p_ H1 rfl rfl fun _ H2 => ln_ <| nx <| sq_ <| sq_ <| rl_ <| wl_ <| p_ H2 rfl rfl fun _ H3 => wl_ <| c_ H3 rfl HS1 (v := .bool true) (dc_ Tryd.func51 rfl (args1 (H3.ev 10 rfl)) (rgoodt_any _ _ _ l W1 (hv.below HS1.below (Nat.le_refl _)) hn) (fun _ w9 h9 => ⟨_, h9.1, by rw [hG], h9.2⟩)) fun _ HS4 _ H4 => wl_ <| i_ H4 rfl (v := .bool false) (dd_nt rfl (H4.ev 11 rfl) rfl) fun _ H5 => ln_ <| nx <| cf_ H5 rfl <| wp_skip <| nx <| sq_ <| rl_ <| wl_ <| p_ H5 rfl rfl fun _ H6 => wl_ <| i_ H6 rfl (v := .int .i64 0) (dd_len rfl (H6.ev 14 rfl) Tryd.underlying75) fun _ H7 => wl_ <| i_ H7 rfl (v := .int .u8 0) (dd_conv (k := .u8) rfl (H7.ev 15 rfl) Tryd.underlying3 (by kernel_rfl) (by decide)) fun _ H8 => ?_
  clear HS HA0 H1 H2 H3 HS1 H4 H5 H6
  refine wl_ <| n_ H8 rfl (fun _ h => dd_lits HS4 #[.int .u8 0] rfl (ps := [(0, .int .u8 0)]) (pr1 (H8.ev 16 rfl) (pr0)) (z := .int .u8 0) (sz := 1) Tryd.underlying106 (by kernel_rfl) rfl rfl (by kernel_rfl) h) fun g17 _ HS9 _ H9 => wl_ <| p_ H9 rfl rfl fun _ H10 => ln_ <| nx <| sq_ <| sq_ <| rl_ <| wl_ <| p_ H10 rfl rfl fun _ H11 => ln_ <| nx <| wp_block <| wp_unr 1 <| unr_go <| sq_ <| sq_ <| rl_ <| q_ H11 2 rfl fun _ H12 => wl_ <| i_ H12 rfl (v := .int .i64 0) (dd_len rfl (H12.ev 19 rfl) Tryd.underlying75) fun _ H13 => wl_ <| i_ H13 rfl (dd_cmp rfl (H13.ev 18 rfl) (H13.ev 20 rfl) (lt_f (by decide))) fun _ H14 => ln_ <| nx <| cf_ H14 rfl <| wp_exit <| tx <| tx <| bx <| nx <| sq_ <| rl_ <| wl_ <| n_ H14 rfl (fun _ h => dd_new HS9 (bs (zer 32)) rfl (z := .agg (bs (zer 32))) (by kernel_rfl) rfl h) fun g9 _ HS15 _ H15 => ln_ <| nx <| sq_ <| rl_ <| wl_ <| i_ H15 rfl (v := .slice (some ⟨g9, 0, none⟩) 32 32) (dd_slA (n := 32) (sz := 1) rfl (H15.ev 9 rfl) (by kernel_rfl)) fun _ H16 => ?_
  clear H7 HS4 H8 H9 H10 H11 H12 H13 HS9 H14
  refine wl_ <| p_ H16 rfl rfl fun _ H17 => wl_ <| tv H17 rfl (S := [⟨g2, 36, bs (zer 32)⟩, ⟨g17, 5, #[.int .u8 0]⟩, ⟨g9, 36, bs (spl (zer 32) 0 ([0#8]))⟩]) (v := .int .i64 1) (fun _ h => dd_copyR HS15 2 rfl (length_zer 32) rfl (H17.ev 67 rfl) (H17.ev 68 rfl) (slice_own (HS15.row 1 rfl) (⟨Nat.le_refl _, by decide, rfl, rfl, rfl⟩ : OwnC #[.int .u8 0] 1 1 1 (bytesV [0#8])) (show ([0#8] : List (BitVec 8)).length = 1 from rfl)) (show ([0#8] : List (BitVec 8)).length = 1 from rfl) (by decide) (by decide) h) fun _ HS18 _ H18 => ln_ <| ?_
  clear H15 H16 HS15 H17
  have H19 := H18.sel [2, 9] rfl
  refine nx <| sq_ <| rl_ <| wl_ <| i_ H19 rfl (v := .agg (bs (spl (zer 32) 0 ([0#8])))) (dd_load HS18 2 0 rfl rfl (H19.ev 9 rfl) (slab_whole _) Tryd.underlying36 rfl (by rw [show (bs (spl (zer 32) 0 ([0#8]))).size = 32 from ((size_bs _).trans (len_spl (length_zer 32) (show ([0#8] : List (BitVec 8)).length = 1 from rfl) (by decide)))]; kernel_rfl)) fun _ H20 => wl_ <| t_ rfl (fun _ h => dd_setrow HS18 0 rfl rfl (H20.ev 2 rfl) (H20.ev 70 rfl) (by kernel_rfl) (((size_bs _).trans (len_spl (length_zer 32) (show ([0#8] : List (BitVec 8)).length = 1 from rfl) (by decide))) : (bs (spl (zer 32) 0 ([0#8]))).size = 32) (((size_bs _).trans (length_zer 32)) : (bs (zer 32)).size = 32) (one_bs _) h) fun _ HS21 => wl_ <| p_ H20 rfl rfl fun _ H22 => ln_ <| nx <| wp_ret <| ret_run H22.env0 (res_ct Tryd.results43 (H22.get 2 rfl) (HS21.row 0 rfl) Tryd.underlying36 rfl (by rw [show (bs (spl (zer 32) 0 ([0#8]))).size = 32 from ((size_bs _).trans (len_spl (length_zer 32) (show ([0#8] : List (BitVec 8)).length = 1 from rfl) (by decide)))]; kernel_rfl) (H22.get 3 rfl)) <| ?_
  clear H18 H19 HS18 H20
  exact ⟨by unfold encT encE; rw [hG, if_pos rfl, if_pos rfl, qall (Q := ([0#8])) (by omega) (by rw [List.length_eq_zero_iff.1 hln]; rfl)], HS21.below⟩
set_option maxHeartbeats 800000 in
theorem renct_bad (A : Option Addr) (n c : Nat) (l : List Tv) (w : World) (hv : VolsAt w (.slice A n c) (volL l)) (hn : n ≤ 1000000) (hG : goodT l = false) :
    Calls Tryd.prog 43 #[.slice A n c] w fun e w' => e = .returned (.tuple #[.agg (bs (encT l)), .int .i64 (encE l)]) ∧ Below w.heap.size w w' := by
  have HS := St.nil w noF
  refine enter_en Tryd.func43 rfl Tryd.ntmps43 (Nat.le_of_ble_eq_true rfl) fun a0 (HA0 : En 71 [(0, .slice A n c)] a0) => ?_
  refine sq_ <| rl_ <| wl_ <| n_ HA0 rfl (fun _ h => dd_new HS (bs (zer 32)) rfl (z := .agg (bs (zer 32))) (by kernel_rfl) rfl h) fun _ W1 HS1 _ H1 => wl_ <| p_ H1 rfl rfl fun _ H2 => ln_ <| nx <| sq_ <| sq_ <| rl_ <| wl_ <| p_ H2 rfl rfl fun _ H3 => wl_ <| c_ H3 rfl HS1 (v := .bool false) (dc_ Tryd.func51 rfl (args1 (H3.ev 10 rfl)) (rgoodt_any _ _ _ l W1 (hv.below HS1.below (Nat.le_refl _)) hn) (fun _ w9 h9 => ⟨_, h9.1, by rw [hG], h9.2⟩)) fun _ HS4 _ H4 => wl_ <| i_ H4 rfl (v := .bool true) (dd_nt rfl (H4.ev 11 rfl) rfl) fun _ H5 => ln_ <| nx <| ct_ H5 rfl <| sq_ <| rl_ <| wl_ <| i_ H5 rfl (v := .agg (bs (zer 32))) (dd_bldk rfl (ps := []) (pr0) (cs := bs (zer 32)) (by kernel_rfl)) fun _ H6 => wl_ <| t_ rfl (fun _ h => dd_setrow HS4 0 rfl rfl (H6.ev 2 rfl) (H6.ev 13 rfl) (by kernel_rfl) (((size_bs _).trans (length_zer 32)) : (bs (zer 32)).size = 32) (((size_bs _).trans (length_zer 32)) : (bs (zer 32)).size = 32) (one_bs _) h) fun _ HS7 => wl_ <| p_ H6 rfl rfl fun _ H8 => ?_
  clear HS HA0 H1 H2 H3 HS1 H4 H5 HS4
  refine ln_ <| nx <| wp_ret <| tr <| ret_run H8.env0 (res_ct Tryd.results43 (H8.get 2 rfl) (HS7.row 0 rfl) Tryd.underlying36 rfl (by rw [show (bs (zer 32)).size = 32 from ((size_bs _).trans (length_zer 32))]; kernel_rfl) (H8.get 3 rfl)) <| ?_
  clear H6
  exact ⟨by unfold encT encE; rw [hG]; rfl, HS7.below⟩
theorem renct_any (A : Option Addr) (n c : Nat) (l : List Tv) (w : World) (hv : VolsAt w (.slice A n c) (volL l)) (hn : n ≤ 1000000) :
    Calls Tryd.prog 43 #[.slice A n c] w fun e w' => e = .returned (.tuple #[.agg (bs (encT l)), .int .i64 (encE l)]) ∧ Below w.heap.size w w' := by
  cases hG : goodT l with
  | false => exact renct_bad A n c l w hv hn hG
  | true =>
    by_cases h0 : n = 0
    · subst h0; exact renct_zero A c l w hv hn hG
    · obtain ⟨b, o, rfl⟩ := vols_some hv (by omega)
      exact renct_pos b o n c l w hv hn hG
end Go.Proofs.YtnmaplgodimohaaDoor

/- Volumes appended to those of one's own, in a round of a loop. No function of the program is named here. -/
set_option maxRecDepth 4000
namespace Go.Proofs.YtnmaplgodimohaaDoor
open Go Go.RowKit
/- blocks that a growing slice does not lie in stay as they are -/
theorem st_grown {w0 w w' : World} {S : List Blk} {v : Value} (h : St w0 noF S w) (hg : w.grownBy w' v.ownBlock) (hv : ∀ g, v.ownBlock = some g → w0.heap.size ≤ g ∧ ∀ r ∈ S, r.g ≠ g) : St w0 noF S w' :=
  ⟨h.chg.grown hg (fun j e => .inr (hv j e).1), fun j r hj => (hg.block r.g (h.rows j r hj).lt fun e => (hv r.g e.symm).2 r (List.mem_of_getElem? hj) rfl).trans (h.rows j r hj), h.apart, h.own⟩
theorem St.first {w0 w1 w : World} {S : List Blk} (h : St w1 noF S w) (hb : Below w0.heap.size w0 w1) : St w0 noF S w :=
  ⟨⟨h.chg.os.trans hb.os, h.chg.tape.trans hb.tape, h.chg.output.trans hb.output, Nat.le_trans hb.size h.chg.size, fun k hk hf => (h.chg.block k (Nat.lt_of_lt_of_le hk hb.size) hf).trans (hb.block k hk)⟩, h.rows, h.apart, fun k r hk => .inr (Nat.le_trans hb.size ((h.own k r hk).resolve_left fun e => e))⟩
theorem inV_own {B : Nat} {W : World} {g n c : Nat} {L : List Int} (hn : L.length = n) (h : W.ownsRow B 3 1 (.slice (some ⟨g, 0, none⟩) n c) n (intsV L)) (hb : ∀ x ∈ L, -9223372036854775808 ≤ x ∧ x < 9223372036854775808) : InV B W (some ⟨g, 0, none⟩) c L := by
  subst hn; exact .inr ⟨h, hb⟩
theorem vol_litM {B : Nat} {W : World} {g n : Nat} {s : ByteArray} {A : Option Addr} {c : Nat} {L : List Int} (hn : L.length = n) (hr : Row W g 81 #[.string s, .slice A n c]) (hi : InV B W A c L) (hs : s.size ≤ maxLen) : VolsIn B W (some ⟨g, 0, none⟩) 1 1 [(s, L)] := by
  subst hn; exact vol_lit hr hi hs
theorem row_grown {w w' : World} {B n : Nat} {v : Value} {xs : List Value} {g : Nat} {t : TypeId} {cs : Array Value} (hr : Row w g t cs) (ht : t ≠ 81) (ho : w.ownsRow B 81 2 v n xs) (hg : w.grownBy w' v.ownBlock) : Row w' g t cs := by
  refine (hg.block g hr.lt fun e => ?_).trans hr
  obtain ⟨_, h | ⟨g2, cap, cur, rfl, _, h3, _⟩⟩ := ho
  · rw [h.1] at e; cases e
  · injection e with e
    have e : g = g2 := e
    subst e
    rw [hr] at h3
    injection h3 with h3
    injection h3 with _ h3 _
    exact ht h3
/- volumes appended behind those of one's own: the rows that came since the round began stay, and one of another type that was there -/
theorem dd_appV1 {o : Oper} {a : Act} {w w0 w1 : World} {R : Value → World → Prop} {S : List Blk} {g1 : Nat} {t1 : TypeId} {c1 : Array Value} (HS1 : St w0 noF [⟨g1, t1, c1⟩] w1) (ht : t1 ≠ 81) (HS : St w1 noF S w) {v : Value} {l1 : List Vl} (hov : OV w0.heap.size w1 v l1) {s x : Operand}
    (ho : o.op = .call { callee := .builtin .append, args := #[s, x], argTypes := #[75, 75] }) (hs : a.eval s = v) {ad : Addr} {m c : Nat} {l2 : List Vl} (hx : a.eval x = .slice (some ad) m c) (h2 : VolsIn w0.heap.size w (some ad) m c l2) (hnm : l1.length + l2.length ≤ 1000000)
    (h : ∀ v' w', OV w0.heap.size w' v' (l1 ++ l2) → St w0 noF (S ++ [⟨g1, t1, c1⟩]) w' → R v' w') : Does Tryd.prog o a w R := fun K Q hK => by
  have hb : Below w0.heap.size w0 w1 := HS1.below
  have hbw : Below w1.heap.size w1 w := HS.below
  have hB1 : w0.heap.size ≤ w1.heap.size := hb.size
  have hov' := hov.call hbw hB1
  have hbase : w0.heap.size ≤ w.heap.size := Nat.le_trans hB1 hbw.size
  have hr1 : Row w1 g1 t1 c1 := HS1.row 0 rfl
  have hap : ∀ g, v.ownBlock = some g → w0.heap.size ≤ g ∧ ∀ r ∈ S, r.g ≠ g := fun g e => by
    obtain ⟨vs, h1, _⟩ := hov
    refine ⟨(h1.lt g e).1, fun r hr e2 => ?_⟩
    obtain ⟨k, hk⟩ := List.getElem?_of_mem hr
    have := (HS.own k r hk).resolve_left fun e => e
    have := (h1.lt g e).2
    omega
  obtain ⟨i0, hi, hz0, hz1, hz2⟩ := info_parts info_vol
  obtain ⟨vs, hown, hcv⟩ := hov'
  obtain ⟨rfl, _, us, hus, hcell⟩ := h2
  have h2l : us.flatten.length = l2.length * 2 := by rw [flat_length (sz := 2) _ hus.2.1, hus.1]
  refine wp_append_own_wide w s x 75 ho w0.heap.size 81 i0 (.agg #[.string ⟨#[]⟩, .slice none 0 0]) 2 40 Tryd.underlying75 hi hz0 hz1 hz2 rfl (by decide) v l1.length vs.flatten hs hown ad l2.length c us.flatten hx h2l (hcell ad rfl) (one_volV hus) (by unfold maxLen; omega) (by omega) hbase fun v' w' o2 hg _ => ?_
  refine hK _ _ (h v' w' ⟨vs ++ us, by rw [List.length_append, List.flatten_append]; exact o2, (hcv.append hus).grown hown hg hbase⟩ ((st_grown (HS.first hb) hg hap).join (row_grown (hr1.call hbw) ht hown hg) ((HS1.own 0 _ rfl).resolve_left fun e => e) fun b hm e => ?_))
  obtain ⟨k, hk⟩ := List.getElem?_of_mem hm
  have h8 := (HS.own k b hk).resolve_left fun e => e
  have h9 := hr1.lt
  omega
end Go.Proofs.YtnmaplgodimohaaDoor

/- The document's tables: Decode. -/
set_option maxRecDepth 4000
namespace Go.Proofs.YtnmaplgodimohaaDoor
open Go Go.RowKit
def nmQ (q : List (BitVec 8)) (b : Nat) : List (BitVec 8) := (cutN ((q.drop b).take 4)).1
def fgQ (q : List (BitVec 8)) (b : Nat) : Bool := (cutN ((q.drop b).take 4)).2
def rdI (q : List (BitVec 8)) (b j : Nat) : List Int := (List.range j).map fun i => bd (q.getD (b + 5 + i) 0#8)
def volR (q : List (BitVec 8)) (b j : Nat) : Tv := (nmQ q b, rdI q b j)
theorem len_rdI (q : List (BitVec 8)) (b j : Nat) : (rdI q b j).length = j := by unfold rdI; simp
theorem rdI_bound (q : List (BitVec 8)) (b j : Nat) : ∀ x ∈ rdI q b j, -9223372036854775808 ≤ x ∧ x < 9223372036854775808 := fun x hx => by
  unfold rdI at hx
  obtain ⟨y, _, rfl⟩ := List.mem_map.1 hx
  have := bd_lo (q.getD (b + 5 + y) 0#8); have := bd_hi (q.getD (b + 5 + y) 0#8); omega
theorem rdI_snoc {q : List (BitVec 8)} {b j c : Nat} {cb : Array Value} (h : OwnC cb c (j + 1) 1 (intsV (rdI q b j) ++ [.int .i64 (bd (q.getD (b + 5 + j) 0#8))])) : OwnC cb c (j + 1) 1 (intsV (rdI q b (j + 1))) := by
  have e : intsV (rdI q b (j + 1)) = intsV (rdI q b j) ++ [.int .i64 (bd (q.getD (b + 5 + j) 0#8))] := by
    unfold rdI intsV; rw [List.range_succ, List.map_append, List.map_append]; rfl
  rw [e]; exact h
theorem nmQ_len {q : List (BitVec 8)} {b : Nat} (hq : q.length = 32) (hb : b + 9 ≤ 32) : (nmQ q b).length ≤ maxLen := Nat.le_trans (cut_len (by rw [List.length_take, List.length_drop, hq]; omega)) (by decide)
theorem four_at12 (q : List (BitVec 8)) (n : Nat) (h : n + 4 ≤ q.length) : (q.drop n).take 4 = [q.getD n 0#8, q.getD (n + 1) 0#8, q.getD (n + 2) 0#8, q.getD (n + 3) 0#8] := by
  have g : ∀ j, j < q.length → q.drop j = q.getD j 0#8 :: q.drop (j + 1) := fun j hj => by
    rw [List.drop_eq_getElem_cons hj, List.getD_eq_getElem?_getD, List.getElem?_eq_getElem hj]; rfl
  rw [g n (by omega), g (n + 1) (by omega), g (n + 2) (by omega), g (n + 3) (by omega)]
  rfl
theorem refcut_b (q : List (BitVec 8)) (b : Nat) (w : World) (hq : q.length = 32) (hb : b + 9 ≤ 32) : Calls Tryd.prog 58 #[.agg (bs [q.getD b 0#8, q.getD (b + 1) 0#8, q.getD (b + 2) 0#8, q.getD (b + 3) 0#8])] w fun e w' => e = .returned (.agg (nmC (nmQ q b) (fgQ q b))) ∧ Below w.heap.size w w' := by
  have e := four_at12 q b (by omega)
  unfold nmQ fgQ
  rw [e]
  exact refcutn_any _ w rfl
theorem fromL_rd {q : List (BitVec 8)} {b j b4 : Nat} (hq : q.length = 32) (hb : b + 9 ≤ 32) (hb4 : b + 4 = b4) (hj : j = min (q.getD b4 0#8).toNat 4) : fromL ((q.drop b).take 9) = rdI q b j := by
  subst hb4
  have e : ((q.drop b).take 9).getD 4 0#8 = q.getD (b + 4) 0#8 := by
    rw [List.getD_eq_getElem?_getD, List.getElem?_take_of_lt (by decide), List.getElem?_drop, ← List.getD_eq_getElem?_getD]
  unfold fromL rdI
  rw [e, ← hj]
  refine List.ext_getElem? fun i => ?_
  by_cases hi : i < j
  · simp only [List.getElem?_map, List.getElem?_range hi, List.getElem?_take_of_lt hi, List.getElem?_drop]
    rw [List.getElem?_take_of_lt (by omega), List.getElem?_drop, show b + (5 + i) = b + 5 + i by omega, List.getElem?_eq_getElem (by omega)]
    show some (bd _) = some (bd _)
    rw [List.getD_eq_getElem?_getD, List.getElem?_eq_getElem (by omega)]
    rfl
  · rw [List.getElem?_eq_none (by simp; omega), List.getElem?_eq_none (by simp; omega)]
theorem volR_eq {q : List (BitVec 8)} {b j b4 : Nat} (hq : q.length = 32) (hb : b + 9 ≤ 32) (hb4 : b + 4 = b4) (hj : j = min (q.getD b4 0#8).toNat 4) : volR q b j = volQ ((q.drop b).take 9) := by
  unfold volR volQ nmQ
  rw [fromL_rd hq hb hb4 hj, List.take_take]
  rfl
theorem own_nilI (q : List (BitVec 8)) (b base : Nat) (W : World) : W.ownsRow base 3 1 (.slice none 0 0) 0 (intsV (rdI q b 0)) := ⟨rfl, .inl ⟨rfl, rfl⟩⟩
theorem inV_nilR (B : Nat) (W : World) (q : List (BitVec 8)) (b : Nat) : InV B W none 0 (rdI q b 0) := .inr ⟨own_nilI q b B W, rdI_bound q b 0⟩
def preV (q : List (BitVec 8)) (i : Nat) : List Tv := (List.range i).map fun k => volQ ((q.drop (1 + 9 * k)).take 9)
theorem len_pre (q : List (BitVec 8)) (i : Nat) : (preV q i).length = i := by unfold preV; simp
theorem pre_snoc {q : List (BitVec 8)} {i m : Nat} (hq : q.length = 32) (hb : 1 + 9 * i + 9 ≤ 32) (hm : m = min (q.getD (1 + 9 * i + 4) 0#8).toNat 4) : volL (preV q (i + 1)) = volL (preV q i) ++ [(strB (nmQ q (1 + 9 * i)), rdI q (1 + 9 * i) m)] := by
  have e := volR_eq (q := q) (b := 1 + 9 * i) (j := m) hq hb rfl hm
  unfold preV volL
  rw [List.range_succ, List.map_append, List.map_append]
  exact congrArg (fun x : Tv => List.map (fun x : Tv => (strB x.1, x.2)) ((List.range i).map fun k => volQ ((q.drop (1 + 9 * k)).take 9)) ++ [(strB x.1, x.2)]) e.symm
theorem pre_dec {q : List (BitVec 8)} {i : Nat} (_ : q.length = 32) (hi : i = (q.getD 0 0#8).toNat) (_ : i ≤ 3) : preV q i = decQ q := by unfold preV decQ; rw [hi]
theorem ov_len {B : Nat} {W : World} {A : Option Addr} {n c : Nat} {l : List Vl} (h : OV B W (.slice A n c) l) : l.length = n := by
  obtain ⟨A2, n2, c2, e, h2, _⟩ := OV.form2 h
  injection e with _ e _
  rw [e]; exact h2
set_option maxHeartbeats 1600000 in
theorem rdect_any (q : List (BitVec 8)) (w : World) (hq : q.length = 32) :
    Calls Tryd.prog 49 #[.agg (bs q)] w fun e w' => ∃ v, e = .returned (.tuple #[v, .int .i64 (decE q)]) ∧ OV w.heap.size w' v (volL (decLT q)) ∧ Below w.heap.size w w' := by
  have HS := St.nil w noF
  have hb0 := bd_lo (q.getD 0 0#8)
  obtain ⟨n, hn, hn2⟩ : ∃ n : Nat, bd (q.getD 0 0#8) = n ∧ n = (q.getD 0 0#8).toNat := ⟨_, rfl, rfl⟩
  refine enter_en Tryd.func49 rfl Tryd.ntmps49 (Nat.le_of_ble_eq_true rfl) fun a0 (HA0 : En 87 [(0, .agg (bs q))] a0) => ?_
  refine sq_ <| rl_ <| wl_ <| n_ HA0 rfl (fun _ h => dd_box HS rfl (HA0.ev 0 rfl) (cs := (bs q)) rfl h) fun g1 _ HS1 _ H1 => q_ H1 2 rfl fun _ H2 => ln_ <| nx <| sq_ <| sq_ <| rl_ <| wl_ <| i_ H2 rfl (xA 32 1 0 rfl (H2.ev 1 rfl) rfl) fun _ H3 => wl_ <| i_ H3 rfl (dd_get HS1 0 0 rfl rfl (H3.ev 12 rfl) (bs_get hq 0 (by decide)) Tryd.underlying5 rfl) fun _ H4 => ?_
  clear HS HA0 H1 H2 H3
  by_cases hc6 : (3 : Int) < bd (q.getD 0 0#8)
  ·
   refine wl_ <| i_ H4 rfl (dd_cmp rfl (H4.ev 13 rfl) rfl (gt_t hc6)) fun _ H7 => ln_ <| nx <| ct_ H7 rfl <| sq_ <| rl_ <| q_ H7 2 rfl fun _ H8 => ln_ <| nx <| wp_ret <| tr <| ret_run H8.env0 (res_tt Tryd.results49 (H8.get 2 rfl) (H8.get 3 rfl)) <| ?_
   clear H4 H7
   have hbad := okD_no (q := q) (fun ⟨h1, _, _⟩ => by have h9 : bd (q.getD 0 0#8) = ((q.getD 0 0#8).toNat : Int) := rfl; omega)
   exact ⟨_, by rw [(dec_bad hbad).2], by rw [(dec_bad hbad).1]; exact OV.nil _ _, HS1.below⟩
  refine wl_ <| i_ H4 rfl (dd_cmp rfl (H4.ev 13 rfl) rfl (gt_f hc6)) fun a9 H9 => ln_ <| nx <| cf_ H9 rfl <| wp_skip <| nx <| sq_ <| rl_ <| wl_ <| p_ H9 rfl rfl fun _ H10 => ln_ <| nx <| sq_ <| sq_ <| rl_ <| wl_ <| p_ H10 rfl rfl fun _ H11 => ln_ <| nx <| wp_block <| ?_
  clear H4 H9 H10
  refine wp_loopG (ι := Nat) (fun i a9 w9 => ∃ Al : Option Addr, ∃ nl : Nat, ∃ cl : Nat, (i ≤ n) ∧ (OV w.heap.size w9 (.slice Al nl cl) (volL (preV q i))) ∧ En 87 [(5, .int .i64 i), (4, .slice Al nl cl), (1, .pointer (some ⟨g1, 0, none⟩))] a9 ∧ St w noF [⟨g1, 36, bs q⟩] w9) (fun i => n - i) (0) ⟨none, 0, 0, (Nat.zero_le _), (OV.nil _ _), H11.sel [1, 4, 5] rfl, ss HS1 [0]⟩ ?_
  clear H11 HS1
  rintro i aL12 wL12 ⟨Al, nl, cl, hi, hov, HL12, HSL12⟩
  have HBs13 : Below w.heap.size w wL12 := HSL12.below
  have HR13_0 := fun (W9 : World) (hb9 : Below wL12.heap.size wL12 W9) => (HSL12.row 0 rfl).call hb9
  have HSb13 := St.nil wL12 noF
  refine sq_ <| sq_ <| rl_ <| wl_ <| p_ HL12 rfl rfl fun _ H14 => wl_ <| i_ H14 rfl (xA 32 1 0 rfl (H14.ev 1 rfl) rfl) fun _ H15 => wl_ <| i_ H15 rfl (dd_getR (HR13_0 _ HSb13.below) rfl (H15.ev 16 rfl) (bs_get hq 0 (by decide)) Tryd.underlying5 rfl) fun _ H16 => wl_ <| i_ H16 rfl (v := .int .i64 (bd (q.getD 0 0#8))) (dd_conv (k := .i64) rfl (H16.ev 17 rfl) Tryd.underlying5 (by kernel_rfl) (i64_bdA _)) fun _ H17 => ?_
  clear HL12 H14 H15 H16
  by_cases hc19 : (i : Int) < bd (q.getD 0 0#8)
  ·
   refine wl_ <| i_ H17 rfl (dd_cmp rfl (H17.ev 15 rfl) (H17.ev 18 rfl) (lt_t hc19)) fun _ H20 => ln_ <| nx <| ct_ H20 rfl <| wp_skip <| nx <| sq_ <| wp_block <| sq_ <| rl_ <| wl_ <| p_ H20 rfl rfl fun _ H21 => wl_ <| i_ H21 rfl (v := .int .i64 (9 * i)) (dd_ari rfl rfl (H21.ev 22 rfl) rfl (i64_of (by first | omega | (have := bd_lo; omega)) (by omega))) fun _ H22 => wl_ <| i_ H22 rfl (v := .int .i64 (1 + 9 * i)) (dd_ari rfl rfl (H22.ev 23 rfl) rfl (i64_of (by first | omega | (have := bd_lo; omega)) (by omega))) fun _ H23 => wl_ <| p_ H23 rfl rfl fun _ H24 => ln_ <| nx <| sq_ <| ?_
   clear H17 H20 H21 H22 H23
   refine wp_cut (fun a9 w9 => ∃ g7 : Nat, En 87 [(7, .pointer (some ⟨g7, 0, none⟩)), (6, .int .i64 (1 + 9 * i)), (5, .int .i64 i), (4, .slice Al nl cl), (1, .pointer (some ⟨g1, 0, none⟩))] a9 ∧ St wL12 noF [⟨g7, 116, nmC (nmQ q (1 + 9 * i)) (fgQ q (1 + 9 * i))⟩] w9) ?_ ?_
   ·
    refine wi_ HSb13 [] rfl [] rfl fun HSh25 hx25 => hp_ H24 0 hx25 rfl rfl rfl fun _ H26 => ht_ H26 1 hx25 rfl rfl (fun _ _ _ => xAo 32 1 (1 + 9 * i) rfl (H26.ev 1 rfl) (H26.ev 25 rfl)) fun _ H27 => ht_ H27 2 hx25 rfl rfl (fun _ _ HS9 => dd_getR (HR13_0 _ HS9.below) rfl (H27.ev 26 rfl) (bs_get hq (1 + 9 * i) (by omega)) Tryd.underlying5 rfl) fun _ H28 => hp_ H28 3 hx25 rfl rfl rfl fun _ H29 => ht_ H29 4 hx25 rfl rfl (v := .int .i64 (1 + 9 * i + 1)) (fun _ _ _ => dd_ari rfl (H29.ev 28 rfl) rfl rfl (i64_of (by first | omega | (have := bd_lo; omega)) (by omega))) fun _ H30 => ht_ H30 5 hx25 rfl rfl (fun _ _ _ => xAo 32 1 (1 + 9 * i + 1) rfl (H30.ev 1 rfl) (H30.ev 29 rfl)) fun _ H31 => ht_ H31 6 hx25 rfl rfl (fun _ _ HS9 => dd_getR (HR13_0 _ HS9.below) rfl (H31.ev 30 rfl) (bs_get hq (1 + 9 * i + 1) (by omega)) Tryd.underlying5 rfl) fun _ H32 => ?_
    clear HSb13 H24 H26 H27 H28 H29 H30
    refine hp_ H32 7 hx25 rfl rfl rfl fun _ H33 => ht_ H33 8 hx25 rfl rfl (v := .int .i64 (1 + 9 * i + 2)) (fun _ _ _ => dd_ari rfl (H33.ev 32 rfl) rfl rfl (i64_of (by first | omega | (have := bd_lo; omega)) (by omega))) fun _ H34 => ht_ H34 9 hx25 rfl rfl (fun _ _ _ => xAo 32 1 (1 + 9 * i + 2) rfl (H34.ev 1 rfl) (H34.ev 33 rfl)) fun _ H35 => ht_ H35 10 hx25 rfl rfl (fun _ _ HS9 => dd_getR (HR13_0 _ HS9.below) rfl (H35.ev 34 rfl) (bs_get hq (1 + 9 * i + 2) (by omega)) Tryd.underlying5 rfl) fun _ H36 => hp_ H36 11 hx25 rfl rfl rfl fun _ H37 => ht_ H37 12 hx25 rfl rfl (v := .int .i64 (1 + 9 * i + 3)) (fun _ _ _ => dd_ari rfl (H37.ev 36 rfl) rfl rfl (i64_of (by first | omega | (have := bd_lo; omega)) (by omega))) fun _ H38 => ht_ H38 13 hx25 rfl rfl (fun _ _ _ => xAo 32 1 (1 + 9 * i + 3) rfl (H38.ev 1 rfl) (H38.ev 37 rfl)) fun _ H39 => ht_ H39 14 hx25 rfl rfl (fun _ _ HS9 => dd_getR (HR13_0 _ HS9.below) rfl (H39.ev 38 rfl) (bs_get hq (1 + 9 * i + 3) (by omega)) Tryd.underlying5 rfl) fun _ H40 => ?_
    clear H31 H32 H33 H34 H35 H36 H37 H38
    refine ht_ H40 15 hx25 rfl rfl (v := .agg (bs ([(q.getD (1 + 9 * i) 0#8), (q.getD (1 + 9 * i + 1) 0#8), (q.getD (1 + 9 * i + 2) 0#8), (q.getD (1 + 9 * i + 3) 0#8)]))) (fun _ _ _ => dd_bldk rfl (ps := [(0, .int .u8 (bd (q.getD (1 + 9 * i) 0#8))), (1, .int .u8 (bd (q.getD (1 + 9 * i + 1) 0#8))), (2, .int .u8 (bd (q.getD (1 + 9 * i + 2) 0#8))), (3, .int .u8 (bd (q.getD (1 + 9 * i + 3) 0#8)))]) (pr1 (H40.ev 27 rfl) (pr1 (H40.ev 31 rfl) (pr1 (H40.ev 35 rfl) (pr1 (H40.ev 39 rfl) (pr0))))) (cs := bs ([(q.getD (1 + 9 * i) 0#8), (q.getD (1 + 9 * i + 1) 0#8), (q.getD (1 + 9 * i + 2) 0#8), (q.getD (1 + 9 * i + 3) 0#8)])) (by kernel_rfl)) fun _ H41 => ?_
    clear H39 H40
    refine wpAnyH_all (rs := [16, 17]) (by kernel_rfl) (by decide) (hm_cons ?_ (hm_cons ?_ hm_nil))
    ·
     refine ho_ rfl <| c_ H41 rfl HSh25 (dcs Tryd.func58 rfl (args1 (H41.ev 40 rfl)) (refcut_b q (1 + 9 * i) wL12.drew hq (by omega)) (.agg (nmC (nmQ q (1 + 9 * i)) (fgQ q (1 + 9 * i))))) fun _ HS42 _ H42 => sx_ (sxi HS42 [] rfl) fun hx43 => h1_ 17 rfl <| n_ H42 rfl (fun _ h => dd_new HS42 #[.string (⟨#[]⟩), .bool false] rfl (z := .agg #[.string (⟨#[]⟩), .bool false]) (by kernel_rfl) rfl h) fun g7 _ HS44 _ H44 => sx_ (sxi HS44 [0] rfl) fun hx45 => h1_ 18 rfl <| t_ rfl (fun _ h => dd_setrow HS44 0 rfl rfl (H44.ev 7 rfl) (H44.ev 41 rfl) (by kernel_rfl) (rfl : (nmC (nmQ q (1 + 9 * i)) (fgQ q (1 + 9 * i))).size = 2) (rfl : #[.string (⟨#[]⟩), .bool false].size = 2) (one_l (ao_cons rfl (ao_cons rfl ao_nil))) h) fun _ HS46 => sx_ (sxi HS46 [0] rfl) fun hx47 => ?_
     clear H41 HSh25 HS42 H42 hx43 HS44 hx45
     refine wpAnyH_done (by kernel_rfl) ?_ _
     clear hx47
     exact nx ⟨g7, H44.sel [1, 4, 5, 6, 7] rfl, ss HS46 [0]⟩
    refine ho_ rfl <| n_ H41 rfl (fun _ h => dd_new HSh25 #[.string (⟨#[]⟩), .bool false] rfl (z := .agg #[.string (⟨#[]⟩), .bool false]) (by kernel_rfl) rfl h) fun g7 W48 HS48 _ H48 => sx_ (sxi HS48 [0] rfl) fun hx49 => h1_ 16 rfl <| c_ H48 rfl HS48 (dcs Tryd.func58 rfl (args1 (H48.ev 40 rfl)) (refcut_b q (1 + 9 * i) W48 hq (by omega)) (.agg (nmC (nmQ q (1 + 9 * i)) (fgQ q (1 + 9 * i))))) fun _ HS50 _ H50 => sx_ (sxi HS50 [0] rfl) fun hx51 => h1_ 18 rfl <| t_ rfl (fun _ h => dd_setrow HS50 0 rfl rfl (H50.ev 7 rfl) (H50.ev 41 rfl) (by kernel_rfl) (rfl : (nmC (nmQ q (1 + 9 * i)) (fgQ q (1 + 9 * i))).size = 2) (rfl : #[.string (⟨#[]⟩), .bool false].size = 2) (one_l (ao_cons rfl (ao_cons rfl ao_nil))) h) fun _ HS52 => sx_ (sxi HS52 [0] rfl) fun hx53 => ?_
    clear HSh25 H41 H48 HS48 hx49 HS50 hx51
    refine wpAnyH_done (by kernel_rfl) ?_ _
    clear hx53
    exact nx ⟨g7, H50.sel [1, 4, 5, 6, 7] rfl, ss HS52 [0]⟩
   rintro aj25 wj25 ⟨g7, Hj25, HSj25⟩
   refine nx <| sq_ <| rl_ <| wl_ <| i_ Hj25 rfl (xf 0 0 rfl (Hj25.ev 7 rfl)) fun _ H55 => wl_ <| i_ H55 rfl (dd_get HSj25 0 0 rfl rfl (H55.ev 42 rfl) rfl Tryd.underlying9 rfl) fun _ H56 => wl_ <| i_ H56 rfl (v := .agg #[.string (strB (nmQ q (1 + 9 * i))), .slice none 0 0]) (dd_bld rfl (ps := [(0, .string (strB (nmQ q (1 + 9 * i))))]) (pr1 (H56.ev 43 rfl) (pr0)) (Lz := [[.string (⟨#[]⟩)], [.slice none 0 0]]) (by kernel_rfl) (lens_cons rfl (lens_cons rfl (lens_nil))) (fit_cons (i := 0) rfl rfl (fit_nil)) (cs := #[.string (strB (nmQ q (1 + 9 * i))), .slice none 0 0]) rfl) fun _ H57 => wl_ <| n_ H57 rfl (fun _ h => dd_new HSj25 #[.string (⟨#[]⟩), .slice none 0 0] rfl (z := .agg #[.string (⟨#[]⟩), .slice none 0 0]) (by kernel_rfl) rfl h) fun g8 _ HS58 _ H58 => wl_ <| t_ rfl (S := [⟨g7, 116, nmC (nmQ q (1 + 9 * i)) (fgQ q (1 + 9 * i))⟩, ⟨g8, 81, #[.string (strB (nmQ q (1 + 9 * i))), .slice none 0 0]⟩]) (fun _ h => dd_setrow HS58 1 rfl rfl (H58.ev 8 rfl) (H58.ev 44 rfl) (by kernel_rfl) (rfl : #[.string (strB (nmQ q (1 + 9 * i))), .slice none 0 0].size = 2) (rfl : #[.string (⟨#[]⟩), .slice none 0 0].size = 2) (one_l (ao_cons rfl (ao_cons rfl ao_nil))) h) fun _ HS59 => ln_ <| nx <| sq_ <| sq_ <| rl_ <| wl_ <| p_ H58 rfl rfl fun _ H60 => ln_ <| nx <| ?_
   clear Hj25 H55 H56 HSj25 H57 HS58 H58
   by_cases hc61 : (0 : Int) < bd (q.getD (1 + 9 * i + 4) 0#8)
   ·
    refine wp_cut (fun a9 w9 => ∃ gi1 : Nat, ∃ j1 : Nat, ∃ ci1 : Nat, ∃ cbi1 : Array Value, (j1 = min (q.getD (1 + 9 * i + 4) 0#8).toNat 4) ∧ OwnC cbi1 ci1 j1 1 (intsV (rdI q (1 + 9 * i) j1)) ∧ En 87 [(8, .pointer (some ⟨g8, 0, none⟩)), (5, .int .i64 i), (4, .slice Al nl cl), (1, .pointer (some ⟨g1, 0, none⟩))] a9 ∧ St wL12 noF [⟨g7, 116, nmC (nmQ q (1 + 9 * i)) (fgQ q (1 + 9 * i))⟩, ⟨g8, 81, #[.string (strB (nmQ q (1 + 9 * i))), .slice (some ⟨gi1, 0, none⟩) j1 ci1]⟩, ⟨gi1, 3, cbi1⟩] w9) ?_ ?_
    ·
     refine wp_block <| ?_
     refine wp_loop1 (ι := Nat) (fun j1 a9 w9 => ∃ gi1 : Nat, ∃ ci1 : Nat, ∃ cbi1 : Array Value, (1 ≤ j1 ∧ j1 ≤ 4 ∧ (j1 : Int) ≤ bd (q.getD (1 + 9 * i + 4) 0#8)) ∧ (OwnC cbi1 ci1 j1 1 (intsV (rdI q (1 + 9 * i) j1))) ∧ En 87 [(9, .int .i64 j1), (8, .pointer (some ⟨g8, 0, none⟩)), (6, .int .i64 (1 + 9 * i)), (5, .int .i64 i), (4, .slice Al nl cl), (1, .pointer (some ⟨g1, 0, none⟩))] a9 ∧ St wL12 noF [⟨g7, 116, nmC (nmQ q (1 + 9 * i)) (fgQ q (1 + 9 * i))⟩, ⟨g8, 81, #[.string (strB (nmQ q (1 + 9 * i))), .slice (some ⟨gi1, 0, none⟩) j1 ci1]⟩, ⟨gi1, 3, cbi1⟩] w9) (fun j1 => 4 - j1) (1) ?_ ?_
     ·
      refine sq_ <| sq_ <| rl_ <| q_ H60 2 rfl fun _ H64 => wl_ <| i_ H64 rfl (v := .int .i64 (1 + 9 * i + 4)) (dd_ari rfl (H64.ev 46 rfl) rfl rfl (i64_of (by first | omega | (have := bd_lo; omega)) (by omega))) fun _ H65 => wl_ <| i_ H65 rfl (xAo 32 1 (1 + 9 * i + 4) rfl (H65.ev 1 rfl) (H65.ev 47 rfl)) fun _ H66 => wl_ <| i_ H66 rfl (dd_getR (HR13_0 _ HS59.below) rfl (H66.ev 48 rfl) (bs_get hq (1 + 9 * i + 4) (by omega)) Tryd.underlying5 rfl) fun _ H67 => wl_ <| i_ H67 rfl (v := .int .i64 (bd (q.getD (1 + 9 * i + 4) 0#8))) (dd_conv (k := .i64) rfl (H67.ev 49 rfl) Tryd.underlying5 (by kernel_rfl) (i64_bdA _)) fun _ H68 => wl_ <| i_ H68 rfl (dd_cmp rfl (H68.ev 45 rfl) (H68.ev 50 rfl) (lt_t hc61)) fun _ H69 => wl_ <| p_ H69 rfl rfl fun _ H70 => wl_ <| ig H70 (wg_ H70 rfl rfl rfl rfl) rfl (dd_mv rfl (H70.ev 9 rfl)) fun _ H71 => ?_
      clear H60 H64 H65 H66 H67 H68 H69
      refine wl_ <| ig H71 (wg_ H71 rfl rfl rfl rfl) rfl (dd_cmp rfl (H71.ev 53 rfl) rfl (lt_t (by decide))) fun _ H72 => wl_ <| p_ H72 rfl rfl fun _ H73 => ln_ <| nx <| ct_ H73 rfl <| wp_skip <| nx <| sq_ <| wp_block <| ?_
      clear H70 H71 H72
      refine wp_cut (fun a9 w9 => ∃ g68_88 : Nat, ∃ c68_88 : Nat, ∃ g67 : Nat, ∃ cb68_88 : Array Value, OwnC cb68_88 c68_88 1 1 ([.int .i64 (bd (q.getD (1 + 9 * i + 5 + 0) 0#8))]) ∧ En 87 [(9, .int .i64 0), (8, .pointer (some ⟨g8, 0, none⟩)), (6, .int .i64 (1 + 9 * i)), (5, .int .i64 i), (4, .slice Al nl cl), (1, .pointer (some ⟨g1, 0, none⟩))] a9 ∧ St wL12 noF [⟨g7, 116, nmC (nmQ q (1 + 9 * i)) (fgQ q (1 + 9 * i))⟩, ⟨g8, 81, #[.string (strB (nmQ q (1 + 9 * i))), .slice (some ⟨g68_88, 0, none⟩) 1 c68_88]⟩, ⟨g67, 3, #[.int .i64 (bd (q.getD (1 + 9 * i + 5 + 0) 0#8))]⟩, ⟨g68_88, 3, cb68_88⟩] w9) ?_ ?_
      ·
       refine wi_ HS59 [0] rfl [0, 1] rfl fun HSh74 hx74 => ht_ H73 0 hx74 rfl rfl (fun _ _ _ => xf 1 1 rfl (H73.ev 8 rfl)) fun _ H75 => hp_ H75 2 hx74 rfl rfl rfl fun _ H76 => ht_ H76 3 hx74 rfl rfl (v := .int .i64 (1 + 9 * i + 5)) (fun _ _ _ => dd_ari rfl (H76.ev 60 rfl) rfl rfl (i64_of (by first | omega | (have := bd_lo; omega)) (by omega))) fun _ H77 => hp_ H77 4 hx74 rfl rfl rfl fun _ H78 => ht_ H78 5 hx74 rfl rfl (v := .int .i64 (1 + 9 * i + 5 + 0)) (fun _ _ _ => dd_ari rfl (H78.ev 61 rfl) (H78.ev 62 rfl) rfl (i64_of (by first | omega | (have := bd_lo; omega)) (by omega))) fun _ H79 => ht_ H79 6 hx74 rfl rfl (fun _ _ _ => xAo 32 1 (1 + 9 * i + 5 + 0) rfl (H79.ev 1 rfl) (H79.ev 63 rfl)) fun _ H80 => ht_ H80 7 hx74 rfl rfl (fun _ _ HS9 => dd_getR (HR13_0 _ HS9.below) rfl (H80.ev 64 rfl) (bs_get hq (1 + 9 * i + 5 + 0) (by omega)) Tryd.underlying5 rfl) fun _ H81 => ?_
       clear HS59 H73 H75 H76 H77 H78 H79
       refine ht_ H81 8 hx74 rfl rfl (v := .int .i64 (bd (q.getD (1 + 9 * i + 5 + 0) 0#8))) (fun _ _ _ => dd_conv (k := .i64) rfl (H81.ev 65 rfl) Tryd.underlying5 (by kernel_rfl) (i64_bdA _)) fun _ H82 => ?_
       clear H80 H81
       refine wpAnyH_all (rs := [1, 9]) (by kernel_rfl) (by decide) (hm_cons ?_ (hm_cons ?_ hm_nil))
       ·
        refine ho_ rfl <| i_ H82 rfl (dd_get HSh74 1 1 rfl rfl (H82.ev 58 rfl) rfl Tryd.underlying45 rfl) fun _ H83 => sx_ (sxi HSh74 [0, 1] rfl) fun hx84 => h1_ 9 rfl <| n_ H83 rfl (fun _ h => dd_lits HSh74 #[.int .i64 (bd (q.getD (1 + 9 * i + 5 + 0) 0#8))] rfl (ps := [(0, .int .i64 (bd (q.getD (1 + 9 * i + 5 + 0) 0#8)))]) (pr1 (H83.ev 66 rfl) (pr0)) (z := .int .i64 0) (sz := 1) Tryd.underlying45 (by kernel_rfl) rfl rfl (by kernel_rfl) h) fun g67 _ HS85 _ H85 => sx_ (sxi HS85 [0, 1, 2] rfl) fun hx86 => h1_ 10 rfl <| a_ H85 rfl (fun g68_88 c68_88 => .slice (some ⟨g68_88, 0, none⟩) 1 c68_88) (T := fun _ c68_88 cb68_88 => OwnC cb68_88 c68_88 1 1 ([.int .i64 (bd (q.getD (1 + 9 * i + 5 + 0) 0#8))])) (fun _ h => dd_app0 HS85 rfl (H85.ev 59 rfl) (z := .int .i64 0) (bytes := 8) (sz := 1) Tryd.underlying45 (by kernel_rfl) rfl (by decide) ([.int .i64 (bd (q.getD (1 + 9 * i + 5 + 0) 0#8))]) (H85.ev 67 rfl) rfl (row_news (HS85.row 2 rfl) 0 (slab_whole _)) (ao_cons rfl ao_nil) (by unfold maxLen; omega) (by omega) h) fun g68_88 c68_88 cb68_88 _ O68_88 HS87 _ H87 => sx_ (sxi HS87 [0, 1, 2, 3] rfl) fun hx89 => ht_ H87 11 hx89 rfl rfl (fun _ _ _ => xf 1 1 rfl (H87.ev 8 rfl)) fun _ H90 => h1_ 12 rfl <| t_ rfl (fun _ h => dd_put (cs := #[.string (strB (nmQ q (1 + 9 * i))), .slice (some ⟨g68_88, 0, none⟩) 1 c68_88]) HS87 1 1 rfl rfl (H90.ev 69 rfl) (H90.ev 68 rfl) (by kernel_rfl) rfl rfl rfl rfl h) fun _ HS91 => ?_
        clear H82 HSh74 H83 hx84 HS85 H85 hx86 H87
        refine sx_ (sxi HS91 [0, 1, 2, 3] rfl) fun hx92 => ?_
        clear HS87 hx89
        refine wpAnyH_done (by kernel_rfl) ?_ _
        clear hx92
        exact nx ⟨g68_88, c68_88, _, cb68_88, O68_88, H90.sel [1, 4, 5, 6, 8, 9] rfl, ss HS91 [0, 1, 2, 3]⟩
       refine ho_ rfl <| n_ H82 rfl (fun _ h => dd_lits HSh74 #[.int .i64 (bd (q.getD (1 + 9 * i + 5 + 0) 0#8))] rfl (ps := [(0, .int .i64 (bd (q.getD (1 + 9 * i + 5 + 0) 0#8)))]) (pr1 (H82.ev 66 rfl) (pr0)) (z := .int .i64 0) (sz := 1) Tryd.underlying45 (by kernel_rfl) rfl rfl (by kernel_rfl) h) fun g67 _ HS93 _ H93 => sx_ (sxi HS93 [0, 1, 2] rfl) fun hx94 => h1_ 1 rfl <| i_ H93 rfl (dd_get HS93 1 1 rfl rfl (H93.ev 58 rfl) rfl Tryd.underlying45 rfl) fun _ H95 => sx_ (sxi HS93 [0, 1, 2] rfl) fun hx96 => h1_ 10 rfl <| a_ H95 rfl (fun g68_98 c68_98 => .slice (some ⟨g68_98, 0, none⟩) 1 c68_98) (T := fun _ c68_98 cb68_98 => OwnC cb68_98 c68_98 1 1 ([.int .i64 (bd (q.getD (1 + 9 * i + 5 + 0) 0#8))])) (fun _ h => dd_app0 HS93 rfl (H95.ev 59 rfl) (z := .int .i64 0) (bytes := 8) (sz := 1) Tryd.underlying45 (by kernel_rfl) rfl (by decide) ([.int .i64 (bd (q.getD (1 + 9 * i + 5 + 0) 0#8))]) (H95.ev 67 rfl) rfl (row_news (HS93.row 2 rfl) 0 (slab_whole _)) (ao_cons rfl ao_nil) (by unfold maxLen; omega) (by omega) h) fun g68_98 c68_98 cb68_98 _ O68_98 HS97 _ H97 => sx_ (sxi HS97 [0, 1, 2, 3] rfl) fun hx99 => ht_ H97 11 hx99 rfl rfl (fun _ _ _ => xf 1 1 rfl (H97.ev 8 rfl)) fun _ H100 => h1_ 12 rfl <| t_ rfl (fun _ h => dd_put (cs := #[.string (strB (nmQ q (1 + 9 * i))), .slice (some ⟨g68_98, 0, none⟩) 1 c68_98]) HS97 1 1 rfl rfl (H100.ev 69 rfl) (H100.ev 68 rfl) (by kernel_rfl) rfl rfl rfl rfl h) fun _ HS101 => ?_
       clear HSh74 H82 H93 hx94 HS93 H95 hx96 H97
       refine sx_ (sxi HS101 [0, 1, 2, 3] rfl) fun hx102 => ?_
       clear HS97 hx99
       refine wpAnyH_done (by kernel_rfl) ?_ _
       clear hx102
       exact nx ⟨g68_98, c68_98, _, cb68_98, O68_98, H100.sel [1, 4, 5, 6, 8, 9] rfl, ss HS101 [0, 1, 2, 3]⟩
      rintro aj74 wj74 ⟨g68_88, c68_88, g67, cb68_88, O68_88, Hj74, HSj74⟩
      refine bn <| nx <| rl_ <| wl_ <| p_ Hj74 rfl rfl fun _ H104 => wl_ <| i_ H104 rfl (v := .int .i64 1) (dd_ari rfl (H104.ev 56 rfl) rfl rfl (by decide)) fun _ H105 => wl_ <| p_ H105 rfl rfl fun _ H106 => ln_ <| ?_
      clear Hj74 H104 H105
      exact nx ⟨g68_88, c68_88, cb68_88, (by omega), O68_88, H106.sel [1, 4, 5, 6, 8, 9] rfl, ss HSj74 [0, 1, 3]⟩
     clear H60 HS59
     rintro j1 aL63 wL63 ⟨gi1, ci1, cbi1, hj, Oi1, HL63, HSL63⟩
     refine sq_ <| sq_ <| rl_ <| q_ HL63 2 rfl fun _ H107 => wl_ <| i_ H107 rfl (v := .int .i64 (1 + 9 * i + 4)) (dd_ari rfl (H107.ev 46 rfl) rfl rfl (i64_of (by first | omega | (have := bd_lo; omega)) (by omega))) fun _ H108 => wl_ <| i_ H108 rfl (xAo 32 1 (1 + 9 * i + 4) rfl (H108.ev 1 rfl) (H108.ev 47 rfl)) fun _ H109 => wl_ <| i_ H109 rfl (dd_getR (HR13_0 _ HSL63.below) rfl (H109.ev 48 rfl) (bs_get hq (1 + 9 * i + 4) (by omega)) Tryd.underlying5 rfl) fun _ H110 => wl_ <| i_ H110 rfl (v := .int .i64 (bd (q.getD (1 + 9 * i + 4) 0#8))) (dd_conv (k := .i64) rfl (H110.ev 49 rfl) Tryd.underlying5 (by kernel_rfl) (i64_bdA _)) fun _ H111 => ?_
     clear HL63 H107 H108 H109 H110
     by_cases hc113 : (j1 : Int) < bd (q.getD (1 + 9 * i + 4) 0#8)
     ·
      refine wl_ <| i_ H111 rfl (dd_cmp rfl (H111.ev 45 rfl) (H111.ev 50 rfl) (lt_t hc113)) fun _ H114 => wl_ <| p_ H114 rfl rfl fun _ H115 => wl_ <| ig H115 (wg_ H115 rfl rfl rfl rfl) rfl (dd_mv rfl (H115.ev 9 rfl)) fun _ H116 => ?_
      clear H111 H114 H115
      by_cases hc118 : (j1 : Int) < 4
      ·
       refine wl_ <| ig H116 (wg_ H116 rfl rfl rfl rfl) rfl (dd_cmp rfl (H116.ev 53 rfl) rfl (lt_t hc118)) fun _ H119 => wl_ <| p_ H119 rfl rfl fun _ H120 => ln_ <| nx <| ct_ H120 rfl <| wp_skip <| nx <| sq_ <| wp_block <| ?_
       clear H116 H119
       refine wp_cut (fun a9 w9 => ∃ g68_135 : Nat, ∃ c68_135 : Nat, ∃ g67 : Nat, ∃ cb68_135 : Array Value, OwnC cb68_135 c68_135 (j1 + 1) 1 ((intsV (rdI q (1 + 9 * i) j1)) ++ [.int .i64 (bd (q.getD (1 + 9 * i + 5 + j1) 0#8))]) ∧ En 87 [(9, .int .i64 j1), (8, .pointer (some ⟨g8, 0, none⟩)), (6, .int .i64 (1 + 9 * i)), (5, .int .i64 i), (4, .slice Al nl cl), (1, .pointer (some ⟨g1, 0, none⟩))] a9 ∧ St wL12 noF [⟨g7, 116, nmC (nmQ q (1 + 9 * i)) (fgQ q (1 + 9 * i))⟩, ⟨g8, 81, #[.string (strB (nmQ q (1 + 9 * i))), .slice (some ⟨g68_135, 0, none⟩) (j1 + 1) c68_135]⟩, ⟨g67, 3, #[.int .i64 (bd (q.getD (1 + 9 * i + 5 + j1) 0#8))]⟩, ⟨g68_135, 3, cb68_135⟩] w9) ?_ ?_
       ·
        refine wi_ HSL63 [0] rfl [0, 1, 2] rfl fun HSh121 hx121 => ht_ H120 0 hx121 rfl rfl (fun _ _ _ => xf 1 1 rfl (H120.ev 8 rfl)) fun _ H122 => hp_ H122 2 hx121 rfl rfl rfl fun _ H123 => ht_ H123 3 hx121 rfl rfl (v := .int .i64 (1 + 9 * i + 5)) (fun _ _ _ => dd_ari rfl (H123.ev 60 rfl) rfl rfl (i64_of (by first | omega | (have := bd_lo; omega)) (by omega))) fun _ H124 => hp_ H124 4 hx121 rfl rfl rfl fun _ H125 => ht_ H125 5 hx121 rfl rfl (v := .int .i64 (1 + 9 * i + 5 + j1)) (fun _ _ _ => dd_ari rfl (H125.ev 61 rfl) (H125.ev 62 rfl) rfl (i64_of (by first | omega | (have := bd_lo; omega)) (by omega))) fun _ H126 => ht_ H126 6 hx121 rfl rfl (fun _ _ _ => xAo 32 1 (1 + 9 * i + 5 + j1) rfl (H126.ev 1 rfl) (H126.ev 63 rfl)) fun _ H127 => ht_ H127 7 hx121 rfl rfl (fun _ _ HS9 => dd_getR (HR13_0 _ HS9.below) rfl (H127.ev 64 rfl) (bs_get hq (1 + 9 * i + 5 + j1) (by omega)) Tryd.underlying5 rfl) fun _ H128 => ?_
        clear HSL63 H120 H122 H123 H124 H125 H126
        refine ht_ H128 8 hx121 rfl rfl (v := .int .i64 (bd (q.getD (1 + 9 * i + 5 + j1) 0#8))) (fun _ _ _ => dd_conv (k := .i64) rfl (H128.ev 65 rfl) Tryd.underlying5 (by kernel_rfl) (i64_bdA _)) fun _ H129 => ?_
        clear H127 H128
        refine wpAnyH_all (rs := [1, 9]) (by kernel_rfl) (by decide) (hm_cons ?_ (hm_cons ?_ hm_nil))
        ·
         refine ho_ rfl <| i_ H129 rfl (dd_get HSh121 1 1 rfl rfl (H129.ev 58 rfl) rfl Tryd.underlying45 rfl) fun _ H130 => sx_ (sxi HSh121 [0, 1, 2] rfl) fun hx131 => h1_ 9 rfl <| n_ H130 rfl (fun _ h => dd_lits HSh121 #[.int .i64 (bd (q.getD (1 + 9 * i + 5 + j1) 0#8))] rfl (ps := [(0, .int .i64 (bd (q.getD (1 + 9 * i + 5 + j1) 0#8)))]) (pr1 (H130.ev 66 rfl) (pr0)) (z := .int .i64 0) (sz := 1) Tryd.underlying45 (by kernel_rfl) rfl rfl (by kernel_rfl) h) fun g67 _ HS132 _ H132 => sx_ (sxi HS132 [0, 1, 2, 3] rfl) fun hx133 => h1_ 10 rfl <| a_ H132 rfl (fun g68_135 c68_135 => .slice (some ⟨g68_135, 0, none⟩) (j1 + 1) c68_135) (T := fun _ c68_135 cb68_135 => OwnC cb68_135 c68_135 (j1 + 1) 1 ((intsV (rdI q (1 + 9 * i) j1)) ++ [.int .i64 (bd (q.getD (1 + 9 * i + 5 + j1) 0#8))])) (fun _ h => dd_app HS132 2 rfl Oi1 rfl (H132.ev 59 rfl) (z := .int .i64 0) (bytes := 8) Tryd.underlying45 (by kernel_rfl) rfl (by decide) ([.int .i64 (bd (q.getD (1 + 9 * i + 5 + j1) 0#8))]) (H132.ev 67 rfl) rfl (row_news (HS132.row 3 rfl) 0 (slab_whole _)) (ao_cons rfl ao_nil) (by unfold maxLen; omega) (by omega) h) fun g68_135 c68_135 cb68_135 _ O68_135 HS134 _ H134 => sx_ (sxi HS134 [0, 1, 2, 3] rfl) fun hx136 => ht_ H134 11 hx136 rfl rfl (fun _ _ _ => xf 1 1 rfl (H134.ev 8 rfl)) fun _ H137 => h1_ 12 rfl <| t_ rfl (fun _ h => dd_put (cs := #[.string (strB (nmQ q (1 + 9 * i))), .slice (some ⟨g68_135, 0, none⟩) (j1 + 1) c68_135]) HS134 1 1 rfl rfl (H137.ev 69 rfl) (H137.ev 68 rfl) (by kernel_rfl) rfl rfl rfl rfl h) fun _ HS138 => ?_
         clear H129 HSh121 H130 hx131 HS132 H132 hx133 H134
         refine sx_ (sxi HS138 [0, 1, 2, 3] rfl) fun hx139 => ?_
         clear HS134 hx136
         refine wpAnyH_done (by kernel_rfl) ?_ _
         clear hx139
         exact nx ⟨g68_135, c68_135, _, cb68_135, O68_135, H137.sel [1, 4, 5, 6, 8, 9] rfl, ss HS138 [0, 1, 2, 3]⟩
        refine ho_ rfl <| n_ H129 rfl (fun _ h => dd_lits HSh121 #[.int .i64 (bd (q.getD (1 + 9 * i + 5 + j1) 0#8))] rfl (ps := [(0, .int .i64 (bd (q.getD (1 + 9 * i + 5 + j1) 0#8)))]) (pr1 (H129.ev 66 rfl) (pr0)) (z := .int .i64 0) (sz := 1) Tryd.underlying45 (by kernel_rfl) rfl rfl (by kernel_rfl) h) fun g67 _ HS140 _ H140 => sx_ (sxi HS140 [0, 1, 2, 3] rfl) fun hx141 => h1_ 1 rfl <| i_ H140 rfl (dd_get HS140 1 1 rfl rfl (H140.ev 58 rfl) rfl Tryd.underlying45 rfl) fun _ H142 => sx_ (sxi HS140 [0, 1, 2, 3] rfl) fun hx143 => h1_ 10 rfl <| a_ H142 rfl (fun g68_145 c68_145 => .slice (some ⟨g68_145, 0, none⟩) (j1 + 1) c68_145) (T := fun _ c68_145 cb68_145 => OwnC cb68_145 c68_145 (j1 + 1) 1 ((intsV (rdI q (1 + 9 * i) j1)) ++ [.int .i64 (bd (q.getD (1 + 9 * i + 5 + j1) 0#8))])) (fun _ h => dd_app HS140 2 rfl Oi1 rfl (H142.ev 59 rfl) (z := .int .i64 0) (bytes := 8) Tryd.underlying45 (by kernel_rfl) rfl (by decide) ([.int .i64 (bd (q.getD (1 + 9 * i + 5 + j1) 0#8))]) (H142.ev 67 rfl) rfl (row_news (HS140.row 3 rfl) 0 (slab_whole _)) (ao_cons rfl ao_nil) (by unfold maxLen; omega) (by omega) h) fun g68_145 c68_145 cb68_145 _ O68_145 HS144 _ H144 => sx_ (sxi HS144 [0, 1, 2, 3] rfl) fun hx146 => ht_ H144 11 hx146 rfl rfl (fun _ _ _ => xf 1 1 rfl (H144.ev 8 rfl)) fun _ H147 => h1_ 12 rfl <| t_ rfl (fun _ h => dd_put (cs := #[.string (strB (nmQ q (1 + 9 * i))), .slice (some ⟨g68_145, 0, none⟩) (j1 + 1) c68_145]) HS144 1 1 rfl rfl (H147.ev 69 rfl) (H147.ev 68 rfl) (by kernel_rfl) rfl rfl rfl rfl h) fun _ HS148 => ?_
        clear HSh121 H129 H140 hx141 HS140 H142 hx143 H144
        refine sx_ (sxi HS148 [0, 1, 2, 3] rfl) fun hx149 => ?_
        clear HS144 hx146
        refine wpAnyH_done (by kernel_rfl) ?_ _
        clear hx149
        exact nx ⟨g68_145, c68_145, _, cb68_145, O68_145, H147.sel [1, 4, 5, 6, 8, 9] rfl, ss HS148 [0, 1, 2, 3]⟩
       rintro aj121 wj121 ⟨g68_135, c68_135, g67, cb68_135, O68_135, Hj121, HSj121⟩
       refine bn <| nx <| rl_ <| wl_ <| p_ Hj121 rfl rfl fun _ H151 => wl_ <| i_ H151 rfl (v := .int .i64 (j1 + 1)) (dd_ari rfl (H151.ev 56 rfl) rfl rfl (i64_of (by first | omega | (have := bd_lo; omega)) (by omega))) fun _ H152 => wl_ <| p_ H152 rfl rfl fun _ H153 => ln_ <| ?_
       clear Hj121 H151 H152
       refine nx ⟨j1 + 1, ⟨g68_135, c68_135, cb68_135, (by omega), (rdI_snoc O68_135), H153.sel [1, 4, 5, 6, 8, 9] rfl, ss HSj121 [0, 1, 3]⟩, (by omega)⟩
      refine wl_ <| ig H116 (wg_ H116 rfl rfl rfl rfl) rfl (dd_cmp rfl (H116.ev 53 rfl) rfl (lt_f hc118)) fun _ H154 => wl_ <| p_ H154 rfl rfl fun _ H155 => ln_ <| nx <| cf_ H155 rfl <| wp_exit <| tx <| tx <| bx <| ?_
      clear H116 H154
      exact nx ⟨gi1, j1, ci1, cbi1, (by have h9 : bd (q.getD (1 + 9 * i + 4) 0#8) = ((q.getD (1 + 9 * i + 4) 0#8).toNat : Int) := rfl; rcases Nat.le_total (q.getD (1 + 9 * i + 4) 0#8).toNat 4 with h8 | h8 <;> first | (rw [Nat.min_eq_left h8]; omega) | (rw [Nat.min_eq_right h8]; omega)), Oi1, H155.sel [1, 4, 5, 8] rfl, ss HSL63 [0, 1, 2]⟩
     refine wl_ <| i_ H111 rfl (dd_cmp rfl (H111.ev 45 rfl) (H111.ev 50 rfl) (lt_f hc113)) fun _ H156 => wl_ <| p_ H156 rfl rfl fun _ H157 => wl_ <| k_ H157 (wg_ H157 rfl rfl rfl rfl) rfl fun _ H158 => wl_ <| k_ H158 (wg_ H158 rfl rfl rfl rfl) rfl fun _ H159 => wl_ <| p_ H159 rfl rfl fun _ H160 => ln_ <| nx <| cf_ H160 rfl <| wp_exit <| tx <| tx <| bx <| ?_
     clear H111 H156 H157 H158 H159
     exact nx ⟨gi1, j1, ci1, cbi1, (by have h9 : bd (q.getD (1 + 9 * i + 4) 0#8) = ((q.getD (1 + 9 * i + 4) 0#8).toNat : Int) := rfl; rcases Nat.le_total (q.getD (1 + 9 * i + 4) 0#8).toNat 4 with h8 | h8 <;> first | (rw [Nat.min_eq_left h8]; omega) | (rw [Nat.min_eq_right h8]; omega)), Oi1, H160.sel [1, 4, 5, 8] rfl, ss HSL63 [0, 1, 2]⟩
    rintro aj62 wj62 ⟨gi1, j1, ci1, cbi1, hm, Oi1, Hj62, HSj62⟩
    refine nx <| rl_ <| wl_ <| p_ Hj62 rfl rfl fun _ H162 => wl_ <| i_ H162 rfl (v := .agg #[.string (strB (nmQ q (1 + 9 * i))), .slice (some ⟨gi1, 0, none⟩) j1 ci1]) (dd_load HSj62 1 0 rfl rfl (H162.ev 8 rfl) (slab_whole _) Tryd.underlying81 rfl (by kernel_rfl)) fun _ H163 => wl_ <| n_ H163 rfl (fun _ h => dd_lits HSj62 #[.string (strB (nmQ q (1 + 9 * i))), .slice (some ⟨gi1, 0, none⟩) j1 ci1] rfl (ps := [(0, .agg #[.string (strB (nmQ q (1 + 9 * i))), .slice (some ⟨gi1, 0, none⟩) j1 ci1])]) (pr1 (H163.ev 71 rfl) (pr0)) (z := .agg #[.string (⟨#[]⟩), .slice none 0 0]) (sz := 2) Tryd.underlying75 (by kernel_rfl) rfl rfl (by kernel_rfl) h) fun g72 _ HS164 _ H164 => ?_
    clear Hj62 H162 HSj62 H163
    have hsn := pre_snoc (q := q) (i := i) (m := j1) hq (by omega) hm
    refine wl_ <| d_ H164 rfl (R := fun v9 w9 => ∃ Ax : Option Addr, ∃ Nx : Nat, ∃ Cx : Nat, v9 = .slice Ax Nx Cx ∧ (OV w.heap.size w9 (.slice Ax Nx Cx) (volL (preV q (i + 1)))) ∧ St w noF [⟨g7, 116, nmC (nmQ q (1 + 9 * i)) (fgQ q (1 + 9 * i))⟩, ⟨g8, 81, #[.string (strB (nmQ q (1 + 9 * i))), .slice (some ⟨gi1, 0, none⟩) j1 ci1]⟩, ⟨gi1, 3, cbi1⟩, ⟨g72, 81, #[.string (strB (nmQ q (1 + 9 * i))), .slice (some ⟨gi1, 0, none⟩) j1 ci1]⟩, ⟨g1, 36, bs q⟩] w9) (dd_appV1 HSL12 (by decide) HS164 hov rfl (H164.ev 70 rfl) (H164.ev 72 rfl) (vol_litM (len_rdI q (1 + 9 * i) j1) (HS164.row 3 rfl) (inV_own (len_rdI _ _ _) (ownc_to (HS164.row 2 rfl) Oi1 (Nat.le_trans HSL12.below.size (st_fresh2 HS164 2 rfl))) (rdI_bound _ _ _)) (by rw [strB_size]; exact nmQ_len hq (by omega))) (by rw [len_volL, len_pre]; show _ + 1 ≤ _; omega) (fun v9 w9 h1 h2 => by obtain ⟨A9, n9, c9, rfl, h3, _⟩ := OV.form2 h1; exact ⟨A9, n9, c9, rfl, by rw [hsn]; exact h1, h2⟩)) ?_
    rintro _ W165 ⟨Ax, Nx, Cx, rfl, hovx, HS165⟩ a165 H165
    clear H164 HS164
    refine wl_ <| p_ H165 rfl rfl fun _ H166 => ln_ <| bn <| nx <| rl_ <| wl_ <| p_ H166 rfl rfl fun _ H167 => wl_ <| i_ H167 rfl (v := .int .i64 (i + 1)) (dd_ari rfl (H167.ev 20 rfl) rfl rfl (i64_of (by first | omega | (have := bd_lo; omega)) (by omega))) fun _ H168 => wl_ <| p_ H168 rfl rfl fun _ H169 => ln_ <| ?_
    clear H165 H166 H167 H168
    refine nx ⟨i + 1, ⟨Ax, Nx, Cx, (by omega), hovx, H169.sel [1, 4, 5] rfl, ss HS165 [4]⟩, (by omega)⟩
   refine wp_block ?_
   refine wp_unr 1 (unr_go ?_)
   refine sq_ <| sq_ <| rl_ <| q_ H60 2 rfl fun _ H170 => wl_ <| i_ H170 rfl (v := .int .i64 (1 + 9 * i + 4)) (dd_ari rfl (H170.ev 46 rfl) rfl rfl (i64_of (by first | omega | (have := bd_lo; omega)) (by omega))) fun _ H171 => wl_ <| i_ H171 rfl (xAo 32 1 (1 + 9 * i + 4) rfl (H171.ev 1 rfl) (H171.ev 47 rfl)) fun _ H172 => wl_ <| i_ H172 rfl (dd_getR (HR13_0 _ HS59.below) rfl (H172.ev 48 rfl) (bs_get hq (1 + 9 * i + 4) (by omega)) Tryd.underlying5 rfl) fun _ H173 => wl_ <| i_ H173 rfl (v := .int .i64 (bd (q.getD (1 + 9 * i + 4) 0#8))) (dd_conv (k := .i64) rfl (H173.ev 49 rfl) Tryd.underlying5 (by kernel_rfl) (i64_bdA _)) fun _ H174 => wl_ <| i_ H174 rfl (dd_cmp rfl (H174.ev 45 rfl) (H174.ev 50 rfl) (lt_f hc61)) fun _ H175 => wl_ <| p_ H175 rfl rfl fun _ H176 => wl_ <| k_ H176 (wg_ H176 rfl rfl rfl rfl) rfl fun _ H177 => ?_
   clear H60 H170 H171 H172 H173 H174 H175
   refine wl_ <| k_ H177 (wg_ H177 rfl rfl rfl rfl) rfl fun _ H178 => wl_ <| p_ H178 rfl rfl fun _ H179 => ln_ <| nx <| cf_ H179 rfl <| wp_exit <| tx <| tx <| bx <| nx <| rl_ <| wl_ <| p_ H179 rfl rfl fun _ H180 => wl_ <| i_ H180 rfl (v := .agg #[.string (strB (nmQ q (1 + 9 * i))), .slice none 0 0]) (dd_load HS59 1 0 rfl rfl (H180.ev 8 rfl) (slab_whole _) Tryd.underlying81 rfl (by kernel_rfl)) fun _ H181 => wl_ <| n_ H181 rfl (fun _ h => dd_lits HS59 #[.string (strB (nmQ q (1 + 9 * i))), .slice none 0 0] rfl (ps := [(0, .agg #[.string (strB (nmQ q (1 + 9 * i))), .slice none 0 0])]) (pr1 (H181.ev 71 rfl) (pr0)) (z := .agg #[.string (⟨#[]⟩), .slice none 0 0]) (sz := 2) Tryd.underlying75 (by kernel_rfl) rfl rfl (by kernel_rfl) h) fun g72 _ HS182 _ H182 => ?_
   clear H176 H177 H178 H179 H180 HS59 H181
   have hsn := pre_snoc (q := q) (i := i) (m := 0) hq (by omega) (by have h9 : bd (q.getD (1 + 9 * i + 4) 0#8) = ((q.getD (1 + 9 * i + 4) 0#8).toNat : Int) := rfl; rcases Nat.le_total (q.getD (1 + 9 * i + 4) 0#8).toNat 4 with h8 | h8 <;> first | (rw [Nat.min_eq_left h8]; omega) | (rw [Nat.min_eq_right h8]; omega))
   refine wl_ <| d_ H182 rfl (R := fun v9 w9 => ∃ Ax : Option Addr, ∃ Nx : Nat, ∃ Cx : Nat, v9 = .slice Ax Nx Cx ∧ (OV w.heap.size w9 (.slice Ax Nx Cx) (volL (preV q (i + 1)))) ∧ St w noF [⟨g7, 116, nmC (nmQ q (1 + 9 * i)) (fgQ q (1 + 9 * i))⟩, ⟨g8, 81, #[.string (strB (nmQ q (1 + 9 * i))), .slice none 0 0]⟩, ⟨g72, 81, #[.string (strB (nmQ q (1 + 9 * i))), .slice none 0 0]⟩, ⟨g1, 36, bs q⟩] w9) (dd_appV1 HSL12 (by decide) HS182 hov rfl (H182.ev 70 rfl) (H182.ev 72 rfl) (vol_litM (len_rdI q (1 + 9 * i) 0) (HS182.row 2 rfl) (inV_nilR _ _ q (1 + 9 * i)) (by rw [strB_size]; exact nmQ_len hq (by omega))) (by rw [len_volL, len_pre]; show _ + 1 ≤ _; omega) (fun v9 w9 h1 h2 => by obtain ⟨A9, n9, c9, rfl, h3, _⟩ := OV.form2 h1; exact ⟨A9, n9, c9, rfl, by rw [hsn]; exact h1, h2⟩)) ?_
   rintro _ W183 ⟨Ax, Nx, Cx, rfl, hovx, HS183⟩ a183 H183
   clear H182 HS182
   refine wl_ <| p_ H183 rfl rfl fun _ H184 => ln_ <| ?_
   clear H183
   have H185 := H184.sel [1, 5, 4] rfl
   refine bn <| nx <| rl_ <| wl_ <| p_ H185 rfl rfl fun _ H186 => wl_ <| i_ H186 rfl (v := .int .i64 (i + 1)) (dd_ari rfl (H186.ev 20 rfl) rfl rfl (i64_of (by first | omega | (have := bd_lo; omega)) (by omega))) fun _ H187 => wl_ <| p_ H187 rfl rfl fun _ H188 => ln_ <| ?_
   clear H184 H185 H186 H187
   refine nx ⟨i + 1, ⟨Ax, Nx, Cx, (by omega), hovx, H188.sel [1, 4, 5] rfl, ss HS183 [3]⟩, (by omega)⟩
  refine wl_ <| i_ H17 rfl (dd_cmp rfl (H17.ev 15 rfl) (H17.ev 18 rfl) (lt_f hc19)) fun _ H189 => ln_ <| nx <| cf_ H189 rfl <| wp_exit <| tx <| tx <| bx <| nx <| sq_ <| rl_ <| wl_ <| p_ H189 rfl rfl fun _ H190 => ?_
  clear H17 H189
  have hQ := pre_dec (q := q) (i := i) hq (by omega) (by omega)
  have hovT : ∀ W9 : World, Below wL12.heap.size wL12 W9 → OV w.heap.size W9 (.slice Al nl cl) (volL (decQ q)) := fun W9 hb9 => by rw [← hQ]; exact hov.call hb9 HSL12.below.size
  have hnl := ov_len (hovT _ (Below.refl _ _))
  rw [len_volL, ← hQ, len_pre] at hnl
  refine wl_ <| c_ H190 rfl HSb13 (dcs Tryd.func43 rfl (args1 (H190.ev 75 rfl)) (renct_any _ _ _ (decQ q) wL12 ((hovT _ HSb13.below).vols (by rw [len_volL, ← hQ, len_pre]; exact Nat.le_trans (show i ≤ 3 by omega) (by decide))) (by omega)) (.tuple #[.agg (bs (encT (decQ q))), .int .i64 (encE (decQ q))])) fun _ HS191 _ H191 => wl_ <| p_ H191 rfl rfl fun _ H192 => wl_ <| i_ H192 rfl (v := .agg (bs (encT (decQ q)))) (dd_ext rfl (H192.ev 74 rfl) rfl) fun _ H193 => wl_ <| i_ H193 rfl (v := .int .i64 (encE (decQ q))) (dd_ext rfl (H193.ev 74 rfl) rfl) fun _ H194 => wl_ <| n_ H194 rfl (fun _ h => dd_new HS191 (bs (zer 32)) rfl (z := .agg (bs (zer 32))) (by kernel_rfl) rfl h) fun _ _ HS195 _ H195 => wl_ <| t_ rfl (fun _ h => dd_setrow HS195 0 rfl rfl (H195.ev 10 rfl) (H195.ev 77 rfl) (by kernel_rfl) (((size_bs _).trans (length_encT _)) : (bs (encT (decQ q))).size = 32) (((size_bs _).trans (length_zer 32)) : (bs (zer 32)).size = 32) (one_bs _) h) fun _ HS196 => wl_ <| p_ H195 rfl rfl fun _ H197 => ln_ <| nx <| sq_ <| sq_ <| rl_ <| wl_ <| p_ H197 rfl rfl fun _ H198 => ?_
  clear H190 HSb13 H191 H192 H193 HS191 H194 HS195 H195
  clear H197
  by_cases hc200 : (encE (decQ q) : Int) = 0
  ·
   refine wl_ <| i_ H198 rfl (dd_cmp rfl (H198.ev 79 rfl) rfl (ne_f hc200)) fun _ H201 => wl_ <| p_ H201 rfl rfl fun _ H202 => wl_ <| ig H202 (wg_ H202 rfl rfl rfl rfl) rfl (v := .agg (bs (encT (decQ q)))) (dd_load HS196 0 0 rfl rfl (H202.ev 10 rfl) (slab_whole _) Tryd.underlying36 rfl (by rw [show (bs (encT (decQ q))).size = 32 from ((size_bs _).trans (length_encT _))]; kernel_rfl)) fun _ H203 => wl_ <| ig H203 (wg_ H203 rfl rfl rfl rfl) rfl (v := .agg (bs q)) (dd_loadR (HR13_0 _ HS196.below) rfl (H203.ev 1 rfl) (slab_whole _) Tryd.underlying36 rfl (by rw [show (bs q).size = 32 from ((size_bs _).trans hq)]; kernel_rfl)) fun _ H204 => ?_
   clear H198 H201 H202 H203
   cases hb206 : decide (encT (decQ q) = q)
   ·
    refine wl_ <| ig H204 (wg_ H204 rfl rfl rfl rfl) rfl (v := .bool true) (dd_nea (b := false) rfl (H204.ev 82 rfl) (H204.ev 83 rfl) (by kernel_rfl) (fun w => by have h9 := eql_blk (encT (decQ q)) q (length_encT _) hq w; rw [hb206] at h9; exact h9) rfl) fun _ H207 => wl_ <| p_ H207 rfl rfl fun _ H208 => ln_ <| ?_
    clear H204 H207
    have H209 := H208.sel [4, 85] rfl
    refine nx <| ct_ H209 rfl <| sq_ <| rl_ <| q_ H209 2 rfl fun _ H210 => ln_ <| nx <| wp_ret <| tr <| ret_run H210.env0 (res_tt Tryd.results49 (H210.get 2 rfl) (H210.get 3 rfl)) <| ?_
    clear H208 H209
    have hbad := okD_no (q := q) (fun ⟨_, h2, h3⟩ => by exact of_decide_eq_false hb206 h3)
    exact ⟨_, by rw [(dec_bad hbad).2], by rw [(dec_bad hbad).1]; exact OV.nil _ _, (HBs13.trans (HS196.below.mono HBs13.size))⟩
   refine wl_ <| ig H204 (wg_ H204 rfl rfl rfl rfl) rfl (v := .bool false) (dd_nea (b := true) rfl (H204.ev 82 rfl) (H204.ev 83 rfl) (by kernel_rfl) (fun w => by have h9 := eql_blk (encT (decQ q)) q (length_encT _) hq w; rw [hb206] at h9; exact h9) rfl) fun _ H211 => wl_ <| p_ H211 rfl rfl fun _ H212 => ln_ <| ?_
   clear H204 H211
   have H213 := H212.sel [4, 85] rfl
   refine nx <| cf_ H213 rfl <| wp_skip <| nx <| sq_ <| rl_ <| q_ H213 3 rfl fun _ H214 => ln_ <| nx <| wp_ret <| ret_run H214.env0 (res_tt Tryd.results49 (H214.get 2 rfl) (H214.get 3 rfl)) <| ?_
   clear H212 H213
   have hok := okD_yes (q := q) (by omega) (encE_z.1 hc200) (of_decide_eq_true hb206)
   exact ⟨_, by rw [(dec_good hok).2], by rw [(dec_good hok).1]; exact hovT _ HS196.below, (HBs13.trans (HS196.below.mono HBs13.size))⟩
  refine wl_ <| i_ H198 rfl (dd_cmp rfl (H198.ev 79 rfl) rfl (ne_t hc200)) fun _ H215 => wl_ <| p_ H215 rfl rfl fun _ H216 => wl_ <| k_ H216 (wg_ H216 rfl rfl rfl rfl) rfl fun _ H217 => wl_ <| k_ H217 (wg_ H217 rfl rfl rfl rfl) rfl fun _ H218 => wl_ <| k_ H218 (wg_ H218 rfl rfl rfl rfl) rfl fun _ H219 => wl_ <| p_ H219 rfl rfl fun _ H220 => ln_ <| ?_
  clear H198 H215 H216 H217 H218 H219
  have H221 := H220.sel [4, 85] rfl
  refine nx <| ct_ H221 rfl <| sq_ <| rl_ <| q_ H221 2 rfl fun _ H222 => ln_ <| nx <| wp_ret <| tr <| ret_run H222.env0 (res_tt Tryd.results49 (H222.get 2 rfl) (H222.get 3 rfl)) <| ?_
  clear H220 H221
  have hbad := okD_no (q := q) (fun ⟨_, h2, h3⟩ => by exact hc200 (encE_z.2 h2))
  exact ⟨_, by rw [(dec_bad hbad).2], by rw [(dec_bad hbad).1]; exact OV.nil _ _, (HBs13.trans (HS196.below.mono HBs13.size))⟩
end Go.Proofs.YtnmaplgodimohaaDoor

/- Tables: the law wakes. -/
set_option maxRecDepth 4000
namespace Go.Proofs.YtnmaplgodimohaaDoor
open Go Go.RowKit
theorem wk_z2 : decLT (zer 32) = [] := by decide +kernel
theorem decLT_len (q : List (BitVec 8)) : (decLT q).length ≤ 3 := by
  unfold decLT
  split
  · rename_i h; exact (goodT_parts (by rw [← (dec_good h).1]; exact (okD_parts h).1)).1
  · exact Nat.zero_le _
theorem decLT_small (q : List (BitVec 8)) : ∀ x ∈ decLT q, x.2.length ≤ 1000000 := fun x hx => by
  unfold decLT decQ at hx
  split at hx
  · obtain ⟨j, _, rfl⟩ := List.mem_map.1 hx
    exact Nat.le_trans (fromL_len _) (by decide)
  · cases hx
end Go.Proofs.YtnmaplgodimohaaDoor

/- What is asked, as writes of blocks, plainly. No function of the program is named here. -/
set_option maxRecDepth 4000
namespace Go.Proofs.YtnmaplgodimohaaDoor
open Go Go.RowKit
abbrev Pt := Int × List (BitVec 8)
def volsOf (l : List Tv) (i : Int) : List Int := match l[i.toNat]? with
  | some x => x.2
  | none => []
def placeE (l : List Tv) (q : List (BitVec 8)) (x : Int) : Int := if findI q l < 0 then 16 else if x < 0 ∨ ((volsOf l (findI q l)).length : Int) ≤ x then 17 else 0
def placeI (l : List Tv) (q : List (BitVec 8)) (x : Int) : Int := if findI q l < 0 then 0 else if x < 0 ∨ ((volsOf l (findI q l)).length : Int) ≤ x then 0 else (volsOf l (findI q l)).getD x.toNat 0
def writeP (l : List Tv) (q : List (BitVec 8)) (x : Int) (d : List (BitVec 8)) : List Pt := if placeE l q x = 0 then [(placeI l q x, d)] else []
def mayE (l : List Tv) (q : List (BitVec 8)) (n : Int) : Int := if goodN q = false then 11 else if 0 ≤ findI q l then 16 else if n < 1 ∨ 4 < n then 17 else if (3 : Int) ≤ l.length then 18 else 0
def takeT (l : List Tv) (n : Int) : List Int := takeV (usedV (volL l)) n
def makeE (l : List Tv) (q : List (BitVec 8)) (n : Int) : Int := if mayE l q n = 0 then takeE (usedV (volL l)) n else mayE l q n
def makeL (l : List Tv) (q : List (BitVec 8)) (n : Int) : List Tv := l ++ [(q, takeT l n)]
def makeP (l : List Tv) (q : List (BitVec 8)) (n : Int) : List Pt := if makeE l q n = 0 then (takeT l n).map (fun b => (b, zer 32)) ++ [(0, encT (makeL l q n))] else []
def goneE (l : List Tv) (q : List (BitVec 8)) : Int := if findI q l < 0 then 16 else 0
def goneL (l : List Tv) (q : List (BitVec 8)) : List Tv := l.eraseIdx (findI q l).toNat
def goneP (l : List Tv) (q : List (BitVec 8)) : List Pt := if findI q l < 0 then [] else [(0, encT (goneL l q))]
theorem findI_is (q : List (BitVec 8)) (l : List Tv) : findI q l = -1 ∨ (0 ≤ findI q l ∧ findI q l < l.length) := by
  unfold findI
  cases h : findT q l with
  | none => exact .inl rfl
  | some i =>
    refine .inr ⟨by simp, ?_⟩
    unfold findT at h
    have := (List.findIdx?_eq_some_iff_getElem.1 h).1
    simp only; omega
section
variable {l : List Tv} {q d : List (BitVec 8)} {x : Int} {k : Nat} {p : List (BitVec 8)} {L : List Int}
theorem volsOf_is (h : l[(findI q l).toNat]? = some (p, L)) : volsOf l (findI q l) = L := by unfold volsOf; rw [h]
theorem place_16 (h : findI q l < 0) : placeE l q x = 16 ∧ placeI l q x = 0 := ⟨if_pos h, if_pos h⟩
theorem place_17 (h : ¬ findI q l < 0) (hg : l[(findI q l).toNat]? = some (p, L)) (hx : x < 0 ∨ (L.length : Int) ≤ x) : placeE l q x = 17 ∧ placeI l q x = 0 := by
  unfold placeE placeI
  rw [if_neg h, if_neg h, volsOf_is hg, if_pos hx, if_pos hx]
  exact ⟨rfl, rfl⟩
theorem place_17n (h : ¬ findI q l < 0) (hx : x < 0) : placeE l q x = 17 ∧ placeI l q x = 0 := by
  unfold placeE placeI
  rw [if_neg h, if_neg h, if_pos (.inl hx), if_pos (.inl hx)]
  exact ⟨rfl, rfl⟩
theorem place_0 (h : ¬ findI q l < 0) (hg : l[(findI q l).toNat]? = some (p, L)) (hx : ¬ (x < 0 ∨ (L.length : Int) ≤ x)) : placeE l q x = 0 ∧ placeI l q x = L.getD x.toNat 0 := by
  unfold placeE placeI
  rw [if_neg h, if_neg h, volsOf_is hg, if_neg hx, if_neg hx]
  exact ⟨rfl, rfl⟩
end
end Go.Proofs.YtnmaplgodimohaaDoor

/- Items that wait, plainly, and as they lie in memory. No function of the program is named here. -/
set_option maxRecDepth 4000
namespace Go.Proofs.YtnmaplgodimohaaDoor
open Go Go.RowKit
abbrev It := Int × Int × List (BitVec 8) × Int × List (BitVec 8)
def putsE (qb : List (BitVec 8)) (x : It) : Int := if x.2.1 = 1 then placeE (decLT qb) x.2.2.1 x.2.2.2.1 else if x.2.1 = 2 then makeE (decLT qb) x.2.2.1 x.2.2.2.1 else if x.2.1 = 3 then goneE (decLT qb) x.2.2.1 else 1
def putsP (qb : List (BitVec 8)) (x : It) : List Pt := if x.2.1 = 1 then writeP (decLT qb) x.2.2.1 x.2.2.2.1 x.2.2.2.2 else if x.2.1 = 2 then makeP (decLT qb) x.2.2.1 x.2.2.2.1 else if x.2.1 = 3 then goneP (decLT qb) x.2.2.1 else []
def wfI (l : List It) : Prop := ∀ x ∈ l, x.2.2.2.2.length = 32
def itcell (x : It) : List Value := [[.int .i64 x.1], [.int .i64 x.2.1], [.string (strB x.2.2.1)], [.int .i64 x.2.2.2.1], bytesV x.2.2.2.2].flatten
def itemsL (l : List It) : List Value := (l.map itcell).flatten
theorem len_itcell {x : It} (h : x.2.2.2.2.length = 32) : (itcell x).length = 36 := by unfold itcell; simp [len_bytesV, h]
theorem items_app (l m : List It) : itemsL (l ++ m) = itemsL l ++ itemsL m := by unfold itemsL; rw [List.map_append, List.flatten_append]
theorem items_one (x : It) : itemsL [x] = itcell x := by unfold itemsL; simp
theorem len_items {l : List It} {n : Nat} (hw : wfI l) (hn : l.length = n) : (itemsL l).length = n * 36 := by
  subst hn
  induction l with
  | nil => rfl
  | cons x l ih =>
    have h1 := hw x (List.mem_cons_self ..)
    rw [show x :: l = [x] ++ l from rfl, items_app, List.length_append, items_one, len_itcell h1, ih fun y hy => hw y (List.mem_cons_of_mem _ hy), List.length_append]
    simp only [List.length_singleton]; omega
theorem one_itcell (x : It) : ∀ v ∈ itcell x, Value.oneCell' v = true := fun v hv => by
  unfold itcell at hv
  simp only [List.flatten_cons, List.flatten_nil, List.append_nil, List.mem_append, List.mem_singleton] at hv
  rcases hv with rfl | rfl | rfl | rfl | h
  · rfl
  · rfl
  · rfl
  · rfl
  · exact one_bytesV _ v h
theorem one_items (l : List It) : ∀ v ∈ itemsL l, Value.oneCell' v = true := fun v hv => by
  obtain ⟨c, hc, hv⟩ := List.mem_flatten.1 hv
  obtain ⟨x, _, rfl⟩ := List.mem_map.1 hc
  exact one_itcell x v hv
theorem wfI_nil : wfI [] := fun x h => by cases h
theorem wfI_app {l m : List It} (h : wfI l) (k : wfI m) : wfI (l ++ m) := fun x hx => (List.mem_append.1 hx).elim (h x) (k x)
/- a slice that reads as these items -/
structure ItemsAt (w : World) (A : Option Addr) (n c : Nat) (X : List It) : Prop where
  len : X.length = n
  cap : n ≤ c
  wf : wfI X
  at_ : n ≠ 0 → ∃ b o, A = some ⟨b, o, none⟩ ∧ CAt w b o (itemsL X)
theorem ItemsAt.call {w w' : World} {A : Option Addr} {n c : Nat} {X : List It} (h : ItemsAt w A n c X) (hb : Below w.heap.size w w') : ItemsAt w' A n c X :=
  ⟨h.len, h.cap, h.wf, fun hn => by obtain ⟨b, o, h1, h2⟩ := h.at_ hn; exact ⟨b, o, h1, h2.call hb⟩⟩
theorem items_nil (w : World) (A : Option Addr) (c : Nat) : ItemsAt w A 0 c [] := ⟨rfl, Nat.zero_le _, wfI_nil, fun h => absurd rfl h⟩
theorem items_own {w : World} {g c n : Nat} {t : TypeId} {cb : Array Value} {X : List It} (h : Row w g t cb) (O : OwnC cb c n 36 (itemsL X)) (hn : X.length = n) (hw : wfI X) : ItemsAt w (some ⟨g, 0, none⟩) n c X := ⟨hn, O.le, hw, fun _ => ⟨g, 0, rfl, cat_own h O⟩⟩
theorem items_row {w : World} {g n : Nat} {t : TypeId} {cs : Array Value} {X : List It} (h : Row w g t cs) (e : cs.toList = itemsL X) (hn : X.length = n) (hw : wfI X) : ItemsAt w (some ⟨g, 0, none⟩) n n X := ⟨hn, Nat.le_refl _, hw, fun _ => ⟨g, 0, rfl, e ▸ cat_row h⟩⟩
section
variable {w : World} {b o k : Nat} {l : List It} {x : It}
theorem cat_item (h : CAt w b o (itemsL l)) (hw : wfI l) (hx : l[k]? = some x) : CAt w b (o + k * 36) (itcell x) := by
  have hk := (List.getElem?_eq_some_iff.1 hx).1
  have e : itemsL l = itemsL (l.take k) ++ (itcell x ++ itemsL (l.drop (k + 1))) := by
    conv => lhs; rw [← List.take_append_drop k l, List.drop_eq_getElem_cons hk]
    rw [(List.getElem?_eq_some_iff.1 hx).2, items_app, show x :: l.drop (k + 1) = [x] ++ l.drop (k + 1) from rfl, items_app, items_one]
  rw [e] at h
  exact (h.post (len_items (n := k) (fun y hy => hw y (List.mem_of_mem_take hy)) (by rw [List.length_take]; omega))).pre
theorem item_all (h : CAt w b o (itemsL l)) (hw : wfI l) (hx : l[k]? = some x) : w.rangeAt b (o + k * 36) (catA [[.int .i64 x.1], [.int .i64 x.2.1], [.string (strB x.2.2.1)], [.int .i64 x.2.2.2.1], bytesV x.2.2.2.2]).toList := (cat_item h hw hx).at_
theorem item_nm (h : CAt w b o (itemsL l)) (hw : wfI l) (hx : l[k]? = some x) : w.cell? ⟨b, o + k * 36 + 2, none⟩ = some (.string (strB x.2.2.1)) := (cat_item h hw hx).at_ 2 _ rfl
end
end Go.Proofs.YtnmaplgodimohaaDoor

/- slices.Concat of two slices of items. -/
set_option maxRecDepth 4000
namespace Go.Proofs.YtnmaplgodimohaaDoor
open Go Go.RowKit
def zitm : Array Value := catA [[.int .i64 0], [.int .i64 0], [.string ⟨#[]⟩], [.int .i64 0], bytesV (zer 32)]
theorem info_itm : (Tryd.prog.info? 40).map (fun i => (i.zero, i.size, i.bytes)) = some (some (.agg zitm), 36, 72) := by kernel_rfl
theorem size_zitm : zitm.size = 36 := by kernel_rfl
theorem run_zerosQ (w : World) (ty : TypeId) (m : Nat) (h0 : 0 < m) (hm : m ≤ 1000000) :
    (Builtin.append_ #[25, 3] ty #[.slice none 0 0, .int .i64 (m : Int)]).run Tryd.prog w =
      .ok (.slice (some ⟨w.heap.size, 0, none⟩) m (grownCap w m 0 40)) (w.drew.alloc (.cells (Builtin.zeroCells zitm m ++ Builtin.zeroCells zitm (grownCap w m 0 40 - m)) 40)) := by
  obtain ⟨i, hi, hz, hs, hby⟩ := info_parts info_itm
  have hw : IntKind.i64.wrap (m : Int) = (m : Int) := i64_id _ (by omega) (by omega)
  have h48 : ¬ (281474976710656 < (m : Int) * 72) := by omega
  have hn : m ≠ 0 := by omega
  have h63' : ¬ (9223372036854775807 < (m : Int)) := by omega
  have h48' : ¬ (281474976710656 < Builtin.nextslicecap m 0 * 72) := by rw [nextslicecap_zero h0]; omega
  generalize zitm = Z at *
  simp [Builtin.append_, run_underlying Tryd.underlying25, run_underlying Tryd.underlying3, sizeOf, typeInfo, zeroValue, hi, hz, hs, hby, hw, asInt, asIntOf, h48, hn, h63', h48', Question.forced, run_firstCells_none, newRow, grownCap, Value.cells]
  rw [if_neg (by omega), if_neg (by omega)]
theorem wpl_zerosQ {w : World} {ops : Array Oper} {rest : List Oper} {o : Oper} {a : Act} {Q : Exit → Act → World → Prop} (hgd : o.guard = none) (s x : Operand)
    (ho : o.op = .call { callee := .builtin .append, args := #[s, x], argTypes := #[25, 3] }) (hs : a.eval s = .slice none 0 0) (m : Nat) (hx : a.eval x = .int .i64 (m : Int)) (h0 : 0 < m) (hm : m ≤ 1000000)
    (h : ∀ cap w', m ≤ cap → w'.ownsRow w.heap.size 40 36 (.slice (some ⟨w.heap.size, 0, none⟩) 0 cap) 0 [] → Below w.heap.size w w' → wpList Tryd.prog ops Q rest (a.put o.dst (.slice (some ⟨w.heap.size, 0, none⟩) m cap)) w') : wpList Tryd.prog ops Q (o :: rest) a w := by
  refine wpList_plain hgd fun K hK => ?_
  unfold Oper.wp execOp
  simp only [ho, resolve, invoke, builtin, Sem.run_bind, Sem.run_pure, Result.andThen_ok, List.map_toArray, List.map_cons, List.map_nil, hs, hx, run_zerosQ w o.type m h0 hm]
  have hge := grownCap_ge w m 0 40
  refine hK _ _ (h _ _ hge ⟨rfl, .inr ⟨w.heap.size, _, _, rfl, Nat.le_refl _, heap_alloc_new w.drew _, Nat.zero_le _, grownCap_le_maxLen w m 0 40 (by unfold maxLen; omega), ?_, rfl⟩⟩ (((Below.refl _ _).drew).alloc (Nat.le_refl _) _))
  rw [Array.size_append, size_zeroCells, size_zeroCells, size_zitm]; omega
set_option maxHeartbeats 800000 in
theorem growQ_any (m : Nat) (w : World) (h3 : 0 < m) (hm : m ≤ 1000000) :
    Calls Tryd.prog 30 #[.slice none 0 0, .int .i64 (m : Int)] w fun e w' => ∃ g c cb, e = .returned (.slice (some ⟨g, 0, none⟩) 0 c) ∧ w.heap.size ≤ g ∧ Row w' g 40 cb ∧ OwnC cb c 0 36 [] ∧ Below w.heap.size w w' := by
  have hw : IntKind.i64.wrap (m : Int) = (m : Int) := i64_id _ (by omega) (by omega)
  have h1 : decide ((m : Int) < 0) = false := decide_eq_false (by omega)
  have h2 : decide (0 < (m : Int)) = true := decide_eq_true (by omega)
  go_enter Tryd.func30, Tryd.ntmps30
  go_wp2_with (at_builtin; refine wpl_zerosQ rfl (.tmp 20) (.tmp 21) rfl rfl m rfl h3 hm ?_; intro cap w4 hcap own1 hb4; have HO := Lib.hid own1; have HB := Lib.hid hb4; clear own1 hb4)
  go_ret
  obtain ⟨g, c, cb, e, h4, h5, h6⟩ := ownc_of HO.out (fun e => by cases e)
  injection e with e1 _ e2
  injection e1 with e1
  injection e1 with e1 _ _
  subst e1 e2
  exact ⟨_, _, cb, rfl, h4, h5, h6, HB.out⟩
set_option maxHeartbeats 800000 in
theorem concatQ_any (g : Nat) (A1 A2 : Option Addr) (n1 c1 n2 c2 : Nat) (X1 X2 : List It) (w : World) (hr : Row w g 25 #[.slice A1 n1 c1, .slice A2 n2 c2]) (h1 : ItemsAt w A1 n1 c1 X1) (h2 : ItemsAt w A2 n2 c2 X2) (h0 : 0 < n1 + n2) (hm1 : n1 ≤ 1000) (hm2 : n2 ≤ 1000) :
    Calls Tryd.prog 23 #[.slice (some ⟨g, 0, none⟩) 2 2] w fun x w' => ∃ g c cb, x = .returned (.slice (some ⟨g, 0, none⟩) (n1 + n2) c) ∧ w.heap.size ≤ g ∧ Row w' g 40 cb ∧ OwnC cb c (n1 + n2) 36 (itemsL (X1 ++ X2)) ∧ Below w.heap.size w w' := by
  have HS := St.nil w noF
  have HR : ∀ W, Below w.heap.size w W → Row W g 25 #[.slice A1 n1 c1, .slice A2 n2 c2] := fun W hb => hr.call hb
  have H1 : ∀ W, Below w.heap.size w W → ItemsAt W A1 n1 c1 X1 := fun W hb => h1.call hb
  have H2 : ∀ W, Below w.heap.size w W → ItemsAt W A2 n2 c2 X2 := fun W hb => h2.call hb
  refine enter_en Tryd.func23 rfl Tryd.ntmps23 (Nat.le_of_ble_eq_true rfl) fun a0 (HA0 : En 36 [(0, .slice (some ⟨g, 0, none⟩) 2 2)] a0) => ?_
  refine sq_ <| rl_ <| wl_ <| p_ HA0 rfl rfl fun _ H1 => ln_ <| nx <| sq_ <| rl_ <| wl_ <| p_ H1 rfl rfl fun _ H2 => ln_ <| nx <| sq_ <| sq_ <| rl_ <| wl_ <| p_ H2 rfl rfl fun _ H3 => wl_ <| i_ H3 rfl (v := .int .i64 2) (dd_len rfl (H3.ev 9 rfl) Tryd.underlying71) fun _ H4 => wl_ <| p_ H4 rfl rfl fun _ H5 => ln_ <| nx <| wp_block <| wp_unr 3 <| unr_go <| sq_ <| rl_ <| wl_ <| i_ H5 rfl (dd_cmp rfl (H5.ev 11 rfl) (H5.ev 10 rfl) (lt_t (by decide))) fun _ H6 => ln_ <| nx <| sq_ <| ct_ H6 rfl <| wp_skip <| nx <| sq_ <| wp_block <| sq_ <| rl_ <| wl_ <| i_ H6 rfl (xS 1 0 rfl (H6.ev 9 rfl) (H6.ev 11 rfl)) fun _ H7 => wl_ <| i_ H7 rfl (dd_getR (HR _ HS.below) rfl (H7.ev 13 rfl) rfl Tryd.underlying25 rfl) fun _ H8 => ?_
  clear HA0 H1 H2 H3 H4 H5 H6
  refine wl_ <| p_ H8 rfl rfl fun _ H9 => ln_ <| nx <| sq_ <| rl_ <| q_ H9 2 rfl fun _ H10 => wl_ <| i_ H10 rfl (v := .int .i64 n1) (dd_len rfl (H10.ev 16 rfl) Tryd.underlying25) fun _ H11 => wl_ <| i_ H11 rfl (v := .int .i64 n1) (dd_ari rfl (H11.ev 15 rfl) (H11.ev 17 rfl) rfl (by rw [i64_id _ (by omega) (by omega)]; omega)) fun _ H12 => wl_ <| p_ H12 rfl rfl fun _ H13 => ln_ <| nx <| sq_ <| rl_ <| wl_ <| p_ H13 rfl rfl fun _ H14 => wl_ <| i_ H14 rfl (dd_cmp rfl (H14.ev 19 rfl) rfl (lt_f (by omega))) fun _ H15 => ln_ <| nx <| cf_ H15 rfl <| wp_skip <| bn <| nx <| rl_ <| wl_ <| i_ H15 rfl (v := .int .i64 1) (dd_ari rfl (H15.ev 11 rfl) rfl rfl (by decide)) fun _ H16 => ?_
  clear H7 H8 H9 H10 H11 H12 H13 H14
  refine wl_ <| p_ H16 rfl rfl fun _ H17 => ln_ <| nx <| unr_go <| sq_ <| rl_ <| wl_ <| i_ H17 rfl (dd_cmp rfl (H17.ev 11 rfl) (H17.ev 10 rfl) (lt_t (by decide))) fun _ H18 => ln_ <| nx <| sq_ <| ct_ H18 rfl <| wp_skip <| nx <| sq_ <| wp_block <| sq_ <| rl_ <| wl_ <| i_ H18 rfl (xS 1 1 rfl (H18.ev 9 rfl) (H18.ev 11 rfl)) fun _ H19 => wl_ <| i_ H19 rfl (dd_getR (HR _ HS.below) rfl (H19.ev 13 rfl) rfl Tryd.underlying25 rfl) fun _ H20 => wl_ <| p_ H20 rfl rfl fun _ H21 => ln_ <| nx <| sq_ <| rl_ <| q_ H21 2 rfl fun _ H22 => wl_ <| i_ H22 rfl (v := .int .i64 n2) (dd_len rfl (H22.ev 16 rfl) Tryd.underlying25) fun _ H23 => wl_ <| i_ H23 rfl (v := .int .i64 (n1 + n2)) (dd_ari rfl (H23.ev 15 rfl) (H23.ev 17 rfl) rfl (i64_of (by first | omega | (have := bd_lo; omega)) (by omega))) fun _ H24 => ?_
  clear H15 H16 H17 H18 H19 H20 H21 H22
  refine wl_ <| p_ H24 rfl rfl fun _ H25 => ln_ <| nx <| sq_ <| rl_ <| wl_ <| p_ H25 rfl rfl fun _ H26 => wl_ <| i_ H26 rfl (dd_cmp rfl (H26.ev 19 rfl) rfl (lt_f (by omega))) fun _ H27 => ln_ <| nx <| cf_ H27 rfl <| wp_skip <| bn <| nx <| rl_ <| wl_ <| i_ H27 rfl (v := .int .i64 2) (dd_ari rfl (H27.ev 11 rfl) rfl rfl (by decide)) fun _ H28 => wl_ <| p_ H28 rfl rfl fun _ H29 => ln_ <| nx <| unr_go <| sq_ <| rl_ <| wl_ <| i_ H29 rfl (dd_cmp rfl (H29.ev 11 rfl) (H29.ev 10 rfl) (lt_f (by decide))) fun _ H30 => ln_ <| nx <| sq_ <| cf_ H30 rfl <| wp_exit <| tx <| tx <| bx <| nx <| sq_ <| rl_ <| wl_ <| p_ H30 rfl rfl fun _ H31 => ?_
  clear H23 H24 H25 H26 H27 H28 H29 H30
  refine wl_ <| d_ H31 rfl (R := fun v w9 => ∃ gc33 cc33 cbc33, v = .slice (some ⟨gc33, 0, none⟩) 0 cc33 ∧ (w.heap.size ≤ gc33) ∧ (Row w9 gc33 40 cbc33) ∧ (OwnC cbc33 cc33 0 36 ([])) ∧ Below w.heap.size w w9) (dc_ Tryd.func30 rfl (args2 (show _ = (.slice none 0 0 : Value) from rfl) (H31.ev 23 rfl)) (growQ_any (n1 + n2) w (by omega) (by omega)) (fun _ w9 ⟨g9, c9, cb9, he, h1, h2, h3, hb⟩ => ⟨_, he, g9, c9, cb9, rfl, h1, h2, h3, hb⟩)) ?_
  rintro _ W32 ⟨gc33, cc33, cbc33, rfl, hg33, hr33, Oc33, hb32⟩ a32 H32
  have HS32 := HS.same hb32
  clear H31
  have HS32j : St w noF [⟨gc33, 40, cbc33⟩] W32 := HS.joins hb32 hr33 hg33
  clear HS32 hr33 hg33
  clear HS hb32
  refine wl_ <| p_ H32 rfl rfl fun _ H34 => ln_ <| ?_
  clear H32
  have H35 := H34.sel [0, 6] rfl
  refine nx <| sq_ <| sq_ <| rl_ <| wl_ <| p_ H35 rfl rfl fun _ H36 => wl_ <| i_ H36 rfl (v := .int .i64 2) (dd_len rfl (H36.ev 25 rfl) Tryd.underlying71) fun _ H37 => wl_ <| p_ H37 rfl rfl fun _ H38 => ln_ <| nx <| wp_block <| wp_unr 3 <| unr_go <| sq_ <| rl_ <| wl_ <| i_ H38 rfl (dd_cmp rfl (H38.ev 27 rfl) (H38.ev 26 rfl) (lt_t (by decide))) fun _ H39 => ln_ <| nx <| sq_ <| ct_ H39 rfl <| wp_skip <| nx <| sq_ <| wp_block <| sq_ <| rl_ <| wl_ <| i_ H39 rfl (xS 1 0 rfl (H39.ev 25 rfl) (H39.ev 27 rfl)) fun _ H40 => wl_ <| i_ H40 rfl (dd_getR (HR _ HS32j.below) rfl (H40.ev 29 rfl) rfl Tryd.underlying25 rfl) fun _ H41 => wl_ <| p_ H41 rfl rfl fun _ H42 => ln_ <| nx <| rl_ <| q_ H42 2 rfl fun _ H43 => ?_
  clear H34 H35 H36 H37 H38 H39 H40 H41
  refine wl_ <| a_ H43 rfl (fun g33_45 c33_45 => .slice (some ⟨g33_45, 0, none⟩) (0 + n1) c33_45) (T := fun _ c33_45 cb33_45 => OwnC cb33_45 c33_45 (0 + n1) 36 (itemsL X1)) (fun _ h => dd_appX HS32j 0 rfl Oc33 rfl (H43.ev 31 rfl) (z := .agg (catA [[.int .i64 0], [.int .i64 0], [.string (⟨#[]⟩)], [.int .i64 0], bytesV (zer 32)])) (bytes := 72) Tryd.underlying25 (by kernel_rfl) rfl (by decide) (itemsL X1) (H43.ev 32 rfl) (len_items (H1 _ HS32j.below).wf (H1 _ HS32j.below).len) (fun h9 => (H1 _ HS32j.below).at_ h9) (one_items _) (by unfold maxLen; omega) (by omega) h) fun g33_45 c33_45 cb33_45 _ O33_45 HS44 _ H44 => wl_ <| p_ H44 rfl rfl fun _ H46 => ln_ <| bn <| nx <| rl_ <| wl_ <| i_ H46 rfl (v := .int .i64 1) (dd_ari rfl (H46.ev 27 rfl) rfl rfl (by decide)) fun _ H47 => wl_ <| p_ H47 rfl rfl fun _ H48 => ln_ <| nx <| unr_go <| sq_ <| rl_ <| wl_ <| i_ H48 rfl (dd_cmp rfl (H48.ev 27 rfl) (H48.ev 26 rfl) (lt_t (by decide))) fun _ H49 => ln_ <| nx <| sq_ <| ct_ H49 rfl <| wp_skip <| nx <| sq_ <| wp_block <| sq_ <| rl_ <| wl_ <| i_ H49 rfl (xS 1 1 rfl (H49.ev 25 rfl) (H49.ev 27 rfl)) fun _ H50 => wl_ <| i_ H50 rfl (dd_getR (HR _ HS44.below) rfl (H50.ev 29 rfl) rfl Tryd.underlying25 rfl) fun _ H51 => wl_ <| p_ H51 rfl rfl fun _ H52 => ?_
  clear H42 HS32j H43 H44 H46 H47 H48 H49 H50
  refine ln_ <| nx <| rl_ <| q_ H52 2 rfl fun _ H53 => wl_ <| a_ H53 rfl (fun g33_55 c33_55 => .slice (some ⟨g33_55, 0, none⟩) (0 + n1 + n2) c33_55) (T := fun _ c33_55 cb33_55 => OwnC cb33_55 c33_55 (0 + n1 + n2) 36 (itemsL X1 ++ itemsL X2)) (fun _ h => dd_appX HS44 0 rfl O33_45 rfl (H53.ev 31 rfl) (z := .agg (catA [[.int .i64 0], [.int .i64 0], [.string (⟨#[]⟩)], [.int .i64 0], bytesV (zer 32)])) (bytes := 72) Tryd.underlying25 (by kernel_rfl) rfl (by decide) (itemsL X2) (H53.ev 32 rfl) (len_items (H2 _ HS44.below).wf (H2 _ HS44.below).len) (fun h9 => (H2 _ HS44.below).at_ h9) (one_items _) (by unfold maxLen; omega) (by omega) h) fun g33_55 c33_55 cb33_55 _ O33_55 HS54 _ H54 => wl_ <| p_ H54 rfl rfl fun _ H56 => ln_ <| bn <| nx <| rl_ <| wl_ <| i_ H56 rfl (v := .int .i64 2) (dd_ari rfl (H56.ev 27 rfl) rfl rfl (by decide)) fun _ H57 => wl_ <| p_ H57 rfl rfl fun _ H58 => ln_ <| nx <| unr_go <| sq_ <| rl_ <| wl_ <| i_ H58 rfl (dd_cmp rfl (H58.ev 27 rfl) (H58.ev 26 rfl) (lt_f (by decide))) fun _ H59 => ln_ <| nx <| sq_ <| cf_ H59 rfl <| wp_exit <| tx <| tx <| bx <| nx <| sq_ <| rl_ <| q_ H59 2 rfl fun _ H60 => ln_ <| nx <| wp_ret <| ret_run H60.env0 (res_t Tryd.results23 (H60.get 2 rfl)) <| ?_
  clear H51 H52 HS44 H53 H54 H56 H57 H58 H59
  rw [Nat.zero_add, ← items_app] at O33_55
  exact ⟨g33_55, c33_55, cb33_55, congrArg (fun z => Ending.returned (.slice (some ⟨g33_55, 0, none⟩) (z + n2) c33_55)) (Nat.zero_add n1), st_fresh2 HS54 0 rfl, HS54.row 0 rfl, O33_55, HS54.below⟩
end Go.Proofs.YtnmaplgodimohaaDoor

/- Volumes appended, the rows of the call staying. No function of the program is named here. -/
set_option maxRecDepth 4000
namespace Go.Proofs.YtnmaplgodimohaaDoor
open Go Go.RowKit
theorem dd_appV {o : Oper} {a : Act} {w w0 w1 : World} {R : Value → World → Prop} {S : List Blk} {B : Nat} (hb : Below w0.heap.size w0 w1) (hB : w0.heap.size ≤ B) (hB1 : B ≤ w1.heap.size) (HS : St w1 noF S w) {v : Value} {l1 : List Vl} (hov : OV B w1 v l1) {s x : Operand}
    (ho : o.op = .call { callee := .builtin .append, args := #[s, x], argTypes := #[75, 75] }) (hs : a.eval s = v) {ad : Addr} {m c : Nat} {l2 : List Vl} (hx : a.eval x = .slice (some ad) m c) (h2 : VolsIn B w (some ad) m c l2) (hnm : l1.length + l2.length ≤ 1000000)
    (h : ∀ v' w', OV B w' v' (l1 ++ l2) → St w0 noF S w' → R v' w') : Does Tryd.prog o a w R := fun K Q hK => by
  have hbw : Below w1.heap.size w1 w := HS.below
  have hov' := hov.call hbw hB1
  have hbase : B ≤ w.heap.size := Nat.le_trans hB1 hbw.size
  have hap : ∀ g, v.ownBlock = some g → w0.heap.size ≤ g ∧ ∀ r ∈ S, r.g ≠ g := fun g e => by
    obtain ⟨vs, h1, _⟩ := hov
    refine ⟨Nat.le_trans hB (h1.lt g e).1, fun r hr e2 => ?_⟩
    obtain ⟨k, hk⟩ := List.getElem?_of_mem hr
    have := (HS.own k r hk).resolve_left fun e => e
    have := (h1.lt g e).2
    omega
  obtain ⟨i0, hi, hz0, hz1, hz2⟩ := info_parts info_vol
  obtain ⟨vs, hown, hcv⟩ := hov'
  obtain ⟨rfl, _, us, hus, hcell⟩ := h2
  have h2l : us.flatten.length = l2.length * 2 := by rw [flat_length (sz := 2) _ hus.2.1, hus.1]
  refine wp_append_own_wide w s x 75 ho B 81 i0 (.agg #[.string ⟨#[]⟩, .slice none 0 0]) 2 40 Tryd.underlying75 hi hz0 hz1 hz2 rfl (by decide) v l1.length vs.flatten hs hown ad l2.length c us.flatten hx h2l (hcell ad rfl) (one_volV hus) (by unfold maxLen; omega) (by omega) hbase fun v' w' o2 hg _ => ?_
  refine hK _ _ (h v' w' ⟨vs ++ us, by rw [List.length_append, List.flatten_append]; exact o2, (hcv.append hus).grown hown hg hbase⟩ (st_grown (HS.first hb) hg hap))
theorem own_getI {cb : Array Value} {c n : Nat} {L : List Int} (O : OwnC cb c n 1 (intsV L)) (k : Nat) (h : k < n) : cb[k]? = some (.int .i64 (L.getD k 0)) := by
  have hl : L.length = n := by have := O.len; simpa [intsV] using this
  have h1 : (intsV L)[k]? = some (.int .i64 (L.getD k 0)) := by
    unfold intsV
    rw [List.getElem?_map, List.getD_eq_getElem?_getD, List.getElem?_eq_getElem (by omega)]; rfl
  rw [← O.take, List.getElem?_take_of_lt (by omega), Array.getElem?_toList] at h1
  exact h1
/- volumes of one's own stay while a row of another type, and new ones, are written -/
theorem ov_frame {B : Nat} {W W' : World} {v : Value} {l : List Vl} {g : Nat} {zs : Array Value} (h : OV B W v l) (hr : Row W g 70 zs) (hB : B ≤ g) (hBW : B ≤ W.heap.size) (k : Chg (inS [⟨g, 70, zs⟩]) W W') : OV B W' v l := by
  obtain ⟨vs, h1, hcv⟩ := h
  have hin : ∀ j, inS [⟨g, 70, zs⟩] j → j = g := fun j ⟨r, h2, h3⟩ => by
    rw [List.mem_singleton] at h2
    subst h2; exact h3.symm
  have hty : ∀ {e : TypeId} {sz n : Nat} {u : Value} {xs : List Value}, e ≠ 70 → W.ownsRow B e sz u n xs → ∀ j, u.ownBlock = some j → ¬ inS [⟨g, 70, zs⟩] j := fun he ho j hj hF => by
    have e := hin j hF
    subst e
    obtain ⟨_, h2 | ⟨g2, cap, cur, rfl, _, h3, _⟩⟩ := ho
    · rw [h2.1] at hj; cases hj
    · injection hj with hj
      have hj : g2 = j := hj
      subst hj
      rw [hr] at h3
      injection h3 with h3
      injection h3 with _ h3 _
      exact he h3.symm
  have hbl : Below B W W' := ⟨k.os, k.tape, k.output, k.size, fun j hj => k.block j (Nat.lt_of_lt_of_le hj hBW) fun hF => by have := hin j hF; omega⟩
  refine ⟨vs, own_chg h1 k (hty (by decide) h1), hcv.1, hcv.2.1, fun j x hx => ?_⟩
  obtain ⟨A, c, h2, h3, h4⟩ := hcv.2.2 j x hx
  refine ⟨A, c, h2, ?_, h4⟩
  rcases h3 with ⟨w1, k1, k2, k3⟩ | ⟨k1, k2⟩
  · exact .inl ⟨w1, k1, k2.trans hbl, k3⟩
  · exact .inr ⟨own_chg k1 k (hty (by decide) k1), k2⟩
end Go.Proofs.YtnmaplgodimohaaDoor
